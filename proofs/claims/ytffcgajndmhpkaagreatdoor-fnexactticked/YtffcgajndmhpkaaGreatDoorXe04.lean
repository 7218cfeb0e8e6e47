/- Part 4 of what the proof rests on. No condition but those that a theorem names. -/
import Derived.Test.YtffcgajndmhpkaaGreatDoorXe03
set_option maxHeartbeats 8000000
set_option maxRecDepth 100000
namespace Go.Proofs.YtffcgajndmhpkaaGreatDoor
open Go.ChangeShapes Go.WideShapes Go.ChangeAt Go.RowKit Go.Sort
set_option linter.unusedVariables false
def PacesAt (n₀ : Nat) (w : World) (v : Value) (ps : List PaceV) : Prop := w.ownsRow n₀ 42 2 v ps.length (pcells ps)
theorem PacesAt.lt {n₀ : Nat} {w : World} {v : Value} {ps : List PaceV} (h : PacesAt n₀ w v ps) {k : Nat} (hk : v.ownBlock = some k) : n₀ ≤ k ∧ k < w.heap.size := World.ownsRow.lt h k hk
theorem PacesAt.paces {n₀ : Nat} {w : World} {v : Value} {ps : List PaceV} (h : PacesAt n₀ w v ps) : IsPaces w v ps := by
 have h' := h
 rcases h.2 with ⟨rfl, hz⟩ | ⟨g, cap, cur, rfl, hb, hg, hnc, hcm, r⟩
 ·exact ⟨none, 0, by rw [hz], by omega, by omega, .inl (List.eq_nil_of_length_eq_zero hz)⟩
 ·refine ⟨_, cap, rfl, hnc, by unfold maxLen at hcm; omega, .inr ⟨g, 0, rfl, (Array.getElem?_eq_some_iff.1 hg).1, fun k hk => ?_⟩⟩
  have hp := pairs_get (f := fun p : PaceV => Value.int .i64 p.1) (g := fun p : PaceV => Value.int .i64 p.2) ps k hk
  have hat : paceAt ps k = ps[k] := by unfold paceAt; simp [List.getD, hk]
  rw [Nat.zero_add, hat]
  exact ⟨(World.ownsRow.cellAt h' (k * 2) (by omega)).trans hp.1, (World.ownsRow.cellAt h' (k * 2 + 1) (by omega)).trans hp.2⟩
structure OwnHall (n₀ : Nat) (w : World) (v : Value) (qs : List (RoomV × Value)) : Prop where
 row : w.ownsRow n₀ 45 2 v qs.length (rcells qs)
 paces : ∀ q ∈ qs, PacesAt n₀ w q.2 q.1.2
 off : ∀ q ∈ qs, ∀ b, q.2.ownBlock = some b → v.ownBlock ≠ some b
 apart : (qs.map (·.2)).Pairwise fun x y => ∀ b, x.ownBlock = some b → y.ownBlock ≠ some b
theorem OwnHall.nil (n₀ : Nat) (w : World) : OwnHall n₀ w (.slice none 0 0) [] :=
 ⟨World.ownsRow_nil w n₀ _ _, fun _ h => (by cases h), fun _ h => (by cases h), List.Pairwise.nil⟩
theorem OwnHall.lt {n₀ : Nat} {w : World} {v : Value} {qs : List (RoomV × Value)} (h : OwnHall n₀ w v qs) {k : Nat} (hk : v.ownBlock = some k ∨ ∃ q ∈ qs, q.2.ownBlock = some k) : n₀ ≤ k ∧ k < w.heap.size := by
 rcases hk with hk | ⟨q, hq, hk⟩
 ·exact World.ownsRow.lt h.row k hk
 ·exact (h.paces q hq).lt hk
theorem OwnHall.same {n₀ : Nat} {w w' : World} {v : Value} {qs : List (RoomV × Value)} (h : OwnHall n₀ w v qs) (hs : ∀ k, n₀ ≤ k → k < w.heap.size → w'.heap[k]? = w.heap[k]?) : OwnHall n₀ w' v qs :=
 ⟨own_same h.row (fun k e => hs k (h.lt (.inl e)).1 (h.lt (.inl e)).2), fun q hq => own_same (h.paces q hq) (fun k e => hs k (h.lt (.inr ⟨q, hq, e⟩)).1 (h.lt (.inr ⟨q, hq, e⟩)).2), h.off, h.apart⟩
theorem OwnHall.later {n₀ : Nat} {w w' : World} {v : Value} {qs : List (RoomV × Value)} (h : OwnHall n₀ w v qs) (hb : Below w.heap.size w w') : OwnHall n₀ w' v qs := h.same (fun k _ hk => hb.block k hk)
theorem OwnHall.mono {n₀ n₁ : Nat} {w : World} {v : Value} {qs : List (RoomV × Value)} (h : OwnHall n₀ w v qs) (hn : n₁ ≤ n₀) : OwnHall n₁ w v qs :=
 ⟨own_mono h.row hn, fun q hq => own_mono (h.paces q hq) hn, h.off, h.apart⟩
theorem OwnHall.rooms {n₀ : Nat} {w : World} {v : Value} {qs : List (RoomV × Value)} (h : OwnHall n₀ w v qs) : IsRooms w v (qs.map (·.1)) := by
 have h' := h.row
 have hlen : (qs.map (·.1)).length = qs.length := by simp
 rcases h.row.2 with ⟨rfl, hz⟩ | ⟨g, cap, cur, rfl, hb, hg, hnc, hcm, r⟩
 ·exact ⟨none, 0, by rw [hlen, hz], by omega, by omega, .inl (by rw [List.eq_nil_of_length_eq_zero hz]; rfl)⟩
 ·refine ⟨_, cap, by rw [hlen], by rw [hlen]; exact hnc, by unfold maxLen at hcm; omega, .inr ⟨g, 0, rfl, (Array.getElem?_eq_some_iff.1 hg).1, fun k hk => ?_⟩⟩
  rw [hlen] at hk
  have hp := pairs_get (f := fun q : RoomV × Value => Value.int .i64 q.1.1) (g := fun q : RoomV × Value => q.2) qs k hk
  have hat : roomAt (qs.map (·.1)) k = qs[k].1 := by unfold roomAt; simp [List.getD, hk]
  rw [Nat.zero_add, hat]
  exact ⟨(World.ownsRow.cellAt h' (k * 2) (by omega)).trans hp.1, qs[k].2, (World.ownsRow.cellAt h' (k * 2 + 1) (by omega)).trans hp.2, (h.paces _ (List.getElem_mem hk)).paces⟩
theorem OwnHall.push {n₀ : Nat} {w w1 : World} {v v' pv : Value} {qs : List (RoomV × Value)} {rb : Int} {ps : List PaceV} {o : Obj} (h : OwnHall n₀ w v qs) (hp : PacesAt n₀ w pv ps)
  (hoff : ∀ b, pv.ownBlock = some b → v.ownBlock ≠ some b) (hap : ∀ q ∈ qs, ∀ b, q.2.ownBlock = some b → pv.ownBlock ≠ some b)
  (hown : w1.ownsRow n₀ 45 2 v' (qs.length + 1) (rcells qs ++ [.int .i64 rb, pv])) (hg : (w.alloc o).grownBy w1 v.ownBlock) (hat : v'.ownBlock = v.ownBlock ∨ v'.ownBlock = some (w.alloc o).heap.size) :
  OwnHall n₀ w1 v' (qs ++ [((rb, ps), pv)]) := by
 have hk : ∀ k, k < w.heap.size → v.ownBlock ≠ some k → w1.heap[k]? = w.heap[k]? := fun k hk hn => (hg.block k (by simp; omega) (fun e => hn e.symm)).trans (Below.heap_alloc w o k hk)
 have hv' : ∀ k, k < w.heap.size → v'.ownBlock = some k → v.ownBlock = some k := fun k hk e => by
  rcases hat with e' | e'
  ·rw [← e']; exact e
  ·rw [e'] at e; simp at e; omega
 refine ⟨?_, fun q hq => ?_, fun q hq b e => ?_, ?_⟩
 ·simpa [rcells] using hown
 ·rcases List.mem_append.1 hq with hq | hq
  ·exact own_same (h.paces q hq) (fun k e => hk k (h.lt (.inr ⟨q, hq, e⟩)).2 (h.off q hq k e))
  ·obtain rfl : q = ((rb, ps), pv) := by simpa using hq
   exact own_same hp (fun k e => hk k (hp.lt e).2 (hoff k e))
 ·rcases List.mem_append.1 hq with hq | hq
  ·exact fun e' => h.off q hq b e (hv' b (h.lt (.inr ⟨q, hq, e⟩)).2 e')
  ·obtain rfl : q = ((rb, ps), pv) := by simpa using hq
   exact fun e' => hoff b e (hv' b (hp.lt e).2 e')
 ·rw [List.map_append, List.pairwise_append]
  refine ⟨h.apart, by simp, fun x hx y hy b e => ?_⟩
  obtain ⟨q, hq, rfl⟩ := List.mem_map.1 hx
  obtain rfl : y = pv := by simpa using hy
  exact hap q hq b e
theorem infoRoom2 : (Tryz.prog.info? 45).map (fun i => (i.zero, i.size, i.bytes)) = some (some (.agg #[.int .i64 0, .slice none 0 0]), 2, 32) := by kernel_rfl
theorem OwnHall.shape {n₀ : Nat} {w : World} {v : Value} {qs : List (RoomV × Value)} (h : OwnHall n₀ w v qs) : ∃ a cap, v = .slice a qs.length cap := by
 rcases h.row.2 with ⟨rfl, hz⟩ | ⟨g, cap, cur, rfl, _⟩
 ·exact ⟨none, 0, by rw [hz]⟩
 ·exact ⟨_, cap, rfl⟩
theorem PacesAt.shape {n₀ : Nat} {w : World} {v : Value} {ps : List PaceV} (h : PacesAt n₀ w v ps) : ∃ a cap, v = .slice a ps.length cap := by
 rcases h.2 with ⟨rfl, hz⟩ | ⟨g, cap, cur, rfl, _⟩
 ·exact ⟨none, 0, by rw [hz]⟩
 ·exact ⟨_, cap, rfl⟩
theorem pairs_ext {α : Type} {f g : α → Value} {xs : List Value} {l : List α} (hl : xs.length = l.length * 2) (h : ∀ k (hk : k < l.length), xs[k * 2]? = some (f l[k]) ∧ xs[k * 2 + 1]? = some (g l[k])) : xs = l.flatMap fun p => [f p, g p] := by
 apply List.ext_getElem?
 intro m
 by_cases hm : m < l.length * 2
 ·obtain ⟨h1, h2⟩ := h (m / 2) (by omega)
  obtain ⟨g1, g2⟩ := pairs_get (f := f) (g := g) l (m / 2) (by omega)
  rcases Nat.mod_two_eq_zero_or_one m with e | e
  ·rw [show m = m / 2 * 2 by omega, h1, g1]
  ·rw [show m = m / 2 * 2 + 1 by omega, h2, g2]
 ·rw [List.getElem?_eq_none (by omega), List.getElem?_eq_none (by rw [pairs_len]; omega)]
theorem pairs_paces {xs : List Value} {ps : List PaceV} (hl : xs.length = ps.length * 2) (h : Pairs xs (isPaceOf ps) ps.length) : xs = pcells ps := by
 refine pairs_ext hl fun k hk => ?_
 obtain ⟨u, u', h1, h2, h3, h4⟩ := h k hk
 have hat : paceAt ps k = ps[k] := by unfold paceAt; simp [List.getD, hk]
 rw [h1, h2, h3, h4, hat]
 exact ⟨rfl, rfl⟩
theorem toPaceS_own {w : World} {v : Value} {ps : List PaceV} (h : IsPaces w v ps) (hs : ps.length ≤ 1048576) :
  Calls Tryz.prog 238 #[v] w fun e w' => ∃ v', e = .returned v' ∧ PacesAt w.heap.size w' v' ps ∧ Below w.heap.size w w' := by
 obtain ⟨a, cap, rfl, hc, hm, hr⟩ := h
 have Hr := hide hr
 clear hr
 obtain ⟨i0, hi, hz0, hz1, hz2⟩ := info_parts infoPace
 go_enter Tryz.func238, Tryz.ntmps238
 go_wp2_with (at_make; refine wpList_make_full _ rfl _ _ 43 rfl w.heap.size 42 i0 (.agg #[.int .i64 0, .int .i64 0]) 2 Tryz.underlying43 hi hz0 hz1 _ _ _ _ ps.length rfl rfl rfl rfl (by rw [hz2]; omega) (by unfold maxLen; omega) (Nat.le_refl _) ?_; intro w0 hown hgrow)
 have Hown := hide hown
 have Hgr := hide hgrow
 clear hown hgrow
 go_loopw [4] (fun i wr => ∃ k : Nat, k ≤ ps.length ∧ i = .int .i64 k ∧ ∃ xs, wr.ownsRow w.heap.size 42 2 (.slice (some ⟨w.heap.size, 0, none⟩) ps.length ps.length) ps.length xs ∧ Pairs xs (isPaceOf ps) k ∧ Below w.heap.size w wr) (fun i _ => ps.length - (intOf i).toNat)
 case atStart => exact ⟨0, Nat.zero_le _, rfl, _, uh Hown, fun j hj => by omega, (Below.refl _ _).grown (uh Hgr) (Nat.le_refl _) (fun k e => by cases e)⟩
 case round =>
  obtain ⟨k, hk, rfl, xs, hown, hpr, hb⟩ := hrel
  have Hb := hide hb
  by_cases hlt : k < ps.length
  ·rcases uh Hr with h0 | ⟨b, off, rfl, hbw, hcl⟩
   ·rw [h0] at hlt; simp at hlt
   obtain ⟨c0, c1⟩ := hcl k hlt
   rw [← hb.cell (p := ⟨b, off + k * 2, none⟩) hbw] at c0
   rw [← hb.cell (p := ⟨b, off + k * 2 + 1, none⟩) hbw] at c1
   have hxs : xs.length = ps.length * 2 := hown.1
   have Ho := hide hown
   have Hpr := hide hpr
   generalize hp : paceAt ps k = p at c0 c1
   obtain ⟨f, c⟩ := p
   simp only at c0 c1
   have Hp := hide hp
   clear hcl hb hown hpr hp
   go_wp2_with fail
   refine ck (toPace_any _ _ _) fun w1 hb1 => ?_
   have ho1 := own_later (uh Ho) hb1
   obtain ⟨⟨x0, y0⟩, z0⟩ := own_cell ho1 (j := k * 2) (by omega)
   obtain ⟨⟨x1, y1⟩, z1⟩ := own_cell ho1 (j := k * 2 + 1) (by omega)
   have Hp2 := hide (own_pair ho1 (k * 2) (.int .i64 f) (.int .i64 c))
   have Hb1 := hide hb1
   have hsz := hb1.size
   have hsz0 := (uh Hb).size
   clear ho1 hb1
   go_wp2_with fail
   go_roundw
   case rel => exact ⟨k + 1, by omega, by go_num, _, (uh Hp2).1, (uh Hpr).next (by omega) ⟨by rw [uh Hp], by rw [uh Hp]⟩, ((uh Hb).trans ((uh Hb1).mono hsz0)).trans (below_grown (uh Hp2).2 (Nat.le_refl _) (by omega))⟩
   case measure => exact ms
  ·obtain rfl : k = ps.length := by omega
   go_wp2_with fail
   go_ret
   exact ⟨_, rfl, by have e9 := pairs_paces hown.1 hpr; rw [e9] at hown; exact hown, hb⟩
theorem PacesAt.set {n₀ : Nat} {w : World} {v : Value} {ps : List PaceV} (h : PacesAt n₀ w v ps) (g o : Nat) (u : Value) (hg : ∀ k, v.ownBlock = some k → k ≠ g) : PacesAt n₀ (w.setCell ⟨g, o, none⟩ u) v ps :=
 own_same h fun k e => heap_setCell_other w _ k u (hg k e)
theorem PacesAt.mono {n₀ n₁ : Nat} {w : World} {v : Value} {ps : List PaceV} (h : PacesAt n₀ w v ps) (hn : n₁ ≤ n₀) : PacesAt n₁ w v ps := own_mono h hn
theorem PacesAt.later {n₀ : Nat} {w w' : World} {v : Value} {ps : List PaceV} (h : PacesAt n₀ w v ps) (hb : Below w.heap.size w w') : PacesAt n₀ w' v ps := own_same h fun k e => hb.block k (h.lt e).2
theorem toRoom_own {w : World} {v : Value} {ps : List PaceV} (rb : Int) (h : IsPaces w v ps) (hs : ps.length ≤ 1048576) :
  Calls Tryz.prog 191 #[.agg #[.int .i64 rb, v]] w fun e w' => ∃ v', e = .returned (.agg #[.int .i64 rb, v']) ∧ PacesAt w.heap.size w' v' ps ∧ Below w.heap.size w w' := by
 have Hv := hide h
 obtain ⟨a, cap, rfl, hc, hm, hr⟩ := h
 clear hr
 have Hb0 : Hid (∀ o1 o2 o3 : Obj, Below w.heap.size w (((w.alloc o1).alloc o2).alloc o3)) := hide (fun o1 o2 o3 => (((ba _ _)).alloc (by simp) _).alloc (by simp; omega) _)
 go_enter Tryz.func191, Tryz.ntmps191
 go_wp2_with fail
 refine (toPaceS_own ((uh Hv).below (uh Hb0 _ _ _)) hs).mono ?_
 rintro e w1 ⟨v', rfl, hp, hb1⟩
 have hk : ∀ k, v'.ownBlock = some k → (((w.alloc _).alloc _).alloc _).heap.size ≤ k := fun k e => (hp.lt e).1
 have hsz : w.heap.size + 3 ≤ w1.heap.size := by have := hb1.size; simp at this; omega
 have hk' : ∀ k, v'.ownBlock = some k → w.heap.size + 3 ≤ k := fun k e => by have := hk k e; simp at this; omega
 obtain ⟨cc, ff⟩ := bcell hb1
 have x0 := cc (w.heap.size + 2) 0 (by simp)
 have x1 := cc (w.heap.size + 2) 1 (by simp)
 have y0 := cc (w.heap.size + 1) 0 (by simp)
 have y1 := cc (w.heap.size + 1) 1 (by simp)
 have fx0 := ff (w.heap.size + 2) 0 (by simp)
 have fx1 := ff (w.heap.size + 2) 1 (by simp)
 have fy0 := ff (w.heap.size + 1) 0 (by simp)
 have fy1 := ff (w.heap.size + 1) 1 (by simp)
 have Hp := hide hp
 have Hk := hide hk'
 have Hb1 := hide hb1
 obtain ⟨a', cap', rfl⟩ := hp.shape
 clear cc ff hk hk' hb1 hp
 go_wp2_with fail
 have B1 : Below w.heap.size w w1 := (uh Hb0 _ _ _).trans ((uh Hb1).mono (by simp; omega))
 refine bodyPost_ret (v := .agg #[.int .i64 rb, .slice a' ps.length cap']) (by simp [results, Tryz.results191, go_sem, *]) rfl ⟨_, rfl, ?_, ?_⟩
 ·refine PacesAt.mono (n₀ := w.heap.size + 1 + 1 + 1) ?_ (by omega)
  have Hp' : PacesAt (w.heap.size + 1 + 1 + 1) w1 (.slice a' ps.length cap') ps := by have := uh Hp; simpa using this
  exact ((Hp'.set _ _ _ (fun k e => by have := uh Hk k e; omega)).set _ _ _ (fun k e => by have := uh Hk k e; omega)).set _ _ _ (fun k e => by have := uh Hk k e; omega)
 ·exact ((B1.setCell (by show _ ≤ w.heap.size + 1 + 1; omega) _).setCell (by show _ ≤ w.heap.size + 1; omega) _).setCell (by show _ ≤ w.heap.size + 1; omega) _
def valAt (us : List Value) (j : Nat) : Value := us.getD j (.slice none 0 0)
def isRowOf (rs : List RoomV) (us : List Value) (j : Nat) (u u' : Value) : Prop := u = .int .i64 (roomAt rs j).1 ∧ u' = valAt us j
theorem valAt_old {us : List Value} {j : Nat} (h : j < us.length) (x : Value) : valAt (us ++ [x]) j = valAt us j := by unfold valAt; simp [List.getD, List.getElem?_append_left h]
theorem valAt_new (us : List Value) (x : Value) : valAt (us ++ [x]) us.length = x := by unfold valAt; simp [List.getD]
def qsOf (rs : List RoomV) (us : List Value) : List (RoomV × Value) := (List.range rs.length).map fun j => (roomAt rs j, valAt us j)
theorem qsOf_len (rs : List RoomV) (us : List Value) : (qsOf rs us).length = rs.length := by unfold qsOf; simp
theorem qsOf_rooms (rs : List RoomV) (us : List Value) : (qsOf rs us).map (·.1) = rs := by
 apply List.ext_getElem?
 intro j
 by_cases hj : j < rs.length
 ·unfold qsOf roomAt; simp [hj, List.getD]
 ·rw [List.getElem?_eq_none (by rw [List.length_map, qsOf_len]; omega), List.getElem?_eq_none (by omega)]
theorem qsOf_vals {rs : List RoomV} {us : List Value} (h : us.length = rs.length) : (qsOf rs us).map (·.2) = us := by
 apply List.ext_getElem?
 intro j
 by_cases hj : j < rs.length
 ·have hj2 : j < us.length := by omega
  unfold qsOf valAt; simp [hj, hj2, List.getD]
 ·rw [List.getElem?_eq_none (by rw [List.length_map, qsOf_len]; omega), List.getElem?_eq_none (by omega)]
theorem qsOf_mem {rs : List RoomV} {us : List Value} {q : RoomV × Value} (h : q ∈ qsOf rs us) : ∃ j, j < rs.length ∧ q = (roomAt rs j, valAt us j) := by
 unfold qsOf at h
 obtain ⟨j, hj, rfl⟩ := List.mem_map.1 h
 exact ⟨j, List.mem_range.1 hj, rfl⟩
theorem qsOf_at {rs : List RoomV} {us : List Value} {k : Nat} (h : k < (qsOf rs us).length) : (qsOf rs us)[k] = (roomAt rs k, valAt us k) := by simp [qsOf]
theorem qsOf_cells {xs : List Value} {rs : List RoomV} {us : List Value} (hl : xs.length = rs.length * 2) (h : Pairs xs (isRowOf rs us) rs.length) : xs = rcells (qsOf rs us) := by
 refine pairs_ext (by rw [qsOf_len]; exact hl) fun k hk => ?_
 have hk2 : k < rs.length := by rw [qsOf_len] at hk; exact hk
 obtain ⟨u, u', h1, h2, h3, h4⟩ := h k hk2
 rw [h1, h2, h3, h4, qsOf_at hk]
 exact ⟨rfl, rfl⟩
theorem toRoomS_own {w : World} {v : Value} {rs : List RoomV} (h : IsRooms w v rs) (hs : Small rs) :
  Calls Tryz.prog 126 #[v] w fun e w' => ∃ v' qs, e = .returned v' ∧ qs.map (·.1) = rs ∧ OwnHall w.heap.size w' v' qs ∧ Below w.heap.size w w' := by
 obtain ⟨a, cap, rfl, hc, hm, hr⟩ := h
 have Hr := hide hr
 clear hr
 obtain ⟨hs1, hs2⟩ := hs
 have Hs2 := hide hs2
 clear hs2
 obtain ⟨i0, hi, hz0, hz1, hz2⟩ := info_parts infoRoom
 go_enter Tryz.func126, Tryz.ntmps126
 go_wp2_with (at_make; refine wpList_make_full _ rfl _ _ 24 rfl w.heap.size 45 i0 (.agg #[.int .i64 0, .slice none 0 0]) 2 Tryz.underlying24 hi hz0 hz1 _ _ _ _ rs.length rfl rfl rfl rfl (by rw [hz2]; omega) (by unfold maxLen; omega) (Nat.le_refl _) ?_; intro w0 hown hgrow)
 have Hown := hide hown
 have Hgr := hide hgrow
 clear hown hgrow
 go_loopw [4] (fun i wr => ∃ k : Nat, k ≤ rs.length ∧ i = .int .i64 k ∧ ∃ (xs us : List Value), wr.ownsRow w.heap.size 45 2 (.slice (some ⟨w.heap.size, 0, none⟩) rs.length rs.length) rs.length xs ∧ us.length = k ∧ Pairs xs (isRowOf rs us) k ∧ (∀ j, j < k → PacesAt (w.heap.size + 1) wr (valAt us j) (roomAt rs j).2) ∧ (us.Pairwise fun x y => ∀ b, x.ownBlock = some b → y.ownBlock ≠ some b) ∧ Below w.heap.size w wr) (fun i _ => rs.length - (intOf i).toNat)
 case atStart => exact ⟨0, Nat.zero_le _, rfl, _, [], uh Hown, rfl, fun j hj => by omega, fun j hj => by omega, List.Pairwise.nil, (Below.refl _ _).grown (uh Hgr) (Nat.le_refl _) (fun k e => by cases e)⟩
 case round =>
  obtain ⟨k, hk, rfl, xs, us, hown, hul, hpr, hpa, hap, hb⟩ := hrel
  have Hb := hide hb
  by_cases hlt : k < rs.length
  ·rcases uh Hr with h0 | ⟨b, off, rfl, hbw, hcl⟩
   ·rw [h0] at hlt; simp at hlt
   obtain ⟨c0, pv, c1, hip⟩ := hcl k hlt
   rw [← hb.cell (p := ⟨b, off + k * 2, none⟩) hbw] at c0
   rw [← hb.cell (p := ⟨b, off + k * 2 + 1, none⟩) hbw] at c1
   have hxs : xs.length = rs.length * 2 := hown.1
   have hg1 : w.heap.size < wr.heap.size := (World.ownsRow.lt hown w.heap.size rfl).2
   have Ho := hide hown
   have Hpr := hide hpr
   have Hpa := hide hpa
   have Hap := hide hap
   have Hul := hide hul
   have Hip := hide (hip.below hb)
   obtain ⟨pa, pcap, rfl, _⟩ := hip
   have hsk := uh Hs2 k hlt
   generalize hp : roomAt rs k = p at c0 c1 Hip hsk
   obtain ⟨rb, ps⟩ := p
   simp only at c0 c1 hsk
   have Hp := hide hp
   have Hx := hide hxs
   clear hcl hb hown hpr hp hpa hap hul hxs
   go_wp2_with fail
   refine (toRoom_own rb (uh Hip) hsk).mono ?_
   rintro e w1 ⟨v', rfl, hip', hb1⟩
   have hxs : xs.length = rs.length * 2 := uh Hx
   have ho1 := own_later (uh Ho) hb1
   obtain ⟨⟨x0, y0⟩, z0⟩ := own_cell ho1 (j := k * 2) (by omega)
   obtain ⟨⟨x1, y1⟩, z1⟩ := own_cell ho1 (j := k * 2 + 1) (by omega)
   have Hp2 := hide (own_pair ho1 (k * 2) (.int .i64 rb) v')
   have Hip' := hide hip'
   have Hb1 := hide hb1
   have hsz := hb1.size
   have hsz0 := (uh Hb).size
   obtain ⟨a', cap', rfl⟩ := hip'.shape
   clear ho1 hb1 hip' hxs
   go_wp2_with fail
   have hkeep : ∀ {u : Value} {ps' : List PaceV}, PacesAt (w.heap.size + 1) w1 u ps' → PacesAt (w.heap.size + 1) ((w1.setCell ⟨w.heap.size, k * 2, none⟩ (.int .i64 rb)).setCell ⟨w.heap.size, k * 2 + 1, none⟩ (.slice a' ps.length cap')) u ps' := fun hq => (hq.set _ _ _ (fun m e => by have := (hq.lt e).1; omega)).set _ _ _ (fun m e => by have := (hq.lt e).1; omega)
   have hnew : PacesAt (w.heap.size + 1) w1 (.slice a' ps.length cap') ps := (uh Hip').mono (by omega)
   have hul := uh Hul
   go_roundw
   case rel =>
    refine ⟨k + 1, by omega, by go_num, _, us ++ [.slice a' ps.length cap'], (uh Hp2).1, by simp; omega, ?_, ?_, ?_, ((uh Hb).trans ((uh Hb1).mono hsz0)).trans (below_grown (uh Hp2).2 (Nat.le_refl _) (by omega))⟩
    ·have hpr9 : Pairs xs (isRowOf rs (us ++ [.slice a' ps.length cap'])) k := by
      intro j hj
      obtain ⟨u, u', h1, h2, h3, h4⟩ := uh Hpr j hj
      exact ⟨u, u', h1, h2, h3, by rw [valAt_old (by omega)]; exact h4⟩
     have hl9 : k * 2 + 1 < xs.length := by have := uh Hx; omega
     exact hpr9.next hl9 ⟨by rw [uh Hp], by rw [← hul, valAt_new]⟩
    ·intro j hj
     by_cases e : j < k
     ·rw [valAt_old (by omega)]
      exact hkeep ((uh Hpa j e).later (uh Hb1))
     ·obtain rfl : j = us.length := by omega
      rw [valAt_new, hul, uh Hp]
      exact hkeep hnew
    ·rw [List.pairwise_append]
     refine ⟨uh Hap, by simp, fun x hx y hy b e => ?_⟩
     obtain rfl : y = .slice a' ps.length cap' := by simpa using hy
     obtain ⟨j, hj, rfl⟩ := List.getElem_of_mem hx
     have hq := uh Hpa j (by omega)
     have hv9 : valAt us j = us[j] := by unfold valAt; simp [List.getD, hj]
     rw [hv9] at hq
     intro e'
     have := (hq.lt e).2
     have := ((uh Hip').lt e').1
     omega
   case measure => exact ms
  ·obtain rfl : k = rs.length := by omega
   go_wp2_with fail
   go_ret
   refine ⟨_, qsOf rs us, rfl, qsOf_rooms _ _, ⟨?_, ?_, ?_, ?_⟩, hb⟩
   ·have e9 := qsOf_cells hown.1 hpr
    rw [e9] at hown
    rw [qsOf_len]
    exact hown
   ·intro q hq
    obtain ⟨j, hj, rfl⟩ := qsOf_mem hq
    exact (hpa j hj).mono (by omega)
   ·intro q hq b' e e'
    obtain ⟨j, hj, rfl⟩ := qsOf_mem hq
    have := ((hpa j hj).lt e).1
    have e2 : w.heap.size = b' := by simpa [Value.ownBlock] using e'
    omega
   ·rw [qsOf_vals hul]
    exact hap
def Off2 (u v : Value) : Prop := ∀ b, u.ownBlock = some b → v.ownBlock ≠ some b
theorem Off2.symm {u v : Value} (h : Off2 u v) : Off2 v u := fun b e e' => h b e' e
def OffHall (u v : Value) (qs : List (RoomV × Value)) : Prop := Off2 u v ∧ ∀ q ∈ qs, Off2 u q.2
structure FullSmy (n₀ : Nat) (w : World) (v0 v1 v2 v3 v4 : Value) (m : SmyV) (qs : List (RoomV × Value)) : Prop where
 hall : OwnHall n₀ w v0 qs
 rooms : qs.map (·.1) = m.rooms
 guilds : GuildsAt n₀ w v1 m.guilds
 smiths : SmithsAt n₀ w v2 m.smiths
 desks : DesksAt n₀ w v3 m.desks
 paces : NumsAt n₀ w v4 m.paces
 h1 : OffHall v1 v0 qs
 h2 : OffHall v2 v0 qs
 h3 : OffHall v3 v0 qs
 h4 : OffHall v4 v0 qs
 a12 : Off2 v1 v2
 a13 : Off2 v1 v3
 a14 : Off2 v1 v4
 a23 : Off2 v2 v3
 a24 : Off2 v2 v4
 a34 : Off2 v3 v4
theorem FullSmy.smy {n₀ : Nat} {w : World} {v0 v1 v2 v3 v4 : Value} {m : SmyV} {qs : List (RoomV × Value)} (h : FullSmy n₀ w v0 v1 v2 v3 v4 m qs) : Smy w v0 v1 v2 v3 v4 m :=
 ⟨by rw [← h.rooms]; exact h.hall.rooms, h.guilds.list, h.smiths.list, h.desks.list, h.paces.list⟩
theorem OwnHall.set_old {n₀ : Nat} {w : World} {v : Value} {qs : List (RoomV × Value)} (h : OwnHall n₀ w v qs) (g o : Nat) (u : Value) (hg : g < n₀) : OwnHall n₀ (w.setCell ⟨g, o, none⟩ u) v qs :=
 h.same fun k h0 hk => heap_setCell_other w _ k u (by show k ≠ g; omega)
theorem FullSmy.below {n₀ : Nat} {w w' : World} {v0 v1 v2 v3 v4 : Value} {m : SmyV} {qs : List (RoomV × Value)} (h : FullSmy n₀ w v0 v1 v2 v3 v4 m qs) (hb : Below w.heap.size w w') : FullSmy n₀ w' v0 v1 v2 v3 v4 m qs :=
 ⟨h.hall.later hb, h.rooms, RecAt.later h.guilds hb, RecAt.later h.smiths hb, RecAt.later h.desks hb, RecAt.later h.paces hb, h.h1, h.h2, h.h3, h.h4, h.a12, h.a13, h.a14, h.a23, h.a24, h.a34⟩
theorem FullSmy.set {n₀ : Nat} {w : World} {v0 v1 v2 v3 v4 : Value} {m : SmyV} {qs : List (RoomV × Value)} (h : FullSmy n₀ w v0 v1 v2 v3 v4 m qs) (g o : Nat) (u : Value) (hg : g < n₀) : FullSmy n₀ (w.setCell ⟨g, o, none⟩ u) v0 v1 v2 v3 v4 m qs :=
 ⟨h.hall.set_old g o u hg, h.rooms, RecAt.set_old h.guilds g o u hg, RecAt.set_old h.smiths g o u hg, RecAt.set_old h.desks g o u hg, RecAt.set_old h.paces g o u hg, h.h1, h.h2, h.h3, h.h4, h.a12, h.a13, h.a14, h.a23, h.a24, h.a34⟩
theorem FullSmy.mono {n₀ n₁ : Nat} {w : World} {v0 v1 v2 v3 v4 : Value} {m : SmyV} {qs : List (RoomV × Value)} (h : FullSmy n₀ w v0 v1 v2 v3 v4 m qs) (hn : n₁ ≤ n₀) : FullSmy n₁ w v0 v1 v2 v3 v4 m qs :=
 ⟨h.hall.mono hn, h.rooms, RecAt.mono h.guilds hn, RecAt.mono h.smiths hn, RecAt.mono h.desks hn, RecAt.mono h.paces hn, h.h1, h.h2, h.h3, h.h4, h.a12, h.a13, h.a14, h.a23, h.a24, h.a34⟩
theorem off_of {u v : Value} {k : Nat} (hu : ∀ b, u.ownBlock = some b → k ≤ b) (hv : ∀ b, v.ownBlock = some b → b < k) : Off2 u v := fun b e e' => by have := hu b e; have := hv b e'; omega
theorem toHall_full {w : World} {v : Value} {rs : List RoomV} (h : IsRooms w v rs) (hs : Small rs) :
  Calls Tryz.prog 69 #[.agg #[v]] w fun e w' => ∃ v' qs, e = .returned (.agg #[v']) ∧ qs.map (·.1) = rs ∧ OwnHall w.heap.size w' v' qs ∧ Below w.heap.size w w' := by
 have Hv := hide h
 obtain ⟨a, cap, rfl, hc, hm, hr⟩ := h
 clear hr
 have Hb0 : Hid (∀ o1 o2 o3 : Obj, Below w.heap.size w (((w.alloc o1).alloc o2).alloc o3)) := hide (fun o1 o2 o3 => (((ba _ _)).alloc (by simp) _).alloc (by simp; omega) _)
 go_enter Tryz.func69, Tryz.ntmps69
 go_wp2_with fail
 refine (toRoomS_own ((uh Hv).below (uh Hb0 _ _ _)) hs).mono ?_
 rintro e w1 ⟨v', qs, rfl, hmap, hp, hb1⟩
 simp only [World.size_alloc] at hp
 have hsz : w.heap.size + 3 ≤ w1.heap.size := by have := hb1.size; simp at this; omega
 obtain ⟨cc, ff⟩ := bcell hb1
 have x0 := cc (w.heap.size + 2) 0 (by simp)
 have y0 := cc (w.heap.size + 1) 0 (by simp)
 have fx0 := ff (w.heap.size + 2) 0 (by simp)
 have fy0 := ff (w.heap.size + 1) 0 (by simp)
 have Hp := hide hp
 have Hb1 := hide hb1
 obtain ⟨a', cap', rfl⟩ := hp.shape
 have hql : qs.length = rs.length := by rw [← hmap, List.length_map]
 have Hmap := hide hmap
 rw [hql] at Hp ⊢
 clear hp hmap hql
 clear cc ff hb1
 go_wp2_with fail
 have B1 : Below w.heap.size w w1 := (uh Hb0 _ _ _).trans ((uh Hb1).mono (by simp; omega))
 refine bodyPost_ret (v := .agg #[.slice a' rs.length cap']) (by simp [results, Tryz.results69, go_sem, *]) rfl ⟨_, qs, rfl, uh Hmap, ?_, ?_⟩
 ·exact (((uh Hp).set_old _ _ _ (by omega)).set_old _ _ _ (by omega)).mono (by omega)
 ·exact (B1.setCell (by show _ ≤ w.heap.size + 1 + 1; omega) _).setCell (by show _ ≤ w.heap.size + 1; omega) _
theorem toSmithy_full {w : World} {v0 v1 v2 v3 v4 : Value} {m : SmyV} (h : Smy w v0 v1 v2 v3 v4 m) (hs : SmySmall m) :
  Calls Tryz.prog 26 #[.agg #[v0, v1, v2, v3, v4, .int .i64 m.now]] w fun e w' => ∃ u0 u1 u2 u3 u4 qs, e = .returned (.agg #[u0, u1, u2, u3, u4, .int .i64 m.now]) ∧ FullSmy w.heap.size w' u0 u1 u2 u3 u4 m qs ∧ Below w.heap.size w w' := by
 have Hv := hide h
 have Hs := hide hs
 obtain ⟨a0, p0, rfl, _, _⟩ := IsRooms.shape h.rooms
 obtain ⟨a1, p1, rfl, hc1, hm1⟩ := IsRec.shape h.guilds
 obtain ⟨a2, p2, rfl, hc2, hm2⟩ := IsRec.shape h.smiths
 obtain ⟨a3, p3, rfl, hc3, hm3⟩ := IsRec.shape h.desks
 obtain ⟨a4, p4, rfl, hc4, hm4⟩ := IsRec.shape h.paces
 clear h hs
 go_enter Tryz.func26, Tryz.ntmps26
 go_wp2_with fail
 have BB : Hid (Below w.heap.size w (((w.alloc (.cells (S6 a0 p0 a1 p1 a2 p2 a3 p3 a4 p4 m) 61)).alloc (.cells E6 32)).alloc (.cells E6 32))) := hide ((((ba _ _)).alloc (by simp) _).alloc (by simp; omega) _)
 have ka : Hid (Blk (((w.alloc (.cells (S6 a0 p0 a1 p1 a2 p2 a3 p3 a4 p4 m) 61)).alloc (.cells E6 32)).alloc (.cells E6 32)) w.heap.size 61 (S6 a0 p0 a1 p1 a2 p2 a3 p3 a4 p4 m)) := hide (((Blk.new w _ _).alloc _).alloc _)
 have kr : Hid (Blk (((w.alloc (.cells (S6 a0 p0 a1 p1 a2 p2 a3 p3 a4 p4 m) 61)).alloc (.cells E6 32)).alloc (.cells E6 32)) (w.heap.size + 1) 32 E6) := hide (by
  have k := Blk.new (w.alloc (.cells (S6 a0 p0 a1 p1 a2 p2 a3 p3 a4 p4 m) 61)) 32 E6
  rw [World.size_alloc] at k
  exact k.alloc _)
 have ko : Hid (Blk (((w.alloc (.cells (S6 a0 p0 a1 p1 a2 p2 a3 p3 a4 p4 m) 61)).alloc (.cells E6 32)).alloc (.cells E6 32)) (w.heap.size + 1 + 1) 32 E6) := hide (by
  have k := Blk.new ((w.alloc (.cells (S6 a0 p0 a1 p1 a2 p2 a3 p3 a4 p4 m) 61)).alloc (.cells E6 32)) 32 E6
  rw [World.size_alloc, World.size_alloc] at k
  exact k)
 generalize ((w.alloc (.cells (S6 a0 p0 a1 p1 a2 p2 a3 p3 a4 p4 m) 61)).alloc (.cells E6 32)).alloc (.cells E6 32) = W at *
 have hW : w.heap.size + 3 ≤ W.heap.size := by have := (uh ko).lt; omega
 refine (toHall_full ((uh Hv).below (uh BB)).rooms (uh Hs).rooms).mono ?_
 rintro e w1 ⟨u0, qs, rfl, hmap, hp, hb⟩
 have Hmap := hide hmap
 clear hmap
 have n0 : Hid (OwnHall (w.heap.size + 3) w1 u0 qs) := hide (hp.mono hW)
 replace ka := bl ka hb
 replace kr := bl kr hb
 replace ko := bl ko hb
 replace BB := bt BB hb
 have hW2 : w.heap.size + 3 ≤ w1.heap.size := by have := hb.size; omega
 obtain ⟨b0, q0, rfl⟩ := hp.shape
 have hql : qs.length = m.rooms.length := by rw [← uh Hmap, List.length_map]
 rw [hql] at n0 ⊢
 have L0 : Hid (∀ b, ((Value.slice b0 m.rooms.length q0).ownBlock = some b ∨ ∃ q ∈ qs, q.2.ownBlock = some b) → b < w1.heap.size) := hide (fun b e => ((uh n0).lt e).2)
 clear hp hql
 obtain ⟨s0, hs0⟩ : ∃ s, s = w1.heap.size := ⟨_, rfl⟩
 rw [← hs0] at L0
 have g0 : s0 ≤ w1.heap.size := Nat.le_of_eq hs0
 clear hs0
 clear hb
 have o0 := (uh ko).cell (i := 0) (v := .slice none 0 0) rfl
 have f0 := (uh ko).free 0
 have c1 := (uh ka).cell (i := 1) (v := .slice a1 m.guilds.length p1) rfl
 go_wp2_with fail
 replace ka : Hid (Blk (w1.setCell ⟨w.heap.size + 1 + 1, 0, none⟩ (.slice b0 m.rooms.length q0)) w.heap.size 61 (S6 a0 p0 a1 p1 a2 p2 a3 p3 a4 p4 m)) := hide ((uh ka).other (a := ⟨w.heap.size + 1 + 1, 0, none⟩) (by show w.heap.size ≠ w.heap.size + 1 + 1; omega) _)
 replace kr : Hid (Blk (w1.setCell ⟨w.heap.size + 1 + 1, 0, none⟩ (.slice b0 m.rooms.length q0)) (w.heap.size + 1) 32 E6) := hide ((uh kr).other (a := ⟨w.heap.size + 1 + 1, 0, none⟩) (by show w.heap.size + 1 ≠ w.heap.size + 1 + 1; omega) _)
 replace ko : Hid (Blk (w1.setCell ⟨w.heap.size + 1 + 1, 0, none⟩ (.slice b0 m.rooms.length q0)) (w.heap.size + 1 + 1) 32 #[.slice b0 m.rooms.length q0, .slice none 0 0, .slice none 0 0, .slice none 0 0, .slice none 0 0, .int .i64 0]) := hide ((uh ko).set 0 _)
 replace n0 := hide ((uh n0).set_old (w.heap.size + 1 + 1) 0 (.slice b0 m.rooms.length q0) (by omega))
 replace BB : Hid (Below w.heap.size w (w1.setCell ⟨w.heap.size + 1 + 1, 0, none⟩ (.slice b0 m.rooms.length q0))) := hide ((uh BB).setCell (p := ⟨w.heap.size + 1 + 1, 0, none⟩) (by show w.heap.size ≤ w.heap.size + 1 + 1; omega) _)
 have hW3 : w.heap.size + 3 ≤ (w1.setCell ⟨w.heap.size + 1 + 1, 0, none⟩ (.slice b0 m.rooms.length q0)).heap.size := by have := (uh ko).lt; omega
 replace g0 : s0 ≤ (w1.setCell ⟨w.heap.size + 1 + 1, 0, none⟩ (.slice b0 m.rooms.length q0)).heap.size := by simpa using g0
 clear o0 f0 c1 hW hW2
 generalize (w1.setCell ⟨w.heap.size + 1 + 1, 0, none⟩ (.slice b0 m.rooms.length q0)) = W at *
 have hW := hW3
 clear hW3
 refine (toGuildS_any ((uh Hv).below (uh BB)).guilds (uh Hs).guilds).mono ?_
 rintro e w2 ⟨u1, rfl, hp, hb⟩
 have n1 : Hid (GuildsAt (w.heap.size + 3) w2 u1 m.guilds) := hide (RecAt.mono hp hW)
 replace n0 := hide ((uh n0).later hb)
 replace ka := bl ka hb
 replace kr := bl kr hb
 replace ko := bl ko hb
 replace BB := bt BB hb
 have hW2 : w.heap.size + 3 ≤ w2.heap.size := by have := hb.size; omega
 obtain ⟨b1, q1, rfl⟩ := RecAt.shape hp
 have M1 : Hid (∀ b, (Value.slice b1 m.guilds.length q1).ownBlock = some b → s0 ≤ b ∧ b < w2.heap.size) := hide (fun b e => ⟨Nat.le_trans g0 (RecAt.lt hp e).1, (RecAt.lt hp e).2⟩)
 obtain ⟨s1, hs1⟩ : ∃ s, s = w2.heap.size := ⟨_, rfl⟩
 rw [← hs1] at M1
 have r1z : s0 ≤ s1 := by have := hb.size; omega
 clear g0
 have g1 : s1 ≤ w2.heap.size := Nat.le_of_eq hs1
 clear hs1
 clear hp hb
 have o1 := (uh ko).cell (i := 1) (v := .slice none 0 0) rfl
 have f1 := (uh ko).free 1
 have c2 := (uh ka).cell (i := 2) (v := .slice a2 m.smiths.length p2) rfl
 go_wp2_with fail
 replace ka : Hid (Blk (w2.setCell ⟨w.heap.size + 1 + 1, 1, none⟩ (.slice b1 m.guilds.length q1)) w.heap.size 61 (S6 a0 p0 a1 p1 a2 p2 a3 p3 a4 p4 m)) := hide ((uh ka).other (a := ⟨w.heap.size + 1 + 1, 1, none⟩) (by show w.heap.size ≠ w.heap.size + 1 + 1; omega) _)
 replace kr : Hid (Blk (w2.setCell ⟨w.heap.size + 1 + 1, 1, none⟩ (.slice b1 m.guilds.length q1)) (w.heap.size + 1) 32 E6) := hide ((uh kr).other (a := ⟨w.heap.size + 1 + 1, 1, none⟩) (by show w.heap.size + 1 ≠ w.heap.size + 1 + 1; omega) _)
 replace ko : Hid (Blk (w2.setCell ⟨w.heap.size + 1 + 1, 1, none⟩ (.slice b1 m.guilds.length q1)) (w.heap.size + 1 + 1) 32 #[.slice b0 m.rooms.length q0, .slice b1 m.guilds.length q1, .slice none 0 0, .slice none 0 0, .slice none 0 0, .int .i64 0]) := hide ((uh ko).set 1 _)
 replace n0 := hide ((uh n0).set_old (w.heap.size + 1 + 1) 1 (.slice b1 m.guilds.length q1) (by omega))
 replace n1 := hide (RecAt.set_old (uh n1) (w.heap.size + 1 + 1) 1 (.slice b1 m.guilds.length q1) (by omega))
 replace BB : Hid (Below w.heap.size w (w2.setCell ⟨w.heap.size + 1 + 1, 1, none⟩ (.slice b1 m.guilds.length q1))) := hide ((uh BB).setCell (p := ⟨w.heap.size + 1 + 1, 1, none⟩) (by show w.heap.size ≤ w.heap.size + 1 + 1; omega) _)
 have hW3 : w.heap.size + 3 ≤ (w2.setCell ⟨w.heap.size + 1 + 1, 1, none⟩ (.slice b1 m.guilds.length q1)).heap.size := by have := (uh ko).lt; omega
 replace g1 : s1 ≤ (w2.setCell ⟨w.heap.size + 1 + 1, 1, none⟩ (.slice b1 m.guilds.length q1)).heap.size := by simpa using g1
 clear o1 f1 c2 hW hW2
 generalize (w2.setCell ⟨w.heap.size + 1 + 1, 1, none⟩ (.slice b1 m.guilds.length q1)) = W at *
 have hW := hW3
 clear hW3
 refine (toSmithS_any ((uh Hv).below (uh BB)).smiths (uh Hs).smiths).mono ?_
 rintro e w3 ⟨u2, rfl, hp, hb⟩
 have n2 : Hid (SmithsAt (w.heap.size + 3) w3 u2 m.smiths) := hide (RecAt.mono hp hW)
 replace n0 := hide ((uh n0).later hb)
 replace n1 := hide (RecAt.later (uh n1) hb)
 replace ka := bl ka hb
 replace kr := bl kr hb
 replace ko := bl ko hb
 replace BB := bt BB hb
 have hW2 : w.heap.size + 3 ≤ w3.heap.size := by have := hb.size; omega
 obtain ⟨b2, q2, rfl⟩ := RecAt.shape hp
 have M2 : Hid (∀ b, (Value.slice b2 m.smiths.length q2).ownBlock = some b → s1 ≤ b ∧ b < w3.heap.size) := hide (fun b e => ⟨Nat.le_trans g1 (RecAt.lt hp e).1, (RecAt.lt hp e).2⟩)
 obtain ⟨s2, hs2⟩ : ∃ s, s = w3.heap.size := ⟨_, rfl⟩
 rw [← hs2] at M2
 have r2z : s1 ≤ s2 := by have := hb.size; omega
 clear g1
 have g2 : s2 ≤ w3.heap.size := Nat.le_of_eq hs2
 clear hs2
 clear hp hb
 have o2 := (uh ko).cell (i := 2) (v := .slice none 0 0) rfl
 have f2 := (uh ko).free 2
 have c3 := (uh ka).cell (i := 3) (v := .slice a3 m.desks.length p3) rfl
 go_wp2_with fail
 replace ka : Hid (Blk (w3.setCell ⟨w.heap.size + 1 + 1, 2, none⟩ (.slice b2 m.smiths.length q2)) w.heap.size 61 (S6 a0 p0 a1 p1 a2 p2 a3 p3 a4 p4 m)) := hide ((uh ka).other (a := ⟨w.heap.size + 1 + 1, 2, none⟩) (by show w.heap.size ≠ w.heap.size + 1 + 1; omega) _)
 replace kr : Hid (Blk (w3.setCell ⟨w.heap.size + 1 + 1, 2, none⟩ (.slice b2 m.smiths.length q2)) (w.heap.size + 1) 32 E6) := hide ((uh kr).other (a := ⟨w.heap.size + 1 + 1, 2, none⟩) (by show w.heap.size + 1 ≠ w.heap.size + 1 + 1; omega) _)
 replace ko : Hid (Blk (w3.setCell ⟨w.heap.size + 1 + 1, 2, none⟩ (.slice b2 m.smiths.length q2)) (w.heap.size + 1 + 1) 32 #[.slice b0 m.rooms.length q0, .slice b1 m.guilds.length q1, .slice b2 m.smiths.length q2, .slice none 0 0, .slice none 0 0, .int .i64 0]) := hide ((uh ko).set 2 _)
 replace n0 := hide ((uh n0).set_old (w.heap.size + 1 + 1) 2 (.slice b2 m.smiths.length q2) (by omega))
 replace n1 := hide (RecAt.set_old (uh n1) (w.heap.size + 1 + 1) 2 (.slice b2 m.smiths.length q2) (by omega))
 replace n2 := hide (RecAt.set_old (uh n2) (w.heap.size + 1 + 1) 2 (.slice b2 m.smiths.length q2) (by omega))
 replace BB : Hid (Below w.heap.size w (w3.setCell ⟨w.heap.size + 1 + 1, 2, none⟩ (.slice b2 m.smiths.length q2))) := hide ((uh BB).setCell (p := ⟨w.heap.size + 1 + 1, 2, none⟩) (by show w.heap.size ≤ w.heap.size + 1 + 1; omega) _)
 have hW3 : w.heap.size + 3 ≤ (w3.setCell ⟨w.heap.size + 1 + 1, 2, none⟩ (.slice b2 m.smiths.length q2)).heap.size := by have := (uh ko).lt; omega
 replace g2 : s2 ≤ (w3.setCell ⟨w.heap.size + 1 + 1, 2, none⟩ (.slice b2 m.smiths.length q2)).heap.size := by simpa using g2
 clear o2 f2 c3 hW hW2
 generalize (w3.setCell ⟨w.heap.size + 1 + 1, 2, none⟩ (.slice b2 m.smiths.length q2)) = W at *
 have hW := hW3
 clear hW3
 refine (toDeskS_any ((uh Hv).below (uh BB)).desks (uh Hs).desks).mono ?_
 rintro e w4 ⟨u3, rfl, hp, hb⟩
 have n3 : Hid (DesksAt (w.heap.size + 3) w4 u3 m.desks) := hide (RecAt.mono hp hW)
 replace n0 := hide ((uh n0).later hb)
 replace n1 := hide (RecAt.later (uh n1) hb)
 replace n2 := hide (RecAt.later (uh n2) hb)
 replace ka := bl ka hb
 replace kr := bl kr hb
 replace ko := bl ko hb
 replace BB := bt BB hb
 have hW2 : w.heap.size + 3 ≤ w4.heap.size := by have := hb.size; omega
 obtain ⟨b3, q3, rfl⟩ := RecAt.shape hp
 have M3 : Hid (∀ b, (Value.slice b3 m.desks.length q3).ownBlock = some b → s2 ≤ b ∧ b < w4.heap.size) := hide (fun b e => ⟨Nat.le_trans g2 (RecAt.lt hp e).1, (RecAt.lt hp e).2⟩)
 obtain ⟨s3, hs3⟩ : ∃ s, s = w4.heap.size := ⟨_, rfl⟩
 rw [← hs3] at M3
 have r3z : s2 ≤ s3 := by have := hb.size; omega
 clear g2
 have g3 : s3 ≤ w4.heap.size := Nat.le_of_eq hs3
 clear hs3
 clear hp hb
 have o3 := (uh ko).cell (i := 3) (v := .slice none 0 0) rfl
 have f3 := (uh ko).free 3
 have c4 := (uh ka).cell (i := 4) (v := .slice a4 m.paces.length p4) rfl
 go_wp2_with fail
 replace ka : Hid (Blk (w4.setCell ⟨w.heap.size + 1 + 1, 3, none⟩ (.slice b3 m.desks.length q3)) w.heap.size 61 (S6 a0 p0 a1 p1 a2 p2 a3 p3 a4 p4 m)) := hide ((uh ka).other (a := ⟨w.heap.size + 1 + 1, 3, none⟩) (by show w.heap.size ≠ w.heap.size + 1 + 1; omega) _)
 replace kr : Hid (Blk (w4.setCell ⟨w.heap.size + 1 + 1, 3, none⟩ (.slice b3 m.desks.length q3)) (w.heap.size + 1) 32 E6) := hide ((uh kr).other (a := ⟨w.heap.size + 1 + 1, 3, none⟩) (by show w.heap.size + 1 ≠ w.heap.size + 1 + 1; omega) _)
 replace ko : Hid (Blk (w4.setCell ⟨w.heap.size + 1 + 1, 3, none⟩ (.slice b3 m.desks.length q3)) (w.heap.size + 1 + 1) 32 #[.slice b0 m.rooms.length q0, .slice b1 m.guilds.length q1, .slice b2 m.smiths.length q2, .slice b3 m.desks.length q3, .slice none 0 0, .int .i64 0]) := hide ((uh ko).set 3 _)
 replace n0 := hide ((uh n0).set_old (w.heap.size + 1 + 1) 3 (.slice b3 m.desks.length q3) (by omega))
 replace n1 := hide (RecAt.set_old (uh n1) (w.heap.size + 1 + 1) 3 (.slice b3 m.desks.length q3) (by omega))
 replace n2 := hide (RecAt.set_old (uh n2) (w.heap.size + 1 + 1) 3 (.slice b3 m.desks.length q3) (by omega))
 replace n3 := hide (RecAt.set_old (uh n3) (w.heap.size + 1 + 1) 3 (.slice b3 m.desks.length q3) (by omega))
 replace BB : Hid (Below w.heap.size w (w4.setCell ⟨w.heap.size + 1 + 1, 3, none⟩ (.slice b3 m.desks.length q3))) := hide ((uh BB).setCell (p := ⟨w.heap.size + 1 + 1, 3, none⟩) (by show w.heap.size ≤ w.heap.size + 1 + 1; omega) _)
 have hW3 : w.heap.size + 3 ≤ (w4.setCell ⟨w.heap.size + 1 + 1, 3, none⟩ (.slice b3 m.desks.length q3)).heap.size := by have := (uh ko).lt; omega
 replace g3 : s3 ≤ (w4.setCell ⟨w.heap.size + 1 + 1, 3, none⟩ (.slice b3 m.desks.length q3)).heap.size := by simpa using g3
 clear o3 f3 c4 hW hW2
 generalize (w4.setCell ⟨w.heap.size + 1 + 1, 3, none⟩ (.slice b3 m.desks.length q3)) = W at *
 have hW := hW3
 clear hW3
 refine (toInt64S_any ((uh Hv).below (uh BB)).paces (uh Hs).paces).mono ?_
 rintro e w5 ⟨u4, rfl, hp, hb⟩
 have n4 : Hid (NumsAt (w.heap.size + 3) w5 u4 m.paces) := hide (RecAt.mono hp hW)
 replace n0 := hide ((uh n0).later hb)
 replace n1 := hide (RecAt.later (uh n1) hb)
 replace n2 := hide (RecAt.later (uh n2) hb)
 replace n3 := hide (RecAt.later (uh n3) hb)
 replace ka := bl ka hb
 replace kr := bl kr hb
 replace ko := bl ko hb
 replace BB := bt BB hb
 have hW2 : w.heap.size + 3 ≤ w5.heap.size := by have := hb.size; omega
 obtain ⟨b4, q4, rfl⟩ := RecAt.shape hp
 have M4 : Hid (∀ b, (Value.slice b4 m.paces.length q4).ownBlock = some b → s3 ≤ b ∧ b < w5.heap.size) := hide (fun b e => ⟨Nat.le_trans g3 (RecAt.lt hp e).1, (RecAt.lt hp e).2⟩)
 obtain ⟨s4, hs4⟩ : ∃ s, s = w5.heap.size := ⟨_, rfl⟩
 rw [← hs4] at M4
 have r4z : s3 ≤ s4 := by have := hb.size; omega
 clear g3
 have g4 : s4 ≤ w5.heap.size := Nat.le_of_eq hs4
 clear hs4
 clear hp hb
 have o4 := (uh ko).cell (i := 4) (v := .slice none 0 0) rfl
 have f4 := (uh ko).free 4
 have o0 := (uh ko).cell (i := 0) (v := .slice b0 m.rooms.length q0) rfl
 have r0 := (uh kr).cell (i := 0) (v := .slice none 0 0) rfl
 have rf0 := (uh kr).free 0
 have o1 := (uh ko).cell (i := 1) (v := .slice b1 m.guilds.length q1) rfl
 have r1 := (uh kr).cell (i := 1) (v := .slice none 0 0) rfl
 have rf1 := (uh kr).free 1
 have o2 := (uh ko).cell (i := 2) (v := .slice b2 m.smiths.length q2) rfl
 have r2 := (uh kr).cell (i := 2) (v := .slice none 0 0) rfl
 have rf2 := (uh kr).free 2
 have o3 := (uh ko).cell (i := 3) (v := .slice b3 m.desks.length q3) rfl
 have r3 := (uh kr).cell (i := 3) (v := .slice none 0 0) rfl
 have rf3 := (uh kr).free 3
 have r4 := (uh kr).cell (i := 4) (v := .slice none 0 0) rfl
 have rf4 := (uh kr).free 4
 have o5 := (uh ko).cell (i := 5) (v := .int .i64 0) rfl
 have r5 := (uh kr).cell (i := 5) (v := .int .i64 0) rfl
 have rf5 := (uh kr).free 5
 have f5 := (uh ko).free 5
 have c5 := (uh ka).cell (i := 5) (v := .int .i64 m.now) rfl
 go_wp2_with fail
 refine bodyPost_ret (v := .agg (S6 b0 q0 b1 q1 b2 q2 b3 q3 b4 q4 m)) (by simp [results, Tryz.results26, go_sem, r0, r1, r2, r3, r4, r5]) rfl ⟨_, _, _, _, _, qs, rfl, ?_, ?_⟩
 ·refine FullSmy.mono ?_ (show w.heap.size ≤ w.heap.size + 3 by omega)
  iterate 8 (refine FullSmy.set ?_ _ _ _ (by omega))
  have H0 : ∀ {u : Value} {k : Nat}, s0 ≤ k → (∀ b, u.ownBlock = some b → k ≤ b) → OffHall u (.slice b0 m.rooms.length q0) qs := fun hk hu => ⟨off_of (k := s0) (fun b e => Nat.le_trans hk (hu b e)) (fun b e => uh L0 b (.inl e)), fun q hq => off_of (k := s0) (fun b e => Nat.le_trans hk (hu b e)) (fun b e => uh L0 b (.inr ⟨q, hq, e⟩))⟩
  exact ⟨uh n0, uh Hmap, uh n1, uh n2, uh n3, uh n4, H0 (k := s0) (Nat.le_refl _) (fun b e => (uh M1 b e).1), H0 (k := s1) (by omega) (fun b e => (uh M2 b e).1), H0 (k := s2) (by omega) (fun b e => (uh M3 b e).1), H0 (k := s3) (by omega) (fun b e => (uh M4 b e).1),
   (off_of (k := s1) (fun b e => (uh M2 b e).1) (fun b e => (uh M1 b e).2)).symm, (off_of (k := s1) (fun b e => by have := (uh M3 b e).1; omega) (fun b e => (uh M1 b e).2)).symm, (off_of (k := s1) (fun b e => by have := (uh M4 b e).1; omega) (fun b e => (uh M1 b e).2)).symm,
   (off_of (k := s2) (fun b e => (uh M3 b e).1) (fun b e => (uh M2 b e).2)).symm, (off_of (k := s2) (fun b e => by have := (uh M4 b e).1; omega) (fun b e => (uh M2 b e).2)).symm, (off_of (k := s3) (fun b e => (uh M4 b e).1) (fun b e => (uh M3 b e).2)).symm⟩
 ·iterate 8 (refine Below.setCell ?_ (by first | (show _ ≤ w.heap.size + 1 + 1; omega) | (show _ ≤ w.heap.size + 1; omega)) _)
  exact uh BB
theorem rput (b : Int) (x : List PaceV) : ∀ (qs : List (RoomV × Value)) (j : Nat) (h : j < qs.length), (rcells qs).set (j * 2) (.int .i64 b) = rcells (qs.set j ((b, x), qs[j].2))
 | q :: qs, 0, _ => by simp [rcells]
 | q :: qs, j + 1, h => by
  have ih := rput b x qs j (by simpa using h)
  unfold rcells at ih ⊢
  rw [List.flatMap_cons, show (j + 1) * 2 = j * 2 + 2 by omega]
  simpa using ih
theorem markPaceS_any {n₀ : Nat} {w : World} {v : Value} {ps : List PaceV} (k : Int) (h : PacesAt n₀ w v ps) (hk0 : 0 ≤ k) (hk1 : k ≤ 1000000000000000) (hl : ps.length ≤ 1000000000) :
  Calls Tryz.prog 193 #[v, .int .i64 k] w fun e w' => e = .returned (.int .i64 (k + 2 * (ps.length : Int))) ∧ PacesAt n₀ w' v (mps k ps.length) ∧ w.grownBy w' v.ownBlock := by
 have Hv := hide h
 obtain ⟨a, cap, rfl⟩ := h.shape
 clear h
 go_enter Tryz.func193, Tryz.ntmps193
 go_wp2_with fail
 go_loopw [5, 1] (fun i q wr => ∃ j : Nat, j ≤ ps.length ∧ i = .int .i64 j ∧ q = .int .i64 (k + 2 * (j : Int)) ∧ PacesAt n₀ wr (.slice a ps.length cap) (mpd ps k j) ∧ w.grownBy wr (Value.ownBlock (.slice a ps.length cap))) (fun i _ _ => ps.length - (intOf i).toNat)
 case atStart => exact ⟨0, Nat.zero_le _, rfl, by simp, by simpa [mpd, mps] using uh Hv, grown_refl _ _⟩
 case round =>
  obtain ⟨j, hj, rfl, rfl, hin, hgr⟩ := hrel
  by_cases hlt : j < ps.length
  ·unfold PacesAt at hin
   rw [mpd_len hj] at hin
   obtain ⟨g, rfl⟩ : ∃ g, a = some ⟨g, 0, none⟩ := by
    rcases hin.2 with ⟨h9, h8⟩ | ⟨g, c', cur, h9, _⟩
    ·omega
    ·cases h9; exact ⟨g, rfl⟩
   have hcell := fun (o : Nat) (ho : o < ps.length * 2) => World.ownsRow.cellAt hin o (by omega)
   have hpl : (pcells (mpd ps k j)).length = ps.length * 2 := by unfold pcells; rw [pairs_len, mpd_len hj]
   obtain ⟨c0, hc0⟩ : ∃ c, wr.cell? ⟨g, j * 2, none⟩ = some c := ⟨_, (hcell (j * 2) (by omega)).trans (List.getElem?_eq_getElem (by omega))⟩
   obtain ⟨c1, hc1⟩ : ∃ c, wr.cell? ⟨g, j * 2 + 1, none⟩ = some c := ⟨_, (hcell (j * 2 + 1) (by omega)).trans (List.getElem?_eq_getElem (by omega))⟩
   have f0 := World.ownsRow.frozenAt hin (j * 2)
   have f1 := World.ownsRow.frozenAt hin (j * 2 + 1)
   obtain ⟨s1, s2⟩ := World.ownsRow.stored hin (j * 2) (.int .i64 (k + 2 * (j : Int)))
   obtain ⟨t1, t2⟩ := World.ownsRow.stored s1 (j * 2 + 1) (.int .i64 (k + 2 * (j : Int) + 1))
   rw [pput _ _ _ _ (by rw [mpd_len hj]; exact hlt), mpd_succ hlt] at t1
   have H1 : Hid (PacesAt n₀ ((wr.setCell ⟨g, j * 2, none⟩ (.int .i64 (k + 2 * (j : Int)))).setCell ⟨g, j * 2 + 1, none⟩ (.int .i64 (k + 2 * (j : Int) + 1))) (.slice (some ⟨g, 0, none⟩) ps.length cap) (mpd ps k (j + 1))) := hide (by unfold PacesAt; rw [mpd_len hlt]; exact t1)
   have H2 := hide (grown_trans hgr (grown_trans s2 t2))
   have hc1' : (wr.setCell ⟨g, j * 2, none⟩ (.int .i64 (k + 2 * (j : Int)))).cell? ⟨g, j * 2 + 1, none⟩ = some c1 := by rw [World.cell?_setCell_other _ _ _ _ (by simp)]; exact hc1
   have f1' : (wr.setCell ⟨g, j * 2, none⟩ (.int .i64 (k + 2 * (j : Int)))).frozen? ⟨g, j * 2 + 1, none⟩ = false := by rw [World.frozen?_setCell]; exact f1
   clear hin hgr s1 s2 t1 t2 hcell hpl
   go_wp2_with fail
   go_roundw
   case rel => exact ⟨j + 1, by omega, by go_num, by go_num, uh H1, uh H2⟩
   case measure => exact ms
  ·obtain rfl : j = ps.length := by omega
   rw [mpd_all] at hin
   go_wp2_with fail
   go_ret
   exact ⟨rfl, hin, hgr⟩
theorem heldPaceS_yes {w : World} {v : Value} (k : Int) (n : Nat) (h : IsPaces w v (mps k n)) (hk0 : 0 ≤ k) (hk1 : k ≤ 1000000000000000) (hl : n ≤ 1000000000) :
  Calls Tryz.prog 194 #[v, .int .i64 k] w fun e w' => e = .returned (.int .i64 (k + 2 * (n : Int))) ∧ w' = w := by
 obtain ⟨a, cap, rfl, hc, hm, hrow⟩ := h
 rw [mps_len] at *
 have Hrow := hide hrow
 clear hrow
 go_enter Tryz.func194, Tryz.ntmps194
 go_wp2_with fail
 go_loop [5, 1] (fun i q => ∃ j : Nat, j ≤ n ∧ i = .int .i64 j ∧ q = .int .i64 (k + 2 * (j : Int))) (fun i _ => n - (intOf i).toNat)
 case atStart => exact ⟨0, Nat.zero_le _, rfl, by simp⟩
 case round =>
  obtain ⟨j, hj, rfl, rfl⟩ := hrel
  by_cases hlt : j < n
  ·rcases uh Hrow with h0 | ⟨bk, off, rfl, hbw, hcl⟩
   ·have := congrArg List.length h0; rw [mps_len] at this; simp at this; omega
   obtain ⟨c0, c1⟩ := hcl j hlt
   rw [mps_at k n j hlt] at c0 c1
   simp only at c0 c1
   clear hcl
   go_wp2_with fail
   go_round
   case rel => exact ⟨j + 1, by omega, by go_num, by go_num⟩
   case measure => exact ms
  ·obtain rfl : j = n := by omega
   go_wp2_with fail
   go_ret
   exact ⟨rfl, rfl⟩
end Go.Proofs.YtffcgajndmhpkaaGreatDoor
