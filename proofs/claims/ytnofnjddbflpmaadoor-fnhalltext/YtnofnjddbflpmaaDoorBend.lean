/- The model's l1Bend at a cursor and a text: it answers some text that is at most two bytes longer, and of the memory that was there it writes the cursor's block alone. No other condition. -/
import Derived.Test.YtnofnjddbflpmaaDoorHallDraw4
import Derived.Laws.IdiomStrings
import Derived.Laws.BytesArg
import Derived.Maps.AppendAt
import Derived.Deep.RegionLawGrows
namespace Go.Proofs.YtnofnjddbflpmaaDoor
open Go.ChangeShapes Go.WideShapes Go.ChangeAt Go.RowKit Go.Sort
open Draw (St Off)
set_option linter.unusedVariables false

/-- A row of bytes that the call made, from its first cell on. -/
structure BysAt (B : Nat) (w : World) (g n : Nat) (xs : List Int) : Prop where
  lo : B ≤ g
  lt : g < w.heap.size
  len : xs.length = n
  cell : ∀ j, j < n → w.cell? ⟨g, j, none⟩ = some (.int .u8 (xs.getD j 0))
  free : ∀ j, j < n → w.frozen? ⟨g, j, none⟩ = false
theorem BysAt.off {B bc g n : Nat} {w w' : World} {xs : List Int} (h : BysAt B w g n xs) (ho : Off bc w w') (hbc : bc < B) : BysAt B w' g n xs := by
  have hne : g ≠ bc := by have := h.lo; omega
  exact ⟨h.lo, Nat.lt_of_lt_of_le h.lt ho.size, h.len, fun j hj => (ho.cell (p := ⟨g, j, none⟩) h.lt hne).trans (h.cell j hj), fun j hj => (World.frozen?_of_block (w := w) (w' := w') (ho.block g h.lt hne)).trans (h.free j hj)⟩
theorem BysAt.cut {B g n : Nat} {w : World} {xs : List Int} (h : BysAt B w g n xs) {k : Nat} (hk : k ≤ n) : BysAt B w g k (xs.take k) :=
  ⟨h.lo, h.lt, by rw [List.length_take, h.len]; omega, fun j hj => by rw [h.cell j (by omega)]; congr 2; simp [List.getD, hj], fun j hj => h.free j (by omega)⟩
theorem BysAt.set {B g n : Nat} {w : World} {xs : List Int} (h : BysAt B w g n xs) {k : Nat} (hk : k < n) (x : Int) : BysAt B (w.setCell ⟨g, k, none⟩ (.int .u8 x)) g n (xs.set k x) := by
  refine ⟨h.lo, by simpa using h.lt, by simpa using h.len, fun j hj => ?_, fun j hj => by rw [World.frozen?_setCell]; exact h.free j hj⟩
  have hl := h.len
  by_cases e : j = k
  · subst e
    rw [World.cell?_setCell_same _ _ _ (h.cell j hj)]
    simp [List.getD, hl, hj]
  · rw [World.cell?_setCell_other _ _ _ _ (by intro e2; cases e2; exact e rfl), h.cell j hj]
    simp [List.getD, Ne.symm e]
def Bys (B : Nat) (w : World) (a : Option Addr) (n : Nat) : Prop := n = 0 ∨ ∃ g xs, a = some ⟨g, 0, none⟩ ∧ BysAt B w g n xs
theorem Bys.off {B bc n : Nat} {w w' : World} {a : Option Addr} (h : Bys B w a n) (ho : Off bc w w') (hbc : bc < B) : Bys B w' a n := by
  rcases h with h | ⟨g, xs, e, h⟩
  · exact .inl h
  · exact .inr ⟨g, xs, e, h.off ho hbc⟩

theorem bend_start (w : World) (l : Txt) (c : Nat) : Bys w.heap.size (w.drew.alloc (.cells (bytesRow (bs l) c) 5 ((bytesRow (bs l) c).size, (bytesRow (bs l) c).size + 1))) (some ⟨w.heap.size, 0, none⟩) l.length := by
  have hsz := bs_size l
  have hrow : ∀ j, j < l.length → (bytesRow (bs l) c)[j]? = some (.int .u8 ((l.map fun b => (b.toNat : Int)).getD j 0)) := fun j hj => by
    rw [bytesRow_at _ _ _ (by simpa [bs] using hj)]
    simp [bs, List.getD, List.getElem?_eq_getElem hj]
  refine .inr ⟨_, l.map fun b => (b.toNat : Int), rfl, Nat.le_refl _, by simp, by simp, fun j hj => ?_, fun j hj => ?_⟩
  · have : (w.drew.alloc (.cells (bytesRow (bs l) c) 5 ((bytesRow (bs l) c).size, (bytesRow (bs l) c).size + 1))).heap[w.heap.size]? = some (.cells (bytesRow (bs l) c) 5 ((bytesRow (bs l) c).size, (bytesRow (bs l) c).size + 1)) := heap_alloc_new w.drew _
    rw [cell_of_row _ _ _ _ _ _ this]
    exact hrow j hj
  · have hz : l.length ≤ (bytesRow (bs l) c).size := by
      rcases Nat.lt_or_ge (bytesRow (bs l) c).size l.length with h | h
      · have := hrow _ h; simp at this
      · exact h
    have := World.frozen?_alloc_mark w.drew (bytesRow (bs l) c) 5 (bytesRow (bs l) c).size ((bytesRow (bs l) c).size + 1) j
    simp only [World.size_drew] at this
    rw [this]
    simp; omega

theorem str_zero (w : World) (a : Option Addr) (c : Nat) : (convert 22 9 (.slice a 0 c)).run Tryd.prog w = .ok (.string (bs [])) w := by
  rw [run_convert_bytes_string w _ _ 5 _ 0 c Tryd.underlying22 Tryd.underlying5 Tryd.underlying9]
  cases a <;> simp [Conv.bytesToString, loadCells]
  all_goals rfl
theorem str_of {B : Nat} {w : World} {a : Option Addr} {n : Nat} (h : Bys B w a n) (c : Nat) : ∃ l : Txt, l.length = n ∧ (convert 22 9 (.slice a n c)).run Tryd.prog w = .ok (.string (bs l)) w := by
  rcases h with rfl | ⟨g, xs, rfl, h⟩
  · exact ⟨[], rfl, str_zero w a c⟩
  · refine ⟨xs.map fun n => UInt8.ofNat n.toNat, by rw [List.length_map, h.len], ?_⟩
    have := run_convert_bytes_arg (P := Tryd.prog) w 22 5 Tryd.underlying22 Tryd.underlying5 g 0 n c xs h.len (fun i hi => by rw [Nat.zero_add]; exact h.cell i hi) 9 Tryd.underlying9
    exact this

theorem own_lo {B e size n : Nat} {w : World} {v : Value} {xs : List Value} (h : w.ownsRow B e size v n xs) : ∀ k, v.ownBlock = some k → B ≤ k := fun k e => by
  rcases h.2 with ⟨rfl, _⟩ | ⟨g, cap, cur, rfl, hb, _⟩
  · cases e
  · simp only [Value.ownBlock, Option.some.injEq] at e; omega
theorem own_empty {B e size g : Nat} {w : World} (hg : g = w.heap.size) (hB : B ≤ g) : (w.alloc (.cells #[] e)).ownsRow B e size (.slice (some ⟨g, 0, none⟩) 0 0) 0 [] := by
  subst hg
  exact ⟨by simp, .inr ⟨_, 0, #[], rfl, hB, heap_alloc_new w _, Nat.le_refl _, Nat.zero_le _, by simp, by simp⟩⟩
theorem add_at (g o i : Nat) : (⟨g, o, none⟩ : Addr).add i = ⟨g, o + i, none⟩ := by unfold Addr.add; split <;> simp_all
theorem src_head {B g n N j : Nat} {w w' : World} {xs : List Int} (h : BysAt B w g n xs) (hb : Below N w w') (hg : g < N) (hj : j ≤ n) : ∀ i, i < j → w'.cell? ((⟨g, 0, none⟩ : Addr).add i) = some (.int .u8 ((xs.take j).getD i 0)) := fun i hi => by
  rw [add_at, Nat.zero_add, hb.cell (p := ⟨g, i, none⟩) hg, h.cell i (by omega)]
  simp [List.getD, hi]
theorem src_tail {B g n N o m : Nat} {w w' : World} {xs : List Int} (h : BysAt B w g n xs) (hb : Below N w w') (hg : g < N) (hm : o + m ≤ n) : ∀ i, i < m → w'.cell? ((⟨g, o, none⟩ : Addr).add i) = some (.int .u8 ((xs.drop o).getD i 0)) := fun i hi => by
  rw [add_at, hb.cell (p := ⟨g, o + i, none⟩) hg, h.cell (o + i) (by omega)]
  simp [List.getD]
theorem below_drew {N : Nat} {a w : World} (h : Below N a w) : Below N a w.drew := ⟨h.os, h.tape, h.output, h.size, h.block⟩
theorem infoByte : (Tryd.prog.info? 5).map (fun i => (i.zero, i.size, i.bytes)) = some (some (.int .u8 0), 1, 1) := by kernel_rfl

/-- Bytes appended to a row of the call's own, at a step of a region that draws its order. -/
theorem step_append_bys {ops : Array Oper} {o : Oper} {a : Act} {w : World} {K : Act → World → Prop} {Q : Exit → Act → World → Prop} {E : Prop} (hgd : o.guard = none) (s x : Operand)
    (ho : o.op = .call { callee := .builtin .append, args := #[s, x], argTypes := #[22, 22] }) (base : Nat)
    (v : Value) (n : Nat) (ys : List Int) (hs : a.eval s = v) (hown : w.ownsRow base 5 1 v n (ys.map (Value.int .u8)))
    (ad : Addr) (m c : Nat) (zs : List Int) (hx : a.eval x = .slice (some ad) m c) (hl : zs.length = m) (hnews : ∀ j, j < m → w.cell? (ad.add j) = some (.int .u8 (zs.getD j 0)))
    (hb : n + m ≤ 4000) (hbase : base ≤ w.heap.size)
    (h : ∀ v' w', w'.ownsRow base 5 1 v' (n + m) ((ys ++ zs).map (Value.int .u8)) → Below base w w' → K (a.put o.dst v') w') :
    if Region.wanted o (yielded ops a.tmps) = true then Oper.wp Tryd.prog o a w K Q else E := by
  have hw : Region.wanted o (yielded ops a.tmps) = true := by simp [Region.wanted, hgd]
  rw [if_pos hw]
  obtain ⟨i0, hi, hz0, hz1, hz2⟩ := info_parts infoByte
  obtain ⟨v', w', hr, h2, h3, _, _⟩ := run_append_own_at (P := Tryd.prog) w base 22 o.type 5 i0 (.int .u8 0) 1 1 Tryd.underlying22 hi hz0 hz1 hz2 rfl (by decide) v n _ hown ad m c (zs.map (Value.int .u8)) (by simp [hl])
    (fun j u hu => by
      have hj : j < m := by
        rcases Nat.lt_or_ge j m with h | h
        · exact h
        · rw [List.getElem?_eq_none (by simpa [hl] using h)] at hu; cases hu
      rw [hnews j hj]
      rw [List.getElem?_map, List.getElem?_eq_getElem (by omega)] at hu
      simp only [Option.map_some, Option.some.injEq] at hu
      rw [← hu, List.getD, List.getElem?_eq_getElem (by omega)]; rfl)
    (fun u hu => by obtain ⟨_, _, rfl⟩ := List.mem_map.1 hu; rfl) (by simp only [maxLen]; omega) (by omega) hbase
  rw [← List.map_append] at h2
  unfold Oper.wp execOp
  simp only [ho, resolve, invoke, builtin, Sem.run_bind, Sem.run_pure, Result.andThen_ok, List.map_toArray, List.map_cons, List.map_nil, hs, hx, hr]
  exact h v' w' h2 ((Below.refl base w).grown h3 hbase (own_lo hown))

theorem off_drew1 {bc : Nat} {a w : World} (h : Off bc a w) : Off bc a w.drew := ⟨h.os, h.tape, h.output, h.size, h.block⟩
theorem off_of {bc N : Nat} {a w w' : World} (h : Off bc a w) (hb : Below N w w') (hN : a.heap.size ≤ N) : Off bc a w' := off_below h (hb.mono hN)
/-- A row of the call's own, or an empty slice of which nothing is asked. -/
def Ow (N : Nat) (w : World) (v : Value) (n : Nat) (ys : List Int) : Prop := (n = 0 ∧ ys = [] ∧ ∃ ad, v = .slice (some ad) 0 0) ∨ w.ownsRow N 5 1 v n (ys.map (Value.int .u8))
theorem Ow.off {N n bc : Nat} {w w' : World} {v : Value} {ys : List Int} (h : Ow N w v n ys) (ho : Off bc w w') (hN : bc < N) : Ow N w' v n ys := by
  rcases h with h | ⟨h1, h2⟩
  · exact .inl h
  · refine .inr ⟨h1, ?_⟩
    rcases h2 with h2 | ⟨g, cap, cur, h2, h3, h4, h5⟩
    · exact .inl h2
    · refine .inr ⟨g, cap, cur, h2, h3, ?_, h5⟩
      rw [ho.block g (by rcases Nat.lt_or_ge g w.heap.size with h | h; · exact h
                         · rw [Array.getElem?_eq_none h] at h4; cases h4) (by omega)]
      exact h4
theorem bys_of_own {B N n : Nat} {w : World} {v : Value} {ys : List Int} (h : w.ownsRow N 5 1 v n (ys.map (Value.int .u8))) (hB : B ≤ N) : ∃ a c, v = .slice a n c ∧ n ≤ c ∧ Bys B w a n := by
  obtain ⟨h1, h2⟩ := h
  rcases h2 with ⟨rfl, rfl⟩ | ⟨g, cap, cur, rfl, hb, hg, hc, _, hs, ht⟩
  · exact ⟨_, _, rfl, Nat.le_refl _, .inl rfl⟩
  · have hlt : g < w.heap.size := by
      rcases Nat.lt_or_ge g w.heap.size with h | h
      · exact h
      · rw [Array.getElem?_eq_none h] at hg; cases hg
    have hl : ys.length = n := by simpa using h1
    refine ⟨_, _, rfl, hc, .inr ⟨g, ys, rfl, by omega, hlt, hl, fun j hj => ?_, fun j hj => by simp [World.frozen?, hg]⟩⟩
    rw [cell_of_row _ _ _ _ _ _ hg]
    have h3 : (cur.toList.take (n * 1))[j]? = (ys.map (Value.int .u8))[j]? := by rw [ht]
    rw [List.getElem?_take_of_lt (by omega), List.getElem?_map, List.getElem?_eq_getElem (by omega : j < ys.length)] at h3
    simp only [List.getD, List.getElem?_eq_getElem (by omega : j < ys.length)]
    simpa using h3

theorem news_bys {w : World} {ad : Addr} {m : Nat} {zs : List Int} (hl : zs.length = m) (hnews : ∀ j, j < m → w.cell? (ad.add j) = some (.int .u8 (zs.getD j 0))) : ∀ j u, (zs.map (Value.int .u8))[j]? = some u → w.cell? (ad.add j) = some u := fun j u hu => by
  have hj : j < m := by
    rcases Nat.lt_or_ge j m with h | h
    · exact h
    · rw [List.getElem?_eq_none (by simpa [hl] using h)] at hu; cases hu
  rw [hnews j hj]
  rw [List.getElem?_map, List.getElem?_eq_getElem (by omega)] at hu
  simp only [Option.map_some, Option.some.injEq] at hu
  rw [← hu, List.getD, List.getElem?_eq_getElem (by omega)]; rfl

/-- .. to an empty slice, of which nothing is asked. -/
theorem step_append_fresh {ops : Array Oper} {o : Oper} {a : Act} {w : World} {K : Act → World → Prop} {Q : Exit → Act → World → Prop} {E : Prop} (hgd : o.guard = none) (s x : Operand)
    (ho : o.op = .call { callee := .builtin .append, args := #[s, x], argTypes := #[22, 22] }) (N b0 o0 : Nat) (hs : a.eval s = .slice (some ⟨b0, o0, none⟩) 0 0)
    (ad : Addr) (m c : Nat) (zs : List Int) (hx : a.eval x = .slice (some ad) m c) (hl : zs.length = m) (hnews : ∀ j, j < m → w.cell? (ad.add j) = some (.int .u8 (zs.getD j 0)))
    (hb : m ≤ 4000) (hN : N ≤ w.heap.size)
    (h : ∀ v' w', Ow N w' v' m zs → Below w.heap.size w w' → K (a.put o.dst v') w') :
    if Region.wanted o (yielded ops a.tmps) = true then Oper.wp Tryd.prog o a w K Q else E := by
  obtain ⟨i0, hi, hz0, hz1, hz2⟩ := info_parts infoByte
  by_cases hm : m = 0
  · subst hm
    obtain rfl : zs = [] := List.eq_nil_of_length_eq_zero hl
    refine step_append_room hgd s x 22 ho 5 i0 1 Tryd.underlying22 hi hz1 b0 o0 0 0 hs ad 0 c [] hx rfl (fun j u hu => by cases hu) (fun u hu => by cases hu) (Nat.le_refl _) (fun j hj => absurd hj (by simp)) ?_
    exact h _ _ (.inl ⟨rfl, rfl, _, rfl⟩) (Below.refl _ _)
  · refine step_append_grows hgd s x 22 ho 5 i0 (.int .u8 0) 1 1 Tryd.underlying22 hi hz0 hz1 hz2 rfl (by decide) (some ⟨b0, o0, none⟩) 0 0 [] hs (fun h => by cases h) rfl (fun b hb j u hu => by cases hu) ad m c (zs.map (Value.int .u8)) hx (by simp [hl]) (news_bys hl hnews) (fun u hu => by obtain ⟨_, _, rfl⟩ := List.mem_map.1 hu; rfl) (by omega) (by simp only [maxLen]; omega) (by omega) ?_
    intro v' w' h1 h2
    have h3 : w'.ownsRow w.heap.size 5 1 v' m (zs.map (Value.int .u8)) := by simpa using h1
    refine h v' w' (.inr ⟨h3.1, ?_⟩) ((Below.refl _ w).grown h2 (Nat.le_refl _) (fun k e => by cases e))
    rcases h3.2 with h3 | ⟨g, cap, cur, e1, e2, e3⟩
    · exact .inl h3
    · exact .inr ⟨g, cap, cur, e1, by omega, e3⟩

/-- .. one byte more. -/
theorem step_append_more {ops : Array Oper} {o : Oper} {a : Act} {w : World} {K : Act → World → Prop} {Q : Exit → Act → World → Prop} {E : Prop} (hgd : o.guard = none) (s x : Operand)
    (ho : o.op = .call { callee := .builtin .append, args := #[s, x], argTypes := #[22, 22] }) (N : Nat) (v : Value) (n : Nat) (ys : List Int) (hs : a.eval s = v) (how : Ow N w v n ys)
    (ad : Addr) (z : Int) (c : Nat) (hx : a.eval x = .slice (some ad) 1 c) (hnews : w.cell? (ad.add 0) = some (.int .u8 z))
    (hb : n + 1 ≤ 4000) (hN : N ≤ w.heap.size)
    (h : ∀ v' w', w'.ownsRow N 5 1 v' (n + 1) ((ys ++ [z]).map (Value.int .u8)) → Below N w w' → K (a.put o.dst v') w') :
    if Region.wanted o (yielded ops a.tmps) = true then Oper.wp Tryd.prog o a w K Q else E := by
  have hnw : ∀ j, j < 1 → w.cell? (ad.add j) = some (.int .u8 ([z].getD j 0)) := fun j hj => by
    obtain rfl : j = 0 := by omega
    exact hnews
  rcases how with ⟨rfl, rfl, ⟨b0, o0, p0⟩, rfl⟩ | how
  · obtain ⟨i0, hi, hz0, hz1, hz2⟩ := info_parts infoByte
    refine step_append_grows hgd s x 22 ho 5 i0 (.int .u8 0) 1 1 Tryd.underlying22 hi hz0 hz1 hz2 rfl (by decide) (some ⟨b0, o0, p0⟩) 0 0 [] hs (fun h => by cases h) rfl (fun b hb j u hu => by cases hu) ad 1 c ([z].map (Value.int .u8)) hx rfl (news_bys rfl hnw) (fun u hu => by obtain ⟨_, _, rfl⟩ := List.mem_map.1 hu; rfl) (by omega) (by simp only [maxLen]; omega) (by omega) ?_
    intro v' w' h1 h2
    have h3 : w'.ownsRow w.heap.size 5 1 v' (0 + 1) (([] ++ [z]).map (Value.int .u8)) := h1
    refine h v' w' ⟨h3.1, ?_⟩ (((Below.refl _ w).grown h2 (Nat.le_refl _) (fun k e => by cases e)).mono hN)
    rcases h3.2 with h3 | ⟨g, cap, cur, e1, e2, e3⟩
    · exact .inl h3
    · exact .inr ⟨g, cap, cur, e1, by omega, e3⟩
  · exact step_append_bys hgd s x ho N v n ys hs how ad 1 c [z] hx rfl hnw hb hN h

set_option maxRecDepth 100000 in
set_option maxHeartbeats 4000000 in
theorem bend_any (a : Option Addr) (len cap bc : Nat) (l : Txt) (sg : ByteArray) (hsg : sg.size = 6) (hl : l.length ≤ 1000) (w : World) (hs : St a len cap bc w) :
    Calls Tryd.prog 27 #[.pointer (some ⟨bc, 0, none⟩), .string (bs l), .string sg] w fun e w' => ∃ l', e = .returned (.string (bs l')) ∧ l'.length ≤ l.length + 2 ∧ St a len cap bc w' ∧ Off bc w w' := by
  have hbc := st_lt hs
  have Hs := hide hs
  clear hs
  have kc := fun (w : World) (s : ByteArray) => run_bytes_of_string (P := Tryd.prog) w 9 22 5 s Tryd.underlying9 Tryd.underlying22 Tryd.underlying5
  have hsz := bs_size l
  go_enter Tryd.func27, Tryd.ntmps27
  go_wp2_with fail
  have HBy := hide (bend_start w l (grownCap w l.length 0 5))
  have hgc := grownCap_ge w l.length 0 5
  generalize grownCap w l.length 0 5 = gc at *
  have Ho1 : Hid (Off bc w (w.drew.alloc (.cells (bytesRow (bs l) gc) 5 ((bytesRow (bs l) gc).size, (bytesRow (bs l) gc).size + 1)))) := hide (((Off.refl bc w).drewN 1).alloc _)
  have Hs1 : Hid (St a len cap bc (w.drew.alloc (.cells (bytesRow (bs l) gc) 5 ((bytesRow (bs l) gc).size, (bytesRow (bs l) gc).size + 1)))) := hide (((unhide Hs).drewN 1).alloc _)
  refine (Draw.below_any a len cap bc 3 (by omega) (by omega) _ (unhide Hs1)).mono ?_
  rintro e w1 ⟨x, rfl, hx0, hx1, hs1, ho1⟩
  obtain ⟨k0, rfl⟩ := Int.eq_ofNat_of_zero_le hx0
  have Hs2 := hide hs1
  have Ho2 := hide ((unhide Ho1).trans ho1)
  have HB2 := hide ((unhide HBy).off ho1 hbc)
  clear hs1 ho1 HBy Ho1 Hs1 hx0
  go_wp2_with fail
  go_loopw [7, 8] (fun b n wr => ∃ (aa : Option Addr) (m cp k : Nat), b = .slice aa m cp ∧ n = .int .i64 k ∧ m ≤ cp ∧ k ≤ 2 ∧ m + k ≤ l.length + 2 ∧ Bys w.heap.size wr aa m ∧ St a len cap bc wr ∧ Off bc w wr) (fun _ n _ => (intOf n).toNat)
  case atStart => exact ⟨_, l.length, gc, k0, rfl, rfl, hgc, by omega, by omega, unhide HB2, unhide Hs2, unhide Ho2⟩
  case round =>
    obtain ⟨aa, m, cp, k, rfl, rfl, hmc, hk, hmk, hby, hst, hof⟩ := hrel
    have hzr := hof.size
    have Hof := hide hof
    have Hst := hide hst
    have Hby := hide hby
    clear hof hst
    by_cases hk0 : k = 0
    · subst hk0
      obtain ⟨l', hl', kd⟩ := str_of hby cp
      go_wp2_with fail
      go_ret
      exact ⟨l', rfl, by omega, unhide Hst, unhide Hof⟩
    · by_cases hm0 : m = 0
      · subst hm0
        have kd := str_zero wr aa cp
        go_wp2_with fail
        go_ret
        exact ⟨[], rfl, by simp, unhide Hst, unhide Hof⟩
      · rcases hby with h | ⟨g, xs, rfl, hat⟩
        · exact absurd h hm0
        have Hat := hide hat
        clear hat
        go_wp2_with fail
        refine (Draw.below_any a len cap bc (m : Int) (by omega) (by omega) _ (unhide Hst)).mono ?_
        rintro e w2 ⟨x, rfl, hx0, hx1, hs2, ho2⟩
        obtain ⟨j, rfl⟩ := Int.eq_ofNat_of_zero_le hx0
        have Hs3 := hide hs2
        have Ho3 := hide ((unhide Hof).trans ho2)
        have Ha3 := hide ((unhide Hat).off ho2 hbc)
        clear hs2 ho2
        go_wp2_with fail
        refine (Draw.below_any a len cap bc 4 (by omega) (by omega) _ (unhide Hs3)).mono ?_
        rintro e w3 ⟨y, rfl, hy0, hy1, hs3, ho3⟩
        have Hs4 := hide hs3
        have Ho4 := hide ((unhide Ho3).trans ho3)
        have Ha4 := hide ((unhide Ha3).off ho3 hbc)
        have hz4 := (unhide Ho4).size
        clear hs3 ho3 Hs3 Ho3 Ha3 Hat Hby Hof Hst HB2 Hs2 Ho2 kc
        have hjm : j < m := by omega
        obtain rfl | rfl | rfl | rfl : y = 0 ∨ y = 1 ∨ y = 2 ∨ y = 3 := by omega
        · go_wp2_with fail
          refine (Draw.below_any a len cap bc 6 (by omega) (by omega) _ (unhide Hs4)).mono ?_
          rintro e w4 ⟨z, rfl, hz0, hz1, hs5, ho5⟩
          have Hs5 := hide hs5
          have Ho5 := hide ((unhide Ho4).trans ho5)
          have Ha5 := hide ((unhide Ha4).off ho5 hbc)
          have c1 := (unhide Ha5).cell j hjm
          have c2 := (unhide Ha5).free j hjm
          clear hs5 ho5
          have hzz : 0 ≤ z ∧ z < sg.size := by omega
          go_wp2_with fail
          go_roundw
          case rel => exact ⟨_, m, cp, k - 1, rfl, by go_num, by omega, by omega, by omega, .inr ⟨g, _, rfl, (unhide Ha5).set hjm _⟩, st_below (unhide Hs5) ((Below.refl _ _).setCell (p := ⟨g, j, none⟩) (by have := (unhide Ha5).lo; show bc + 1 ≤ g; omega) _), off_below (unhide Ho5) ((Below.refl _ _).setCell (p := ⟨g, j, none⟩) (unhide Ha5).lo _)⟩
          case measure => simp [intOf]; omega
        · go_wp2_with fail
          go_roundw
          case rel => exact ⟨_, j, cp, k - 1, rfl, by go_num, by omega, by omega, by omega, .inr ⟨g, _, rfl, (unhide Ha4).cut (by omega)⟩, unhide Hs4, unhide Ho4⟩
          case measure => simp [intOf]; omega
        · have hj1 : j ≤ cp := by omega
          have hj2 : (j : Int) + 1 ≤ m := by omega
          have hj3 : (0 : Int) ≤ (j : Int) + 1 := by omega
          have hwj : IntKind.i64.wrap ((j : Int) + 1) = (j : Int) + 1 := by rw [IntKind.wrap_i64]; omega
          have htn : ((j : Int) + 1).toNat = j + 1 := by omega
          have hjc : (j : Int) ≤ (j : Int) + 1 := by omega
          have gz := (unhide Ha4).lt
          have xl := (unhide Ha4).len
          by_cases hcp : cp = j + 1
          · have hmj : m = j + 1 := by omega
            subst hcp
            subst hmj
            go_wp2_with fail
            go_region_law (first
              | (refine step_append_bys rfl (.tmp 47) (.tmp 50) rfl w3.heap.size _ 0 [] rfl (own_empty (by simp) (Nat.le_refl _)) ⟨g, 0, none⟩ _ _ (xs.take j) rfl (by rw [List.length_take, xl]; omega) (src_head (unhide Ha4) (below_drew ((Below.refl _ w3).alloc (Nat.le_refl _) _)) gz (by omega)) (by omega) (by simp) ?_; intro v1 w4 hown1 hb4)
              | (refine step_append_bys rfl (.tmp 51) (.tmp 55) rfl w3.heap.size _ _ (xs.take j) rfl hown1 ⟨g, _, none⟩ 0 _ [] rfl rfl (fun i hi => absurd hi (by omega)) (by omega) (by have := hb4.size; simp at this; omega) ?_; intro v2 w5 hown2 hb5))
            all_goals
              have hB5 : Below w3.heap.size w3 w5 := ((below_drew ((Below.refl _ w3).alloc (Nat.le_refl _) _)).trans hb4).trans hb5
              simp only [Nat.zero_add, Nat.add_zero] at hown2
              obtain ⟨a2, c2, rfl, hc2, hby2⟩ := bys_of_own hown2 hz4
              have Hby2 := hide hby2
              have HB5 := hide hB5
              clear hown1 hown2 hb4 hb5 hB5 hby2
              go_wp2_with fail
              go_roundw
              case rel => exact ⟨_, _, c2, k - 1, rfl, by go_num, hc2, by omega, by omega, unhide Hby2, st_below (unhide Hs4) ((unhide HB5).mono (by omega)), off_below (unhide Ho4) ((unhide HB5).mono hz4)⟩
              case measure => simp [intOf]; omega
          · go_wp2_with fail
            go_region_law (first
              | (refine step_append_bys rfl (.tmp 47) (.tmp 50) rfl w3.heap.size _ 0 [] rfl (own_empty (by simp) (Nat.le_refl _)) ⟨g, 0, none⟩ _ _ (xs.take j) rfl (by rw [List.length_take, xl]; omega) (src_head (unhide Ha4) (below_drew ((Below.refl _ w3).alloc (Nat.le_refl _) _)) gz (by omega)) (by omega) (by simp) ?_; intro v1 w4 hown1 hb4)
              | (refine step_append_bys rfl (.tmp 51) (.tmp 55) rfl w3.heap.size _ _ (xs.take j) rfl hown1 ⟨g, j + 1, none⟩ (m - (j + 1)) _ (xs.drop (j + 1)) rfl (by rw [List.length_drop, xl]) (src_tail (unhide Ha4) ((below_drew ((Below.refl _ w3).alloc (Nat.le_refl _) _)).trans hb4) gz (by omega)) (by omega) (by have := hb4.size; simp at this; omega) ?_; intro v2 w5 hown2 hb5))
            all_goals
              have hB5 : Below w3.heap.size w3 w5 := ((below_drew ((Below.refl _ w3).alloc (Nat.le_refl _) _)).trans hb4).trans hb5
              simp only [Nat.zero_add] at hown2
              obtain ⟨a2, c2, rfl, hc2, hby2⟩ := bys_of_own hown2 hz4
              have Hby2 := hide hby2
              have HB5 := hide hB5
              clear hown1 hown2 hb4 hb5 hB5 hby2
              go_wp2_with fail
              go_roundw
              case rel => exact ⟨_, _, c2, k - 1, rfl, by go_num, hc2, by omega, by omega, unhide Hby2, st_below (unhide Hs4) ((unhide HB5).mono (by omega)), off_below (unhide Ho4) ((unhide HB5).mono hz4)⟩
              case measure => simp [intOf]; omega
        · have hj1 : j ≤ cp := by omega
          have hj2 : (j : Int) ≤ m := by omega
          have hcpj : ¬ cp = j := by omega
          have gz := (unhide Ha4).lt
          have gl := (unhide Ha4).lo
          have xl := (unhide Ha4).len
          have hbg : bc < w3.heap.size := by omega
          go_wp2_with fail
          go_region_law (first
            | (refine step_append_fresh rfl (.tmp 59) (.tmp 62) rfl w3.heap.size _ _ rfl ⟨g, 0, none⟩ _ _ (xs.take j) rfl (by rw [List.length_take, xl]; omega) (src_head (unhide Ha4) (below_drew ((Below.refl _ w3).alloc (Nat.le_refl _) _)) gz (by omega)) (by omega) (by simp) ?_; intro v1 w5 how hb5; have hB5 : Below w3.heap.size w3 w5 := (below_drew ((Below.refl _ w3).alloc (Nat.le_refl _) _)).trans (hb5.mono (by simp)))
            | (refine step_append_more rfl (.tmp 63) (.tmp 70) rfl w3.heap.size _ _ _ rfl (how6.off ((Off.refl bc w6).alloc _) hbg) ⟨_, 0, none⟩ _ _ rfl (cell_one_new _ _ _ 0 _ rfl) (by omega) (by simp; omega) ?_; intro v2 w7 hown2 hb7)
            | (refine step_append_bys rfl (.tmp 71) (.tmp 74) rfl w3.heap.size _ _ _ rfl hown2 ⟨g, j, none⟩ (m - j) _ (xs.drop j) rfl (by rw [List.length_drop, xl]) (src_tail (((unhide Ha4).off (off_of (Off.refl bc w3) hB5 (Nat.le_refl _)) hbc).off (ho6.alloc _) hbc) hb7 gz (by omega)) (by omega) (by have := hb7.size; simp at this; omega) ?_; intro v3 w8 hown3 hb8)
            | (go_simp; go_at_call 25; refine (Draw.below_any a len cap bc 6 (by omega) (by omega) _ (st_below (unhide Hs4) (hB5.mono (by omega)))).mono ?_; rintro e w6 ⟨z, rfl, hz0, hz1, hs6, ho6⟩; have hzz : 0 ≤ z ∧ z < sg.size := (by omega); have how6 := how.off ho6 hbg; have hs6z := ho6.size; have hB5z := hB5.size))
          all_goals
            have hB8 : Below w3.heap.size w6 w8 := (((Below.refl _ w6).alloc (by omega) _).trans hb7).trans hb8
            obtain ⟨a2, c2, rfl, hc2, hby2⟩ := bys_of_own hown3 hz4
            have Hby2 := hide hby2
            have Hst8 := hide (st_below hs6 (hB8.mono (by omega)))
            have Hof8 := hide (off_below (off_below (unhide Ho4) (hB5.mono hz4) |>.trans ho6) (hB8.mono hz4))
            clear how how6 hown2 hown3 hb5 hb7 hb8 hB8 hby2 hs6 ho6 hB5
            go_wp2_with fail
            go_roundw
            case rel => exact ⟨_, _, c2, k - 1, rfl, by go_num, hc2, by omega, by omega, unhide Hby2, unhide Hst8, unhide Hof8⟩
            case measure => simp [intOf]; omega

end Go.Proofs.YtnofnjddbflpmaaDoor
