/- Contracts of the draws of entries and queues: each returns an entry, or a queue in memory of its own, and of the memory that was there writes the cursor's block alone. Condition: the bytes of the draw can be read and are at most 4096. -/
import Derived.Test.YtekobedbjemdiaaDrawKit
import Derived.Test.YtekobedbjemdiaaEntSpec
namespace Go.Proofs.Ytekobedbjemdiaa
open Go.ChangeShapes Go.WideShapes Go.ChangeAt Go.RowKit Go.Sort
open Draw (St Off Row Cur)
set_option linter.unusedVariables false

theorem EntsAt.away {n₀ bc : Nat} {w w' : World} {v : Value} {ps : List PaceV} (h : EntsAt n₀ w v ps) (ho : Off bc w w') (hb : bc < n₀) : EntsAt n₀ w' v ps := h.same fun k hk => ho.block k (h.lt hk).2 (by have := (h.lt hk).1; omega)
theorem Res.set0 {w : World} {R : Nat} {u u' : Value} (h : Res w R u u') (x : Value) : Res (w.setCell ⟨R, 0, none⟩ x) R x u' :=
  ⟨World.cell?_setCell_same _ _ _ h.1, by rw [World.cell?_setCell_other _ _ _ _ (by simp)]; exact h.2.1, by rw [World.frozen?_setCell]; exact h.2.2.1, by rw [World.frozen?_setCell]; exact h.2.2.2⟩
theorem Res.set1 {w : World} {R : Nat} {u u' : Value} (h : Res w R u u') (x : Value) : Res (w.setCell ⟨R, 1, none⟩ x) R u x :=
  ⟨by rw [World.cell?_setCell_other _ _ _ _ (by simp)]; exact h.1, World.cell?_setCell_same _ _ _ h.2.1, by rw [World.frozen?_setCell]; exact h.2.2.1, by rw [World.frozen?_setCell]; exact h.2.2.2⟩
theorem Res.other {w : World} {R R' o : Nat} {u u' x : Value} (h : Res w R u u') (hn : R ≠ R') : Res (w.setCell ⟨R', o, none⟩ x) R u u' :=
  ⟨by rw [World.cell?_setCell_other _ _ _ _ (fun e => hn (by cases e; rfl))]; exact h.1, by rw [World.cell?_setCell_other _ _ _ _ (fun e => hn (by cases e; rfl))]; exact h.2.1, by rw [World.frozen?_setCell]; exact h.2.2.1, by rw [World.frozen?_setCell]; exact h.2.2.2⟩
/-- What is carried along between the draws of one entry: the cursor, the answer's box R, the entry's box E. -/
structure Ebox (a : Option Addr) (len cap bc : Nat) (w0 w : World) (R E : Nat) (f z : Int) : Prop where
  st : St a len cap bc w
  off : Off bc w0 w
  gt : bc < w0.heap.size
  lo : w0.heap.size ≤ R
  mid : R < E
  lt : E < w.heap.size
  res : Res w R (.int .i64 0) (.int .i64 0)
  box : Res w E (.int .i64 f) (.int .i64 z)
section
variable {a : Option Addr} {len cap bc : Nat} {w0 w w' : World} {R E : Nat} {f z : Int}
theorem Ebox.step (h : Ebox a len cap bc w0 w R E f z) (hs : St a len cap bc w') (ho : Off bc w w') : Ebox a len cap bc w0 w' R E f z := by
  have h1 := h.gt; have h2 := h.lo; have h3 := h.mid; have h4 := h.lt
  exact ⟨hs, h.off.trans ho, h1, h2, h3, Nat.lt_of_lt_of_le h4 ho.size, h.res.off ho (by omega) (by omega), h.box.off ho h4 (by omega)⟩
theorem Ebox.alloc (h : Ebox a len cap bc w0 w R E f z) (o : Obj) : Ebox a len cap bc w0 (w.alloc o) R E f z := h.step (h.st.alloc _) ((Off.refl _ _).alloc _)
theorem Ebox.set0 (h : Ebox a len cap bc w0 w R E f z) (x : Int) : Ebox a len cap bc w0 (w.setCell ⟨E, 0, none⟩ (.int .i64 x)) R E x z := by
  have h1 := h.gt; have h2 := h.lo; have h3 := h.mid; have h4 := h.lt
  exact ⟨st_below h.st ((Below.refl _ _).setCell (by show bc + 1 ≤ E; omega) _), off_below h.off ((Below.refl _ _).setCell (by show w0.heap.size ≤ E; omega) _), h1, h2, h3, by simpa using h4, h.res.other (by omega), h.box.set0 _⟩
theorem Ebox.set1 (h : Ebox a len cap bc w0 w R E f z) (x : Int) : Ebox a len cap bc w0 (w.setCell ⟨E, 1, none⟩ (.int .i64 x)) R E f x := by
  have h1 := h.gt; have h2 := h.lo; have h3 := h.mid; have h4 := h.lt
  exact ⟨st_below h.st ((Below.refl _ _).setCell (by show bc + 1 ≤ E; omega) _), off_below h.off ((Below.refl _ _).setCell (by show w0.heap.size ≤ E; omega) _), h1, h2, h3, by simpa using h4, h.res.other (by omega), h.box.set1 _⟩
/-- The answer's box is filled. -/
theorem Ebox.done (h : Ebox a len cap bc w0 w R E f z) : St a len cap bc ((w.setCell ⟨R, 0, none⟩ (.int .i64 f)).setCell ⟨R, 1, none⟩ (.int .i64 z)) ∧ Off bc w0 ((w.setCell ⟨R, 0, none⟩ (.int .i64 f)).setCell ⟨R, 1, none⟩ (.int .i64 z)) ∧ Res ((w.setCell ⟨R, 0, none⟩ (.int .i64 f)).setCell ⟨R, 1, none⟩ (.int .i64 z)) R (.int .i64 f) (.int .i64 z) := by
  have h1 := h.gt; have h2 := h.lo
  exact ⟨st_below (st_below h.st ((Below.refl _ _).setCell (by show bc + 1 ≤ R; omega) _)) ((Below.refl _ _).setCell (by show bc + 1 ≤ R; omega) _), off_below (off_below h.off ((Below.refl _ _).setCell (by show w0.heap.size ≤ R; omega) _)) ((Below.refl _ _).setCell (by show w0.heap.size ≤ R; omega) _), (h.res.set0 _).set1 _⟩
end

set_option maxRecDepth 100000 in
set_option maxHeartbeats 4000000 in
theorem l6DrawEntry_any (a : Option Addr) (len cap bc : Nat) (w : World) (hs : St a len cap bc w) :
    Calls Try.prog 33 #[.pointer (some ⟨bc, 0, none⟩)] w fun e w' => ∃ f z : Int, e = .returned (.agg #[.int .i64 f, .int .i64 z]) ∧ St a len cap bc w' ∧ Off bc w w' := by
  have Hs := hide hs
  have hbc := st_lt hs
  clear hs
  go_enter Try.func33, Try.ntmps33
  go_wp2_with fail
  refine (Draw.below_any a len cap bc 9 (by omega) (by omega) _ ((unhide Hs).alloc _)).mono ?_
  rintro e w1 ⟨x, rfl, x0, x1, s1, o1⟩
  have Hs1 := hide s1
  have Ho1 : Hid (Off bc w w1) := hide (((Off.refl bc w).alloc _).trans o1)
  have hz1 : w.heap.size + 1 ≤ w1.heap.size := by have := o1.size; simpa using this
  have HR1 : Hid (Res w1 w.heap.size (.int .i64 0) (.int .i64 0)) := hide ((Res.new w (.int .i64 0) (.int .i64 0) 26).off o1 (by simp) (by omega))
  clear s1 o1
  go_wp2_with fail
  refine (Draw.below_any a len cap bc 9 (by omega) (by omega) _ (unhide Hs1)).mono ?_
  rintro e w2 ⟨y, rfl, y0, y1, s2, o2⟩
  have Hs2 := hide s2
  have Ho2 : Hid (Off bc w w2) := hide ((unhide Ho1).trans o2)
  have hz2 := o2.size
  have HR2 : Hid (Res w2 w.heap.size (.int .i64 0) (.int .i64 0)) := hide ((unhide HR1).off o2 (by omega) (by omega))
  clear s2 o2 Hs1 Ho1 HR1
  go_wp2_with fail
  obtain ⟨W3, hW⟩ : ∃ W3, W3 = w2.alloc (.cells #[.int .i64 (x - 2), .int .i64 y] 26) := ⟨_, rfl⟩
  rw [← hW]
  have HE3 : Hid (Ebox a len cap bc w W3 w.heap.size w2.heap.size (x - 2) y) := hide (by
    rw [hW]
    exact ⟨(unhide Hs2).alloc _, (unhide Ho2).alloc _, hbc, Nat.le_refl _, by omega, by simp, (unhide HR2).alloc (by omega) _, Res.new _ _ _ _⟩)
  generalize w2.heap.size = E at *
  generalize x - 2 = f at *
  clear hW x0 x1 y0 y1 Hs2 Ho2 HR2
  refine (Draw.once_any a len cap bc 12 (by omega) (by omega) _ (unhide HE3).st).mono ?_
  rintro e w4 ⟨b, rfl, s4, o4⟩
  have HE4 := hide ((unhide HE3).step s4 o4)
  clear s4 o4 HE3
  cases b
  · go_wp2_with fail
    refine (Draw.once_any a len cap bc 12 (by omega) (by omega) _ (unhide HE4).st).mono ?_
    rintro e w6 ⟨b, rfl, s6, o6⟩
    have HE6 := hide ((unhide HE4).step s6 o6)
    have hRE : w.heap.size ≠ E := by have := (unhide HE6).mid; omega
    have hER : E ≠ w.heap.size := Ne.symm hRE
    clear s6 o6
    cases b
    · have HD := hide (unhide HE6).done
      obtain ⟨r0, r1, r2, r3⟩ := (unhide HE6).res
      obtain ⟨t0, t1, t2, t3⟩ := (unhide HE6).box
      obtain ⟨u0, u1, u2, u3⟩ := (unhide HD).2.2
      go_wp2_with fail
      exact bodyPost_ret (v := .agg #[.int .i64 f, .int .i64 y]) (by simp [results, Try.results33, go_sem, u0, u1]) rfl ⟨_, _, rfl, (unhide HD).1, (unhide HD).2.1⟩
    · go_wp2_with fail
      refine (Draw.below_any a len cap bc 3 (by omega) (by omega) _ ((unhide HE6).st.alloc _)).mono ?_
      rintro e w7 ⟨q, rfl, q0, q1, s5, o5⟩
      obtain ⟨kq, rfl⟩ : ∃ k : Nat, q = k := ⟨q.toNat, by omega⟩
      have hnq : w6.heap.size ≠ bc := by have h1 := (unhide HE6).gt; have h2 := (unhide HE6).lo; have h3 := (unhide HE6).mid; have h4 := (unhide HE6).lt; omega
      obtain ⟨vq, hvq⟩ := Draw.pick_any #[.int .i64 (-1), .int .i64 99, .int .i64 100] kq (by simp; omega) rfl
      have cellq : w7.cell? ⟨w6.heap.size, kq, none⟩ = some (.int .i64 vq) := (o5.cell (p := ⟨w6.heap.size, kq, none⟩) (by simp) hnq).trans (by rw [cell_of_row _ _ _ _ _ _ (heap_alloc_new w6 _)]; exact hvq)
      have H5 := hide (((unhide HE6).alloc (.cells #[.int .i64 (-1), .int .i64 99, .int .i64 100] 2)).step s5 o5)
      obtain ⟨r0, r1, r2, r3⟩ := (unhide H5).box
      clear s5 o5 hvq
      have HD := hide ((unhide H5).set1 vq).done
      obtain ⟨t0, t1, t2, t3⟩ := (unhide H5).res
      obtain ⟨u0, u1, u2, u3⟩ := (unhide HD).2.2
      go_wp2_with fail
      exact bodyPost_ret (v := .agg #[.int .i64 f, .int .i64 vq]) (by simp [results, Try.results33, go_sem, u0, u1]) rfl ⟨_, _, rfl, (unhide HD).1, (unhide HD).2.1⟩
  · go_wp2_with fail
    refine (Draw.below_any a len cap bc 3 (by omega) (by omega) _ ((unhide HE4).st.alloc _)).mono ?_
    rintro e w5 ⟨p, rfl, p0, p1, s5, o5⟩
    obtain ⟨kp, rfl⟩ : ∃ k : Nat, p = k := ⟨p.toNat, by omega⟩
    have hnp : w4.heap.size ≠ bc := by have h1 := (unhide HE4).gt; have h2 := (unhide HE4).lo; have h3 := (unhide HE4).mid; have h4 := (unhide HE4).lt; omega
    obtain ⟨vp, hvp⟩ := Draw.pick_any #[.int .i64 1000000000000, .int .i64 1000000000001, .int .i64 (-1000000000001)] kp (by simp; omega) rfl
    have cellp : w5.cell? ⟨w4.heap.size, kp, none⟩ = some (.int .i64 vp) := (o5.cell (p := ⟨w4.heap.size, kp, none⟩) (by simp) hnp).trans (by rw [cell_of_row _ _ _ _ _ _ (heap_alloc_new w4 _)]; exact hvp)
    have H5 := hide (((unhide HE4).alloc (.cells #[.int .i64 1000000000000, .int .i64 1000000000001, .int .i64 (-1000000000001)] 2)).step s5 o5)
    obtain ⟨r0, r1, r2, r3⟩ := (unhide H5).box
    clear s5 o5 hvp
    go_wp2_with fail
    have HE5 := hide ((unhide H5).set0 vp)
    clear r0 r1 r2 r3 cellp H5
    refine (Draw.once_any a len cap bc 12 (by omega) (by omega) _ (unhide HE5).st).mono ?_
    rintro e w6 ⟨b, rfl, s6, o6⟩
    have HE6 := hide ((unhide HE5).step s6 o6)
    have hRE : w.heap.size ≠ E := by have := (unhide HE6).mid; omega
    have hER : E ≠ w.heap.size := Ne.symm hRE
    clear s6 o6
    cases b
    · have HD := hide (unhide HE6).done
      obtain ⟨r0, r1, r2, r3⟩ := (unhide HE6).res
      obtain ⟨t0, t1, t2, t3⟩ := (unhide HE6).box
      obtain ⟨u0, u1, u2, u3⟩ := (unhide HD).2.2
      go_wp2_with fail
      exact bodyPost_ret (v := .agg #[.int .i64 vp, .int .i64 y]) (by simp [results, Try.results33, go_sem, u0, u1]) rfl ⟨_, _, rfl, (unhide HD).1, (unhide HD).2.1⟩
    · go_wp2_with fail
      refine (Draw.below_any a len cap bc 3 (by omega) (by omega) _ ((unhide HE6).st.alloc _)).mono ?_
      rintro e w7 ⟨q, rfl, q0, q1, s5, o5⟩
      obtain ⟨kq, rfl⟩ : ∃ k : Nat, q = k := ⟨q.toNat, by omega⟩
      have hnq : w6.heap.size ≠ bc := by have h1 := (unhide HE6).gt; have h2 := (unhide HE6).lo; have h3 := (unhide HE6).mid; have h4 := (unhide HE6).lt; omega
      obtain ⟨vq, hvq⟩ := Draw.pick_any #[.int .i64 (-1), .int .i64 99, .int .i64 100] kq (by simp; omega) rfl
      have cellq : w7.cell? ⟨w6.heap.size, kq, none⟩ = some (.int .i64 vq) := (o5.cell (p := ⟨w6.heap.size, kq, none⟩) (by simp) hnq).trans (by rw [cell_of_row _ _ _ _ _ _ (heap_alloc_new w6 _)]; exact hvq)
      have H5 := hide (((unhide HE6).alloc (.cells #[.int .i64 (-1), .int .i64 99, .int .i64 100] 2)).step s5 o5)
      obtain ⟨r0, r1, r2, r3⟩ := (unhide H5).box
      clear s5 o5 hvq
      have HD := hide ((unhide H5).set1 vq).done
      obtain ⟨t0, t1, t2, t3⟩ := (unhide H5).res
      obtain ⟨u0, u1, u2, u3⟩ := (unhide HD).2.2
      go_wp2_with fail
      exact bodyPost_ret (v := .agg #[.int .i64 vp, .int .i64 vq]) (by simp [results, Try.results33, go_sem, u0, u1]) rfl ⟨_, _, rfl, (unhide HD).1, (unhide HD).2.1⟩

end Go.Proofs.Ytekobedbjemdiaa
