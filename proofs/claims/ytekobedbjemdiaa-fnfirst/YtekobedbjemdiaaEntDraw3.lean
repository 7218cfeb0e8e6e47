/- Contracts of the draws of chapter 6's arguments: queues that can be read, entries and numbers; no memory that was there is written. Condition: the bytes of the draw can be read and are at most 4096. -/
import Derived.Test.YtekobedbjemdiaaEntDraw2
import Derived.Deep.RegionWith
namespace Go.Proofs.Ytekobedbjemdiaa
open Go.ChangeShapes Go.WideShapes Go.ChangeAt Go.RowKit Go.Sort
open Draw (St Off Row Cur)
set_option linter.unusedVariables false

theorem drawQueueOk_any (a : Option Addr) (len cap : Nat) (w : World) (hr : Row w.heap.size w a len) :
    Calls Try.prog 46 #[.slice a len cap] w fun e w' => ∃ v ps, e = .returned v ∧ EntsAt w.heap.size w' v ps ∧ ps.length ≤ 200 ∧ Below w.heap.size w w' := by
  have Hr := hide hr
  clear hr
  go_enter Try.func46, Try.ntmps46
  go_wp2_with fail
  refine (Draw.new_any a len cap _ (unhide Hr)).mono ?_
  rintro e w1 ⟨rfl, s1, o1⟩
  have Hs1 := hide s1
  have Ho1 := hide o1
  clear s1 o1
  go_wp2_with fail
  refine (l6Draw_any a len cap w.heap.size _ (unhide Hs1)).mono ?_
  rintro e w2 ⟨v, ps, rfl, hl, hq⟩
  obtain ⟨va, vcap, rfl⟩ := hq.row.shape
  have HQ := hide hq
  clear hq
  go_wp2_with fail
  go_ret
  exact ⟨_, ps, rfl, (unhide HQ).row.mono (unhide Ho1).size, hl, ((unhide Ho1).trans (unhide HQ).off).below (Nat.le_refl _) (Nat.le_refl _)⟩

theorem drawFirstIn_any (a : Option Addr) (len cap : Nat) (w : World) (hr : Row w.heap.size w a len) :
    Calls Try.prog 22 #[.slice a len cap] w fun e w' => ∃ v ps, e = .returned v ∧ EntsAt w.heap.size w' v ps ∧ ps.length ≤ 200 ∧ Below w.heap.size w w' := by
  have Hr := hide hr
  clear hr
  go_enter Try.func22, Try.ntmps22
  go_wp2_with fail
  refine (drawQueueOk_any a len cap _ (unhide Hr)).mono ?_
  rintro e w1 ⟨v, ps, rfl, hq, hl, hb⟩
  obtain ⟨va, vcap, rfl⟩ := hq.shape
  have HQ := hide hq
  have HB := hide hb
  clear hq hb
  go_wp2_with fail
  go_ret
  exact ⟨_, ps, rfl, unhide HQ, hl, unhide HB⟩

theorem drawUnqueued_any (a : Option Addr) (len cap : Nat) (w : World) (hr : Row w.heap.size w a len) :
    Calls Try.prog 12 #[.slice a len cap] w fun e w' => ∃ v ps who, e = .returned (.tuple #[v, .int .i64 who]) ∧ EntsAt w.heap.size w' v ps ∧ ps.length ≤ 200 ∧ Below w.heap.size w w' := by
  have Hr := hide hr
  clear hr
  go_enter Try.func12, Try.ntmps12
  go_wp2_with fail
  refine (Draw.new_any a len cap _ (unhide Hr)).mono ?_
  rintro e w1 ⟨rfl, s1, o1⟩
  have Hs1 := hide s1
  have Ho1 := hide o1
  clear s1 o1
  go_wp2_with fail
  refine (l6Draw_any a len cap w.heap.size _ (unhide Hs1)).mono ?_
  rintro e w2 ⟨v, ps, rfl, hl, hq⟩
  obtain ⟨va, vcap, rfl⟩ := hq.row.shape
  have HQ := hide hq
  clear hq
  go_wp2_with fail
  refine (Draw.from_any a len cap w.heap.size (-1) 9 (by omega) (by omega) (by omega) _ (unhide HQ).st).mono ?_
  rintro e w3 ⟨x, rfl, _, _, s3, o3⟩
  have HQ3 := hide ((unhide HQ).step s3 o3)
  clear s3 o3
  go_wp2_with fail
  go_ret2
  exact ⟨_, ps, x, rfl, (unhide HQ3).row.mono (unhide Ho1).size, hl, ((unhide Ho1).trans (unhide HQ3).off).below (Nat.le_refl _) (Nat.le_refl _)⟩

set_option maxRecDepth 100000 in
set_option maxHeartbeats 2000000 in
theorem drawQueued_any (a : Option Addr) (len cap : Nat) (w : World) (hr : Row w.heap.size w a len) :
    Calls Try.prog 10 #[.slice a len cap] w fun e w' => ∃ v ps f z, e = .returned (.tuple #[v, .agg #[.int .i64 f, .int .i64 z]]) ∧ EntsAt w.heap.size w' v ps ∧ ps.length ≤ 200 ∧ Below w.heap.size w w' := by
  have Hr := hide hr
  clear hr
  go_enter Try.func10, Try.ntmps10
  go_wp2_with fail
  obtain ⟨W0, hW⟩ : ∃ W0, W0 = w.alloc (.cells #[.int .i64 0, .int .i64 0] 26) := ⟨_, rfl⟩
  rw [← hW]
  have hs0 : w.heap.size + 1 ≤ W0.heap.size ∧ W0.heap.size ≤ w.heap.size + 1 := by rw [hW]; simp
  have HB0 : Hid (Below w.heap.size w W0) := hide (by rw [hW]; exact (Below.refl _ _).alloc (Nat.le_refl _) _)
  have HR0 : Hid (Res W0 w.heap.size (.int .i64 0) (.int .i64 0)) := hide (by rw [hW]; exact Res.new _ _ _ _)
  clear hW
  refine (Draw.new_any a len cap _ (Draw.row_later (unhide Hr) (unhide HB0))).mono ?_
  rintro e w1 ⟨rfl, s1, o1⟩
  have Hs1 := hide s1
  have Ho1 := hide o1
  have HR1 := hide ((unhide HR0).off o1 (by omega) (by omega))
  have hz1 := o1.size
  clear s1 o1 HR0
  go_wp2_with fail
  refine (l6Draw_any a len cap W0.heap.size _ (unhide Hs1)).mono ?_
  rintro e w2 ⟨v, ps, rfl, hl, hq⟩
  obtain ⟨va, vcap, rfl⟩ := hq.row.shape
  have HR2 := hide ((unhide HR1).off hq.off (by omega) (by omega))
  have hz2 := hq.off.size
  have HQ := hide hq
  clear hq HR1
  go_wp2_with fail
  refine (l6DrawEntry_any a len cap W0.heap.size _ (unhide HQ).st).mono ?_
  rintro e w3 ⟨f, z, rfl, s3, o3⟩
  have HQ3 := hide ((unhide HQ).step s3 o3)
  have HR3 := hide ((unhide HR2).off o3 (by omega) (by omega))
  have hz3 := o3.size
  obtain ⟨r0, r1, r2, r3⟩ := unhide HR3
  have HX : Hid (Below w.heap.size w w3) := hide ((unhide HB0).trans ((((unhide Ho1).trans (unhide HQ3).off).below (B := w.heap.size) (by omega) (by omega))))
  obtain ⟨u0, u1, u2, u3⟩ := ((unhide HR3).set0 (.int .i64 f)).set1 (.int .i64 z)
  clear s3 o3
  go_wp2_with fail
  refine bodyPost_ret (v := .tuple #[.slice va ps.length vcap, .agg #[.int .i64 f, .int .i64 z]]) (by simp [results, Try.results10, go_sem, u0, u1]) rfl ⟨_, ps, f, z, rfl, ?_, hl, ?_⟩
  · exact ((unhide HQ3).row.mono (by omega : w.heap.size + 1 ≤ w1.heap.size)).same (fun k e => by
      have h1 := ((unhide HQ3).row.lt e).1
      rw [Below.heap_setCell _ _ _ _ (by show k ≠ w.heap.size; omega), Below.heap_setCell _ _ _ _ (by show k ≠ w.heap.size; omega)]) |>.mono (by omega)
  · exact ((unhide HX).setCell (by simp) _).setCell (by simp) _

set_option maxRecDepth 100000 in
set_option maxHeartbeats 2000000 in
theorem drawEntryLess_any (a : Option Addr) (len cap : Nat) (w : World) (hr : Row w.heap.size w a len) :
    Calls Try.prog 14 #[.slice a len cap] w fun e w' => ∃ f z f' z', e = .returned (.tuple #[.agg #[.int .i64 f, .int .i64 z], .agg #[.int .i64 f', .int .i64 z']]) ∧ Below w.heap.size w w' := by
  have Hr := hide hr
  clear hr
  go_enter Try.func14, Try.ntmps14
  go_wp2_with fail
  obtain ⟨W0, hW⟩ : ∃ W0, W0 = (w.alloc (.cells #[.int .i64 0, .int .i64 0] 26)).alloc (.cells #[.int .i64 0, .int .i64 0] 26) := ⟨_, rfl⟩
  rw [← hW]
  have hs0 : w.heap.size + 2 ≤ W0.heap.size ∧ W0.heap.size ≤ w.heap.size + 2 := by rw [hW]; simp
  have HB0 : Hid (Below w.heap.size w W0) := hide (by rw [hW]; exact ((Below.refl _ _).alloc (Nat.le_refl _) _).alloc (by simp) _)
  have HR0 : Hid (Res W0 w.heap.size (.int .i64 0) (.int .i64 0)) := hide (by rw [hW]; exact (Res.new _ _ _ _).alloc (by simp) _)
  have HS0 : Hid (Res W0 (w.heap.size + 1) (.int .i64 0) (.int .i64 0)) := hide (by rw [hW]; have := Res.new (w.alloc (.cells #[.int .i64 0, .int .i64 0] 26)) (.int .i64 0) (.int .i64 0) 26; simpa using this)
  clear hW
  refine (Draw.new_any a len cap _ (Draw.row_later (unhide Hr) (unhide HB0))).mono ?_
  rintro e w1 ⟨rfl, s1, o1⟩
  have Hs1 := hide s1
  have Ho1 := hide o1
  have HR1 := hide ((unhide HR0).off o1 (by omega) (by omega))
  have HS1 := hide ((unhide HS0).off o1 (by omega) (by omega))
  have hz1 := o1.size
  clear s1 o1 HR0 HS0
  go_wp2_with fail
  refine (l6DrawEntry_any a len cap W0.heap.size _ (unhide Hs1)).mono ?_
  rintro e w2 ⟨f, z, rfl, s2, o2⟩
  have HR2 := hide ((unhide HR1).off o2 (by omega) (by omega))
  have HS2 := hide ((unhide HS1).off o2 (by omega) (by omega))
  have hz2 := o2.size
  have hb2 := st_lt s2
  have Hs2 := hide s2
  have Ho2 := hide ((unhide Ho1).trans o2)
  clear s2 o2 HR1 HS1 Hs1 Ho1
  go_wp2_with fail
  obtain ⟨W3, hW⟩ : ∃ W3, W3 = w2.alloc (.cells #[.int .i64 f, .int .i64 z] 26) := ⟨_, rfl⟩
  rw [← hW]
  have hs3 : w2.heap.size + 1 ≤ W3.heap.size := by rw [hW]; simp
  have HT3 : Hid (Res W3 w2.heap.size (.int .i64 f) (.int .i64 z)) := hide (by rw [hW]; exact Res.new _ _ _ _)
  have HR3 : Hid (Res W3 w.heap.size (.int .i64 0) (.int .i64 0)) := hide (by rw [hW]; exact (unhide HR2).alloc (by omega) _)
  have HS3 : Hid (Res W3 (w.heap.size + 1) (.int .i64 0) (.int .i64 0)) := hide (by rw [hW]; exact (unhide HS2).alloc (by omega) _)
  have Hs3 : Hid (St a len cap W0.heap.size W3) := hide (by rw [hW]; exact (unhide Hs2).alloc _)
  have Ho3 : Hid (Off W0.heap.size W0 W3) := hide (by rw [hW]; exact (unhide Ho2).alloc _)
  clear hW HR2 HS2 Hs2 Ho2
  obtain ⟨t0, t1, _, _⟩ := unhide HT3
  go_region_with (go_at_call 33; refine (l6DrawEntry_any a len cap W0.heap.size _ ?_).mono ?_; (exact st_drew (unhide Hs3)); rintro e w4 ⟨f', z', rfl, s4, o4⟩; have Ho4 := hide (off_drew o4); have hz4 := (unhide Ho4).size; obtain ⟨r0, r1, r2, r3⟩ := (unhide HR3).off (unhide Ho4) (by omega) (by omega); obtain ⟨q0, q1, q2, q3⟩ := (unhide HS3).off (unhide Ho4) (by omega) (by omega); obtain ⟨p0, p1, _, _⟩ := (unhide HT3).off (unhide Ho4) (by omega) (by omega); clear s4 o4)
  all_goals
    have hX : Below w.heap.size w w4 := (unhide HB0).trans (((unhide Ho3).trans (unhide Ho4)).below (B := w.heap.size) (by omega) (by omega))
    have HX := hide hX
    clear hX
    go_wp2_with fail
    refine bodyPost_ret (v := .tuple #[.agg #[.int .i64 f, .int .i64 z], .agg #[.int .i64 f', .int .i64 z']]) (by simp [results, Try.results14, go_sem, r0, r1, q0, q1]) rfl ⟨f, z, f', z', rfl, ?_⟩
    exact ((((unhide HX).setCell (by simp) _).setCell (by simp) _).setCell (by simp) _).setCell (by simp) _

end Go.Proofs.Ytekobedbjemdiaa
