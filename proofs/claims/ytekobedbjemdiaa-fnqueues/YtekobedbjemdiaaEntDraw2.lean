/- Contract of the draw of a queue: it lies in memory of the call's own, and of the memory that was there the cursor's block alone is written. Condition: the bytes of the draw can be read and are at most 4096. -/
import Derived.Test.YtekobedbjemdiaaEntDraw
import Derived.Test.YtekobedbjemdiaaEntLen
namespace Go.Proofs.Ytekobedbjemdiaa
open Go.ChangeShapes Go.WideShapes Go.ChangeAt Go.RowKit Go.Sort
open Draw (St Off Row Cur)
set_option linter.unusedVariables false

/-- What is carried along: a queue of the call's own, the cursor. -/
structure Qbox (a : Option Addr) (len cap bc : Nat) (w0 w : World) (v : Value) (ps : List PaceV) : Prop where
  row : EntsAt w0.heap.size w v ps
  st : St a len cap bc w
  off : Off bc w0 w
  gt : bc < w0.heap.size
section
variable {a : Option Addr} {len cap bc : Nat} {w0 w w' : World} {v : Value} {ps : List PaceV}
theorem Qbox.step (h : Qbox a len cap bc w0 w v ps) (hs : St a len cap bc w') (ho : Off bc w w') : Qbox a len cap bc w0 w' v ps :=
  ⟨h.row.away ho h.gt, hs, h.off.trans ho, h.gt⟩
theorem Qbox.later (h : Qbox a len cap bc w0 w v ps) (hb : Below w.heap.size w w') : Qbox a len cap bc w0 w' v ps :=
  ⟨h.row.later hb, st_below h.st (hb.mono (st_lt h.st)), off_below h.off (hb.mono h.off.size), h.gt⟩
theorem Qbox.alloc (h : Qbox a len cap bc w0 w v ps) (o : Obj) : Qbox a len cap bc w0 (w.alloc o) v ps := h.later ((Below.refl _ _).alloc (Nat.le_refl _) _)
theorem Qbox.new (h : Qbox a len cap bc w0 w v ps) {v' : Value} {qs : List PaceV} (hb : Below w.heap.size w w') (hr : EntsAt w.heap.size w' v' qs) : Qbox a len cap bc w0 w' v' qs :=
  ⟨hr.mono h.off.size, (h.later hb).st, (h.later hb).off, h.gt⟩
theorem Qbox.grow (h : Qbox a len cap bc w0 w v ps) {v' : Value} {qs : List PaceV} (hr : EntsAt w0.heap.size w' v' qs) (hg : w.grownBy w' v.ownBlock) : Qbox a len cap bc w0 w' v' qs := by
  have hb : Below w0.heap.size w w' := (Below.refl _ _).grown hg h.off.size (fun k e => (h.row.lt e).1)
  exact ⟨hr, st_below h.st (hb.mono h.gt), off_below h.off hb, h.gt⟩
end

set_option maxRecDepth 100000 in
set_option maxHeartbeats 8000000 in
theorem l6Draw_any (a : Option Addr) (len cap bc : Nat) (w : World) (hs : St a len cap bc w) :
    Calls Try.prog 32 #[.pointer (some ⟨bc, 0, none⟩)] w fun e w' => ∃ v ps, e = .returned v ∧ ps.length ≤ 200 ∧ Qbox a len cap bc w w' v ps := by
  have Hs := hide hs
  have hbc := st_lt hs
  clear hs
  go_enter Try.func32, Try.ntmps32
  go_wp2_with fail
  refine (Draw.below_any a len cap bc 8 (by omega) (by omega) _ ((unhide Hs).alloc _)).mono ?_
  rintro e w1 ⟨n, rfl, n0, n1, s1, o1⟩
  have HQ1 : Hid (Qbox a len cap bc w w1 (.slice (some ⟨w.heap.size, 0, none⟩) 0 0) []) := hide ((Qbox.mk (ents_empty rfl (Nat.le_refl _)) ((unhide Hs).alloc _) ((Off.refl _ _).alloc _) hbc).step s1 o1)
  obtain ⟨kn, rfl⟩ : ∃ k : Nat, n = k := ⟨n.toNat, by omega⟩
  clear s1 o1 Hs
  go_wp2_with fail
  go_loopw [3, 4] (fun q m wr => ∃ (k : Nat) (ps : List PaceV), m = .int .i64 k ∧ k < 8 ∧ ps.length ≤ 101 ∧ Qbox a len cap bc w wr q ps) (fun _ m _ => (intOf m).toNat)
  case atStart => exact ⟨kn, [], rfl, by omega, by simp, unhide HQ1⟩
  case round =>
    obtain ⟨k, ps, rfl, hk8, hpl, hq⟩ := hrel
    obtain ⟨qa, qcap, rfl⟩ := hq.row.shape
    have HQ := hide hq
    clear hq HQ1
    by_cases hk : 0 < k
    · have hki : (0 : Int) < (k : Int) := by omega
      go_wp2_with fail
      refine (Draw.below_any a len cap bc 9 (by omega) (by omega) _ (unhide HQ).st).mono ?_
      rintro e w2 ⟨x, rfl, x0, x1, s2, o2⟩
      have HQ2 := hide ((unhide HQ).step s2 o2)
      clear s2 o2 HQ
      go_wp2_with fail
      refine (Draw.below_any a len cap bc 9 (by omega) (by omega) _ (unhide HQ2).st).mono ?_
      rintro e w3 ⟨y, rfl, y0, y1, s3, o3⟩
      have HQ3 := hide ((unhide HQ2).step s3 o3)
      clear s3 o3 HQ2
      go_wp2_with fail
      refine (specQueued_any (x - 2) y (unhide HQ3).row.paces).mono ?_
      obtain ⟨L, b, hR⟩ : ∃ L b, queuedV ps (x - 2, y) = (L, b) := ⟨_, _, rfl⟩
      have hL : L.length ≤ 101 := by have := queuedV_len ps (x - 2, y); rw [hR] at this; exact this
      rw [hR]
      rintro e w4 ⟨⟨u, rfl, hu⟩, hb4⟩
      simp only at hu
      have HQ4 := hide ((unhide HQ3).later hb4)
      have HN4 := hide ((unhide HQ3).new hb4 hu)
      obtain ⟨ua, ucap, rfl⟩ := hu.shape
      clear hu hb4 HQ3 hR
      have hkm : (k : Int) - 1 = ((k - 1 : Nat) : Int) := by omega
      cases b
      · go_wp2_with fail
        go_roundw
        case rel => exact ⟨k - 1, ps, by rw [← hkm], by omega, hpl, unhide HQ4⟩
        case measure => simp [intOf]; omega
      · go_wp2_with fail
        go_roundw
        case rel => exact ⟨k - 1, L, by rw [← hkm], by omega, hL, unhide HN4⟩
        case measure => simp [intOf]; omega
    · obtain rfl : k = 0 := by omega
      go_wp2_with fail
      refine (Draw.once_any a len cap bc 10 (by omega) (by omega) _ (unhide HQ).st).mono ?_
      rintro e w5 ⟨b, rfl, s5, o5⟩
      have HQ5 := hide ((unhide HQ).step s5 o5)
      clear s5 o5 HQ
      cases b
      · go_wp2_with fail
        refine (Draw.once_any a len cap bc 40 (by omega) (by omega) _ (unhide HQ5).st).mono ?_
        rintro e w8 ⟨b, rfl, s8, o8⟩
        have HQ8 := hide ((unhide HQ5).step s8 o8)
        clear s8 o8 HQ5
        cases b
        · go_wp2_with fail
          go_ret
          exact ⟨_, ps, rfl, by omega, unhide HQ8⟩
        · have HE : Hid (Qbox a len cap bc w (w8.alloc (.cells #[] 26)) (.slice (some ⟨w8.heap.size, 0, none⟩) 0 0) []) := hide ((unhide HQ8).new ((Below.refl _ _).alloc (Nat.le_refl _) _) (ents_empty rfl (Nat.le_refl _)))
          clear HQ8
          go_wp2_with fail
          go_loopw [3, 7] (fun q m wr => ∃ (k : Nat) (qs : List PaceV), m = .int .i64 k ∧ k ≤ 100 ∧ qs.length = k ∧ Qbox a len cap bc w wr q qs) (fun _ m _ => 100 - (intOf m).toNat)
          case atStart => exact ⟨0, [], rfl, by omega, rfl, unhide HE⟩
          case round =>
            obtain ⟨k, qs, rfl, hk, hql, hq⟩ := hrel
            obtain ⟨qa, qcap, rfl⟩ := hq.row.shape
            have hszr := hq.off.size
            have HQ := hide hq
            clear hq HE
            by_cases hlt : k < 100
            · have hki : (k : Int) < 100 := by omega
              go_wp2_with (at_builtin; refine wpList_append_ents rfl (.tmp 42) (.tmp 46) 24 Try.underlying24 rfl w.heap.size _ _ qs [((k : Int), (k : Int))] rfl rfl ((unhide HQ).alloc _).row (ents_one rfl (Nat.le_refl _) (by omega)) (by simp; omega) (by simp; omega) ?_; intro v9 w9 hown hgrow hat)
              have HQ9 := hide (((unhide HQ).alloc _).grow hown hgrow)
              have hl9 : (qs ++ [((k : Int), (k : Int))]).length = k + 1 := by simp; omega
              clear hown hgrow hat HQ
              go_roundw
              case rel => exact ⟨k + 1, _, by go_num, by omega, hl9, unhide HQ9⟩
              case measure => simp [intOf]; omega
            · go_wp2_with fail
              go_ret
              exact ⟨_, qs, rfl, by omega, unhide HQ⟩
      · go_wp2_with fail
        refine (l6DrawEntry_any a len cap bc _ (unhide HQ5).st).mono ?_
        rintro e w6 ⟨f, z, rfl, s6, o6⟩
        have HQ6 := hide ((unhide HQ5).step s6 o6)
        have hsz6 := (unhide HQ6).off.size
        clear s6 o6 HQ5
        go_wp2_with (at_builtin; refine wpList_append_ents rfl (.tmp 30) (.tmp 33) 24 Try.underlying24 rfl w.heap.size _ _ ps [(f, z)] rfl rfl ((unhide HQ6).alloc _).row (ents_one rfl (Nat.le_refl _) (by omega)) (by simp; omega) (by simp; omega) ?_; intro v7 w7 hown hgrow hat)
        have HQ7 := hide (((unhide HQ6).alloc _).grow hown hgrow)
        have hl7 : (ps ++ [(f, z)]).length ≤ 102 := by simp; omega
        obtain ⟨va, vcap, rfl⟩ := hown.shape
        generalize ps ++ [(f, z)] = ps' at *
        clear hown hgrow hat HQ6
        go_wp2_with fail
        refine (Draw.once_any a len cap bc 40 (by omega) (by omega) _ (unhide HQ7).st).mono ?_
        rintro e w8 ⟨b, rfl, s8, o8⟩
        have HQ8 := hide ((unhide HQ7).step s8 o8)
        clear s8 o8 HQ7
        cases b
        · go_wp2_with fail
          go_ret
          exact ⟨_, ps', rfl, by omega, unhide HQ8⟩
        · have HE : Hid (Qbox a len cap bc w (w8.alloc (.cells #[] 26)) (.slice (some ⟨w8.heap.size, 0, none⟩) 0 0) []) := hide ((unhide HQ8).new ((Below.refl _ _).alloc (Nat.le_refl _) _) (ents_empty rfl (Nat.le_refl _)))
          clear HQ8
          go_wp2_with fail
          go_loopw [3, 7] (fun q m wr => ∃ (k : Nat) (qs : List PaceV), m = .int .i64 k ∧ k ≤ 100 ∧ qs.length = k ∧ Qbox a len cap bc w wr q qs) (fun _ m _ => 100 - (intOf m).toNat)
          case atStart => exact ⟨0, [], rfl, by omega, rfl, unhide HE⟩
          case round =>
            obtain ⟨k, qs, rfl, hk, hql, hq⟩ := hrel
            obtain ⟨qa, qcap, rfl⟩ := hq.row.shape
            have hszr := hq.off.size
            have HQ := hide hq
            clear hq HE
            by_cases hlt : k < 100
            · have hki : (k : Int) < 100 := by omega
              go_wp2_with (at_builtin; refine wpList_append_ents rfl (.tmp 42) (.tmp 46) 24 Try.underlying24 rfl w.heap.size _ _ qs [((k : Int), (k : Int))] rfl rfl ((unhide HQ).alloc _).row (ents_one rfl (Nat.le_refl _) (by omega)) (by simp; omega) (by simp; omega) ?_; intro v9 w9 hown hgrow hat)
              have HQ9 := hide (((unhide HQ).alloc _).grow hown hgrow)
              have hl9 : (qs ++ [((k : Int), (k : Int))]).length = k + 1 := by simp; omega
              clear hown hgrow hat HQ
              go_roundw
              case rel => exact ⟨k + 1, _, by go_num, by omega, hl9, unhide HQ9⟩
              case measure => simp [intOf]; omega
            · go_wp2_with fail
              go_ret
              exact ⟨_, qs, rfl, by omega, unhide HQ⟩

end Go.Proofs.Ytekobedbjemdiaa
