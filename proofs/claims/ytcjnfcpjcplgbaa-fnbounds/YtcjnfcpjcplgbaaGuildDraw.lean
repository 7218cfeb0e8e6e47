/- Contracts of the draws of guilds: each returns a list of at most four guilds in memory of its own, and of the memory that was there writes the cursor's block alone. Condition: the bytes of the draw can be read and are at most 4096. -/
import Derived.Test.YtcjnfcpjcplgbaaDrawKit
import Derived.Test.YtcjnfcpjcplgbaaDraw1
import Derived.Test.YtcjnfcpjcplgbaaRecApp
import Derived.Test.YtcjnfcpjcplgbaaGuildMath
namespace Go.Proofs.Ytcjnfcpjcplgbaa
open Go.ChangeShapes Go.WideShapes Go.ChangeAt Go.RowKit Go.Sort
open Draw (St Off Row Cur)
set_option linter.unusedVariables false

theorem tyGuild : RecTy 34 3 (.agg #[.int .i64 0, .int .i64 0, .int .i64 0]) encGuild :=
  ⟨infoGuild, rfl, encGuild_len, by omega, by omega, fun x u hu => by
    unfold encGuild at hu
    simp only [List.mem_cons, List.not_mem_nil, or_false] at hu
    rcases hu with rfl | rfl | rfl <;> rfl⟩
theorem guilds_one {w : World} (x0 x1 x2 : Int) {g c : Nat} (hg : g = w.heap.size) (hc : 1 ≤ c) (hc2 : c ≤ 4000) : IsGuilds (w.alloc (.cells #[.int .i64 x0, .int .i64 x1, .int .i64 x2] 34)) (.slice (some ⟨g, 0, none⟩) 1 c) [(x0, x1, x2)] :=
  recs_one (e := 34) (enc := encGuild) (x0, x1, x2) hg hc hc2
/-- A row of the call's own stays where the cursor alone moves. -/
theorem RecAt.away {α : Type} {t k : Nat} {enc : α → List Value} {n₀ bc : Nat} {w w' : World} {v : Value} {xs : List α} (h : RecAt t k enc n₀ w v xs) (ho : Off bc w w') (hb : bc < n₀) : RecAt t k enc n₀ w' v xs :=
  h.same fun i hi => ho.block i (h.lt hi).2 (by have := (h.lt hi).1; omega)
/-- What is carried along between the draws: the cursor, and a list of guilds of the call's own. -/
structure Gbox (a : Option Addr) (len cap bc : Nat) (w0 w : World) (v : Value) (ps : List GuildV) : Prop where
  st : St a len cap bc w
  off : Off bc w0 w
  gt : bc < w0.heap.size
  row : GuildsAt w0.heap.size w v ps
section
variable {a : Option Addr} {len cap bc : Nat} {w0 w w' : World} {v : Value} {ps : List GuildV}
theorem Gbox.step (h : Gbox a len cap bc w0 w v ps) (hs : St a len cap bc w') (ho : Off bc w w') : Gbox a len cap bc w0 w' v ps := ⟨hs, h.off.trans ho, h.gt, RecAt.away h.row ho h.gt⟩
theorem Gbox.alloc (h : Gbox a len cap bc w0 w v ps) (o : Obj) : Gbox a len cap bc w0 (w.alloc o) v ps := h.step (h.st.alloc _) ((Off.refl _ _).alloc _)
theorem Gbox.grown (h : Gbox a len cap bc w0 w v ps) {v' : Value} {qs : List GuildV} (hg : w.grownBy w' v.ownBlock) (hr : GuildsAt w0.heap.size w' v' qs) : Gbox a len cap bc w0 w' v' qs := by
  have hk : ∀ k, v.ownBlock = some k → w0.heap.size ≤ k := fun k e => (RecAt.lt h.row e).1
  have h1 := h.gt
  have h2 := h.off.size
  have hb : Below w0.heap.size w w' := (Below.refl _ _).grown hg h2 hk
  exact ⟨st_below h.st (hb.mono (by omega)), off_below h.off hb, h.gt, hr⟩
end

set_option maxRecDepth 100000 in
set_option maxHeartbeats 4000000 in
theorem l8Draw_any (a : Option Addr) (len cap bc : Nat) (w : World) (hs : St a len cap bc w) :
    Calls Try.prog 34 #[.pointer (some ⟨bc, 0, none⟩)] w fun e w' => ∃ v ps, e = .returned v ∧ ps.length ≤ 4 ∧ Gbox a len cap bc w w' v ps := by
  have Hs := hide hs
  have hbc := st_lt hs
  clear hs
  go_enter Try.func34, Try.ntmps34
  go_wp2_with fail
  have HE : Hid (GuildsAt w.heap.size (w.alloc (.cells #[] 34)) (.slice (some ⟨w.heap.size, 0, none⟩) 0 0) []) := hide (recs_empty rfl (Nat.le_refl _))
  refine (Draw.below_any a len cap bc 5 (by omega) (by omega) _ ((unhide Hs).alloc _)).mono ?_
  rintro e w1 ⟨n, rfl, n0, n1, s1, o1⟩
  have HG1 : Hid (Gbox a len cap bc w w1 (.slice (some ⟨w.heap.size, 0, none⟩) 0 0) []) := hide (Gbox.step ⟨(unhide Hs).alloc _, (Off.refl _ _).alloc _, hbc, unhide HE⟩ s1 o1)
  clear s1 o1 HE
  go_wp2_with fail
  go_loopw [3, 4] (fun s i wr => ∃ (k : Nat) (ps : List GuildV), ps.length + k ≤ 4 ∧ i = .int .i64 k ∧ Gbox a len cap bc w wr s ps) (fun _ i _ => (intOf i).toNat)
  case atStart => exact ⟨n.toNat, [], by simp; omega, by rw [show ((n.toNat : Nat) : Int) = n by omega], unhide HG1⟩
  case round =>
    obtain ⟨k, ps, hk, rfl, hG⟩ := hrel
    obtain ⟨ra, rcap, rfl⟩ := RecAt.shape hG.row
    have HG := hide hG
    clear hG
    by_cases hk0 : 0 < k
    · go_wp2_with fail
      refine (Draw.below_any a len cap bc 600 (by omega) (by omega) _ (unhide HG).st).mono ?_
      rintro e w2 ⟨low, rfl, l0, l1, s2, o2⟩
      have HG2 := hide ((unhide HG).step s2 o2)
      clear s2 o2 HG
      go_wp2_with fail
      refine (Draw.below_any a len cap bc _ (by omega) (by omega) _ (unhide HG2).st).mono ?_
      rintro e w3 ⟨ab, rfl, a0, a1, s3, o3⟩
      have HG3 := hide ((unhide HG2).step s3 o3)
      clear s3 o3 HG2
      go_wp2_with fail
      refine (Draw.from_any a len cap bc low 1024 (by omega) (by omega) (by omega) _ (unhide HG3).st).mono ?_
      rintro e w4 ⟨hi, rfl, h0, h1, s4, o4⟩
      have HG4 := hide ((unhide HG3).step s4 o4)
      have hsz := (unhide HG4).off.size
      clear s4 o4 HG3
      go_wp2_with (at_builtin; refine wpList_append_recs tyGuild rfl (.tmp 15) (.tmp 27) 24 Try.underlying24 rfl w.heap.size _ _ ps [(ab - 1, low, hi)] rfl rfl ((unhide HG4).alloc _).row (guilds_one _ _ _ rfl (Nat.le_refl _) (by omega)) (by simp; omega) (by simp; omega) ?_; intro v' w5 hown hgrow hat)
      have HG5 := hide (((unhide HG4).alloc _).grown hgrow hown)
      clear hown hgrow hat
      go_wp2_with fail
      go_roundw
      case rel => exact ⟨k - 1, ps ++ [(ab - 1, low, hi)], by simp; omega, by rw [show ((k : Int) - 1) = ((k - 1 : Nat) : Int) by omega], unhide HG5⟩
      case measure => simp [intOf]; omega
    · obtain rfl : k = 0 := by omega
      go_wp2_with fail
      go_ret
      exact ⟨_, ps, rfl, by omega, unhide HG⟩

end Go.Proofs.Ytcjnfcpjcplgbaa
