/- What the proof rests on, part 6: lists and numbers, how they lie in memory, and contracts of the calls. No condition but those that a theorem names. -/
import Derived.Test.YtmhagllddhjgmaaGreatXa01
import Derived.Test.YtmhagllddhjgmaaGreatXa05
import Derived.Lib.SmallJoins
import Derived.WalkKit
import Derived.ProofKit
import Derived.OpenShut
import Derived.Outline
import Derived.Lib.QuietBelow
import Derived.Maps.AppendAt
import Derived.Deep.QuietTactic
import Derived.BigQuiet
import Derived.Laws.OwnMore
import Derived.OwnWalk
/- Rows of records that are filled, or marked, one after the other: lists alone, and the row that make lays. No condition but those that a theorem names. -/
namespace Go.Proofs.YtmhagllddhjgmaaGreat
open Go.ChangeShapes Go.WideShapes Go.ChangeAt Go.RowKit Go.Sort
set_option linter.unusedVariables false

section
variable {α : Type} {t k : Nat} {enc : α → List Value}
/-- The first j of them, and behind these z. -/
def fillL (xs : List α) (z : α) (j : Nat) : List α := xs.take j ++ List.replicate (xs.length - j) z
theorem fillL_len {xs : List α} {z : α} {j : Nat} (h : j ≤ xs.length) : (fillL xs z j).length = xs.length := by unfold fillL; simp; omega
theorem fillL_zero (xs : List α) (z : α) : fillL xs z 0 = List.replicate xs.length z := by unfold fillL; simp
theorem fillL_all (xs : List α) (z : α) : fillL xs z xs.length = xs := by unfold fillL; simp
theorem fillL_set [Inhabited α] {xs : List α} {z : α} {j : Nat} (h : j < xs.length) : (fillL xs z j).set j (recAt xs j) = fillL xs z (j + 1) := by
  unfold fillL
  have hl : (xs.take j).length = j := by simp; omega
  rw [List.set_append_right _ _ (by rw [hl]; exact Nat.le_refl _), hl, Nat.sub_self, recAt_get h, List.take_succ_eq_append_getElem h, List.append_assoc]
  congr 1
  obtain ⟨m, hm⟩ : ∃ m, xs.length - j = m + 1 := ⟨xs.length - j - 1, by omega⟩
  rw [hm, List.replicate_succ, List.set_cons_zero, show xs.length - (j + 1) = m by omega]
  rfl
/-- n marks from c on, each d greater than the one ahead. -/
def markL (mk : Int → α) (d : Nat) (c : Int) (n : Nat) : List α := (List.range n).map fun i : Nat => mk (c + (d : Int) * (i : Int))
theorem markL_len (mk : Int → α) (d : Nat) (c : Int) (n : Nat) : (markL mk d c n).length = n := by simp [markL]
/-- The first j of them are marked. -/
def markedL (mk : Int → α) (d : Nat) (c : Int) (xs : List α) (j : Nat) : List α := markL mk d c j ++ xs.drop j
theorem markedL_len {mk : Int → α} {d : Nat} {c : Int} {xs : List α} {j : Nat} (h : j ≤ xs.length) : (markedL mk d c xs j).length = xs.length := by unfold markedL; simp [markL_len]; omega
theorem markedL_zero (mk : Int → α) (d : Nat) (c : Int) (xs : List α) : markedL mk d c xs 0 = xs := by unfold markedL markL; simp
theorem markedL_all (mk : Int → α) (d : Nat) (c : Int) (xs : List α) : markedL mk d c xs xs.length = markL mk d c xs.length := by unfold markedL; simp
theorem markedL_set {mk : Int → α} {d : Nat} {c : Int} {xs : List α} {j : Nat} (h : j < xs.length) : (markedL mk d c xs j).set j (mk (c + (d : Int) * (j : Int))) = markedL mk d c xs (j + 1) := by
  unfold markedL
  rw [List.set_append_right _ _ (by rw [markL_len]; exact Nat.le_refl _), markL_len, Nat.sub_self, List.drop_eq_getElem_cons h, List.set_cons_zero]
  simp [markL, List.range_succ]
/-- The row that make lays. -/
theorem made_flat [Inhabited α] (hk : ∀ x, (enc x).length = k) (h0 : 0 < k) (z : α) (zs : Array Value) (hz : zs.toList = enc z) (n : Nat) : (madeCells zs (n * k)).toList = flat enc (List.replicate n z) := by
  have hs : zs.size = k := by rw [← Array.length_toList, hz, hk]
  apply List.ext_getElem?
  intro m
  by_cases hm : m < n * k
  · have hd : m / k < n := (Nat.div_lt_iff_lt_mul h0).2 hm
    have hr : m % k < k := Nat.mod_lt _ h0
    have he : m = m / k * k + m % k := by rw [Nat.mul_comm]; exact (Nat.div_add_mod m k).symm
    have hg := flat_get hk (List.replicate n z) (m / k) (by simpa using hd) (m % k) hr
    rw [← he] at hg
    have hrec : recAt (List.replicate n z) (m / k) = z := by unfold recAt; simp [List.getD, hd]
    rw [hg, hrec, ← hz]
    simp [madeCells, hm, hs, hr]
  · rw [List.getElem?_eq_none (by simp [madeCells]; omega), List.getElem?_eq_none (by rw [flat_len hk]; simp; omega)]
end

end Go.Proofs.YtmhagllddhjgmaaGreat

/- Lists of records (Guild): what they read as, and contracts of the laws' own helpers over them: how many, copies in memory of their own, that two that read alike are alike. Conditions: the slices can be read; what is copied is no longer than 2^20. -/
namespace Go.Proofs.YtmhagllddhjgmaaGreat
open Go.ChangeShapes Go.WideShapes Go.ChangeAt Go.RowKit Go.Sort
set_option linter.unusedVariables false

abbrev GuildV := Int × Int × Int
def encGuild (p : GuildV) : List Value := [.int .i64 p.1, .int .i64 p.2.1, .int .i64 p.2.2]
theorem encGuild_len (p : GuildV) : (encGuild p).length = 3 := rfl
abbrev IsGuilds (w : World) (v : Value) (ps : List GuildV) : Prop := IsRec 3 encGuild w v ps
abbrev GuildsAt (n₀ : Nat) (w : World) (v : Value) (ps : List GuildV) : Prop := RecAt 91 3 encGuild n₀ w v ps
theorem infoGuild : (Tryz.prog.info? 91).map (fun i => (i.zero, i.size, i.bytes)) = some (some (.agg #[.int .i64 0, .int .i64 0, .int .i64 0]), 3, 24) := by kernel_rfl
theorem GuildsAt.list {n₀ : Nat} {w : World} {v : Value} {ps : List GuildV} (h : GuildsAt n₀ w v ps) : IsGuilds w v ps := RecAt.recs encGuild_len (by omega) h
theorem guild_cells {w : World} {b off : Nat} {ps : List GuildV} (h : ∀ j, j < ps.length → ∀ i u, (encGuild (recAt ps j))[i]? = some u → w.cell? ⟨b, off + j * 3 + i, none⟩ = some u) {j : Nat} (hj : j < ps.length) :
    w.cell? ⟨b, off + j * 3, none⟩ = some (.int .i64 (recAt ps j).1) ∧ w.cell? ⟨b, off + j * 3 + 1, none⟩ = some (.int .i64 (recAt ps j).2.1) ∧ w.cell? ⟨b, off + j * 3 + 2, none⟩ = some (.int .i64 (recAt ps j).2.2) :=
  ⟨h j hj 0 _ rfl, h j hj 1 _ rfl, h j hj 2 _ rfl⟩

theorem szGuildS_any (a : Option Addr) (n cap : Nat) (left : Int) (hn : n ≤ 9223372036854775807) (h0 : 0 ≤ left) (h1 : left ≤ 1048576) (w : World) :
    Calls Tryz.prog 73 #[.slice a n cap, .int .i64 left] w fun e w' => e = .returned (.int .i64 (szV n left)) ∧ w' = w := by
  by_cases h : left - n < 0
  all_goals
    go_enter Tryz.func73, Tryz.ntmps73
    go_wp2
    go_ret
    exact ⟨ret_int (by first | exact (szV_f (by omega)).symm | exact (szV_t (by omega)).symm), rfl⟩

set_option maxHeartbeats 2000000 in
theorem eqGuild_yes (x0 : Int) (x1 : Int) (x2 : Int) (w : World) :
    Calls Tryz.prog 129 #[.agg #[.int .i64 x0, .int .i64 x1, .int .i64 x2], .agg #[.int .i64 x0, .int .i64 x1, .int .i64 x2]] w fun e w' => e = .returned (.bool true) ∧ Below w.heap.size w w' := by
  go_enter Tryz.func129, Tryz.ntmps129
  go_wp2_with fail
  go_ret
  exact ⟨rfl, ((Below.refl _ _).alloc (Nat.le_refl _) _).alloc (by simp) _⟩

set_option maxHeartbeats 4000000 in
theorem eqGuildS_yes {w : World} {v u : Value} {ps : List GuildV} (hv : IsGuilds w v ps) (hu : IsGuilds w u ps) :
    Calls Tryz.prog 83 #[v, u] w fun e w' => e = .returned (.bool true) ∧ Below w.heap.size w w' := by
  obtain ⟨a, cap, rfl, hc, hm, hr⟩ := hv
  obtain ⟨a', cap', rfl, hc', hm', hr'⟩ := hu
  have Hr := hide hr
  have Hr' := hide hr'
  clear hr hr'
  go_enter Tryz.func83, Tryz.ntmps83
  go_wp2_with fail
  go_loopw [5] (fun i wr => ∃ k : Nat, k ≤ ps.length ∧ i = .int .i64 k ∧ Below w.heap.size w wr) (fun i _ => ps.length - (intOf i).toNat)
  case atStart => exact ⟨0, Nat.zero_le _, rfl, Below.refl _ _⟩
  case round =>
    obtain ⟨k, hk, rfl, hb⟩ := hrel
    have Hb := hide hb
    by_cases hlt : k < ps.length
    · rcases unhide Hr with h0 | ⟨b, off, rfl, hbw, hcl⟩
      · rw [h0] at hlt; simp at hlt
      rcases unhide Hr' with h0 | ⟨b', off', rfl, hbw', hcl'⟩
      · rw [h0] at hlt; simp at hlt
      obtain ⟨c0, c1, c2⟩ := guild_cells hcl hlt
      obtain ⟨d0, d1, d2⟩ := guild_cells hcl' hlt
      generalize recAt ps k = p at *
      obtain ⟨x0, x1, x2⟩ := p
      simp only at c0 c1 c2 d0 d1 d2
      have k0 := cell_regrown ((hb.cell (p := ⟨b, off + k * 3, none⟩) hbw).trans c0)
      have m0 := cell_regrown ((hb.cell (p := ⟨b', off' + k * 3, none⟩) hbw').trans d0)
      have k1 := cell_regrown ((hb.cell (p := ⟨b, off + k * 3 + 1, none⟩) hbw).trans c1)
      have m1 := cell_regrown ((hb.cell (p := ⟨b', off' + k * 3 + 1, none⟩) hbw').trans d1)
      have k2 := cell_regrown ((hb.cell (p := ⟨b, off + k * 3 + 2, none⟩) hbw).trans c2)
      have m2 := cell_regrown ((hb.cell (p := ⟨b', off' + k * 3 + 2, none⟩) hbw').trans d2)
      clear hcl hcl' hb c0 c1 c2 d0 d1 d2
      go_wp2_with fail
      refine wp_region_quiet_below (by kernel_rfl) (by kernel_rfl) ?_
      repeat (go_big_quiet_step (exact Calls.regrown_of (eqGuild_yes _ _ _ _)))
      refine wpQuiet_nil ?_
      intro _ hw'
      obtain ⟨⟨dq, osq⟩, hw''⟩ := hw'
      subst hw''
      go_wp2_with fail
      go_roundw
      case rel => exact ⟨k + 1, by omega, by go_num, (unhide Hb).trans ((below_regrown _ _ _).mono (unhide Hb).size)⟩
      case measure => simp [intOf]; omega
    · go_wp2_with fail
      go_ret
      exact ⟨rfl, hb⟩

set_option maxHeartbeats 1000000 in
theorem toGuild_any (x0 : Int) (x1 : Int) (x2 : Int) (w : World) :
    Calls Tryz.prog 125 #[.agg #[.int .i64 x0, .int .i64 x1, .int .i64 x2]] w fun e w' => e = .returned (.agg #[.int .i64 x0, .int .i64 x1, .int .i64 x2]) ∧ Below w.heap.size w w' := by
  go_enter Tryz.func125, Tryz.ntmps125
  go_wp2_with fail
  exact bodyPost_ret (v := .agg #[.int .i64 x0, .int .i64 x1, .int .i64 x2]) (by simp [results, Tryz.results125, go_sem]) rfl ⟨rfl, (((Below.refl _ _).alloc (Nat.le_refl _) _).alloc (by simp) _).alloc (by simp; omega) _⟩

set_option maxRecDepth 100000 in
set_option maxHeartbeats 4000000 in
theorem toGuildS_any {w : World} {v : Value} {ps : List GuildV} (h : IsGuilds w v ps) (hs : ps.length ≤ 1048576) :
    Calls Tryz.prog 78 #[v] w fun e w' => ∃ v', e = .returned v' ∧ GuildsAt w.heap.size w' v' ps ∧ Below w.heap.size w w' := by
  obtain ⟨a, cap, rfl, hc, hm, hr⟩ := h
  have Hr := hide hr
  clear hr
  obtain ⟨i0, hi, hz0, hz1, hz2⟩ := info_parts infoGuild
  go_enter Tryz.func78, Tryz.ntmps78
  go_wp2_with (at_make; refine wpList_make_full _ rfl _ _ 27 rfl w.heap.size 91 i0 (.agg #[.int .i64 0, .int .i64 0, .int .i64 0]) 3 Tryz.underlying27 hi hz0 hz1 _ _ _ _ ps.length rfl rfl rfl rfl (by rw [hz2]; omega) (by unfold maxLen; omega) (Nat.le_refl _) ?_; intro w0 hown hgrow)
  have Hown : Hid (GuildsAt w.heap.size w0 (.slice (some ⟨w.heap.size, 0, none⟩) ps.length ps.length) (fillL ps (0, 0, 0) 0)) := hide (by
    rw [made_flat encGuild_len (by omega) (0, 0, 0) (Value.agg #[.int .i64 0, .int .i64 0, .int .i64 0]).cells rfl ps.length] at hown
    rw [fillL_zero]
    show w0.ownsRow _ _ _ _ (List.replicate ps.length _).length _
    rw [List.length_replicate]
    exact hown)
  have Hgr := hide hgrow
  clear hown hgrow
  go_loopw [4] (fun i wr => ∃ k : Nat, k ≤ ps.length ∧ i = .int .i64 k ∧ GuildsAt w.heap.size wr (.slice (some ⟨w.heap.size, 0, none⟩) ps.length ps.length) (fillL ps (0, 0, 0) k) ∧ Below w.heap.size w wr) (fun i _ => ps.length - (intOf i).toNat)
  case atStart => exact ⟨0, Nat.zero_le _, rfl, unhide Hown, (Below.refl _ _).grown (unhide Hgr) (Nat.le_refl _) (fun k e => by cases e)⟩
  case round =>
    obtain ⟨k, hk, rfl, hown, hb⟩ := hrel
    have Hb := hide hb
    by_cases hlt : k < ps.length
    · rcases unhide Hr with h0 | ⟨b, off, rfl, hbw, hcl⟩
      · rw [h0] at hlt; simp at hlt
      obtain ⟨c0, c1, c2⟩ := guild_cells hcl hlt
      rw [← hb.cell (p := ⟨b, off + k * 3, none⟩) hbw] at c0
      rw [← hb.cell (p := ⟨b, off + k * 3 + 1, none⟩) hbw] at c1
      rw [← hb.cell (p := ⟨b, off + k * 3 + 2, none⟩) hbw] at c2
      have Ho := hide hown
      have HS := hide (fillL_set (z := ((0, 0, 0) : GuildV)) hlt)
      generalize hp : recAt ps k = p at *
      obtain ⟨x0, x1, x2⟩ := p
      simp only at c0 c1 c2
      clear hcl hb hown hp
      go_wp2_with fail
      refine (toGuild_any _ _ _ _).mono ?_
      rintro e w1 ⟨rfl, hb1⟩
      have ho1 := RecAt.later (unhide Ho) hb1
      have hfl := fillL_len (z := ((0, 0, 0) : GuildV)) hk
      obtain ⟨g, hg, _, _, hcells, hfz⟩ := RecAt.view encGuild_len (by omega) ho1 hfl.symm (by omega)
      cases hg
      have hq := fun i u hu => hcells k (by omega) i u hu
      generalize recAt (fillL ps (0, 0, 0) k) k = old at hq
      have o0 := hq 0 _ rfl
      have f0 := hfz (k * 3)
      have o1 := hq 1 _ rfl
      have f1 := hfz (k * 3 + 1)
      have o2 := hq 2 _ rfl
      have f2 := hfz (k * 3 + 2)
      simp only [Nat.add_zero] at o0
      have Hp2 := hide (RecAt.put encGuild_len (by omega) ho1 hfl.symm (j := k) (by omega) (x0, x1, x2))
      have Hb1 := hide hb1
      have hsz := hb1.size
      have hsz0 := (unhide Hb).size
      clear ho1 hb1 hcells hq hfz hfl
      go_wp2_with fail
      go_roundw
      case rel => exact ⟨k + 1, by omega, by go_num, by have h9 := (unhide Hp2).1; rw [unhide HS] at h9; exact h9, ((unhide Hb).trans ((unhide Hb1).mono hsz0)).trans (below_grown (unhide Hp2).2 (Nat.le_refl _) (by omega))⟩
      case measure => simp [intOf]; omega
    · obtain rfl : k = ps.length := by omega
      rw [fillL_all] at hown
      go_wp2_with fail
      go_ret
      exact ⟨_, rfl, hown, hb⟩

end Go.Proofs.YtmhagllddhjgmaaGreat

