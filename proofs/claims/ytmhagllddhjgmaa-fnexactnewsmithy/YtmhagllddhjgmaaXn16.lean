/- What the proof rests on, part 16: lists and numbers, how they lie in memory, and contracts of the calls. No condition but those that a theorem names. -/
import Derived.Test.YtmhagllddhjgmaaXn01
import Derived.Test.YtmhagllddhjgmaaXn05
import Derived.Test.YtmhagllddhjgmaaXn06
import Derived.Test.YtmhagllddhjgmaaXn09
import Derived.Deep.QuietTactic
import Derived.BigQuiet
import Derived.Laws.OwnMore
import Derived.WalkKit
import Derived.ProofKit
import Derived.OpenShut
import Derived.Outline
import Derived.OwnWalk
import Derived.Lib.QuietBelow
import Derived.Maps.AppendAt
import Derived.Lib.SmallJoins
import Derived.Deep.Fields
import Derived.Deep.Slices
/- Contracts of the laws' own helpers that mark a list of records (Guild) and ask whether it holds its marks. Conditions: those that each theorem names. -/
namespace Go.Proofs.Ytmhagllddhjgmaa
open Go.ChangeShapes Go.WideShapes Go.ChangeAt Go.RowKit Go.Sort
set_option linter.unusedVariables false

def mkGuild (c : Int) : GuildV := (c, c + 1, c + 1 + 1)

set_option maxRecDepth 100000 in
set_option maxHeartbeats 8000000 in
theorem markGuildS_any {n₀ : Nat} {w : World} {v : Value} {ps : List GuildV} (c : Int) (h : GuildsAt n₀ w v ps) (hk0 : 0 ≤ c) (hk1 : c ≤ 1000000000000000) (hl : ps.length ≤ 10000000) :
    Calls Try.prog 27 #[v, .int .i64 c] w fun e w' => e = .returned (.int .i64 (c + 3 * (ps.length : Int))) ∧ GuildsAt n₀ w' v (markL mkGuild 3 c ps.length) ∧ w.grownBy w' v.ownBlock := by
  have Hv := hide h
  obtain ⟨a, cap, rfl⟩ := RecAt.shape h
  clear h
  go_enter Try.func27, Try.ntmps27
  go_wp2_with fail
  go_loopw [5, 1] (fun i q wr => ∃ j : Nat, j ≤ ps.length ∧ i = .int .i64 j ∧ q = .int .i64 (c + 3 * (j : Int)) ∧ GuildsAt n₀ wr (.slice a ps.length cap) (markedL mkGuild 3 c ps j) ∧ w.grownBy wr (Value.ownBlock (.slice a ps.length cap))) (fun i _ _ => ps.length - (intOf i).toNat)
  case atStart => exact ⟨0, Nat.zero_le _, rfl, by simp, by rw [markedL_zero]; exact unhide Hv, grown_refl _ _⟩
  case round =>
    obtain ⟨j, hj, rfl, rfl, hin, hgr⟩ := hrel
    by_cases hlt : j < ps.length
    · have hfl := markedL_len (mk := mkGuild) (d := 3) (c := c) hj
      obtain ⟨g, rfl, _, _, hcells, hfz⟩ := RecAt.view encGuild_len (by omega) hin hfl.symm (by omega)
      have hq := fun i u hu => hcells j (by omega) i u hu
      generalize recAt (markedL mkGuild 3 c ps j) j = old at hq
      have o0 := hq 0 _ rfl
      have f0 := hfz (j * 3)
      have o1 := hq 1 _ rfl
      have f1 := hfz (j * 3 + 1)
      have o2 := hq 2 _ rfl
      have f2 := hfz (j * 3 + 2)
      simp only [Nat.add_zero] at o0
      have hp := RecAt.put encGuild_len (by omega) hin hfl.symm (j := j) (by omega) (mkGuild (c + 3 * (j : Int)))
      have hs9 := markedL_set (mk := mkGuild) (d := 3) (c := c) hlt
      rw [show ((3 : Nat) : Int) = 3 from rfl] at hs9
      have HS := hide hs9
      clear hs9
      have H1 := hide hp.1
      have H2 := hide (grown_trans hgr hp.2)
      clear hin hgr hcells hq hfz hp hfl
      go_wp2_with fail
      go_roundw
      case rel => exact ⟨j + 1, by omega, by go_num, by go_num, by have h9 := unhide H1; rw [unhide HS] at h9; exact h9, unhide H2⟩
      case measure => simp [intOf]; omega
    · obtain rfl : j = ps.length := by omega
      rw [markedL_all] at hin
      go_wp2_with fail
      go_ret
      exact ⟨rfl, hin, hgr⟩

set_option maxRecDepth 100000 in
set_option maxHeartbeats 8000000 in
theorem heldGuildS_yes {w : World} {v : Value} (c : Int) (n : Nat) (h : IsGuilds w v (markL mkGuild 3 c n)) (hk0 : 0 ≤ c) (hk1 : c ≤ 1000000000000000) (hl : n ≤ 10000000) :
    Calls Try.prog 32 #[v, .int .i64 c] w fun e w' => e = .returned (.int .i64 (c + 3 * (n : Int))) ∧ w' = w := by
  obtain ⟨a, cap, rfl, hc, hm, hrow⟩ := h
  rw [markL_len] at *
  have Hrow := hide hrow
  clear hrow
  go_enter Try.func32, Try.ntmps32
  go_wp2_with fail
  go_loop [5, 1] (fun i q => ∃ j : Nat, j ≤ n ∧ i = .int .i64 j ∧ q = .int .i64 (c + 3 * (j : Int))) (fun i _ => n - (intOf i).toNat)
  case atStart => exact ⟨0, Nat.zero_le _, rfl, by simp⟩
  case round =>
    obtain ⟨j, hj, rfl, rfl⟩ := hrel
    by_cases hlt : j < n
    · rcases unhide Hrow with h0 | ⟨bk, off, rfl, hbw, hcl⟩
      · have := congrArg List.length h0; rw [markL_len] at this; simp at this; omega
      have hq := fun i u hu => hcl j hlt i u hu
      rw [markL_at _ _ _ hlt, show ((3 : Nat) : Int) = 3 from rfl] at hq
      have c0 : w.cell? ⟨bk, off + j * 3, none⟩ = some (.int .i64 ((c + 3 * (j : Int)))) := hq 0 _ rfl
      have c1 : w.cell? ⟨bk, off + j * 3 + 1, none⟩ = some (.int .i64 ((c + 3 * (j : Int)) + 1)) := hq 1 _ rfl
      have c2 : w.cell? ⟨bk, off + j * 3 + 2, none⟩ = some (.int .i64 ((c + 3 * (j : Int)) + 1 + 1)) := hq 2 _ rfl
      clear hcl hq
      go_wp2_with fail
      go_round
      case rel => exact ⟨j + 1, by omega, by go_num, by go_num⟩
      case measure => simp [intOf]; omega
    · obtain rfl : j = n := by omega
      go_wp2_with fail
      go_ret
      exact ⟨rfl, rfl⟩

end Go.Proofs.Ytmhagllddhjgmaa

/- Contracts of the laws' own helpers that mark a list of records (Smith) and ask whether it holds its marks. Conditions: those that each theorem names. -/
namespace Go.Proofs.Ytmhagllddhjgmaa
open Go.ChangeShapes Go.WideShapes Go.ChangeAt Go.RowKit Go.Sort
set_option linter.unusedVariables false

def mkSmith (c : Int) : SmithV := (c, c + 1, c + 1 + 1, c + 1 + 1 + 1, c + 1 + 1 + 1 + 1, c + 1 + 1 + 1 + 1 + 1, c + 1 + 1 + 1 + 1 + 1 + 1, c + 1 + 1 + 1 + 1 + 1 + 1 + 1, c + 1 + 1 + 1 + 1 + 1 + 1 + 1 + 1, c + 1 + 1 + 1 + 1 + 1 + 1 + 1 + 1 + 1, c + 1 + 1 + 1 + 1 + 1 + 1 + 1 + 1 + 1 + 1)

set_option maxRecDepth 100000 in
set_option maxHeartbeats 8000000 in
theorem markSmithS_any {n₀ : Nat} {w : World} {v : Value} {ps : List SmithV} (c : Int) (h : SmithsAt n₀ w v ps) (hk0 : 0 ≤ c) (hk1 : c ≤ 1000000000000000) (hl : ps.length ≤ 10000000) :
    Calls Try.prog 28 #[v, .int .i64 c] w fun e w' => e = .returned (.int .i64 (c + 11 * (ps.length : Int))) ∧ SmithsAt n₀ w' v (markL mkSmith 11 c ps.length) ∧ w.grownBy w' v.ownBlock := by
  have Hv := hide h
  obtain ⟨a, cap, rfl⟩ := RecAt.shape h
  clear h
  go_enter Try.func28, Try.ntmps28
  go_wp2_with fail
  go_loopw [5, 1] (fun i q wr => ∃ j : Nat, j ≤ ps.length ∧ i = .int .i64 j ∧ q = .int .i64 (c + 11 * (j : Int)) ∧ SmithsAt n₀ wr (.slice a ps.length cap) (markedL mkSmith 11 c ps j) ∧ w.grownBy wr (Value.ownBlock (.slice a ps.length cap))) (fun i _ _ => ps.length - (intOf i).toNat)
  case atStart => exact ⟨0, Nat.zero_le _, rfl, by simp, by rw [markedL_zero]; exact unhide Hv, grown_refl _ _⟩
  case round =>
    obtain ⟨j, hj, rfl, rfl, hin, hgr⟩ := hrel
    by_cases hlt : j < ps.length
    · have hfl := markedL_len (mk := mkSmith) (d := 11) (c := c) hj
      obtain ⟨g, rfl, _, _, hcells, hfz⟩ := RecAt.view encSmith_len (by omega) hin hfl.symm (by omega)
      have hq := fun i u hu => hcells j (by omega) i u hu
      generalize recAt (markedL mkSmith 11 c ps j) j = old at hq
      have o0 := hq 0 _ rfl
      have f0 := hfz (j * 11)
      have o1 := hq 1 _ rfl
      have f1 := hfz (j * 11 + 1)
      have o2 := hq 2 _ rfl
      have f2 := hfz (j * 11 + 2)
      have o3 := hq 3 _ rfl
      have f3 := hfz (j * 11 + 3)
      have o4 := hq 4 _ rfl
      have f4 := hfz (j * 11 + 4)
      have o5 := hq 5 _ rfl
      have f5 := hfz (j * 11 + 5)
      have o6 := hq 6 _ rfl
      have f6 := hfz (j * 11 + 6)
      have o7 := hq 7 _ rfl
      have f7 := hfz (j * 11 + 7)
      have o8 := hq 8 _ rfl
      have f8 := hfz (j * 11 + 8)
      have o9 := hq 9 _ rfl
      have f9 := hfz (j * 11 + 9)
      have o10 := hq 10 _ rfl
      have f10 := hfz (j * 11 + 10)
      simp only [Nat.add_zero] at o0
      have hp := RecAt.put encSmith_len (by omega) hin hfl.symm (j := j) (by omega) (mkSmith (c + 11 * (j : Int)))
      have hs9 := markedL_set (mk := mkSmith) (d := 11) (c := c) hlt
      rw [show ((11 : Nat) : Int) = 11 from rfl] at hs9
      have HS := hide hs9
      clear hs9
      have H1 := hide hp.1
      have H2 := hide (grown_trans hgr hp.2)
      clear hin hgr hcells hq hfz hp hfl
      go_wp2_with fail
      go_roundw
      case rel => exact ⟨j + 1, by omega, by go_num, by go_num, by have h9 := unhide H1; rw [unhide HS] at h9; exact h9, unhide H2⟩
      case measure => simp [intOf]; omega
    · obtain rfl : j = ps.length := by omega
      rw [markedL_all] at hin
      go_wp2_with fail
      go_ret
      exact ⟨rfl, hin, hgr⟩

set_option maxRecDepth 100000 in
set_option maxHeartbeats 8000000 in
theorem heldSmithS_yes {w : World} {v : Value} (c : Int) (n : Nat) (h : IsSmiths w v (markL mkSmith 11 c n)) (hk0 : 0 ≤ c) (hk1 : c ≤ 1000000000000000) (hl : n ≤ 10000000) :
    Calls Try.prog 33 #[v, .int .i64 c] w fun e w' => e = .returned (.int .i64 (c + 11 * (n : Int))) ∧ w' = w := by
  obtain ⟨a, cap, rfl, hc, hm, hrow⟩ := h
  rw [markL_len] at *
  have Hrow := hide hrow
  clear hrow
  go_enter Try.func33, Try.ntmps33
  go_wp2_with fail
  go_loop [5, 1] (fun i q => ∃ j : Nat, j ≤ n ∧ i = .int .i64 j ∧ q = .int .i64 (c + 11 * (j : Int))) (fun i _ => n - (intOf i).toNat)
  case atStart => exact ⟨0, Nat.zero_le _, rfl, by simp⟩
  case round =>
    obtain ⟨j, hj, rfl, rfl⟩ := hrel
    by_cases hlt : j < n
    · rcases unhide Hrow with h0 | ⟨bk, off, rfl, hbw, hcl⟩
      · have := congrArg List.length h0; rw [markL_len] at this; simp at this; omega
      have hq := fun i u hu => hcl j hlt i u hu
      rw [markL_at _ _ _ hlt, show ((11 : Nat) : Int) = 11 from rfl] at hq
      have c0 : w.cell? ⟨bk, off + j * 11, none⟩ = some (.int .i64 ((c + 11 * (j : Int)))) := hq 0 _ rfl
      have c1 : w.cell? ⟨bk, off + j * 11 + 1, none⟩ = some (.int .i64 ((c + 11 * (j : Int)) + 1)) := hq 1 _ rfl
      have c2 : w.cell? ⟨bk, off + j * 11 + 2, none⟩ = some (.int .i64 ((c + 11 * (j : Int)) + 1 + 1)) := hq 2 _ rfl
      have c3 : w.cell? ⟨bk, off + j * 11 + 3, none⟩ = some (.int .i64 ((c + 11 * (j : Int)) + 1 + 1 + 1)) := hq 3 _ rfl
      have c4 : w.cell? ⟨bk, off + j * 11 + 4, none⟩ = some (.int .i64 ((c + 11 * (j : Int)) + 1 + 1 + 1 + 1)) := hq 4 _ rfl
      have c5 : w.cell? ⟨bk, off + j * 11 + 5, none⟩ = some (.int .i64 ((c + 11 * (j : Int)) + 1 + 1 + 1 + 1 + 1)) := hq 5 _ rfl
      have c6 : w.cell? ⟨bk, off + j * 11 + 6, none⟩ = some (.int .i64 ((c + 11 * (j : Int)) + 1 + 1 + 1 + 1 + 1 + 1)) := hq 6 _ rfl
      have c7 : w.cell? ⟨bk, off + j * 11 + 7, none⟩ = some (.int .i64 ((c + 11 * (j : Int)) + 1 + 1 + 1 + 1 + 1 + 1 + 1)) := hq 7 _ rfl
      have c8 : w.cell? ⟨bk, off + j * 11 + 8, none⟩ = some (.int .i64 ((c + 11 * (j : Int)) + 1 + 1 + 1 + 1 + 1 + 1 + 1 + 1)) := hq 8 _ rfl
      have c9 : w.cell? ⟨bk, off + j * 11 + 9, none⟩ = some (.int .i64 ((c + 11 * (j : Int)) + 1 + 1 + 1 + 1 + 1 + 1 + 1 + 1 + 1)) := hq 9 _ rfl
      have c10 : w.cell? ⟨bk, off + j * 11 + 10, none⟩ = some (.int .i64 ((c + 11 * (j : Int)) + 1 + 1 + 1 + 1 + 1 + 1 + 1 + 1 + 1 + 1)) := hq 10 _ rfl
      clear hcl hq
      go_wp2_with fail
      go_round
      case rel => exact ⟨j + 1, by omega, by go_num, by go_num⟩
      case measure => simp [intOf]; omega
    · obtain rfl : j = n := by omega
      go_wp2_with fail
      go_ret
      exact ⟨rfl, rfl⟩

end Go.Proofs.Ytmhagllddhjgmaa

/- Contracts of the laws' own helpers that mark a list of records (Desk) and ask whether it holds its marks. Conditions: those that each theorem names. -/
namespace Go.Proofs.Ytmhagllddhjgmaa
open Go.ChangeShapes Go.WideShapes Go.ChangeAt Go.RowKit Go.Sort
set_option linter.unusedVariables false

def mkDesk (c : Int) : DeskV := ((c % 3 == 0), c + 1, c + 1 + 1)

set_option maxRecDepth 100000 in
set_option maxHeartbeats 8000000 in
theorem markDeskS_any {n₀ : Nat} {w : World} {v : Value} {ps : List DeskV} (c : Int) (h : DesksAt n₀ w v ps) (hk0 : 0 ≤ c) (hk1 : c ≤ 1000000000000000) (hl : ps.length ≤ 10000000) :
    Calls Try.prog 29 #[v, .int .i64 c] w fun e w' => e = .returned (.int .i64 (c + 3 * (ps.length : Int))) ∧ DesksAt n₀ w' v (markL mkDesk 3 c ps.length) ∧ w.grownBy w' v.ownBlock := by
  have Hv := hide h
  obtain ⟨a, cap, rfl⟩ := RecAt.shape h
  clear h
  go_enter Try.func29, Try.ntmps29
  go_wp2_with fail
  go_loopw [5, 1] (fun i q wr => ∃ j : Nat, j ≤ ps.length ∧ i = .int .i64 j ∧ q = .int .i64 (c + 3 * (j : Int)) ∧ DesksAt n₀ wr (.slice a ps.length cap) (markedL mkDesk 3 c ps j) ∧ w.grownBy wr (Value.ownBlock (.slice a ps.length cap))) (fun i _ _ => ps.length - (intOf i).toNat)
  case atStart => exact ⟨0, Nat.zero_le _, rfl, by simp, by rw [markedL_zero]; exact unhide Hv, grown_refl _ _⟩
  case round =>
    obtain ⟨j, hj, rfl, rfl, hin, hgr⟩ := hrel
    by_cases hlt : j < ps.length
    · have hfl := markedL_len (mk := mkDesk) (d := 3) (c := c) hj
      obtain ⟨g, rfl, _, _, hcells, hfz⟩ := RecAt.view encDesk_len (by omega) hin hfl.symm (by omega)
      have hq := fun i u hu => hcells j (by omega) i u hu
      generalize recAt (markedL mkDesk 3 c ps j) j = old at hq
      have hmod : (c + 3 * (j : Int)) % 3 = c % 3 := by omega
      have o0 := hq 0 _ rfl
      have f0 := hfz (j * 3)
      have o1 := hq 1 _ rfl
      have f1 := hfz (j * 3 + 1)
      have o2 := hq 2 _ rfl
      have f2 := hfz (j * 3 + 2)
      simp only [Nat.add_zero] at o0
      have hp := RecAt.put encDesk_len (by omega) hin hfl.symm (j := j) (by omega) (mkDesk (c + 3 * (j : Int)))
      have hs9 := markedL_set (mk := mkDesk) (d := 3) (c := c) hlt
      rw [show ((3 : Nat) : Int) = 3 from rfl] at hs9
      have HS := hide hs9
      clear hs9
      have H1 := hide hp.1
      have H2 := hide (grown_trans hgr hp.2)
      clear hin hgr hcells hq hfz hp hfl
      go_wp2_with fail
      go_roundw
      case rel => exact ⟨j + 1, by omega, by go_num, by go_num, by have h9 := unhide H1; rw [unhide HS] at h9; simpa [setW, encDesk, mkDesk, hmod] using h9, by have h9 := unhide H2; simpa [setW, encDesk, mkDesk, hmod] using h9⟩
      case measure => simp [intOf]; omega
    · obtain rfl : j = ps.length := by omega
      rw [markedL_all] at hin
      go_wp2_with fail
      go_ret
      exact ⟨rfl, hin, hgr⟩

set_option maxRecDepth 100000 in
set_option maxHeartbeats 8000000 in
theorem heldDeskS_yes {w : World} {v : Value} (c : Int) (n : Nat) (h : IsDesks w v (markL mkDesk 3 c n)) (hk0 : 0 ≤ c) (hk1 : c ≤ 1000000000000000) (hl : n ≤ 10000000) :
    Calls Try.prog 34 #[v, .int .i64 c] w fun e w' => e = .returned (.int .i64 (c + 3 * (n : Int))) ∧ w' = w := by
  obtain ⟨a, cap, rfl, hc, hm, hrow⟩ := h
  rw [markL_len] at *
  have Hrow := hide hrow
  clear hrow
  go_enter Try.func34, Try.ntmps34
  go_wp2_with fail
  go_loop [5, 1] (fun i q => ∃ j : Nat, j ≤ n ∧ i = .int .i64 j ∧ q = .int .i64 (c + 3 * (j : Int))) (fun i _ => n - (intOf i).toNat)
  case atStart => exact ⟨0, Nat.zero_le _, rfl, by simp⟩
  case round =>
    obtain ⟨j, hj, rfl, rfl⟩ := hrel
    by_cases hlt : j < n
    · rcases unhide Hrow with h0 | ⟨bk, off, rfl, hbw, hcl⟩
      · have := congrArg List.length h0; rw [markL_len] at this; simp at this; omega
      have hq := fun i u hu => hcl j hlt i u hu
      rw [markL_at _ _ _ hlt, show ((3 : Nat) : Int) = 3 from rfl] at hq
      have c0 : w.cell? ⟨bk, off + j * 3, none⟩ = some (.bool ((c + 3 * (j : Int)) % 3 == 0)) := hq 0 _ rfl
      have c1 : w.cell? ⟨bk, off + j * 3 + 1, none⟩ = some (.int .i64 ((c + 3 * (j : Int)) + 1)) := hq 1 _ rfl
      have c2 : w.cell? ⟨bk, off + j * 3 + 2, none⟩ = some (.int .i64 ((c + 3 * (j : Int)) + 1 + 1)) := hq 2 _ rfl
      clear hcl hq
      go_wp2_with fail
      go_round
      case rel => exact ⟨j + 1, by omega, by go_num, by go_num⟩
      case measure => simp [intOf]; omega
    · obtain rfl : j = n := by omega
      go_wp2_with fail
      go_ret
      exact ⟨rfl, rfl⟩

end Go.Proofs.Ytmhagllddhjgmaa

/- Slices of int64 that the call itself made: what they hold, that what is held stays, and contracts of the laws' own helpers over them (alike, rising, among, marked, held). Conditions: those that each theorem names. -/
namespace Go.Proofs.Ytmhagllddhjgmaa
open Go.ChangeShapes Go.WideShapes Go.ChangeAt Go.RowKit
set_option linter.unusedVariables false

/-- The slice v, in a block from n₀ on, holds the numbers zs. -/
def IntsAt (n₀ : Nat) (w : World) (v : Value) (zs : List Int) : Prop := w.ownsRow n₀ 2 1 v zs.length (zs.map (Value.int .i64))

/-- What the walk asks of it: its address and length; the cells, where there are any. -/
theorem IntsAt.view {n₀ : Nat} {w : World} {v : Value} {zs : List Int} (h : IntsAt n₀ w v zs) :
    ∃ (a : Option Addr) (cap : Nat), v = .slice a zs.length cap ∧ zs.length ≤ 9223372036854775807 ∧ (zs = [] ∨ ∃ g, a = some ⟨g, 0, none⟩ ∧ n₀ ≤ g ∧ g < w.heap.size ∧
      (∀ k, k < zs.length → w.cell? ⟨g, k, none⟩ = some (.int .i64 (zs.getD k 0))) ∧ (∀ k, w.frozen? ⟨g, k, none⟩ = false)) := by
  have h' := h
  rcases h.2 with ⟨rfl, hz⟩ | ⟨g, cap, cur, rfl, hb, hg, hnc, hcm, r⟩
  · exact ⟨none, 0, by rw [hz], by omega, .inl (List.eq_nil_of_length_eq_zero hz)⟩
  · refine ⟨_, cap, rfl, by unfold maxLen at hcm; omega, .inr ⟨g, rfl, hb, (Array.getElem?_eq_some_iff.1 hg).1, fun k hk => ?_, fun k => World.ownsRow.frozenAt h' k⟩⟩
    rw [World.ownsRow.cellAt h' k (by omega)]
    simp [List.getElem?_eq_getElem hk]

theorem grownBy_trans {a b c : World} {row : Option Nat} (h : a.grownBy b row) (k : b.grownBy c row) : a.grownBy c row :=
  ⟨k.os.trans h.os, k.tape.trans h.tape, k.output.trans h.output, Nat.le_trans h.size k.size, fun i hi hn => (k.block i (Nat.lt_of_lt_of_le hi h.size) hn).trans (h.block i hi hn)⟩
theorem grownBy_refl (a : World) (row : Option Nat) : a.grownBy a row := ⟨rfl, rfl, rfl, Nat.le_refl _, fun _ _ _ => rfl⟩
theorem IntsAt.stored {n₀ : Nat} {w : World} {g n cap : Nat} {zs : List Int} (h : IntsAt n₀ w (.slice (some ⟨g, 0, none⟩) n cap) zs) (hn : zs.length = n) (j : Nat) (u : Int) :
    IntsAt n₀ (w.setCell ⟨g, j, none⟩ (.int .i64 u)) (.slice (some ⟨g, 0, none⟩) n cap) (zs.set j u) ∧ w.grownBy (w.setCell ⟨g, j, none⟩ (.int .i64 u)) (some g) := by
  subst hn
  have := World.ownsRow.stored h j (.int .i64 u)
  refine ⟨?_, this.2⟩
  unfold IntsAt
  rw [List.length_set, List.map_set]
  exact this.1
/-- The numbers from k on, n of them. -/
def marks (k : Int) (n : Nat) : List Int := (List.range n).map fun i : Nat => k + (i : Int)
theorem marks_len (k : Int) (n : Nat) : (marks k n).length = n := by simp [marks]
theorem marks_get (k : Int) (n i : Nat) (h : i < n) : (marks k n).getD i 0 = k + i := by simp [marks, h]
/-- The first j of them are marked. -/
def marked (zs : List Int) (k : Int) (j : Nat) : List Int := marks k j ++ zs.drop j
theorem marked_len {zs : List Int} {k : Int} {j : Nat} (h : j ≤ zs.length) : (marked zs k j).length = zs.length := by simp [marked, marks_len]; omega
theorem marked_succ {zs : List Int} {k : Int} {j : Nat} (h : j < zs.length) : (marked zs k j).set j (k + j) = marked zs k (j + 1) := by
  unfold marked
  rw [List.set_append_right _ _ (by simp [marks_len]), marks_len, Nat.sub_self, List.drop_eq_getElem_cons h, List.set_cons_zero]
  simp [marks, List.range_succ]
theorem marked_all (zs : List Int) (k : Int) : marked zs k zs.length = marks k zs.length := by simp [marked]

set_option maxHeartbeats 1000000 in
theorem markInts_any {n₀ : Nat} {w : World} {v : Value} {zs : List Int} (k : Int) (hv : IntsAt n₀ w v zs) (hk0 : 0 ≤ k) (hk1 : k ≤ 1000000000000000) (hl : zs.length ≤ 1000000000) :
    Calls Try.prog 30 #[v, .int .i64 k] w fun e w' => e = .returned (.int .i64 (k + zs.length)) ∧ IntsAt n₀ w' v (marks k zs.length) ∧ w.grownBy w' v.ownBlock := by
  have hv0 := hide hv
  obtain ⟨a, cap, rfl, hlen, hca⟩ := hv.view
  clear hv
  go_enter Try.func30, Try.ntmps30
  go_wp2_with fail
  go_loopw [5, 1] (fun i q wr => ∃ j : Nat, j ≤ zs.length ∧ i = .int .i64 j ∧ q = .int .i64 (k + j) ∧ IntsAt n₀ wr (.slice a zs.length cap) (marked zs k j) ∧ w.grownBy wr (Value.ownBlock (.slice a zs.length cap))) (fun i _ _ => zs.length - (intOf i).toNat)
  case atStart => exact ⟨0, Nat.zero_le _, rfl, by simp, unhide hv0, grownBy_refl _ _⟩
  case round =>
    obtain ⟨j, hj, rfl, rfl, hin, hgr⟩ := hrel
    by_cases hlt : j < zs.length
    · rcases hca with rfl | ⟨g, rfl, _, _, _, _⟩
      · simp at hlt
      obtain ⟨hs1, hs2⟩ := hin.stored (marked_len hj) j (k + j)
      rw [marked_succ hlt] at hs1
      have H1 := hide hs1
      have H2 := hide (grownBy_trans hgr hs2)
      have hfz := World.ownsRow.frozenAt (show wr.ownsRow n₀ 2 1 (.slice (some ⟨g, 0, none⟩) (marked zs k j).length cap) (marked zs k j).length _ by rw [marked_len hj]; have h9 := hin; unfold IntsAt at h9; rwa [marked_len hj] at h9) j
      have hcl : ∃ c, wr.cell? ⟨g, j, none⟩ = some c := by
        have h9 := hin
        unfold IntsAt at h9
        rw [marked_len hj] at h9
        have := World.ownsRow.cellAt h9 j (by omega)
        rw [List.getElem?_eq_getElem (by simp [marked_len hj]; omega)] at this
        exact ⟨_, this⟩
      obtain ⟨c, hcl⟩ := hcl
      clear hin hgr hs1 hs2
      go_wp2_with fail
      go_roundw
      case rel => exact ⟨j + 1, by omega, by go_num, by go_num, unhide H1, unhide H2⟩
      case measure => simp [intOf]; omega
    · obtain rfl : j = zs.length := by omega
      rw [marked_all] at hin
      go_wp2_with fail
      go_ret
      exact ⟨rfl, hin, hgr⟩

set_option maxHeartbeats 1000000 in
theorem heldInts_yes {n₀ : Nat} {w : World} {v : Value} (k : Int) (n : Nat) (hv : IntsAt n₀ w v (marks k n)) (hk0 : 0 ≤ k) (hk1 : k ≤ 1000000000000000) (hl : n ≤ 1000000000) :
    Calls Try.prog 35 #[v, .int .i64 k] w fun e w' => e = .returned (.int .i64 (k + n)) ∧ w' = w := by
  obtain ⟨a, cap, rfl, hlen, hca⟩ := hv.view
  clear hv
  rw [marks_len] at *
  go_enter Try.func35, Try.ntmps35
  go_wp2_with fail
  go_loop [5, 1] (fun i q => ∃ j : Nat, j ≤ n ∧ i = .int .i64 j ∧ q = .int .i64 (k + j)) (fun i _ => n - (intOf i).toNat)
  case atStart => exact ⟨0, Nat.zero_le _, rfl, by simp⟩
  case round =>
    obtain ⟨j, hj, rfl, rfl⟩ := hrel
    by_cases hlt : j < n
    · rcases hca with hz | ⟨g, rfl, _, _, hc, _⟩
      · have := congrArg List.length hz; rw [marks_len] at this; simp at this; omega
      have h1 := hc j hlt
      rw [marks_get k n j hlt] at h1
      clear hc
      go_wp2_with fail
      go_round
      case rel => exact ⟨j + 1, by omega, by go_num, by go_num⟩
      case measure => simp [intOf]; omega
    · obtain rfl : j = n := by omega
      go_wp2_with fail
      go_ret
      exact ⟨rfl, rfl⟩

end Go.Proofs.Ytmhagllddhjgmaa

/- Contracts of the laws' own helpers that mark a list of int64 and ask whether it holds its marks. Conditions: those that each theorem names. -/
namespace Go.Proofs.Ytmhagllddhjgmaa
open Go.ChangeShapes Go.WideShapes Go.ChangeAt Go.RowKit Go.Sort
set_option linter.unusedVariables false

theorem flat_num : ∀ zs : List Int, flat encNum zs = zs.map (Value.int .i64)
  | [] => rfl
  | z :: zs => by
    have := flat_num zs
    unfold flat at this ⊢
    rw [List.flatMap_cons, this]
    rfl
theorem nums_ints {n₀ : Nat} {w : World} {v : Value} {zs : List Int} : NumsAt n₀ w v zs ↔ IntsAt n₀ w v zs := by
  unfold NumsAt RecAt IntsAt
  rw [flat_num]

theorem markNums_any {n₀ : Nat} {w : World} {v : Value} {zs : List Int} (k : Int) (h : NumsAt n₀ w v zs) (hk0 : 0 ≤ k) (hk1 : k ≤ 1000000000000000) (hl : zs.length ≤ 1000000000) :
    Calls Try.prog 30 #[v, .int .i64 k] w fun e w' => e = .returned (.int .i64 (k + zs.length)) ∧ NumsAt n₀ w' v (marks k zs.length) ∧ w.grownBy w' v.ownBlock :=
  (markInts_any k (nums_ints.1 h) hk0 hk1 hl).mono fun e w' ⟨h1, h2, h3⟩ => ⟨h1, nums_ints.2 h2, h3⟩
theorem heldNums_yes {n₀ : Nat} {w : World} {v : Value} (k : Int) (n : Nat) (h : NumsAt n₀ w v (marks k n)) (hk0 : 0 ≤ k) (hk1 : k ≤ 1000000000000000) (hl : n ≤ 1000000000) :
    Calls Try.prog 35 #[v, .int .i64 k] w fun e w' => e = .returned (.int .i64 (k + n)) ∧ w' = w :=
  heldInts_yes k n (nums_ints.1 h) hk0 hk1 hl

end Go.Proofs.Ytmhagllddhjgmaa

