/- What the proof rests on, part 36: lists and numbers, how they lie in memory, and contracts of the calls. No condition but those that a theorem names. -/
import Derived.Test.YtmhagllddhjgmaaGreatXa01
import Derived.Test.YtmhagllddhjgmaaGreatXa05
import Derived.Test.YtmhagllddhjgmaaGreatXa06
import Derived.Test.YtmhagllddhjgmaaGreatXa07
import Derived.Test.YtmhagllddhjgmaaGreatXa08
import Derived.Test.YtmhagllddhjgmaaGreatXa14
import Derived.Lib.SmallJoins
import Derived.Deep.Fields
import Derived.Deep.Slices
import Derived.WalkKit
import Derived.ProofKit
import Derived.OpenShut
import Derived.Outline
import Derived.Deep.QuietTactic
import Derived.BigQuiet
import Derived.Laws.OwnMore
import Derived.Lib.QuietBelow
import Derived.Maps.AppendAt
import Derived.OwnWalk
/- Contracts of the laws' own helpers that mark a list of records (Guild) and ask whether it holds its marks. Conditions: those that each theorem names. -/
namespace Go.Proofs.YtmhagllddhjgmaaGreat
open Go.ChangeShapes Go.WideShapes Go.ChangeAt Go.RowKit Go.Sort
set_option linter.unusedVariables false

def mkGuild (c : Int) : GuildV := (c, c + 1, c + 1 + 1)

set_option maxRecDepth 100000 in
set_option maxHeartbeats 8000000 in
theorem markGuildS_any {n₀ : Nat} {w : World} {v : Value} {ps : List GuildV} (c : Int) (h : GuildsAt n₀ w v ps) (hk0 : 0 ≤ c) (hk1 : c ≤ 1000000000000000) (hl : ps.length ≤ 10000000) :
    Calls Tryz.prog 89 #[v, .int .i64 c] w fun e w' => e = .returned (.int .i64 (c + 3 * (ps.length : Int))) ∧ GuildsAt n₀ w' v (markL mkGuild 3 c ps.length) ∧ w.grownBy w' v.ownBlock := by
  have Hv := hide h
  obtain ⟨a, cap, rfl⟩ := RecAt.shape h
  clear h
  go_enter Tryz.func89, Tryz.ntmps89
  go_wp2_with fail
  go_loopw [5, 1] (fun i q wr => ∃ j : Nat, j ≤ ps.length ∧ i = .int .i64 j ∧ q = .int .i64 (c + 3 * (j : Int)) ∧ GuildsAt n₀ wr (.slice a ps.length cap) (markedL mkGuild 3 c ps j) ∧ w.grownBy wr (Value.ownBlock (.slice a ps.length cap))) (fun i _ _ => ps.length - (intOf i).toNat)
  case atStart => exact ⟨0, Nat.zero_le _, rfl, by simp, by rw [markedL_zero]; exact unhide Hv, grown_refl _ _⟩
  case round =>
    obtain ⟨j, hj, rfl, rfl, hin, hgr⟩ := hrel
    by_cases hlt : j < ps.length
    · have hfl := markedL_len (mk := mkGuild) (d := 3) (c := c) hj
      obtain ⟨g, rfl, _, _, hcells, hfz⟩ := RecAt.view encGuild_len (by omega) hin hfl.symm (by omega)
      have hq := fun i u hu => hcells j (by omega) i u hu
      generalize recAt (markedL mkGuild 3 c ps j) j = old at hq
      have o0 := hq 0 _ rfl
      have f0 := hfz (j * 3)
      have o1 := hq 1 _ rfl
      have f1 := hfz (j * 3 + 1)
      have o2 := hq 2 _ rfl
      have f2 := hfz (j * 3 + 2)
      simp only [Nat.add_zero] at o0
      have hp := RecAt.put encGuild_len (by omega) hin hfl.symm (j := j) (by omega) (mkGuild (c + 3 * (j : Int)))
      have hs9 := markedL_set (mk := mkGuild) (d := 3) (c := c) hlt
      rw [show ((3 : Nat) : Int) = 3 from rfl] at hs9
      have HS := hide hs9
      clear hs9
      have H1 := hide hp.1
      have H2 := hide (grown_trans hgr hp.2)
      clear hin hgr hcells hq hfz hp hfl
      go_wp2_with fail
      go_roundw
      case rel => exact ⟨j + 1, by omega, by go_num, by go_num, by have h9 := unhide H1; rw [unhide HS] at h9; exact h9, unhide H2⟩
      case measure => simp [intOf]; omega
    · obtain rfl : j = ps.length := by omega
      rw [markedL_all] at hin
      go_wp2_with fail
      go_ret
      exact ⟨rfl, hin, hgr⟩

end Go.Proofs.YtmhagllddhjgmaaGreat

/- Contracts of the laws' own helpers that mark a list of records (Smith) and ask whether it holds its marks. Conditions: those that each theorem names. -/
namespace Go.Proofs.YtmhagllddhjgmaaGreat
open Go.ChangeShapes Go.WideShapes Go.ChangeAt Go.RowKit Go.Sort
set_option linter.unusedVariables false

def mkSmith (c : Int) : SmithV := (c, c + 1, c + 1 + 1, c + 1 + 1 + 1, c + 1 + 1 + 1 + 1, c + 1 + 1 + 1 + 1 + 1, c + 1 + 1 + 1 + 1 + 1 + 1, c + 1 + 1 + 1 + 1 + 1 + 1 + 1, c + 1 + 1 + 1 + 1 + 1 + 1 + 1 + 1, c + 1 + 1 + 1 + 1 + 1 + 1 + 1 + 1 + 1, c + 1 + 1 + 1 + 1 + 1 + 1 + 1 + 1 + 1 + 1)

set_option maxRecDepth 100000 in
set_option maxHeartbeats 8000000 in
theorem markSmithS_any {n₀ : Nat} {w : World} {v : Value} {ps : List SmithV} (c : Int) (h : SmithsAt n₀ w v ps) (hk0 : 0 ≤ c) (hk1 : c ≤ 1000000000000000) (hl : ps.length ≤ 10000000) :
    Calls Tryz.prog 90 #[v, .int .i64 c] w fun e w' => e = .returned (.int .i64 (c + 11 * (ps.length : Int))) ∧ SmithsAt n₀ w' v (markL mkSmith 11 c ps.length) ∧ w.grownBy w' v.ownBlock := by
  have Hv := hide h
  obtain ⟨a, cap, rfl⟩ := RecAt.shape h
  clear h
  go_enter Tryz.func90, Tryz.ntmps90
  go_wp2_with fail
  go_loopw [5, 1] (fun i q wr => ∃ j : Nat, j ≤ ps.length ∧ i = .int .i64 j ∧ q = .int .i64 (c + 11 * (j : Int)) ∧ SmithsAt n₀ wr (.slice a ps.length cap) (markedL mkSmith 11 c ps j) ∧ w.grownBy wr (Value.ownBlock (.slice a ps.length cap))) (fun i _ _ => ps.length - (intOf i).toNat)
  case atStart => exact ⟨0, Nat.zero_le _, rfl, by simp, by rw [markedL_zero]; exact unhide Hv, grown_refl _ _⟩
  case round =>
    obtain ⟨j, hj, rfl, rfl, hin, hgr⟩ := hrel
    by_cases hlt : j < ps.length
    · have hfl := markedL_len (mk := mkSmith) (d := 11) (c := c) hj
      obtain ⟨g, rfl, _, _, hcells, hfz⟩ := RecAt.view encSmith_len (by omega) hin hfl.symm (by omega)
      have hq := fun i u hu => hcells j (by omega) i u hu
      generalize recAt (markedL mkSmith 11 c ps j) j = old at hq
      have o0 := hq 0 _ rfl
      have f0 := hfz (j * 11)
      have o1 := hq 1 _ rfl
      have f1 := hfz (j * 11 + 1)
      have o2 := hq 2 _ rfl
      have f2 := hfz (j * 11 + 2)
      have o3 := hq 3 _ rfl
      have f3 := hfz (j * 11 + 3)
      have o4 := hq 4 _ rfl
      have f4 := hfz (j * 11 + 4)
      have o5 := hq 5 _ rfl
      have f5 := hfz (j * 11 + 5)
      have o6 := hq 6 _ rfl
      have f6 := hfz (j * 11 + 6)
      have o7 := hq 7 _ rfl
      have f7 := hfz (j * 11 + 7)
      have o8 := hq 8 _ rfl
      have f8 := hfz (j * 11 + 8)
      have o9 := hq 9 _ rfl
      have f9 := hfz (j * 11 + 9)
      have o10 := hq 10 _ rfl
      have f10 := hfz (j * 11 + 10)
      simp only [Nat.add_zero] at o0
      have hp := RecAt.put encSmith_len (by omega) hin hfl.symm (j := j) (by omega) (mkSmith (c + 11 * (j : Int)))
      have hs9 := markedL_set (mk := mkSmith) (d := 11) (c := c) hlt
      rw [show ((11 : Nat) : Int) = 11 from rfl] at hs9
      have HS := hide hs9
      clear hs9
      have H1 := hide hp.1
      have H2 := hide (grown_trans hgr hp.2)
      clear hin hgr hcells hq hfz hp hfl
      go_wp2_with fail
      go_roundw
      case rel => exact ⟨j + 1, by omega, by go_num, by go_num, by have h9 := unhide H1; rw [unhide HS] at h9; exact h9, unhide H2⟩
      case measure => simp [intOf]; omega
    · obtain rfl : j = ps.length := by omega
      rw [markedL_all] at hin
      go_wp2_with fail
      go_ret
      exact ⟨rfl, hin, hgr⟩

end Go.Proofs.YtmhagllddhjgmaaGreat

/- Contracts of the laws' own helpers that mark a list of records (Desk) and ask whether it holds its marks. Conditions: those that each theorem names. -/
namespace Go.Proofs.YtmhagllddhjgmaaGreat
open Go.ChangeShapes Go.WideShapes Go.ChangeAt Go.RowKit Go.Sort
set_option linter.unusedVariables false

def mkDesk (c : Int) : DeskV := ((c % 3 == 0), c + 1, c + 1 + 1)

set_option maxRecDepth 100000 in
set_option maxHeartbeats 8000000 in
theorem markDeskS_any {n₀ : Nat} {w : World} {v : Value} {ps : List DeskV} (c : Int) (h : DesksAt n₀ w v ps) (hk0 : 0 ≤ c) (hk1 : c ≤ 1000000000000000) (hl : ps.length ≤ 10000000) :
    Calls Tryz.prog 91 #[v, .int .i64 c] w fun e w' => e = .returned (.int .i64 (c + 3 * (ps.length : Int))) ∧ DesksAt n₀ w' v (markL mkDesk 3 c ps.length) ∧ w.grownBy w' v.ownBlock := by
  have Hv := hide h
  obtain ⟨a, cap, rfl⟩ := RecAt.shape h
  clear h
  go_enter Tryz.func91, Tryz.ntmps91
  go_wp2_with fail
  go_loopw [5, 1] (fun i q wr => ∃ j : Nat, j ≤ ps.length ∧ i = .int .i64 j ∧ q = .int .i64 (c + 3 * (j : Int)) ∧ DesksAt n₀ wr (.slice a ps.length cap) (markedL mkDesk 3 c ps j) ∧ w.grownBy wr (Value.ownBlock (.slice a ps.length cap))) (fun i _ _ => ps.length - (intOf i).toNat)
  case atStart => exact ⟨0, Nat.zero_le _, rfl, by simp, by rw [markedL_zero]; exact unhide Hv, grown_refl _ _⟩
  case round =>
    obtain ⟨j, hj, rfl, rfl, hin, hgr⟩ := hrel
    by_cases hlt : j < ps.length
    · have hfl := markedL_len (mk := mkDesk) (d := 3) (c := c) hj
      obtain ⟨g, rfl, _, _, hcells, hfz⟩ := RecAt.view encDesk_len (by omega) hin hfl.symm (by omega)
      have hq := fun i u hu => hcells j (by omega) i u hu
      generalize recAt (markedL mkDesk 3 c ps j) j = old at hq
      have hmod : (c + 3 * (j : Int)) % 3 = c % 3 := by omega
      have o0 := hq 0 _ rfl
      have f0 := hfz (j * 3)
      have o1 := hq 1 _ rfl
      have f1 := hfz (j * 3 + 1)
      have o2 := hq 2 _ rfl
      have f2 := hfz (j * 3 + 2)
      simp only [Nat.add_zero] at o0
      have hp := RecAt.put encDesk_len (by omega) hin hfl.symm (j := j) (by omega) (mkDesk (c + 3 * (j : Int)))
      have hs9 := markedL_set (mk := mkDesk) (d := 3) (c := c) hlt
      rw [show ((3 : Nat) : Int) = 3 from rfl] at hs9
      have HS := hide hs9
      clear hs9
      have H1 := hide hp.1
      have H2 := hide (grown_trans hgr hp.2)
      clear hin hgr hcells hq hfz hp hfl
      go_wp2_with fail
      go_roundw
      case rel => exact ⟨j + 1, by omega, by go_num, by go_num, by have h9 := unhide H1; rw [unhide HS] at h9; simpa [setW, encDesk, mkDesk, hmod] using h9, by have h9 := unhide H2; simpa [setW, encDesk, mkDesk, hmod] using h9⟩
      case measure => simp [intOf]; omega
    · obtain rfl : j = ps.length := by omega
      rw [markedL_all] at hin
      go_wp2_with fail
      go_ret
      exact ⟨rfl, hin, hgr⟩

end Go.Proofs.YtmhagllddhjgmaaGreat

/- Contracts of the laws' own helpers that mark a list of int64 and ask whether it holds its marks. Conditions: those that each theorem names. -/
namespace Go.Proofs.YtmhagllddhjgmaaGreat
open Go.ChangeShapes Go.WideShapes Go.ChangeAt Go.RowKit Go.Sort
set_option linter.unusedVariables false

theorem flat_num : ∀ zs : List Int, flat encNum zs = zs.map (Value.int .i64)
  | [] => rfl
  | z :: zs => by
    have := flat_num zs
    unfold flat at this ⊢
    rw [List.flatMap_cons, this]
    rfl
theorem nums_ints {n₀ : Nat} {w : World} {v : Value} {zs : List Int} : NumsAt n₀ w v zs ↔ IntsAt n₀ w v zs := by
  unfold NumsAt RecAt IntsAt
  rw [flat_num]

theorem markNums_any {n₀ : Nat} {w : World} {v : Value} {zs : List Int} (k : Int) (h : NumsAt n₀ w v zs) (hk0 : 0 ≤ k) (hk1 : k ≤ 1000000000000000) (hl : zs.length ≤ 1000000000) :
    Calls Tryz.prog 92 #[v, .int .i64 k] w fun e w' => e = .returned (.int .i64 (k + zs.length)) ∧ NumsAt n₀ w' v (marks k zs.length) ∧ w.grownBy w' v.ownBlock :=
  (markInts_any k (nums_ints.1 h) hk0 hk1 hl).mono fun e w' ⟨h1, h2, h3⟩ => ⟨h1, nums_ints.2 h2, h3⟩

end Go.Proofs.YtmhagllddhjgmaaGreat

