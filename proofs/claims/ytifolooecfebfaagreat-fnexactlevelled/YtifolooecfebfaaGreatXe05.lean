/- What the proof rests on, part 5: lists and numbers, how they lie in memory, and contracts of the calls. No condition but those that a theorem names. -/
import Derived.Test.YtifolooecfebfaaGreatXe01
import Derived.Lib.SmallJoins
import Derived.Deep.Fields
import Derived.Deep.Slices
import Derived.Maps.AppendAt
import Derived.Test.YtifolooecfebfaaGreatChecked
import GoSem.Claim
import GoSem.ClaimJoined
import GoSem.ClaimMapViews
import Derived.JoinedTies
import Derived.KernelRfl
import Derived.RowKit
import Derived.WalkKit
import Derived.OrdersHeld
import Derived.Deep.RegionHeldLaw
import Derived.WalkMore
import Derived.Below
import Derived.ProofKit
import Derived.OpenShut
import Derived.Outline
import Derived.Lib.QuietBelow
import Derived.Deep.RegionWith
import Derived.Deep.QuietTactic
import Derived.BigQuiet
import Derived.Laws.OwnMore
import Derived.OwnWalk
/- Contracts of chapter 8's models: each returns what the plain lists say and writes into no memory that was there. Condition: the slices can be read, and what a theorem names. -/
namespace Go.Proofs.YtifolooecfebfaaGreat
open Go.ChangeShapes Go.WideShapes Go.ChangeAt Go.RowKit Go.Sort
set_option linter.unusedVariables false

theorem drewN_below {B : Nat} {w w' : World} (h : Below B w w') (n : Nat) : Below B w (w'.drewN n) := ⟨h.os, h.tape, h.output, h.size, h.block⟩

theorem guildForce_any (x : Int) (w : World) : Calls Tryz.prog 162 #[.int .i64 x] w fun e w' => e = .returned (.bool (inB x 0 1024)) ∧ w' = w := by
  go_enter Tryz.func162, Tryz.ntmps162
  go_wp2_with (go_at_call 113; refine (l1In_any _ _ _ _).mono ?_; rintro e w' ⟨rfl, rfl⟩)
  go_ret
  exact ⟨rfl, rfl⟩

theorem l8Pair_any (lo hi : Int) (w : World) : Calls Tryz.prog 159 #[.int .i64 lo, .int .i64 hi] w fun e w' => e = .returned (.bool (pairB lo hi)) ∧ w' = w := by
  cases h1 : inB lo 0 1024
  · have hp : pairB lo hi = false := by unfold pairB; rw [h1]; rfl
    rw [hp]; clear hp
    go_enter Tryz.func159, Tryz.ntmps159
    go_wp2_with (go_at_call 162; refine (guildForce_any _ _).mono ?_; rintro e w' ⟨rfl, rfl⟩)
    go_ret
    exact ⟨rfl, rfl⟩
  · cases h2 : inB hi 0 1024
    · have hp : pairB lo hi = false := by unfold pairB; rw [h1, h2]; rfl
      rw [hp]; clear hp
      go_enter Tryz.func159, Tryz.ntmps159
      go_wp2_with (go_at_call 162; refine (guildForce_any _ _).mono ?_; rintro e w' ⟨rfl, rfl⟩)
      go_ret
      exact ⟨rfl, rfl⟩
    · have hp : pairB lo hi = decide (lo ≤ hi) := by unfold pairB; rw [h1, h2]; rfl
      rw [hp]; clear hp
      by_cases h3 : lo ≤ hi
      all_goals
        go_enter Tryz.func159, Tryz.ntmps159
        go_wp2_with (go_at_call 162; refine (guildForce_any _ _).mono ?_; rintro e w' ⟨rfl, rfl⟩)
        go_ret
        exact ⟨ret_bool (by first | (simp; done) | (simp; omega)), rfl⟩

set_option maxHeartbeats 2000000 in
theorem specGuildsOk_any {w : World} {v : Value} {ps : List GuildV} (h : IsGuilds w v ps) :
    Calls Tryz.prog 116 #[v] w fun e w' => e = .returned (.bool (guildsB ps)) ∧ Below w.heap.size w w' := by
  obtain ⟨a, cap, rfl, hc, hm, hr⟩ := h
  have Hr := hide hr
  clear hr
  go_enter Tryz.func116, Tryz.ntmps116
  go_wp2_with fail
  go_loopw [3] (fun i wr => ∃ k : Nat, k ≤ ps.length ∧ i = .int .i64 k ∧ upToB ps k = true ∧ Below w.heap.size w wr) (fun i _ => ps.length - (intOf i).toNat)
  case atStart => exact ⟨0, Nat.zero_le _, rfl, rfl, Below.refl _ _⟩
  case round =>
    obtain ⟨k, hk, rfl, hst, hb⟩ := hrel
    have Hst := hide hst
    have Hb := hide hb
    clear hst
    by_cases hlt : k < ps.length
    · rcases unhide Hr with h0 | ⟨b, off, rfl, hbw, hcl⟩
      · rw [h0] at hlt; simp at hlt
      obtain ⟨c0, c1, c2⟩ := guild_cells hcl hlt
      rw [← hb.cell (p := ⟨b, off + k * 3, none⟩) hbw] at c0
      rw [← hb.cell (p := ⟨b, off + k * 3 + 1, none⟩) hbw] at c1
      rw [← hb.cell (p := ⟨b, off + k * 3 + 2, none⟩) hbw] at c2
      generalize hp : recAt ps k = p at c0 c1 c2
      have Hp := hide hp
      clear hp
      obtain ⟨x0, x1, x2⟩ := p
      simp only at c0 c1 c2
      clear hcl hb
      have hg : guildB (x0, x1, x2) k = (inB x0 (-1) ((k : Int) - 1) && pairB x1 x2) := rfl
      have Hg := hide hg
      clear hg
      cases h1 : inB x0 (-1) ((k : Int) - 1)
      · go_wp2_with fail
        go_quiet (first | exact Calls.quiet_of_same (l1In_any _ _ _ _) | exact Calls.quiet_of_same (l8Pair_any _ _ _))
        go_wp2_with fail
        go_ret
        exact ⟨ret_bool (guildsB_f hlt (by rw [unhide Hp, unhide Hg, h1]; rfl)).symm, drewN_below (unhide Hb) _⟩
      cases h2 : pairB x1 x2
      · go_wp2_with fail
        go_quiet (first | exact Calls.quiet_of_same (l1In_any _ _ _ _) | exact Calls.quiet_of_same (l8Pair_any _ _ _))
        go_wp2_with fail
        go_ret
        exact ⟨ret_bool (guildsB_f hlt (by rw [unhide Hp, unhide Hg, h1, h2]; rfl)).symm, drewN_below (unhide Hb) _⟩
      · go_wp2_with fail
        go_quiet (first | exact Calls.quiet_of_same (l1In_any _ _ _ _) | exact Calls.quiet_of_same (l8Pair_any _ _ _))
        go_wp2_with fail
        go_roundw
        case rel => exact ⟨k + 1, by omega, by go_num, by rw [upToB_succ, unhide Hst, unhide Hp, unhide Hg, h1, h2]; rfl, drewN_below (unhide Hb) _⟩
        case measure => simp [intOf]; omega
    · obtain rfl : k = ps.length := by omega
      by_cases hbig : ps.length ≤ 6
      all_goals
        go_wp2_with fail
        go_ret
        exact ⟨ret_bool (by unfold guildsB; rw [unhide Hst]; simp; omega), hb⟩

set_option maxHeartbeats 2000000 in
theorem l8Within_of {ps : List GuildV} (g : Int) (lo hi : Int) {w : World} {v : Value} (h : IsGuilds w v ps)
    (hB : Calls Tryz.prog 157 #[v, .int .i64 g] w fun e w' => e = .returned (.tuple #[.int .i64 (bnd ps g).1, .int .i64 (bnd ps g).2]) ∧ Below w.heap.size w w') :
    Calls Tryz.prog 109 #[v, .int .i64 g, .int .i64 lo, .int .i64 hi] w fun e w' => e = .returned (.tuple #[.int .i64 (narV (bnd ps g) lo hi).1, .int .i64 (narV (bnd ps g) lo hi).2]) ∧ Below w.heap.size w w' := by
  have HB := hide hB
  clear hB
  obtain ⟨a, cap, rfl, _⟩ := h
  unfold narV
  go_enter Tryz.func109, Tryz.ntmps109
  go_wp2_with fail
  refine (unhide HB).mono ?_
  rintro e w1 ⟨rfl, hb1⟩
  go_wp2_with (go_at_call 110; refine (specClamped_any _ _ _ _).mono ?_; rintro e w' ⟨rfl, rfl⟩)
  go_ret2
  exact ⟨rfl, hb1⟩

set_option maxRecDepth 100000 in
set_option maxHeartbeats 4000000 in
theorem l8Bounds_any {ps : List GuildV} (hg : guildsB ps = true) : ∀ (n : Nat) (g : Int) {w : World} {v : Value}, IsGuilds w v ps → -1 ≤ g → g < n → g < ps.length →
    Calls Tryz.prog 157 #[v, .int .i64 g] w fun e w' => e = .returned (.tuple #[.int .i64 (bnd ps g).1, .int .i64 (bnd ps g).2]) ∧ Below w.heap.size w w' := by
  intro n
  induction n with
  | zero =>
    intro g w v h h0 h1 h2
    obtain rfl : g = -1 := by omega
    rw [bnd_none ps (by omega)]
    obtain ⟨a, cap, rfl, _⟩ := h
    go_enter Tryz.func157, Tryz.ntmps157
    go_wp2_with fail
    go_ret2
    exact ⟨rfl, Below.refl _ _⟩
  | succ n ih =>
    intro g w v h h0 h1 h2
    by_cases hg0 : g < 0
    · obtain rfl : g = -1 := by omega
      rw [bnd_none ps (by omega)]
      obtain ⟨a, cap, rfl, _⟩ := h
      go_enter Tryz.func157, Tryz.ntmps157
      go_wp2_with fail
      go_ret2
      exact ⟨rfl, Below.refl _ _⟩
    · obtain ⟨k, rfl⟩ : ∃ k : Nat, g = k := ⟨g.toNat, by omega⟩
      have hlt : k < ps.length := by omega
      obtain ⟨a0, a1, _⟩ := guildsB_at hg (g := (k : Int)) (by omega) h2
      have hs := bnd_step hg (g := (k : Int)) (by omega) h2
      rw [show ((k : Int)).toNat = k by omega] at a0 a1 hs
      rw [hs]
      clear hs
      have Hi := hide h
      obtain ⟨a, cap, rfl, hc, hm, hr⟩ := h
      rcases hr with hz | ⟨b, off, rfl, hbw, hcl⟩
      · rw [hz] at hlt; simp at hlt
      obtain ⟨c0, c1, c2⟩ := guild_cells hcl hlt
      clear hcl
      generalize hp : recAt ps k = p at *
      obtain ⟨x0, x1, x2⟩ := p
      simp only at c0 c1 c2 a0 a1
      have k0 := cell_regrown c0
      have k1 := cell_regrown c1
      have k2 := cell_regrown c2
      have ih' := fun (w' : World) (h : IsGuilds w' (.slice (some ⟨b, off, none⟩) ps.length cap) ps) => l8Within_of x0 x1 x2 h (ih x0 h a0 (by omega) (by omega))
      have Ih := hide ih'
      clear ih ih' hp
      go_enter Tryz.func157, Tryz.ntmps157
      go_wp2_with fail
      refine wp_region_quiet_below (by kernel_rfl) (by kernel_rfl) ?_
      repeat (go_big_quiet_step (exact Calls.regrown_of (unhide Ih _ ((unhide Hi).below (below_regrown _ _ _)))))
      refine wpQuiet_nil ?_
      intro _ hw'
      obtain ⟨⟨dq, osq⟩, hw''⟩ := hw'
      subst hw''
      go_wp2_with fail
      go_ret2
      exact ⟨rfl, below_regrown _ _ _⟩

end Go.Proofs.YtifolooecfebfaaGreat

/- A list of records, or a record, of one-cell fields that is handed in, opened: what it reads as. No condition but those that a theorem names. -/
namespace Go.Proofs.YtifolooecfebfaaGreat
open Go.ChangeShapes Go.WideShapes Go.ChangeAt Go.RowKit Go.Deep
set_option linter.unusedVariables false

section
variable {α : Type} {k : Nat} {enc : α → List Value} {H : Type} {en : TypeId × Value → H} {P : Program} {w : World} {base : Nat} {spare : Nat → Bool} {held : Bool}

/-- The cells of a struct of one-cell fields, each read by its field's type. -/
theorem struct_cells {t : TypeId} {fs : Array Field} {fuel : Nat} {cs : List Value} {x : DataW H × List MemPlace} (hs : P.underlying t = some (.struct fs)) (hone : oneCellFields P fs = true) (hC : P.cellsOf t = k) (hfs : fs.size = k)
    (h : DataW.trod en P w base spare held fuel t cs = some x) : cs.length = k ∧ ∀ (i : Nat) (f : Field), fs[i]? = some f → ∃ u n y, cs[i]? = some u ∧ DataW.trod en P w base spare held n f.type [u] = some y := by
  obtain ⟨xs, n, _, _, hl, hxl, hf⟩ := DataW.trod_struct hs h
  rw [hC] at hl
  refine ⟨hl, fun i f hi => ?_⟩
  have hlt : i < fs.size := (Array.getElem?_eq_some_iff.1 hi).1
  obtain ⟨ho, hc⟩ := hone_of hone i f hi
  have g := hf i f hi
  rw [ho, hc] at g
  have hd : (cs.drop i).take 1 = [cs[i]'(by omega)] := by rw [List.drop_eq_getElem_cons (by omega)]; rfl
  rw [hd, List.getElem?_eq_getElem (by omega)] at g
  exact ⟨cs[i]'(by omega), n, _, List.getElem?_eq_getElem _, g⟩

theorem open_recs [Inhabited α] {t e : TypeId} {fs : Array Field} {fuel : Nat} {v : Value} {x : DataW H × List MemPlace}
    (ht : P.underlying t = some (.slice e)) (he : P.underlying e = some (.struct fs)) (ce : P.cellsOf e = k) (hfs : fs.size = k) (hone : oneCellFields P fs = true) (h0 : 0 < k)
    (cl : ∀ cs : List Value, cs.length = k → (∀ (i : Nat) (f : Field), fs[i]? = some f → ∃ u n y, cs[i]? = some u ∧ DataW.trod en P w base spare held n f.type [u] = some y) → ∃ x : α, enc x = cs)
    (h : DataW.trod en P w base spare held fuel t [v] = some x) : ∃ ps : List α, IsRec k enc w v ps := by
  rcases open_slice ht h with ⟨hv, _⟩ | ⟨a, len, cap, m, n, D, Pl, hv, _, hl, hm, hmm, _, hx⟩
  · cases hv
    exact ⟨[], none, 0, rfl, Nat.le_refl _, by omega, .inl rfl⟩
  · cases hv
    have hlm : len ≤ m := by rw [hmm]; split <;> omega
    have each : ∀ i, i < len → ∃ q : α, (enc q).length = k ∧ ∀ j, j < k → w.cell? (a.add (i * k + j)) = (enc q)[j]? := by
      intro i hi
      obtain ⟨cs, h1, h2⟩ := hx i (by omega)
      rw [ce] at h1
      obtain ⟨_, hlen, hcell⟩ := World.cells?_some h1
      obtain ⟨h3, h4⟩ := struct_cells he hone ce hfs h2
      obtain ⟨q, hq⟩ := cl cs h3 h4
      refine ⟨q, by rw [hq]; exact h3, fun j hj => ?_⟩
      have := hcell j hj
      rw [add_add] at this
      rw [hq]; exact this
    obtain ⟨F, hF⟩ := choose_lt each
    have hlen : ((List.range len).map F).length = len := by simp
    refine ⟨(List.range len).map F, some a, cap, by rw [hlen], by rw [hlen]; exact hl, by unfold maxLen at hm; omega, ?_⟩
    by_cases hz : len = 0
    · exact .inl (by simp [hz])
    · obtain ⟨hk0, hc0⟩ := hF 0 (by omega)
      have h00 := hc0 0 h0
      rw [List.getElem?_eq_getElem (by omega)] at h00
      have sp := World.cell?_spot h00
      have hlt := World.block_lt_of_cell? _ _ h00
      obtain ⟨b, off, spot⟩ := a
      have hspot : spot = none := by simpa [Addr.add] using sp
      subst hspot
      refine .inr ⟨b, off, rfl, by simpa [Addr.add] using hlt, fun j hj i u hu => ?_⟩
      rw [hlen] at hj
      have hat : recAt ((List.range len).map F) j = F j := by unfold recAt; simp [List.getD, hj]
      rw [hat] at hu
      obtain ⟨hk1, hc1⟩ := hF j hj
      have hi : i < k := by
        rcases Nat.lt_or_ge i k with h | h
        · exact h
        · rw [List.getElem?_eq_none (by omega)] at hu; cases hu
      have := hc1 i hi
      rw [hu, add_plain, ← Nat.add_assoc] at this
      exact this

end

end Go.Proofs.YtifolooecfebfaaGreat

/- Lists of int64: what they read as, and contracts of the laws' own helpers over them: how many, copies in memory of their own, that two that read alike are alike; one that is handed in, opened. Conditions: the slices can be read; what is copied is no longer than 2^20. -/
namespace Go.Proofs.YtifolooecfebfaaGreat
open Go.ChangeShapes Go.WideShapes Go.ChangeAt Go.RowKit Go.Sort Go.Deep
set_option linter.unusedVariables false

def encNum (z : Int) : List Value := [.int .i64 z]
theorem encNum_len (z : Int) : (encNum z).length = 1 := rfl
abbrev IsNums (w : World) (v : Value) (zs : List Int) : Prop := IsRec 1 encNum w v zs
abbrev NumsAt (n₀ : Nat) (w : World) (v : Value) (zs : List Int) : Prop := RecAt 2 1 encNum n₀ w v zs
theorem infoNum : (Tryz.prog.info? 2).map (fun i => (i.zero, i.size, i.bytes)) = some (some (.int .i64 0), 1, 8) := by kernel_rfl
theorem NumsAt.list {n₀ : Nat} {w : World} {v : Value} {zs : List Int} (h : NumsAt n₀ w v zs) : IsNums w v zs := RecAt.recs encNum_len (by omega) h
theorem num_cell {w : World} {b off : Nat} {zs : List Int} (h : ∀ j, j < zs.length → ∀ i u, (encNum (recAt zs j))[i]? = some u → w.cell? ⟨b, off + j * 1 + i, none⟩ = some u) {j : Nat} (hj : j < zs.length) :
    w.cell? ⟨b, off + j, none⟩ = some (.int .i64 (recAt zs j)) := by
  have := h j hj 0 _ rfl
  simpa using this

theorem szInt64S_any (a : Option Addr) (n cap : Nat) (left : Int) (hn : n ≤ 9223372036854775807) (h0 : 0 ≤ left) (h1 : left ≤ 1048576) (w : World) :
    Calls Tryz.prog 65 #[.slice a n cap, .int .i64 left] w fun e w' => e = .returned (.int .i64 (szV n left)) ∧ w' = w := by
  by_cases h : left - n < 0
  all_goals
    go_enter Tryz.func65, Tryz.ntmps65
    go_wp2
    go_ret
    exact ⟨ret_int (by first | exact (szV_f (by omega)).symm | exact (szV_t (by omega)).symm), rfl⟩

set_option maxRecDepth 100000 in
set_option maxHeartbeats 2000000 in
theorem toInt64S_any {w : World} {v : Value} {zs : List Int} (h : IsNums w v zs) (hs : zs.length ≤ 1048576) :
    Calls Tryz.prog 70 #[v] w fun e w' => ∃ v', e = .returned v' ∧ NumsAt w.heap.size w' v' zs ∧ Below w.heap.size w w' := by
  obtain ⟨a, cap, rfl, hc, hm, hr⟩ := h
  have Hr := hide hr
  clear hr
  obtain ⟨i0, hi, hz0, hz1, hz2⟩ := info_parts infoNum
  go_enter Tryz.func70, Tryz.ntmps70
  go_wp2_with (at_make; refine wpList_make_full _ rfl _ _ 30 rfl w.heap.size 2 i0 (.int .i64 0) 1 Tryz.underlying30 hi hz0 hz1 _ _ _ _ zs.length rfl rfl rfl rfl (by rw [hz2]; omega) (by unfold maxLen; omega) (Nat.le_refl _) ?_; intro w0 hown hgrow)
  have Hown : Hid (NumsAt w.heap.size w0 (.slice (some ⟨w.heap.size, 0, none⟩) zs.length zs.length) (fillL zs 0 0)) := hide (by
    rw [made_flat encNum_len (by omega) (0 : Int) (Value.int .i64 0).cells rfl zs.length] at hown
    rw [fillL_zero]
    show w0.ownsRow _ _ _ _ (List.replicate zs.length _).length _
    rw [List.length_replicate]
    exact hown)
  have Hgr := hide hgrow
  clear hown hgrow
  go_loopw [4] (fun i wr => ∃ k : Nat, k ≤ zs.length ∧ i = .int .i64 k ∧ NumsAt w.heap.size wr (.slice (some ⟨w.heap.size, 0, none⟩) zs.length zs.length) (fillL zs 0 k) ∧ Below w.heap.size w wr) (fun i _ => zs.length - (intOf i).toNat)
  case atStart => exact ⟨0, Nat.zero_le _, rfl, unhide Hown, (Below.refl _ _).grown (unhide Hgr) (Nat.le_refl _) (fun k e => by cases e)⟩
  case round =>
    obtain ⟨k, hk, rfl, hown, hb⟩ := hrel
    have Hb := hide hb
    by_cases hlt : k < zs.length
    · rcases unhide Hr with h0 | ⟨b, off, rfl, hbw, hcl⟩
      · rw [h0] at hlt; simp at hlt
      have c0 := num_cell hcl hlt
      rw [← hb.cell (p := ⟨b, off + k, none⟩) hbw] at c0
      have HS := hide (fillL_set (z := (0 : Int)) hlt)
      have hfl := fillL_len (z := (0 : Int)) hk
      obtain ⟨g, hg, _, _, hcells, hfz⟩ := RecAt.view encNum_len (by omega) hown hfl.symm (by omega)
      cases hg
      have o0 := hcells k (by omega) 0 _ rfl
      have f0 := hfz (k * 1)
      simp only [Nat.mul_one, Nat.add_zero] at o0 f0
      have Hp2 := hide (RecAt.put encNum_len (by omega) hown hfl.symm (j := k) (by omega) (recAt zs k))
      generalize recAt zs k = z at *
      clear hcl hb hown hcells hfz hfl
      go_wp2_with fail
      go_roundw
      case rel => exact ⟨k + 1, by omega, by go_num, by have h9 := (unhide Hp2).1; rw [unhide HS] at h9; simpa [setW, encNum] using h9, (unhide Hb).trans (below_grown (by have h9 := (unhide Hp2).2; simpa [setW, encNum] using h9) (Nat.le_refl _) (by have := (unhide Hb).size; omega))⟩
      case measure => simp [intOf]; omega
    · obtain rfl : k = zs.length := by omega
      rw [fillL_all] at hown
      go_wp2_with fail
      go_ret
      exact ⟨_, rfl, hown, hb⟩

set_option maxHeartbeats 2000000 in
theorem eqNums_yes {w : World} {v u : Value} {zs : List Int} (hv : IsNums w v zs) (hu : IsNums w u zs) :
    Calls Tryz.prog 76 #[v, u] w fun e w' => e = .returned (.bool true) ∧ Below w.heap.size w w' := by
  obtain ⟨a, cap, rfl, hc, hm, hr⟩ := hv
  obtain ⟨a', cap', rfl, hc', hm', hr'⟩ := hu
  have Hr := hide hr
  have Hr' := hide hr'
  clear hr hr'
  go_enter Tryz.func76, Tryz.ntmps76
  go_wp2_with fail
  go_loopw [5] (fun i wr => ∃ k : Nat, k ≤ zs.length ∧ i = .int .i64 k ∧ Below w.heap.size w wr) (fun i _ => zs.length - (intOf i).toNat)
  case atStart => exact ⟨0, Nat.zero_le _, rfl, Below.refl _ _⟩
  case round =>
    obtain ⟨k, hk, rfl, hb⟩ := hrel
    have Hb := hide hb
    by_cases hlt : k < zs.length
    · rcases unhide Hr with h0 | ⟨b, off, rfl, hbw, hcl⟩
      · rw [h0] at hlt; simp at hlt
      rcases unhide Hr' with h0 | ⟨b', off', rfl, hbw', hcl'⟩
      · rw [h0] at hlt; simp at hlt
      have c0 := num_cell hcl hlt
      have d0 := num_cell hcl' hlt
      rw [← hb.cell (p := ⟨b, off + k, none⟩) hbw] at c0
      rw [← hb.cell (p := ⟨b', off' + k, none⟩) hbw'] at d0
      generalize recAt zs k = z at *
      clear hcl hcl' hb
      go_wp2_with fail
      go_quiet (fail)
      go_wp2_with fail
      go_roundw
      case rel => exact ⟨k + 1, by omega, by go_num, ⟨(unhide Hb).os, (unhide Hb).tape, (unhide Hb).output, (unhide Hb).size, (unhide Hb).block⟩⟩
      case measure => simp [intOf]; omega
    · go_wp2_with fail
      go_ret
      exact ⟨rfl, hb⟩

def w1cell (W : World) (a : Addr) (i : Nat) (q : Int) : Prop := W.cell? (a.add i) = some (.int .i64 q)
/-- A slice of int64 that is handed in. -/
theorem open_nums {H : Type} {enc : TypeId × Value → H} {W : World} {spare : Nat → Bool} {held : Bool} {n : Nat} {v : Value} {y : DataW H × List MemPlace}
    (h : DataW.trod enc Tryz.prog W 0 spare held n 30 [v] = some y) : ∃ zs, IsNums W v zs := by
  rcases open_slice Tryz.underlying30 h with ⟨hv, _⟩ | ⟨a, len, cap, m, n', D, Pl, hv, _, hl, hm, hmm, _, hx⟩
  · cases hv
    exact ⟨[], none, 0, rfl, Nat.le_refl _, by omega, .inl rfl⟩
  · cases hv
    have hlm : len ≤ m := by rw [hmm]; split <;> omega
    have ce : Tryz.prog.cellsOf 2 = 1 := by kernel_rfl
    have each : ∀ i, i < len → ∃ q : Int, w1cell W a i q := by
      intro i hi
      obtain ⟨cs, h1, h2⟩ := hx i (by omega)
      rw [ce] at h1
      obtain ⟨_, hlen, hcell⟩ := World.cells?_some h1
      obtain ⟨c, rfl⟩ : ∃ c, cs = [c] := by
        match cs, hlen with
        | [c], _ => exact ⟨c, rfl⟩
      obtain ⟨z, hz, _⟩ := DataW.trod_int Tryz.underlying2 h2
      cases hz
      have := hcell 0 (by omega)
      exact ⟨z, by simpa [w1cell, Addr.add] using this⟩
    obtain ⟨F, hF⟩ := choose_lt each
    have hlen : ((List.range len).map F).length = len := by simp
    refine ⟨(List.range len).map F, some a, cap, by rw [hlen], by rw [hlen]; exact hl, by unfold maxLen at hm; omega, ?_⟩
    by_cases hz : len = 0
    · exact .inl (by simp [hz])
    · have h0 : W.cell? (a.add 0) = some (.int .i64 (F 0)) := by simpa [w1cell] using hF 0 (by omega)
      have sp := World.cell?_spot h0
      have hlt := World.block_lt_of_cell? _ _ h0
      obtain ⟨b, off, spot⟩ := a
      have hspot : spot = none := by simpa [Addr.add] using sp
      subst hspot
      refine .inr ⟨b, off, rfl, by simpa [Addr.add] using hlt, fun j hj i u hu => ?_⟩
      rw [hlen] at hj
      have hat : recAt ((List.range len).map F) j = F j := by unfold recAt; simp [List.getD, hj]
      rw [hat] at hu
      have hi : i = 0 := by
        rcases Nat.eq_zero_or_pos i with h | h
        · exact h
        · rw [List.getElem?_eq_none (by unfold encNum; simp; omega)] at hu; cases hu
      subst hi
      have hj2 := hF j hj
      unfold w1cell at hj2
      rw [add_plain] at hj2
      simp only [encNum, List.getElem?_cons_zero, Option.some.injEq] at hu
      subst hu
      simpa using hj2

end Go.Proofs.YtifolooecfebfaaGreat

/- Records appended to a row of the call's own, and one field of one of them written: rows of RecKit. Conditions: those that each theorem names. -/
namespace Go.Proofs.YtifolooecfebfaaGreat
open Go.ChangeShapes Go.WideShapes Go.ChangeAt Go.RowKit Go.Sort
set_option linter.unusedVariables false

theorem addr_to (g o i : Nat) : (⟨g, o, none⟩ : Addr).add i = ⟨g, o + i, none⟩ := by unfold Addr.add; split <;> simp_all
theorem parts_of {e k bytes : Nat} {z : Value} (h : (Tryz.prog.info? e).map (fun i => (i.zero, i.size, i.bytes)) = some (some z, k, bytes)) : ∃ i, Tryz.prog.info? e = some i ∧ i.zero = some z ∧ i.size = k ∧ i.bytes = bytes := by
  cases hi : Tryz.prog.info? e with
  | none => rw [hi] at h; cases h
  | some i =>
    rw [hi] at h
    simp only [Option.map_some, Option.some.injEq, Prod.mk.injEq] at h
    exact ⟨i, rfl, h.1, h.2.1, h.2.2⟩
theorem run_append_none {w : World} {base t ty e size n : Nat} {i : TypeInfo} (ht : Tryz.prog.underlying t = some (.slice e)) (hi : Tryz.prog.info? e = some i) {v : Value} {xs : List Value} (hown : w.ownsRow base e size v n xs) (a : Option Addr) (c : Nat) :
    (Builtin.append_ #[t, t] ty #[v, .slice a 0 c]).run Tryz.prog w = .ok v w := by
  rcases hown.2 with ⟨rfl, rfl⟩ | ⟨g, cap, cur, rfl, _, _, hnc, _⟩
  · cases a <;> simp [Builtin.append_, run_underlying ht, sizeOf, typeInfo, hi, Builtin.lenOf, Builtin.firstCells, loadCells, loadCellsFrom]
  · cases a <;> simp [Builtin.append_, run_underlying ht, sizeOf, typeInfo, hi, Builtin.lenOf, Builtin.firstCells, hnc, storeCells, loadCells, loadCellsFrom]

/-- What append asks of the records' type e. -/
structure RecTy {α : Type} (e k : Nat) (z : Value) (enc : α → List Value) : Prop where
  info : (Tryz.prog.info? e).map (fun i => (i.zero, i.size, i.bytes)) = some (some z, k, 8 * k)
  zero : z.cells.size = k
  len : ∀ x, (enc x).length = k
  pos : 0 < k
  few : k ≤ 100
  one : ∀ x, ∀ u ∈ enc x, u.oneCell' = true

section
variable {α : Type} {e k : Nat} {enc : α → List Value}
theorem flat_one (hone : ∀ x : α, ∀ u ∈ enc x, u.oneCell' = true) (qs : List α) : ∀ u ∈ flat enc qs, u.oneCell' = true := fun u hu => by
  unfold flat at hu
  obtain ⟨p, _, hp⟩ := List.mem_flatMap.1 hu
  exact hone p u hp
theorem recs_empty {B g : Nat} {w : World} (hg : g = w.heap.size) (hB : B ≤ g) : RecAt e k enc B (w.alloc (.cells #[] e)) (.slice (some ⟨g, 0, none⟩) 0 0) [] := by
  subst hg
  exact ⟨by simp [flat], .inr ⟨_, 0, #[], rfl, hB, heap_alloc_new w _, Nat.le_refl _, Nat.zero_le _, by simp, by simp [flat]⟩⟩
end

section
variable {α : Type} [Inhabited α] {e k : Nat} {enc : α → List Value} {z : Value}
theorem rec_cells (hk : ∀ x, (enc x).length = k) (h0 : 0 < k) {w : World} {b off : Nat} {qs : List α} (h : ∀ j, j < qs.length → ∀ i u, (enc (recAt qs j))[i]? = some u → w.cell? ⟨b, off + j * k + i, none⟩ = some u) :
    ∀ (j : Nat) (u : Value), (flat enc qs)[j]? = some u → w.cell? ((⟨b, off, none⟩ : Addr).add j) = some u := fun j u hj => by
  have hlt : j < qs.length * k := by
    rcases Nat.lt_or_ge j (qs.length * k) with h | h
    · exact h
    · rw [List.getElem?_eq_none (by rw [flat_len hk]; exact h)] at hj; cases hj
  have hd : j / k < qs.length := (Nat.div_lt_iff_lt_mul h0).2 hlt
  have hr : j % k < k := Nat.mod_lt _ h0
  have he : j = j / k * k + j % k := by rw [Nat.mul_comm]; exact (Nat.div_add_mod j k).symm
  rw [addr_to]
  rw [he, flat_get hk qs (j / k) hd (j % k) hr] at hj
  have := h (j / k) hd (j % k) u hj
  rw [Nat.add_assoc, ← he] at this
  exact this
/-- Records that read as qs, appended to a row of the call's own. -/
theorem run_append_recs (T : RecTy e k z enc) {w : World} {base t ty : Nat} (ht : Tryz.prog.underlying t = some (.slice e)) {v x : Value} {ps qs : List α} (hown : RecAt e k enc base w v ps) (hx : IsRec k enc w x qs) (hb : ps.length + qs.length ≤ 4000) (hbase : base ≤ w.heap.size) :
    ∃ v' w', (Builtin.append_ #[t, t] ty #[v, x]).run Tryz.prog w = .ok v' w' ∧ RecAt e k enc base w' v' (ps ++ qs) ∧ w.grownBy w' v.ownBlock ∧ (v'.ownBlock = v.ownBlock ∨ v'.ownBlock = some w.heap.size) := by
  obtain ⟨i0, hi, hz0, hz1, hz2⟩ := parts_of T.info
  obtain ⟨a, c, rfl, hc, hm, hr⟩ := hx
  by_cases h0 : qs = []
  · subst h0
    refine ⟨v, w, run_append_none ht hi hown a c, by simpa using hown, grown_refl _ _, .inl rfl⟩
  · rcases hr with hr | ⟨b, off, rfl, hlt, hcl⟩
    · exact absurd hr h0
    · have hk := T.few
      have hmul : (ps.length + qs.length) * (8 * k) ≤ 4000 * 800 := Nat.mul_le_mul hb (by omega)
      obtain ⟨v', w', hr, h2, h3, _, h5⟩ := run_append_own_at (P := Tryz.prog) w base t ty e i0 z k (8 * k) ht hi hz0 hz1 hz2 T.zero T.pos v ps.length _ hown ⟨b, off, none⟩ qs.length c (flat enc qs) (flat_len T.len qs)
        (rec_cells T.len T.pos hcl) (flat_one T.one qs) (by simp only [maxLen]; omega) (by omega) hbase
      refine ⟨v', w', hr, ?_, h3, h5⟩
      unfold RecAt
      rw [flat_append, List.length_append]
      exact h2
/-- At a plain region's list. -/
theorem wpList_append_recs (T : RecTy e k z enc) {w : World} {ops : Array Oper} {rest : List Oper} {o : Oper} {a : Act} {Q : Exit → Act → World → Prop} (hgd : o.guard = none) (s x : Operand) (t : TypeId) (ht : Tryz.prog.underlying t = some (.slice e))
    (ho : o.op = .call { callee := .builtin .append, args := #[s, x], argTypes := #[t, t] }) (base : Nat) (v u : Value) (ps qs : List α) (hs : a.eval s = v) (hx : a.eval x = u) (hown : RecAt e k enc base w v ps) (hr : IsRec k enc w u qs)
    (hb : ps.length + qs.length ≤ 4000) (hbase : base ≤ w.heap.size)
    (h : ∀ v' w', RecAt e k enc base w' v' (ps ++ qs) → w.grownBy w' v.ownBlock → (v'.ownBlock = v.ownBlock ∨ v'.ownBlock = some w.heap.size) → wpList Tryz.prog ops Q rest (a.put o.dst v') w') :
    wpList Tryz.prog ops Q (o :: rest) a w := by
  refine wpList_plain hgd fun K hK => ?_
  obtain ⟨v', w', hrun, h2, h3, h5⟩ := run_append_recs T (ty := o.type) ht hown hr hb hbase
  unfold Oper.wp execOp
  simp only [ho, resolve, invoke, builtin, Sem.run_bind, Sem.run_pure, Result.andThen_ok, List.map_toArray, List.map_cons, List.map_nil, hs, hx, hrun]
  exact hK _ _ (h v' w' h2 h3 h5)
theorem recs_one {w : World} (x : α) {g c : Nat} (hg : g = w.heap.size) (hc : 1 ≤ c) (hc2 : c ≤ 4000) : IsRec k enc (w.alloc (.cells (enc x).toArray e)) (.slice (some ⟨g, 0, none⟩) 1 c) [x] := by
  subst hg
  refine ⟨_, c, rfl, hc, by omega, .inr ⟨_, 0, rfl, by simp, fun j hj i u hu => ?_⟩⟩
  obtain rfl : j = 0 := by simpa using hj
  rw [Nat.zero_mul, Nat.zero_add, World.cell?_alloc_at _ _ _ _ rfl]
  have hr : recAt [x] 0 = x := rfl
  rw [hr] at hu
  simpa using hu
/-- One cell of a record is written. -/
theorem flat_set1 (hk : ∀ x, (enc x).length = k) (h0 : 0 < k) (xs : List α) {j i : Nat} (hj : j < xs.length) (hi : i < k) (u : Value) (x : α) (hx : enc x = (enc (recAt xs j)).set i u) : (flat enc xs).set (j * k + i) u = flat enc (xs.set j x) := by
  have hl := flat_len hk xs
  have hjk : j * k + k ≤ xs.length * k := by rw [← Nat.succ_mul]; exact Nat.mul_le_mul_right k hj
  apply List.ext_getElem?
  intro m
  by_cases hm : m < xs.length * k
  · have hd : m / k < xs.length := (Nat.div_lt_iff_lt_mul h0).2 hm
    have hr : m % k < k := Nat.mod_lt _ h0
    have he : m = m / k * k + m % k := by rw [Nat.mul_comm]; exact (Nat.div_add_mod m k).symm
    have hg := flat_get hk (xs.set j x) (m / k) (by simpa using hd) (m % k) hr
    have hg0 := flat_get hk xs (m / k) hd (m % k) hr
    rw [← he] at hg hg0
    rw [hg, recAt_set hj]
    by_cases e : m / k = j
    · rw [if_pos e, hx]
      by_cases ei : m % k = i
      · have hmi : m = j * k + i := by rw [← e, ← ei]; exact he
        rw [ei, hmi, List.getElem?_set_self (by rw [hl]; omega), List.getElem?_set_self (by rw [hk]; exact hi)]
      · have hmi : j * k + i ≠ m := by rw [← e]; omega
        rw [List.getElem?_set_ne hmi, List.getElem?_set_ne (Ne.symm ei), hg0, e]
    · rw [if_neg e, List.getElem?_set_ne, hg0]
      intro h
      apply e
      rw [← h]
      exact Nat.div_eq_of_lt_le (Nat.le_add_right _ _) (by rw [Nat.succ_mul]; omega)
  · rw [List.getElem?_eq_none (by simp; omega), List.getElem?_eq_none (by rw [flat_len hk]; simp; omega)]
theorem RecAt.put1 (hk : ∀ x, (enc x).length = k) (h0 : 0 < k) {t n₀ n cap g : Nat} {w : World} {xs : List α} (h : RecAt t k enc n₀ w (.slice (some ⟨g, 0, none⟩) n cap) xs) (hn : n = xs.length) {j i : Nat} (hj : j < xs.length) (hi : i < k) (u : Value) (x : α) (hx : enc x = (enc (recAt xs j)).set i u) :
    RecAt t k enc n₀ (w.setCell ⟨g, j * k + i, none⟩ u) (.slice (some ⟨g, 0, none⟩) n cap) (xs.set j x) ∧ w.grownBy (w.setCell ⟨g, j * k + i, none⟩ u) (some g) := by
  subst hn
  obtain ⟨h1, h2⟩ := World.ownsRow.stored h (j * k + i) u
  rw [flat_set1 hk h0 xs hj hi u x hx] at h1
  refine ⟨?_, h2⟩
  unfold RecAt
  rw [List.length_set]
  exact h1
end

end Go.Proofs.YtifolooecfebfaaGreat

/- Halls that the call itself made: rows of rooms and of paces, no two of them in one block; what they read as; that they stay; how a room is put to them. Conditions: those that each theorem names. -/
namespace Go.Proofs.YtifolooecfebfaaGreat
open Go.ChangeShapes Go.WideShapes Go.ChangeAt Go.RowKit Go.Sort
set_option linter.unusedVariables false

/-- The slice v, in a block from n₀ on, holds the paces ps. -/
def PacesAt (n₀ : Nat) (w : World) (v : Value) (ps : List PaceV) : Prop := w.ownsRow n₀ 126 2 v ps.length (pcells ps)
theorem PacesAt.lt {n₀ : Nat} {w : World} {v : Value} {ps : List PaceV} (h : PacesAt n₀ w v ps) {k : Nat} (hk : v.ownBlock = some k) : n₀ ≤ k ∧ k < w.heap.size := World.ownsRow.lt h k hk
theorem PacesAt.paces {n₀ : Nat} {w : World} {v : Value} {ps : List PaceV} (h : PacesAt n₀ w v ps) : IsPaces w v ps := by
  have h' := h
  rcases h.2 with ⟨rfl, hz⟩ | ⟨g, cap, cur, rfl, hb, hg, hnc, hcm, r⟩
  · exact ⟨none, 0, by rw [hz], by omega, by omega, .inl (List.eq_nil_of_length_eq_zero hz)⟩
  · refine ⟨_, cap, rfl, hnc, by unfold maxLen at hcm; omega, .inr ⟨g, 0, rfl, (Array.getElem?_eq_some_iff.1 hg).1, fun k hk => ?_⟩⟩
    have hp := pairs_get (f := fun p : PaceV => Value.int .i64 p.1) (g := fun p : PaceV => Value.int .i64 p.2) ps k hk
    have hat : paceAt ps k = ps[k] := by unfold paceAt; simp [List.getD, hk]
    rw [Nat.zero_add, hat]
    exact ⟨(World.ownsRow.cellAt h' (k * 2) (by omega)).trans hp.1, (World.ownsRow.cellAt h' (k * 2 + 1) (by omega)).trans hp.2⟩

/-- The slice v holds the rooms qs, each with the slice of its paces; all lie in blocks from n₀ on, no two in one. -/
structure OwnHall (n₀ : Nat) (w : World) (v : Value) (qs : List (RoomV × Value)) : Prop where
  row : w.ownsRow n₀ 124 2 v qs.length (rcells qs)
  paces : ∀ q ∈ qs, PacesAt n₀ w q.2 q.1.2
  off : ∀ q ∈ qs, ∀ b, q.2.ownBlock = some b → v.ownBlock ≠ some b
  apart : (qs.map (·.2)).Pairwise fun x y => ∀ b, x.ownBlock = some b → y.ownBlock ≠ some b
theorem OwnHall.nil (n₀ : Nat) (w : World) : OwnHall n₀ w (.slice none 0 0) [] :=
  ⟨World.ownsRow_nil w n₀ _ _, fun _ h => (by cases h), fun _ h => (by cases h), List.Pairwise.nil⟩
theorem OwnHall.lt {n₀ : Nat} {w : World} {v : Value} {qs : List (RoomV × Value)} (h : OwnHall n₀ w v qs) {k : Nat} (hk : v.ownBlock = some k ∨ ∃ q ∈ qs, q.2.ownBlock = some k) : n₀ ≤ k ∧ k < w.heap.size := by
  rcases hk with hk | ⟨q, hq, hk⟩
  · exact World.ownsRow.lt h.row k hk
  · exact (h.paces q hq).lt hk
theorem OwnHall.same {n₀ : Nat} {w w' : World} {v : Value} {qs : List (RoomV × Value)} (h : OwnHall n₀ w v qs) (hs : ∀ k, n₀ ≤ k → k < w.heap.size → w'.heap[k]? = w.heap[k]?) : OwnHall n₀ w' v qs :=
  ⟨own_same h.row (fun k e => hs k (h.lt (.inl e)).1 (h.lt (.inl e)).2), fun q hq => own_same (h.paces q hq) (fun k e => hs k (h.lt (.inr ⟨q, hq, e⟩)).1 (h.lt (.inr ⟨q, hq, e⟩)).2), h.off, h.apart⟩
theorem OwnHall.later {n₀ : Nat} {w w' : World} {v : Value} {qs : List (RoomV × Value)} (h : OwnHall n₀ w v qs) (hb : Below w.heap.size w w') : OwnHall n₀ w' v qs := h.same (fun k _ hk => hb.block k hk)
theorem OwnHall.mono {n₀ n₁ : Nat} {w : World} {v : Value} {qs : List (RoomV × Value)} (h : OwnHall n₀ w v qs) (hn : n₁ ≤ n₀) : OwnHall n₁ w v qs :=
  ⟨own_mono h.row hn, fun q hq => own_mono (h.paces q hq) hn, h.off, h.apart⟩
theorem OwnHall.rooms {n₀ : Nat} {w : World} {v : Value} {qs : List (RoomV × Value)} (h : OwnHall n₀ w v qs) : IsRooms w v (qs.map (·.1)) := by
  have h' := h.row
  have hlen : (qs.map (·.1)).length = qs.length := by simp
  rcases h.row.2 with ⟨rfl, hz⟩ | ⟨g, cap, cur, rfl, hb, hg, hnc, hcm, r⟩
  · exact ⟨none, 0, by rw [hlen, hz], by omega, by omega, .inl (by rw [List.eq_nil_of_length_eq_zero hz]; rfl)⟩
  · refine ⟨_, cap, by rw [hlen], by rw [hlen]; exact hnc, by unfold maxLen at hcm; omega, .inr ⟨g, 0, rfl, (Array.getElem?_eq_some_iff.1 hg).1, fun k hk => ?_⟩⟩
    rw [hlen] at hk
    have hp := pairs_get (f := fun q : RoomV × Value => Value.int .i64 q.1.1) (g := fun q : RoomV × Value => q.2) qs k hk
    have hat : roomAt (qs.map (·.1)) k = qs[k].1 := by unfold roomAt; simp [List.getD, hk]
    rw [Nat.zero_add, hat]
    exact ⟨(World.ownsRow.cellAt h' (k * 2) (by omega)).trans hp.1, qs[k].2, (World.ownsRow.cellAt h' (k * 2 + 1) (by omega)).trans hp.2, (h.paces _ (List.getElem_mem hk)).paces⟩

/-- A room is put to it. -/
theorem OwnHall.push {n₀ : Nat} {w w1 : World} {v v' pv : Value} {qs : List (RoomV × Value)} {rb : Int} {ps : List PaceV} {o : Obj} (h : OwnHall n₀ w v qs) (hp : PacesAt n₀ w pv ps)
    (hoff : ∀ b, pv.ownBlock = some b → v.ownBlock ≠ some b) (hap : ∀ q ∈ qs, ∀ b, q.2.ownBlock = some b → pv.ownBlock ≠ some b)
    (hown : w1.ownsRow n₀ 124 2 v' (qs.length + 1) (rcells qs ++ [.int .i64 rb, pv])) (hg : (w.alloc o).grownBy w1 v.ownBlock) (hat : v'.ownBlock = v.ownBlock ∨ v'.ownBlock = some (w.alloc o).heap.size) :
    OwnHall n₀ w1 v' (qs ++ [((rb, ps), pv)]) := by
  have hk : ∀ k, k < w.heap.size → v.ownBlock ≠ some k → w1.heap[k]? = w.heap[k]? := fun k hk hn => (hg.block k (by simp; omega) (fun e => hn e.symm)).trans (Below.heap_alloc w o k hk)
  have hv' : ∀ k, k < w.heap.size → v'.ownBlock = some k → v.ownBlock = some k := fun k hk e => by
    rcases hat with e' | e'
    · rw [← e']; exact e
    · rw [e'] at e; simp at e; omega
  refine ⟨?_, fun q hq => ?_, fun q hq b e => ?_, ?_⟩
  · simpa [rcells] using hown
  · rcases List.mem_append.1 hq with hq | hq
    · exact own_same (h.paces q hq) (fun k e => hk k (h.lt (.inr ⟨q, hq, e⟩)).2 (h.off q hq k e))
    · obtain rfl : q = ((rb, ps), pv) := by simpa using hq
      exact own_same hp (fun k e => hk k (hp.lt e).2 (hoff k e))
  · rcases List.mem_append.1 hq with hq | hq
    · exact fun e' => h.off q hq b e (hv' b (h.lt (.inr ⟨q, hq, e⟩)).2 e')
    · obtain rfl : q = ((rb, ps), pv) := by simpa using hq
      exact fun e' => hoff b e (hv' b (hp.lt e).2 e')
  · rw [List.map_append, List.pairwise_append]
    refine ⟨h.apart, by simp, fun x hx y hy b e => ?_⟩
    obtain ⟨q, hq, rfl⟩ := List.mem_map.1 hx
    obtain rfl : y = pv := by simpa using hy
    exact hap q hq b e

theorem infoRoom2 : (Tryz.prog.info? 124).map (fun i => (i.zero, i.size, i.bytes)) = some (some (.agg #[.int .i64 0, .slice none 0 0]), 2, 32) := by kernel_rfl

theorem OwnHall.shape {n₀ : Nat} {w : World} {v : Value} {qs : List (RoomV × Value)} (h : OwnHall n₀ w v qs) : ∃ a cap, v = .slice a qs.length cap := by
  rcases h.row.2 with ⟨rfl, hz⟩ | ⟨g, cap, cur, rfl, _⟩
  · exact ⟨none, 0, by rw [hz]⟩
  · exact ⟨_, cap, rfl⟩
theorem PacesAt.shape {n₀ : Nat} {w : World} {v : Value} {ps : List PaceV} (h : PacesAt n₀ w v ps) : ∃ a cap, v = .slice a ps.length cap := by
  rcases h.2 with ⟨rfl, hz⟩ | ⟨g, cap, cur, rfl, _⟩
  · exact ⟨none, 0, by rw [hz]⟩
  · exact ⟨_, cap, rfl⟩

end Go.Proofs.YtifolooecfebfaaGreat

/- A region that draws its order and whose last operation waits for all others: it is enough to walk the others in every order, and then the last one. No condition but those that a theorem names. -/
namespace Go.Proofs.YtifolooecfebfaaGreat
set_option linter.unusedVariables false

section
variable {P : Program} {ops : Array Oper} {z : Oper} {Q : Exit → Act → World → Prop} {md : Region.Mode}

/-- As Q; at the end of the others: the last one is run. -/
def tailQ (P : Program) (full : Array Oper) (Q : Exit → Act → World → Prop) (n : Nat) : Exit → Act → World → Prop
  | .normal, a, w => wpOp P full Q n (fun a' w' => Q .normal a' w') a w
  | e, a, w => Q e a w
/-- None is guarded and each waits for earlier ones alone; for each one the last one waits, or a later one. -/
def tailOk (md : Region.Mode) (ops : Array Oper) (z : Oper) : Bool :=
  (List.range ops.size).all (fun i => (ops[i]?).all fun o => o.guard.isNone && o.after.all fun e => decide (e.on < i)) && (List.range ops.size).all (fun i => (z.after.any fun e => Region.binds md e && decide (e.on = i)) || (List.range ops.size).any fun j => decide (i < j) && (ops[j]?).any fun o => o.after.any fun e => Region.binds md e && decide (e.on = i)) && z.after.all fun e => decide (e.on < ops.size)

theorem upon_q {Q' : Exit → Act → World → Prop} (hq : ∀ e a w, e ≠ .normal → Q' e a w → Q e a w) {o : Oper} {a : Act} {w : World} {K : Act → World → Prop} (h : o.wp P a w K Q') : o.wp P a w K Q := by
  have hl : LetsOut Q' → LetsOut Q := fun ⟨a, w, h⟩ => ⟨a, w, hq _ _ _ (by simp) h⟩
  unfold Oper.wp at *
  generalize (execOp a.eval o).run P w = r at *
  cases r with
  | ok n w' =>
    cases n <;> simp only [Oper.upon] at h ⊢ <;>
      first
        | exact h
        | exact Calls.mono h (fun e w'' he => by cases e <;> first | exact he | exact hq _ _ _ (by simp) he | exact hl he)
  | halt x w' =>
    cases x <;> simp only [Oper.upon] at h ⊢ <;> first | exact h | exact hq _ _ _ (by simp) h | exact hl h

theorem getD_push (l : Array Bool) (d : Bool) (i : Nat) : (l.push false).getD i d = if i = l.size then false else l.getD i d := by
  simp only [Array.getD_eq_getD_getElem?, Array.getElem?_push]
  split <;> rfl
theorem ready_push (l : Array Bool) (hl : l.size = ops.size) : Region.ready md (ops.push z) (l.push false) = Region.ready md ops l ++ (if (z.after.all fun e => !Region.binds md e || l.getD e.on false) = true then [ops.size] else []) := by
  have hout : ∀ j, (l.push false).getD j false = l.getD j false := fun j => by
    rw [getD_push]
    split
    · rename_i h; subst h; simp
    · rfl
  unfold Region.ready
  rw [Array.size_push, List.range_succ, List.filter_append]
  congr 1
  · refine List.filter_congr fun i hi => ?_
    have hi := List.mem_range.1 hi
    rw [getD_push, if_neg (by omega), Array.getElem?_push, if_neg (by omega)]
    simp only [hout]
  · simp only [List.filter_cons, List.filter_nil]
    rw [getD_push, if_pos hl.symm, Array.getElem?_push, if_pos rfl]
    simp only [hout, Bool.not_false, Bool.true_and, Option.map_some, Option.getD_some]
theorem set_push (l : Array Bool) {i : Nat} (hi : i < l.size) : (l.push false).setIfInBounds i true = (l.setIfInBounds i true).push false := by
  apply Array.ext_getElem?
  intro j
  simp only [Array.getElem?_setIfInBounds, Array.getElem?_push, Array.size_push, Array.size_setIfInBounds]
  by_cases h1 : i = j
  · subst h1
    have h2 : ¬ i = l.size := by omega
    have h3 : i < l.size + 1 := by omega
    simp [h2, h3, hi]
  · simp [h1]

theorem tailOk_of (h : tailOk md ops z = true) : (∀ (i : Nat) (o : Oper), ops[i]? = some o → o.guard = none ∧ ∀ e ∈ o.after, e.on < i) ∧ (∀ i, i < ops.size → (∃ e ∈ z.after, Region.binds md e = true ∧ e.on = i) ∨ ∃ (j : Nat) (o : Oper), i < j ∧ j < ops.size ∧ ops[j]? = some o ∧ ∃ e ∈ o.after, Region.binds md e = true ∧ e.on = i) ∧ ∀ e ∈ z.after, e.on < ops.size := by
  unfold tailOk at h
  simp only [Bool.and_eq_true, List.all_eq_true, List.mem_range] at h
  obtain ⟨⟨h1, h2⟩, h3⟩ := h
  refine ⟨fun i o ho => ?_, fun i hi => ?_, fun e he => ?_⟩
  · have hi : i < ops.size := by
      rcases Nat.lt_or_ge i ops.size with h | h
      · exact h
      · rw [Array.getElem?_eq_none h] at ho; cases ho
    have := h1 i hi
    rw [ho] at this
    simp only [Option.all_some, Bool.and_eq_true, Option.isNone_iff_eq_none, Array.all_eq_true_iff_forall_mem, decide_eq_true_eq] at this
    exact this
  · have := h2 i hi
    rw [Bool.or_eq_true] at this
    rcases this with this | this
    · obtain ⟨k, hk, h9⟩ := Array.any_eq_true.1 this
      simp only [Bool.and_eq_true, decide_eq_true_eq] at h9
      exact .inl ⟨_, Array.getElem_mem hk, h9.1, h9.2⟩
    · obtain ⟨j, hj, hja⟩ := List.any_eq_true.1 this
      have hj := List.mem_range.1 hj
      rw [Bool.and_eq_true, decide_eq_true_eq] at hja
      have ho : ops[j]? = some ops[j] := Array.getElem?_eq_getElem hj
      have h8 := hja.2
      rw [ho] at h8
      obtain ⟨k, hk, h9⟩ := Array.any_eq_true.1 h8
      simp only [Bool.and_eq_true, decide_eq_true_eq] at h9
      exact .inr ⟨j, _, hja.1, hj, ho, _, Array.getElem_mem hk, h9.1, h9.2⟩
  · simp only [Array.all_eq_true_iff_forall_mem, decide_eq_true_eq] at h3
    exact h3 e he
theorem getD_tf {l : Array Bool} {i : Nat} (hi : i < l.size) (h : l.getD i true = true) : l.getD i false = true := by
  simp only [Array.getD_eq_getD_getElem?, Array.getElem?_eq_getElem hi, Option.getD_some] at h ⊢
  exact h
/-- Where none may come up all have. -/
theorem ready_all (hok : tailOk md ops z = true) {l : Array Bool} (hl : l.size = ops.size) (hr : Region.ready md ops l = []) : ∀ i, i < ops.size → l.getD i true = true := by
  obtain ⟨h1, _, _⟩ := tailOk_of hok
  intro i
  induction i using Nat.strongRecOn with
  | _ i ih =>
    intro hi
    cases hg : l.getD i true
    · exfalso
      have ho : ops[i]? = some ops[i] := Array.getElem?_eq_getElem hi
      obtain ⟨_, ha⟩ := h1 i _ ho
      have hm : i ∈ Region.ready md ops l := by
        unfold Region.ready
        rw [List.mem_filter]
        refine ⟨List.mem_range.2 hi, ?_⟩
        rw [hg, ho]
        simp only [Bool.not_false, Bool.true_and, Option.map_some, Option.getD_some, Array.all_eq_true_iff_forall_mem]
        intro e he
        have hlt := ha e he
        rw [getD_tf (by omega) (ih e.on hlt (by omega)), Bool.or_true]
      rw [hr] at hm
      exact List.not_mem_nil hm
    · rfl
theorem ready_none {l : Array Bool} (h : ∀ i, i < ops.size → l.getD i true = true) : Region.ready md ops l = [] := by
  unfold Region.ready
  rw [List.filter_eq_nil_iff]
  intro i hi
  rw [h i (List.mem_range.1 hi)]
  simp
theorem wpAny_end {l : Array Bool} {a : Act} {w : World} (hr : Region.ready md ops l = []) (h : Q .normal a w) : ∀ fuel, wpAny P md ops Q fuel l a w
  | 0 => ⟨hr, h⟩
  | _ + 1 => ⟨fun _ => h, by rw [hr]; simp⟩

/-- What has come up has waited. -/
def Closed2 (md : Region.Mode) (ops : Array Oper) (l : Array Bool) : Prop := ∀ (i : Nat) (o : Oper), ops[i]? = some o → l.getD i false = true → ∀ e ∈ o.after, Region.binds md e = true → l.getD e.on false = true
theorem all_listed (hok : tailOk md ops z = true) {l : Array Bool} (hcl : Closed2 md ops l) (hz : (z.after.all fun e => !Region.binds md e || l.getD e.on false) = true) : ∀ d i, i + d + 1 = ops.size → l.getD i false = true := by
  obtain ⟨_, k2, _⟩ := tailOk_of hok
  rw [Array.all_eq_true_iff_forall_mem] at hz
  intro d
  induction d using Nat.strongRecOn with
  | _ d ih =>
    intro i hi
    rcases k2 i (by omega) with ⟨e, he, hb, rfl⟩ | ⟨j, o, hij, hj, ho, e, he, hb, rfl⟩
    · have := hz e he
      rw [hb] at this
      simpa using this
    · exact hcl j o ho (ih (ops.size - j - 1) (by omega) j (by omega)) e he hb

theorem tail_any (hok : tailOk md ops z = true) : ∀ (fuel : Nat) (l : Array Bool) (a : Act) (w : World), l.size = ops.size → Closed2 md ops l → wpAny P md ops (tailQ P (ops.push z) Q ops.size) fuel l a w → wpAny P md (ops.push z) Q (fuel + 1) (l.push false) a w := by
  obtain ⟨k1, k2, k3⟩ := tailOk_of hok
  -- all others have come up: the last one
  have last : ∀ (fuel : Nat) (l : Array Bool) (a : Act) (w : World), l.size = ops.size → Region.ready md ops l = [] → tailQ P (ops.push z) Q ops.size .normal a w → wpAny P md (ops.push z) Q (fuel + 1) (l.push false) a w := by
    intro fuel l a w hl hr hq
    have hall := ready_all hok hl hr
    have hz : (z.after.all fun e => !Region.binds md e || l.getD e.on false) = true := by
      rw [Array.all_eq_true_iff_forall_mem]
      intro e he
      rw [getD_tf (by have := k3 e he; omega) (hall e.on (k3 e he)), Bool.or_true]
    have hrf := ready_push (ops := ops) (z := z) (md := md) l hl
    rw [hr, if_pos hz, List.nil_append] at hrf
    refine ⟨fun h0 => (by rw [hrf] at h0; cases h0), fun i hi => ?_⟩
    rw [hrf] at hi
    obtain rfl : i = ops.size := by simpa using hi
    refine wpOp_mono (fun a' w' h => wpAny_end (ready_none fun j hj => ?_) h fuel) hq
    rw [Array.size_push] at hj
    simp only [Array.getD_eq_getD_getElem?, Array.getElem?_setIfInBounds, Array.getElem?_push, Array.size_push]
    by_cases hj2 : ops.size = j
    · subst hj2
      simp [hl]
    · have h9 := hall j (by omega)
      rw [Array.getD_eq_getD_getElem?] at h9
      have h8 : ¬ j = l.size := by omega
      simp only [hj2, h8, if_false]
      exact h9
  intro fuel
  induction fuel with
  | zero => intro l a w hl hcl h; exact last 0 l a w hl h.1 h.2
  | succ fuel ih =>
    intro l a w hl hcl h
    by_cases hr : Region.ready md ops l = []
    · exact last (fuel + 1) l a w hl hr (h.1 hr)
    · obtain ⟨j, hj⟩ := List.exists_mem_of_ne_nil _ hr
      have hjm := hj
      unfold Region.ready at hjm
      rw [List.mem_filter] at hjm
      have hjn := List.mem_range.1 hjm.1
      have hjl : l.getD j true = false := by
        have := hjm.2
        simp only [Bool.and_eq_true, Bool.not_eq_true'] at this
        exact this.1
      have hz : ¬ (z.after.all fun e => !Region.binds md e || l.getD e.on false) = true := by
        intro hall
        have := all_listed hok hcl hall (ops.size - j - 1) j (by omega)
        simp only [Array.getD_eq_getD_getElem?, Array.getElem?_eq_getElem (show j < l.size by omega), Option.getD_some] at this hjl
        rw [this] at hjl
        cases hjl
      have hrf := ready_push (ops := ops) (z := z) (md := md) l hl
      rw [if_neg hz, List.append_nil] at hrf
      refine ⟨fun h0 => (by rw [hrf] at h0; exact absurd h0 hr), fun i hi => ?_⟩
      rw [hrf] at hi
      have hin : i < ops.size := by
        unfold Region.ready at hi
        exact List.mem_range.1 (List.mem_filter.1 hi).1
      have hop := h.2 i hi
      have ho : ops[i]? = some ops[i] := Array.getElem?_eq_getElem hin
      have hof : (ops.push z)[i]? = some ops[i] := by rw [Array.getElem?_push, if_neg (by omega)]; exact ho
      have hg := (k1 i _ ho).1
      have w1 : ∀ (full : Array Oper), Region.wanted ops[i] (yielded full a.tmps) = true := fun full => by simp [Region.wanted, hg]
      have hq : ∀ (e : Exit) (a : Act) (w : World), e ≠ .normal → tailQ P (ops.push z) Q ops.size e a w → Q e a w := fun e a w hne h => by
        cases e <;> first | exact h | exact absurd rfl hne
      unfold wpOp at hop ⊢
      simp only [ho, w1, if_true] at hop
      simp only [hof, w1, if_true]
      rw [set_push l (by omega)]
      have hcl2 : Closed2 md ops (l.setIfInBounds i true) := by
        have hmono : ∀ x, l.getD x false = true → (l.setIfInBounds i true).getD x false = true := fun x hx => by
          simp only [Array.getD_eq_getD_getElem?, Array.getElem?_setIfInBounds] at hx ⊢
          by_cases hxi : i = x
          · subst hxi; simp [show i < l.size by omega]
          · rw [if_neg hxi]; exact hx
        intro x o' ho' hx e he hb
        by_cases hxi : i = x
        · subst hxi
          apply hmono
          have hi9 := hi
          unfold Region.ready at hi9
          rw [List.mem_filter, ho'] at hi9
          have := hi9.2
          simp only [Bool.and_eq_true, Option.map_some, Option.getD_some, Array.all_eq_true_iff_forall_mem] at this
          have h8 := this.2 e he
          rw [hb] at h8
          simpa using h8
        · apply hmono
          refine hcl x o' ho' ?_ e he hb
          simp only [Array.getD_eq_getD_getElem?, Array.getElem?_setIfInBounds, if_neg hxi] at hx ⊢
          exact hx
      rcases hop with hop | ⟨has, a9, w9, hlo⟩
      · exact .inl (upon_q hq (Oper.wp_mono (fun a' w' h9 => ih _ a' w' (by simpa using hl) hcl2 h9) hop))
      · exact .inr ⟨has, a9, w9, hq _ _ _ (by simp) hlo⟩

/-- THE BEGINNING: the others are walked in every order with S held, then the last one. -/
theorem wp_region_tail {id : Nat} {a : Act} {w : World} {S : World → Prop} (hm : P.follows .mixedOrders = true) (hok : tailOk .any ops z = true) (hS : S w.drew)
    (h : S w.drew → wpAnyH P .any ops (tailQ P (ops.push z) Q ops.size) S ops.size (Array.replicate ops.size false) a w.drew) : (Code.region id (ops.push z) true).wp P Q a w := by
  refine wp_region_any hm ?_
  have h9 := tail_any (Q := Q) hok ops.size (Array.replicate ops.size false) a w.drew (by simp) (fun i o ho hx => by
    simp only [Array.getD_eq_getD_getElem?, Array.getElem?_replicate] at hx
    split at hx <;> simp at hx) (wpAny_of_held _ _ _ _ (h hS))
  rw [Array.size_push]
  have hrep : (Array.replicate ops.size false).push false = Array.replicate (ops.size + 1) false := by simp [Array.replicate_succ]
  rw [hrep] at h9
  exact h9

/-- The last one is run. -/
theorem tailQ_run {full : Array Oper} {n : Nat} {o : Oper} {a : Act} {w : World} (ho : full[n]? = some o) (hg : o.guard = none) (h : o.wp P a w (fun a' w' => Q .normal a' w') Q) : tailQ P full Q n .normal a w := by
  show wpOp P full Q n _ a w
  unfold wpOp
  simp only [ho, show Region.wanted o (yielded full a.tmps) = true by simp [Region.wanted, hg], if_true]
  exact .inl h

/-- The same, of a region that is written out. -/
theorem wp_region_last {id : Nat} {full : List Oper} {a : Act} {w : World} {S : World → Prop} (hm : P.follows .mixedOrders = true) (hne : full ≠ []) (hok : tailOk .any full.dropLast.toArray (full.getLast hne) = true) (hS : S w.drew)
    (h : S w.drew → wpAnyH P .any full.dropLast.toArray (tailQ P full.toArray Q full.dropLast.length) S full.dropLast.length (Array.replicate full.dropLast.length false) a w.drew) : (Code.region id full.toArray true).wp P Q a w := by
  have e : full.toArray = full.dropLast.toArray.push (full.getLast hne) := by rw [List.push_toArray, List.dropLast_concat_getLast]
  rw [e]
  refine wp_region_tail hm hok hS ?_
  rw [← e]
  simpa using h

end
end Go.Proofs.YtifolooecfebfaaGreat

/- Contracts of chapter 7's functions and of their models: what each call returns; and a rule for a scope whose run jumps to several labels. No condition but those that a theorem names. -/
namespace Go.Proofs.YtifolooecfebfaaGreat
open Go.ChangeShapes Go.WideShapes Go.ChangeAt Go.RowKit
set_option linter.unusedVariables false

/-- As Q; by a goto to label l: J l. -/
def jumps (J : Nat → Act → World → Prop) (Q : Exit → Act → World → Prop) : Exit → Act → World → Prop
  | .goto l, a, w => J l a w
  | e, a, w => Q e a w
theorem jumps_ret {J : Nat → Act → World → Prop} {Q : Exit → Act → World → Prop} {a : Act} {w : World} : jumps J Q .ret a w = Q .ret a w := rfl

/-- A scope in which the run jumps from label to label: what holds at each label's jumps, and a measure that every pass lowers. -/
theorem wp_scope_all {P : Program} {a : Act} {w : World} {Q : Exit → Act → World → Prop} {c : Code} (J : Nat → Act → World → Prop) (μ : Nat → Act → World → Nat)
    (first : c.wp P (jumps J Q) a w)
    (pass : ∀ l a w, J l a w → ∃ rest, findLabel c l = some rest ∧ rest.wp P (jumps (fun l' a' w' => J l' a' w' ∧ μ l' a' w' < μ l a w) Q) a w) : (Code.scope c).wp P Q a w := by
  intro b k cs
  have key : ∀ n l a w, μ l a w = n → J l a w → ∃ rest, findLabel c l = some rest ∧ ∃ e a' w', Q e a' w' ∧ Arrives P (lone (b.at a (.code rest :: .inScope c :: k)) cs w) b k cs e a' w' := by
    intro n
    induction n using Nat.strongRecOn with
    | _ n ih =>
      intro l a w hn hJ
      obtain ⟨rest, hf, hp⟩ := pass l a w hJ
      refine ⟨rest, hf, ?_⟩
      obtain ⟨e, a₁, w₁, hq, harr⟩ := hp b (.inScope c :: k) cs
      cases e with
      | normal => exact ⟨.normal, a₁, w₁, hq, Steps.trans harr (.one step_inScope)⟩
      | exit id => exact ⟨.exit id, a₁, w₁, hq, fun k' hk => harr k' (by simp [exitTo, hk])⟩
      | goto l' =>
        obtain ⟨hJ', hlt⟩ := hq
        obtain ⟨rest', hf', e₂, a₂, w₂, hq₂, harr₂⟩ := ih _ (by omega) l' a₁ w₁ rfl hJ'
        exact ⟨e₂, a₂, w₂, hq₂, .of_steps (harr _ (by simp [gotoIn, hf'])) harr₂⟩
      | ret => exact ⟨_, a₁, w₁, hq, harr⟩
      | panic ch => exact ⟨_, a₁, w₁, hq, harr⟩
      | outgrown => exact ⟨_, a₁, w₁, hq, harr⟩
  obtain ⟨e, a₁, w₁, hq, harr⟩ := first b (.inScope c :: k) cs
  cases e with
  | normal => exact ⟨.normal, a₁, w₁, hq, .head step_scope (Steps.trans harr (.one step_inScope))⟩
  | exit id => exact ⟨.exit id, a₁, w₁, hq, fun k' hk => .head step_scope (harr k' (by simp [exitTo, hk]))⟩
  | goto l' =>
    obtain ⟨rest', hf', e₂, a₂, w₂, hq₂, harr₂⟩ := key _ l' a₁ w₁ rfl hq
    exact ⟨e₂, a₂, w₂, hq₂, .of_steps (.head step_scope (harr _ (by simp [gotoIn, hf']))) harr₂⟩
  | ret => exact ⟨_, a₁, w₁, hq, .of_steps (.one step_scope) harr⟩
  | panic ch => exact ⟨_, a₁, w₁, hq, .of_steps (.one step_scope) harr⟩
  | outgrown => exact ⟨_, a₁, w₁, hq, .of_steps (.one step_scope) harr⟩

theorem amtIn_any (lo n hi : Int) (w : World) : Calls Tryz.prog 169 #[.int .i64 lo, .int .i64 n, .int .i64 hi] w fun e w' => e = .returned (.bool (inB n lo hi)) ∧ w' = w := by
  by_cases h1 : lo ≤ n
  · by_cases h2 : n ≤ hi
    all_goals
      go_enter Tryz.func169, Tryz.ntmps169
      go_wp2
      go_ret
      exact ⟨ret_bool (by unfold inB; simp [h1, h2]), rfl⟩
  · go_enter Tryz.func169, Tryz.ntmps169
    go_wp2
    go_ret
    exact ⟨ret_bool (inB_f (by omega)).symm, rfl⟩

theorem isEnough_any (f need : Int) (w : World) (f0 : 0 ≤ f) (f1 : f ≤ 1000000) (n0 : 0 ≤ need) (n1 : need ≤ 2000000) :
    Calls Tryz.prog 196 #[.int .i64 f, .int .i64 need] w fun e w' => e = .returned (.bool (decide (5 * need ≤ 4 * f))) ∧ w' = w := by
  go_enter Tryz.func196, Tryz.ntmps196
  go_wp2_with fail
  go_ret
  exact ⟨ret_bool rfl, rfl⟩

theorem amtWork_any (x : Int) (w : World) : Calls Tryz.prog 57 #[.int .i64 x] w fun e w' => e = .returned (.bool (inB x 0 1000000)) ∧ w' = w := by
  go_enter Tryz.func57, Tryz.ntmps57
  go_wp2_with (go_at_call 113; refine (l1In_any _ _ _ _).mono ?_; rintro e w' ⟨rfl, rfl⟩)
  go_ret
  exact ⟨rfl, rfl⟩

set_option maxHeartbeats 400000 in
theorem areAmounts_any (b cap : Nat) (zs : List Int) (w : World) (hl : zs.length ≤ 1000) (hc : ∀ k, k < zs.length → w.cell? ⟨b, k, none⟩ = some (.int .i64 (zs.getD k 0))) :
    Calls Tryz.prog 195 #[.slice (some ⟨b, 0, none⟩) zs.length cap] w fun e w' => e = .returned (.bool (zs.all fun z => inB z 0 1000000)) ∧ w' = w := by
  have Hc := hide hc
  clear hc
  go_enter Tryz.func195, Tryz.ntmps195
  go_wp2_with fail
  refine wp_scope_all (fun l a' w' => w' = w ∧ ∃ (r : Bool) (k : Nat) (u4 u5 u6 u7 u8 u9 u10 u11 u12 u13 u14 u15 : Value), k ≤ zs.length ∧ a' = { tmps := #[.slice (some ⟨b, 0, none⟩) zs.length cap, undef, .bool r, .int .i64 k, u4, u5, u6, u7, u8, u9, u10, u11, u12, u13, u14, u15], defers := [] } ∧
      ((l = 0 ∧ (zs.all fun z => inB z 0 1000000) = true) ∨ (l = 1 ∧ ((zs.take k).all fun z => inB z 0 1000000) = true) ∨ (l = 2 ∧ (zs.all fun z => inB z 0 1000000) = false))) (fun l a' _ => if l = 1 then zs.length + 1 - (intOf (a'.tmps.getD 3 undef)).toNat else 0) ?_ ?_
  · by_cases hlt : 0 < zs.length
    · have hcell := unhide Hc 0 hlt
      generalize hz : zs.getD 0 0 = z at hcell
      have Hz := hide hz
      clear hz
      cases hp : inB z 0 1000000
      · go_wp2_with fail
        go_step3
        go_wp2_with (go_at_call 169; refine (amtIn_any _ _ _ _).mono ?_; rintro e w' ⟨rfl, rfl⟩)
        go_step3
        exact ⟨rfl, false, 0, _, _, _, _, _, _, _, _, _, _, _, _, Nat.zero_le _, rfl, .inr (.inr ⟨rfl, all_snoc_f hlt (unhide Hz) hp⟩)⟩
      · go_wp2_with fail
        go_step3
        go_wp2_with (go_at_call 169; refine (amtIn_any _ _ _ _).mono ?_; rintro e w' ⟨rfl, rfl⟩)
        go_step3
        exact ⟨rfl, false, 1, _, _, _, _, _, _, _, _, _, _, _, _, hlt, rfl, .inr (.inl ⟨rfl, all_snoc (k := 0) hlt (unhide Hz) (by simp) hp⟩)⟩
    · obtain rfl : zs = [] := List.eq_nil_of_length_eq_zero (by omega)
      go_wp2_with fail
      go_step3
      go_wp2_with fail
      go_step3
      exact ⟨rfl, false, 0, _, _, _, _, _, _, _, _, _, _, _, _, Nat.zero_le _, rfl, .inl ⟨rfl, rfl⟩⟩
  · rintro l a' w' ⟨rfl, r, k, u4, u5, u6, u7, u8, u9, u10, u11, u12, u13, u14, u15, hk, rfl, ⟨rfl, ha⟩ | ⟨rfl, ha⟩ | ⟨rfl, ha⟩⟩
    · refine ⟨_, rfl, ?_⟩
      go_wp2_with fail
      rw [jumps_ret]
      go_ret
      exact ⟨ret_bool ha.symm, rfl⟩
    · refine ⟨_, rfl, ?_⟩
      have Ha := hide ha
      clear ha
      by_cases hlt : k < zs.length
      · have hcell := unhide Hc k hlt
        have hne : ((k : Int) == (zs.length : Int)) = false := by simp; omega
        generalize hz : zs.getD k 0 = z at hcell
        have Hz := hide hz
        clear hz
        cases hp : inB z 0 1000000
        · go_wp2_with (go_at_call 169; refine (amtIn_any _ _ _ _).mono ?_; rintro e w' ⟨rfl, rfl⟩)
          go_step3
          refine ⟨⟨rfl, r, k, _, _, _, _, _, _, _, _, _, _, _, _, hk, rfl, .inr (.inr ⟨rfl, all_snoc_f hlt (unhide Hz) hp⟩)⟩, ?_⟩
          simp [intOf]; omega
        · go_wp2_with (go_at_call 169; refine (amtIn_any _ _ _ _).mono ?_; rintro e w' ⟨rfl, rfl⟩)
          go_step3
          refine ⟨⟨rfl, r, k + 1, _, _, _, _, _, _, _, _, _, _, _, _, hlt, by go_num, .inr (.inl ⟨rfl, all_snoc hlt (unhide Hz) (unhide Ha) hp⟩)⟩, ?_⟩
          simp [intOf]; omega
      · obtain rfl : k = zs.length := by omega
        go_wp2_with fail
        go_step3
        refine ⟨⟨rfl, r, zs.length, _, _, _, _, _, _, _, _, _, _, _, _, hk, rfl, .inl ⟨rfl, ?_⟩⟩, ?_⟩
        · rw [← unhide Ha, List.take_of_length_le (by omega)]
        · simp [intOf]
    · refine ⟨_, rfl, ?_⟩
      go_wp2_with fail
      rw [jumps_ret]
      go_ret
      exact ⟨ret_bool ha.symm, rfl⟩

def amt (x : Int) : Bool := inB x 0 1000000
def fitsB (w u f : Int) : Bool := (amt w && (amt u && amt f)) && decide (5 * (w + u) ≤ 4 * f)
theorem amt_of {x : Int} (h : amt x = true) : 0 ≤ x ∧ x ≤ 1000000 := inB_of h
theorem amts3 (x y z : Int) : ([x, y, z].all fun z => inB z 0 1000000) = (amt x && (amt y && amt z)) := by simp [amt]

theorem implFitsIn_any (x u f : Int) (w : World) : Calls Tryz.prog 149 #[.int .i64 x, .int .i64 u, .int .i64 f] w fun e w' => e = .returned (.bool (fitsB x u f)) ∧ Below w.heap.size w w' := by
  cases h : amt x && (amt u && amt f)
  · have hs : fitsB x u f = false := by unfold fitsB; rw [h]; rfl
    have Hs := hide hs
    go_enter Tryz.func149, Tryz.ntmps149
    go_wp2_with fail
    refine (areAmounts_any _ _ [x, u, f] _ (by simp) ?_).mono ?_
    · intro k hk
      simp at hk
      match k, hk with
      | 0, _ => simp
      | 1, _ => simp
      | 2, _ => simp
    rintro e w' ⟨rfl, rfl⟩
    rw [amts3, h]
    go_wp2_with fail
    go_ret
    exact ⟨ret_bool (unhide Hs).symm, (Below.refl _ _).alloc (Nat.le_refl _) _⟩
  · have hs : fitsB x u f = decide (5 * (x + u) ≤ 4 * f) := by unfold fitsB; rw [h]; rfl
    have Hs := hide hs
    have h' := h
    simp only [Bool.and_eq_true] at h'
    obtain ⟨x0, x1⟩ := amt_of h'.1
    obtain ⟨u0, u1⟩ := amt_of h'.2.1
    obtain ⟨f0, f1⟩ := amt_of h'.2.2
    go_enter Tryz.func149, Tryz.ntmps149
    go_wp2_with fail
    refine (areAmounts_any _ _ [x, u, f] _ (by simp) ?_).mono ?_
    · intro k hk
      simp at hk
      match k, hk with
      | 0, _ => simp
      | 1, _ => simp
      | 2, _ => simp
    rintro e w' ⟨rfl, rfl⟩
    rw [amts3, h]
    go_wp2_with (go_at_call 196; refine (isEnough_any f (x + u) _ f0 f1 (by omega) (by omega)).mono ?_; rintro e w' ⟨rfl, rfl⟩)
    go_ret
    exact ⟨ret_bool (unhide Hs).symm, (Below.refl _ _).alloc (Nat.le_refl _) _⟩

set_option maxHeartbeats 1000000 in
theorem specFitsIn_any (x u f : Int) (w : World) : Calls Tryz.prog 25 #[.int .i64 x, .int .i64 u, .int .i64 f] w fun e w' => e = .returned (.bool (fitsB x u f)) ∧ w' = w := by
  cases hx : inB x 0 1000000
  · go_enter Tryz.func25, Tryz.ntmps25
    go_wp2_with (go_at_call 57; refine (amtWork_any _ _).mono ?_; rintro e w' ⟨rfl, rfl⟩)
    go_ret
    exact ⟨ret_bool (by simp [fitsB, amt, hx]), rfl⟩
  · cases hu : inB u 0 1000000
    · go_enter Tryz.func25, Tryz.ntmps25
      go_wp2_with (go_at_call 57; refine (amtWork_any _ _).mono ?_; rintro e w' ⟨rfl, rfl⟩)
      go_ret
      exact ⟨ret_bool (by simp [fitsB, amt, hx, hu]), rfl⟩
    · cases hf : inB f 0 1000000
      · go_enter Tryz.func25, Tryz.ntmps25
        go_wp2_with (go_at_call 57; refine (amtWork_any _ _).mono ?_; rintro e w' ⟨rfl, rfl⟩)
        go_ret
        exact ⟨ret_bool (by simp [fitsB, amt, hx, hu, hf]), rfl⟩
      · obtain ⟨x0, x1⟩ := inB_of hx
        obtain ⟨u0, u1⟩ := inB_of hu
        obtain ⟨f0, f1⟩ := inB_of hf
        go_enter Tryz.func25, Tryz.ntmps25
        go_wp2_with (go_at_call 57; refine (amtWork_any _ _).mono ?_; rintro e w' ⟨rfl, rfl⟩)
        go_ret
        exact ⟨ret_bool (by simp [fitsB, amt, hx, hu, hf]), rfl⟩

end Go.Proofs.YtifolooecfebfaaGreat

/- Contracts of the laws' own helpers that mark a hall and ask whether it holds its marks: halls that the call itself made, no two rows in one block. Conditions: those that each theorem names. -/
namespace Go.Proofs.YtifolooecfebfaaGreat
open Go.ChangeShapes Go.WideShapes Go.ChangeAt Go.RowKit Go.Sort
set_option linter.unusedVariables false

theorem rput (b : Int) (x : List PaceV) : ∀ (qs : List (RoomV × Value)) (j : Nat) (h : j < qs.length), (rcells qs).set (j * 2) (.int .i64 b) = rcells (qs.set j ((b, x), qs[j].2))
  | q :: qs, 0, _ => by simp [rcells]
  | q :: qs, j + 1, h => by
    have ih := rput b x qs j (by simpa using h)
    unfold rcells at ih ⊢
    rw [List.flatMap_cons, show (j + 1) * 2 = j * 2 + 2 by omega]
    simpa using ih
set_option maxRecDepth 100000 in
set_option maxHeartbeats 2000000 in
theorem markPaceS_any {n₀ : Nat} {w : World} {v : Value} {ps : List PaceV} (k : Int) (h : PacesAt n₀ w v ps) (hk0 : 0 ≤ k) (hk1 : k ≤ 1000000000000000) (hl : ps.length ≤ 1000000000) :
    Calls Tryz.prog 183 #[v, .int .i64 k] w fun e w' => e = .returned (.int .i64 (k + 2 * (ps.length : Int))) ∧ PacesAt n₀ w' v (mps k ps.length) ∧ w.grownBy w' v.ownBlock := by
  have Hv := hide h
  obtain ⟨a, cap, rfl⟩ := h.shape
  clear h
  go_enter Tryz.func183, Tryz.ntmps183
  go_wp2_with fail
  go_loopw [5, 1] (fun i q wr => ∃ j : Nat, j ≤ ps.length ∧ i = .int .i64 j ∧ q = .int .i64 (k + 2 * (j : Int)) ∧ PacesAt n₀ wr (.slice a ps.length cap) (mpd ps k j) ∧ w.grownBy wr (Value.ownBlock (.slice a ps.length cap))) (fun i _ _ => ps.length - (intOf i).toNat)
  case atStart => exact ⟨0, Nat.zero_le _, rfl, by simp, by simpa [mpd, mps] using unhide Hv, grown_refl _ _⟩
  case round =>
    obtain ⟨j, hj, rfl, rfl, hin, hgr⟩ := hrel
    by_cases hlt : j < ps.length
    · unfold PacesAt at hin
      rw [mpd_len hj] at hin
      obtain ⟨g, rfl⟩ : ∃ g, a = some ⟨g, 0, none⟩ := by
        rcases hin.2 with ⟨h9, h8⟩ | ⟨g, c', cur, h9, _⟩
        · omega
        · cases h9; exact ⟨g, rfl⟩
      have hcell := fun (o : Nat) (ho : o < ps.length * 2) => World.ownsRow.cellAt hin o (by omega)
      have hpl : (pcells (mpd ps k j)).length = ps.length * 2 := by unfold pcells; rw [pairs_len, mpd_len hj]
      obtain ⟨c0, hc0⟩ : ∃ c, wr.cell? ⟨g, j * 2, none⟩ = some c := ⟨_, (hcell (j * 2) (by omega)).trans (List.getElem?_eq_getElem (by omega))⟩
      obtain ⟨c1, hc1⟩ : ∃ c, wr.cell? ⟨g, j * 2 + 1, none⟩ = some c := ⟨_, (hcell (j * 2 + 1) (by omega)).trans (List.getElem?_eq_getElem (by omega))⟩
      have f0 := World.ownsRow.frozenAt hin (j * 2)
      have f1 := World.ownsRow.frozenAt hin (j * 2 + 1)
      obtain ⟨s1, s2⟩ := World.ownsRow.stored hin (j * 2) (.int .i64 (k + 2 * (j : Int)))
      obtain ⟨t1, t2⟩ := World.ownsRow.stored s1 (j * 2 + 1) (.int .i64 (k + 2 * (j : Int) + 1))
      rw [pput _ _ _ _ (by rw [mpd_len hj]; exact hlt), mpd_succ hlt] at t1
      have H1 : Hid (PacesAt n₀ ((wr.setCell ⟨g, j * 2, none⟩ (.int .i64 (k + 2 * (j : Int)))).setCell ⟨g, j * 2 + 1, none⟩ (.int .i64 (k + 2 * (j : Int) + 1))) (.slice (some ⟨g, 0, none⟩) ps.length cap) (mpd ps k (j + 1))) := hide (by unfold PacesAt; rw [mpd_len hlt]; exact t1)
      have H2 := hide (grown_trans hgr (grown_trans s2 t2))
      have hc1' : (wr.setCell ⟨g, j * 2, none⟩ (.int .i64 (k + 2 * (j : Int)))).cell? ⟨g, j * 2 + 1, none⟩ = some c1 := by rw [World.cell?_setCell_other _ _ _ _ (by simp)]; exact hc1
      have f1' : (wr.setCell ⟨g, j * 2, none⟩ (.int .i64 (k + 2 * (j : Int)))).frozen? ⟨g, j * 2 + 1, none⟩ = false := by rw [World.frozen?_setCell]; exact f1
      clear hin hgr s1 s2 t1 t2 hcell hpl
      go_wp2_with fail
      go_roundw
      case rel => exact ⟨j + 1, by omega, by go_num, by go_num, unhide H1, unhide H2⟩
      case measure => simp [intOf]; omega
    · obtain rfl : j = ps.length := by omega
      rw [mpd_all] at hin
      go_wp2_with fail
      go_ret
      exact ⟨rfl, hin, hgr⟩

set_option maxRecDepth 100000 in
set_option maxHeartbeats 2000000 in
theorem heldPaceS_yes {w : World} {v : Value} (k : Int) (n : Nat) (h : IsPaces w v (mps k n)) (hk0 : 0 ≤ k) (hk1 : k ≤ 1000000000000000) (hl : n ≤ 1000000000) :
    Calls Tryz.prog 184 #[v, .int .i64 k] w fun e w' => e = .returned (.int .i64 (k + 2 * (n : Int))) ∧ w' = w := by
  obtain ⟨a, cap, rfl, hc, hm, hrow⟩ := h
  rw [mps_len] at *
  have Hrow := hide hrow
  clear hrow
  go_enter Tryz.func184, Tryz.ntmps184
  go_wp2_with fail
  go_loop [5, 1] (fun i q => ∃ j : Nat, j ≤ n ∧ i = .int .i64 j ∧ q = .int .i64 (k + 2 * (j : Int))) (fun i _ => n - (intOf i).toNat)
  case atStart => exact ⟨0, Nat.zero_le _, rfl, by simp⟩
  case round =>
    obtain ⟨j, hj, rfl, rfl⟩ := hrel
    by_cases hlt : j < n
    · rcases unhide Hrow with h0 | ⟨bk, off, rfl, hbw, hcl⟩
      · have := congrArg List.length h0; rw [mps_len] at this; simp at this; omega
      obtain ⟨c0, c1⟩ := hcl j hlt
      rw [mps_at k n j hlt] at c0 c1
      simp only at c0 c1
      clear hcl
      go_wp2_with fail
      go_round
      case rel => exact ⟨j + 1, by omega, by go_num, by go_num⟩
      case measure => simp [intOf]; omega
    · obtain rfl : j = n := by omega
      go_wp2_with fail
      go_ret
      exact ⟨rfl, rfl⟩

end Go.Proofs.YtifolooecfebfaaGreat

/- Contracts of the laws' own helpers that mark a hall's rooms and ask whether they hold their marks. Conditions: those that each theorem names. -/
namespace Go.Proofs.YtifolooecfebfaaGreat
open Go.ChangeShapes Go.WideShapes Go.ChangeAt Go.RowKit Go.Sort
set_option linter.unusedVariables false

theorem rsame (x : List PaceV) : ∀ (qs : List (RoomV × Value)) (j : Nat) (h : j < qs.length), rcells (qs.set j ((qs[j].1.1, x), qs[j].2)) = rcells qs
  | q :: qs, 0, _ => by simp [rcells]
  | q :: qs, j + 1, h => by
    have ih := rsame x qs j (by simpa using h)
    unfold rcells at ih ⊢
    simpa using ih
theorem map_keep {qs : List (RoomV × Value)} {j : Nat} (hj : j < qs.length) (r : RoomV) : (qs.set j (r, qs[j].2)).map (·.2) = qs.map (·.2) := by
  rw [List.map_set]
  simp only
  have : (qs.map (·.2))[j]'(by simpa using hj) = qs[j].2 := by simp
  rw [← this, List.set_getElem_self]
theorem mem_put {qs : List (RoomV × Value)} {j : Nat} (hj : j < qs.length) {r : RoomV} {q : RoomV × Value} (h : q ∈ qs.set j (r, qs[j].2)) : (q ∈ qs) ∨ q = (r, qs[j].2) := List.mem_or_eq_of_mem_set h

theorem OwnHall.bench {n₀ g cap : Nat} {w : World} {qs : List (RoomV × Value)} (h : OwnHall n₀ w (.slice (some ⟨g, 0, none⟩) qs.length cap) qs) {j : Nat} (hj : j < qs.length) (b : Int) :
    OwnHall n₀ (w.setCell ⟨g, j * 2, none⟩ (.int .i64 b)) (.slice (some ⟨g, 0, none⟩) qs.length cap) (qs.set j ((b, qs[j].1.2), qs[j].2)) := by
  have hst := (World.ownsRow.stored h.row (j * 2) (.int .i64 b)).1
  rw [rput b qs[j].1.2 qs j hj] at hst
  have hold : ∀ q ∈ qs, PacesAt n₀ (w.setCell ⟨g, j * 2, none⟩ (.int .i64 b)) q.2 q.1.2 := fun q hq => own_same (h.paces q hq) (fun k e => Below.heap_setCell w ⟨g, j * 2, none⟩ _ k (fun e' => h.off q hq k e (by show some g = some k; rw [e'])))
  refine ⟨by simpa using hst, fun q hq => ?_, fun q hq b' e => ?_, by rw [map_keep hj]; exact h.apart⟩
  · rcases mem_put hj hq with hq | rfl
    · exact hold q hq
    · exact hold qs[j] (List.getElem_mem hj)
  · rcases mem_put hj hq with hq | rfl
    · exact h.off q hq b' e
    · exact h.off qs[j] (List.getElem_mem hj) b' e
theorem apart_ne {qs : List (RoomV × Value)} (h : (qs.map (·.2)).Pairwise fun x y => ∀ b, x.ownBlock = some b → y.ownBlock ≠ some b) {i j : Nat} (hi : i < qs.length) (hj : j < qs.length) (hne : i ≠ j) {b : Nat} (e : qs[i].2.ownBlock = some b) : qs[j].2.ownBlock ≠ some b := by
  rw [List.pairwise_iff_getElem] at h
  rcases Nat.lt_or_gt_of_ne hne with hlt | hgt
  · have := h i j (by simpa using hi) (by simpa using hj) hlt b (by simpa using e)
    simpa using this
  · intro e'
    have := h j i (by simpa using hj) (by simpa using hi) hgt b (by simpa using e')
    simp at this
    exact this e
theorem OwnHall.repace {n₀ : Nat} {w w' : World} {v : Value} {qs : List (RoomV × Value)} (h : OwnHall n₀ w v qs) {j : Nat} (hj : j < qs.length) {ps : List PaceV} (hp : PacesAt n₀ w' qs[j].2 ps) (hg : w.grownBy w' qs[j].2.ownBlock) :
    OwnHall n₀ w' v (qs.set j ((qs[j].1.1, ps), qs[j].2)) := by
  have hs : ∀ k, k < w.heap.size → qs[j].2.ownBlock ≠ some k → w'.heap[k]? = w.heap[k]? := fun k hk hn => hg.block k hk (fun e => hn e.symm)
  refine ⟨?_, fun q hq => ?_, fun q hq b' e => ?_, by rw [map_keep hj]; exact h.apart⟩
  · have := own_same h.row (fun k e => hs k (h.lt (.inl e)).2 (fun e' => h.off qs[j] (List.getElem_mem hj) k e' e))
    rw [List.length_set, rsame ps qs j hj]; exact this
  · obtain ⟨i, hi, rfl⟩ := List.getElem_of_mem hq
    have hi' : i < qs.length := by simpa using hi
    by_cases hij : i = j
    · subst hij; simpa using hp
    · rw [List.getElem_set_ne (fun e => hij e.symm)]
      exact own_same (h.paces qs[i] (List.getElem_mem hi')) (fun k e => hs k (h.lt (.inr ⟨qs[i], List.getElem_mem hi', e⟩)).2 (apart_ne h.apart hi' hj hij e))
  · rcases mem_put hj hq with hq | rfl
    · exact h.off q hq b' e
    · exact h.off qs[j] (List.getElem_mem hj) b' e

/-- Only blocks of that hall and new ones may differ. -/
structure OwnOnly (v : Value) (qs : List (RoomV × Value)) (w w' : World) : Prop where
  os : w'.os = w.os
  tape : w'.tape = w.tape
  output : w'.output = w.output
  size : w.heap.size ≤ w'.heap.size
  block : ∀ k, k < w.heap.size → v.ownBlock ≠ some k → (∀ q ∈ qs, q.2.ownBlock ≠ some k) → w'.heap[k]? = w.heap[k]?
theorem OwnOnly.refl (v : Value) (qs : List (RoomV × Value)) (w : World) : OwnOnly v qs w w := ⟨rfl, rfl, rfl, Nat.le_refl _, fun _ _ _ _ => rfl⟩
theorem OwnOnly.trans {v : Value} {qs : List (RoomV × Value)} {a b c : World} (h : OwnOnly v qs a b) (k : OwnOnly v qs b c) : OwnOnly v qs a c :=
  ⟨k.os.trans h.os, k.tape.trans h.tape, k.output.trans h.output, Nat.le_trans h.size k.size, fun i hi h1 h2 => (k.block i (Nat.lt_of_lt_of_le hi h.size) h1 h2).trans (h.block i hi h1 h2)⟩
theorem OwnOnly.set {g n cap o : Nat} {qs : List (RoomV × Value)} {w : World} (x : Value) : OwnOnly (.slice (some ⟨g, 0, none⟩) n cap) qs w (w.setCell ⟨g, o, none⟩ x) :=
  ⟨rfl, rfl, rfl, by simp, fun k hk h1 _ => Below.heap_setCell w ⟨g, o, none⟩ x k (fun e => h1 (by show some g = some k; rw [e]))⟩
theorem OwnOnly.grown {v : Value} {qs : List (RoomV × Value)} {w w' : World} {q : RoomV × Value} (hq : q ∈ qs) (hg : w.grownBy w' q.2.ownBlock) : OwnOnly v qs w w' :=
  ⟨hg.os, hg.tape, hg.output, hg.size, fun k hk _ h2 => hg.block k hk (fun e => h2 q hq e.symm)⟩
theorem OwnOnly.alloc (v : Value) (qs : List (RoomV × Value)) (w : World) (o : Obj) : OwnOnly v qs w (w.alloc o) := ⟨rfl, rfl, rfl, by simp, fun k hk _ _ => Below.heap_alloc w o k hk⟩
def kEnd : Int → List (RoomV × Value) → Int
  | k, [] => k
  | k, q :: qs => kEnd (k + 1 + 2 * (q.1.2.length : Int)) qs
def markQ : Int → List (RoomV × Value) → List (RoomV × Value)
  | _, [] => []
  | k, q :: qs => ((k, mps (k + 1) q.1.2.length), q.2) :: markQ (k + 1 + 2 * (q.1.2.length : Int)) qs
theorem kEnd_app : ∀ (a : List (RoomV × Value)) (k : Int) (b : List (RoomV × Value)), kEnd k (a ++ b) = kEnd (kEnd k a) b
  | [], _, _ => rfl
  | q :: a, k, b => kEnd_app a _ b
theorem markQ_app : ∀ (a : List (RoomV × Value)) (k : Int) (b : List (RoomV × Value)), markQ k (a ++ b) = markQ k a ++ markQ (kEnd k a) b
  | [], _, _ => rfl
  | q :: a, k, b => by simp only [List.cons_append, markQ, kEnd]; rw [markQ_app a _ b]
theorem markQ_len : ∀ (a : List (RoomV × Value)) (k : Int), (markQ k a).length = a.length
  | [], _ => rfl
  | q :: a, k => by simp [markQ, markQ_len a]
theorem take_s {α : Type} {l : List α} {j : Nat} (h : j < l.length) : l.take (j + 1) = l.take j ++ [l[j]] := List.take_succ_eq_append_getElem h
theorem kEnd_s {qs : List (RoomV × Value)} {k : Int} {j : Nat} (h : j < qs.length) : kEnd k (qs.take (j + 1)) = kEnd k (qs.take j) + 1 + 2 * (qs[j].1.2.length : Int) := by rw [take_s h, kEnd_app]; rfl
theorem kEnd_bd {qs : List (RoomV × Value)} (hp : ∀ q ∈ qs, q.1.2.length ≤ 1048576) (k : Int) : ∀ j, j ≤ qs.length → k ≤ kEnd k (qs.take j) ∧ kEnd k (qs.take j) ≤ k + 2097153 * j
  | 0, _ => by simp [kEnd]
  | j + 1, hj => by
    have ih := kEnd_bd hp k j (by omega)
    have hq := hp qs[j] (List.getElem_mem (by omega))
    rw [kEnd_s (by omega)]; omega
def markedTo (k : Int) (qs : List (RoomV × Value)) (j : Nat) : List (RoomV × Value) := markQ k (qs.take j) ++ qs.drop j
theorem markedTo_len {k : Int} {qs : List (RoomV × Value)} {j : Nat} (h : j ≤ qs.length) : (markedTo k qs j).length = qs.length := by unfold markedTo; rw [List.length_append, markQ_len]; simp; omega
theorem markedTo_at? {k : Int} {qs : List (RoomV × Value)} {j : Nat} (h : j < qs.length) : (markedTo k qs j)[j]? = some qs[j] := by
  have hl : (markQ k (qs.take j)).length = j := by rw [markQ_len]; simp; omega
  unfold markedTo
  rw [List.getElem?_append_right (by omega), hl, Nat.sub_self, List.drop_eq_getElem_cons h]; rfl
theorem markedTo_at {k : Int} {qs : List (RoomV × Value)} {j : Nat} (h : j < qs.length) (h' : j < (markedTo k qs j).length) : (markedTo k qs j)[j] = qs[j] := by
  have h1 := markedTo_at? (k := k) h
  rw [List.getElem?_eq_getElem h'] at h1
  exact Option.some.inj h1
theorem markedTo_s {k : Int} {qs : List (RoomV × Value)} {j : Nat} (h : j < qs.length) : (markedTo k qs j).set j ((kEnd k (qs.take j), mps (kEnd k (qs.take j) + 1) qs[j].1.2.length), qs[j].2) = markedTo k qs (j + 1) := by
  unfold markedTo
  have hl : (markQ k (qs.take j)).length = j := by rw [markQ_len]; simp; omega
  rw [List.set_append_right _ _ (by omega), hl, Nat.sub_self, List.drop_eq_getElem_cons h, List.set_cons_zero, take_s h, markQ_app]
  simp [markQ]
theorem markedTo_all (k : Int) (qs : List (RoomV × Value)) : markedTo k qs qs.length = markQ k qs := by simp [markedTo]
theorem markQ_at {k : Int} {qs : List (RoomV × Value)} {j : Nat} (h : j < qs.length) : roomAt ((markQ k qs).map (·.1)) j = (kEnd k (qs.take j), mps (kEnd k (qs.take j) + 1) qs[j].1.2.length) := by
  have e : markQ k qs = markQ k (qs.take j) ++ markQ (kEnd k (qs.take j)) (qs.drop j) := by rw [← markQ_app, List.take_append_drop]
  have hl : (markQ k (qs.take j)).length = j := by rw [markQ_len]; simp; omega
  unfold roomAt
  rw [e, List.drop_eq_getElem_cons h]
  simp only [markQ, List.map_append, List.map_cons, List.getD]
  rw [List.getElem?_append_right (by rw [List.length_map, hl]; omega), List.length_map, hl, Nat.sub_self]
  rfl

set_option maxRecDepth 100000 in
set_option maxHeartbeats 2000000 in
theorem markRoomS_any {n₀ : Nat} {w : World} {v : Value} {qs : List (RoomV × Value)} (k : Int) (h : OwnHall n₀ w v qs) (hn : n₀ ≤ w.heap.size) (hk0 : 0 ≤ k) (hk1 : k ≤ 1000000000) (hl : qs.length ≤ 1048576) (hp : ∀ q ∈ qs, q.1.2.length ≤ 1048576) :
    Calls Tryz.prog 136 #[v, .int .i64 k] w fun e w' => e = .returned (.int .i64 (kEnd k qs)) ∧ OwnHall n₀ w' v (markQ k qs) ∧ OwnOnly v qs w w' := by
  have Hv := hide h
  obtain ⟨a, cap, rfl⟩ := h.shape
  have Hp := hide hp
  clear h hp
  go_enter Tryz.func136, Tryz.ntmps136
  go_wp2_with fail
  go_loopw [5, 1] (fun i q wr => ∃ j : Nat, j ≤ qs.length ∧ i = .int .i64 j ∧ q = .int .i64 (kEnd k (qs.take j)) ∧ OwnHall n₀ wr (.slice a qs.length cap) (markedTo k qs j) ∧ OwnOnly (.slice a qs.length cap) qs w wr) (fun i _ _ => qs.length - (intOf i).toNat)
  case atStart => exact ⟨0, Nat.zero_le _, rfl, rfl, by simpa [markedTo, markQ] using unhide Hv, OwnOnly.refl _ _ _⟩
  case round =>
    obtain ⟨j, hj, rfl, rfl, hin, hbl⟩ := hrel
    by_cases hlt : j < qs.length
    · have hml := markedTo_len (k := k) (Nat.le_of_lt hlt)
      have hjm : j < (markedTo k qs j).length := by rw [hml]; exact hlt
      have hat := markedTo_at (k := k) hlt hjm
      have hkb := kEnd_bd (unhide Hp) k j hj
      have hks := kEnd_s (k := k) hlt
      have Hms := hide (markedTo_s (k := k) hlt)
      have hpl := unhide Hp qs[j] (List.getElem_mem hlt)
      obtain ⟨g, rfl⟩ : ∃ g, a = some ⟨g, 0, none⟩ := by
        rcases hin.row.2 with ⟨h9, h8⟩ | ⟨g, c', cur, h9, _⟩
        · omega
        · simp only [Value.slice.injEq] at h9; exact ⟨g, h9.1⟩
      have hin0 := hin
      rw [← hml] at hin
      have hb1 := hin.bench hjm (kEnd k (qs.take j))
      rw [hml] at hb1
      have hrow := hin0.row
      rw [hml] at hrow
      have hc0 := World.ownsRow.cellAt hrow (j * 2) (by omega)
      have hc1 := World.ownsRow.cellAt hrow (j * 2 + 1) (by omega)
      have hpg := pairs_get (f := fun q : RoomV × Value => Value.int .i64 q.1.1) (g := fun q : RoomV × Value => q.2) (markedTo k qs j) j hjm
      have hc0' := hc0.trans hpg.1
      have hc1' := hc1.trans hpg.2
      have f0 := World.ownsRow.frozenAt hrow (j * 2)
      rw [hat] at hc0' hc1' hb1
      have HW1 : Hid (OwnOnly (.slice (some ⟨g, 0, none⟩) qs.length cap) qs w (wr.setCell ⟨g, j * 2, none⟩ (.int .i64 (kEnd k (qs.take j))))) := hide (hbl.trans (OwnOnly.set _))
      have hjs : j < ((markedTo k qs j).set j ((kEnd k (qs.take j), qs[j].1.2), qs[j].2)).length := by rw [List.length_set]; exact hjm
      have hpa := hb1.paces _ (List.getElem_mem hjs)
      rw [List.getElem_set_self] at hpa
      simp only at hpa
      have Hb1 := hide hb1
      have Hpa := hide hpa
      have hd1 : (wr.setCell ⟨g, j * 2, none⟩ (.int .i64 (kEnd k (qs.take j)))).cell? ⟨g, j * 2 + 1, none⟩ = some qs[j].2 := by rw [World.cell?_setCell_other _ _ _ _ (by simp)]; exact hc1'
      obtain ⟨pa, pcap, hps⟩ := hpa.shape
      rw [hps] at hd1
      have Hps := hide hps
      generalize kEnd k (qs.take j) = kj at *
      generalize hk' : kEnd k (qs.take (j + 1)) = kj' at *
      have Hk' := hide hk'
      clear hin hin0 hb1 hrow hc0 hc1 hpg hc1' hpa hps hat hk'
      generalize hbb : qs[j].1.1 = bb at *
      clear hbb
      generalize hll : qs[j].1.2.length = ll at *
      have Hll := hide hll
      clear hll
      go_wp2_with fail
      refine (markPaceS_any (n₀ := n₀) (ps := qs[j].1.2) (kj + 1) (by have h2 := unhide Hpa; rw [unhide Hps] at h2; exact h2) (by omega) (by omega) (by rw [unhide Hll]; omega)).mono ?_
      rw [unhide Hll]
      rintro e w2 ⟨rfl, hpa2, hgr⟩
      have Hrep : Hid (OwnHall n₀ w2 (.slice (some ⟨g, 0, none⟩) qs.length cap) (markedTo k qs (j + 1)) ∧ OwnOnly (.slice (some ⟨g, 0, none⟩) qs.length cap) qs w w2) := hide (by
        have hj2 : j < ((markedTo k qs j).set j ((kj, qs[j].1.2), qs[j].2)).length := hjs
        have e2 : (((markedTo k qs j).set j ((kj, qs[j].1.2), qs[j].2))[j]'hj2) = ((kj, qs[j].1.2), qs[j].2) := List.getElem_set_self _
        have h3 := OwnHall.repace (unhide Hb1) hj2 (ps := mps (kj + 1) ll) (w' := w2) (by rw [e2]; simp only; rw [unhide Hps]; exact hpa2) (by rw [e2]; simp only; rw [unhide Hps]; exact hgr)
        rw [e2, List.set_set] at h3
        simp only at h3
        have h4 := unhide Hms
        rw [h4] at h3
        exact ⟨h3, (unhide HW1).trans (OwnOnly.grown (List.getElem_mem hlt) (by rw [unhide Hps]; exact hgr))⟩)
      clear hpa2 hgr
      go_wp2_with fail
      go_roundw
      case rel => exact ⟨j + 1, by omega, by go_num, by rw [unhide Hk', hks], (unhide Hrep).1, (unhide Hrep).2⟩
      case measure => simp [intOf]; omega
    · obtain rfl : j = qs.length := by omega
      rw [markedTo_all] at hin
      rw [List.take_length]
      go_wp2_with fail
      go_ret
      exact ⟨rfl, hin, hbl⟩

set_option maxRecDepth 100000 in
set_option maxHeartbeats 2000000 in
theorem heldRoomS_yes {w : World} {v : Value} {qs : List (RoomV × Value)} (k : Int) (h : IsRooms w v ((markQ k qs).map (·.1))) (hk0 : 0 ≤ k) (hk1 : k ≤ 1000000000) (hl : qs.length ≤ 1048576) (hp : ∀ q ∈ qs, q.1.2.length ≤ 1048576) :
    Calls Tryz.prog 137 #[v, .int .i64 k] w fun e w' => e = .returned (.int .i64 (kEnd k qs)) ∧ w' = w := by
  have hlen : ((markQ k qs).map (·.1)).length = qs.length := by rw [List.length_map, markQ_len]
  obtain ⟨a, cap, rfl, hc, hm, hrow⟩ := h
  rw [hlen] at hc hrow ⊢
  have Hrow := hide hrow
  have Hp := hide hp
  clear hrow hp
  go_enter Tryz.func137, Tryz.ntmps137
  go_wp2_with fail
  go_loop [5, 1] (fun i q => ∃ j : Nat, j ≤ qs.length ∧ i = .int .i64 j ∧ q = .int .i64 (kEnd k (qs.take j))) (fun i _ => qs.length - (intOf i).toNat)
  case atStart => exact ⟨0, Nat.zero_le _, rfl, rfl⟩
  case round =>
    obtain ⟨j, hj, rfl, rfl⟩ := hrel
    by_cases hlt : j < qs.length
    · have hkb := kEnd_bd (unhide Hp) k j hj
      have hks := kEnd_s (k := k) hlt
      have hpl := unhide Hp qs[j] (List.getElem_mem hlt)
      have hma := markQ_at (k := k) hlt
      rcases unhide Hrow with h0 | ⟨bk, off, rfl, hbw, hcl⟩
      · have h7 := congrArg List.length h0; rw [List.length_map, markQ_len, List.length_nil] at h7; omega
      obtain ⟨c0, pv, c1, hip⟩ := hcl j hlt
      rw [hma] at c0 hip
      simp only at c0 hip
      have hsh : ∃ pa pcap, pv = .slice pa qs[j].1.2.length pcap := by obtain ⟨pa, pcap, rfl, _⟩ := hip; exact ⟨pa, pcap, by rw [mps_len]⟩
      obtain ⟨pa, pcap, rfl⟩ := hsh
      have Hip := hide hip
      generalize qs[j].1.2.length = ll at *
      generalize kEnd k (qs.take j) = kj at *
      generalize hk' : kEnd k (qs.take (j + 1)) = kj' at *
      have Hk' := hide hk'
      clear hcl hip hma hk'
      have hneg : ¬ kj + 1 + 2 * (ll : Int) < 0 := by omega
      go_wp2_with fail
      refine (heldPaceS_yes (kj + 1) ll (unhide Hip) (by omega) (by omega) (by omega)).mono ?_
      rintro e w2 ⟨rfl, hw2⟩
      subst w2
      go_wp2_with fail
      go_round
      case rel => exact ⟨j + 1, by omega, by go_num, by rw [unhide Hk', hks]⟩
      case measure => simp [intOf]; omega
    · obtain rfl : j = qs.length := by omega
      rw [List.take_length]
      go_wp2_with fail
      go_ret
      exact ⟨rfl, rfl⟩

set_option maxRecDepth 100000 in
set_option maxHeartbeats 1000000 in
theorem markHall_any {n₀ : Nat} {w : World} {v : Value} {qs : List (RoomV × Value)} (k : Int) (h : OwnHall n₀ w v qs) (hn : n₀ ≤ w.heap.size) (hk0 : 0 ≤ k) (hk1 : k ≤ 1000000000) (hl : qs.length ≤ 1048576) (hp : ∀ q ∈ qs, q.1.2.length ≤ 1048576) :
    Calls Tryz.prog 77 #[.agg #[v], .int .i64 k] w fun e w' => e = .returned (.int .i64 (kEnd k qs)) ∧ OwnHall n₀ w' v (markQ k qs) ∧ OwnOnly v qs w w' := by
  have Hv := hide h
  obtain ⟨a, cap, rfl⟩ := h.shape
  have Hp := hide hp
  clear h hp
  go_enter Tryz.func77, Tryz.ntmps77
  go_wp2_with fail
  refine (markRoomS_any k ((unhide Hv).later ((Below.refl _ _).alloc (Nat.le_refl _) _)) (by simp; omega) hk0 hk1 hl (unhide Hp)).mono ?_
  rintro e w1 ⟨rfl, ho, hb⟩
  have Ho := hide ho
  have Hb := hide hb
  clear ho hb
  go_wp2_with fail
  go_ret
  exact ⟨rfl, unhide Ho, (OwnOnly.alloc _ _ _ _).trans (unhide Hb)⟩

set_option maxRecDepth 100000 in
set_option maxHeartbeats 1000000 in
theorem heldHall_yes {w : World} {v : Value} {qs : List (RoomV × Value)} (k : Int) (h : IsRooms w v ((markQ k qs).map (·.1))) (hk0 : 0 ≤ k) (hk1 : k ≤ 1000000000) (hl : qs.length ≤ 1048576) (hp : ∀ q ∈ qs, q.1.2.length ≤ 1048576) :
    Calls Tryz.prog 82 #[.agg #[v], .int .i64 k] w fun e w' => e = .returned (.int .i64 (kEnd k qs)) ∧ Below w.heap.size w w' := by
  have Hv := hide h
  obtain ⟨a, cap, rfl⟩ : ∃ a cap, v = .slice a qs.length cap := by obtain ⟨a, cap, rfl, _⟩ := h; exact ⟨a, cap, by rw [List.length_map, markQ_len]⟩
  have hb := kEnd_bd hp k qs.length (Nat.le_refl _)
  rw [List.take_length] at hb
  have Hp := hide hp
  have hneg : ¬ kEnd k qs < 0 := by omega
  clear h hp
  go_enter Tryz.func82, Tryz.ntmps82
  go_wp2_with fail
  refine (heldRoomS_yes (qs := qs) k ((unhide Hv).below ((Below.refl _ _).alloc (Nat.le_refl _) _)) hk0 hk1 hl (unhide Hp)).mono ?_
  rintro e w1 ⟨rfl, hw1⟩
  subst w1
  go_wp2_with fail
  go_ret
  exact ⟨rfl, (Below.refl _ _).alloc (Nat.le_refl _) _⟩

end Go.Proofs.YtifolooecfebfaaGreat

/- A list of records (Guild), or one, that is handed in, opened: what it reads as. No condition. -/
namespace Go.Proofs.YtifolooecfebfaaGreat
open Go.ChangeShapes Go.WideShapes Go.ChangeAt Go.RowKit Go.Deep
set_option linter.unusedVariables false

set_option maxRecDepth 100000 in
theorem trod_guilds {H : Type} {enc : TypeId × Value → H} {W : World} {spare : Nat → Bool} {held : Bool} {n : Nat} {v : Value} {y : DataW H × List MemPlace}
    (h : DataW.trod enc Tryz.prog W 0 spare held n 52 [v] = some y) : ∃ ps, IsGuilds W v ps := by
  refine open_recs (k := 3) (enc := encGuild) Tryz.underlying52 Tryz.underlying142 (by kernel_rfl) rfl (by kernel_rfl) (by omega) ?_ h
  intro cs hl hc
  match cs, hl with
  | [c0, c1, c2], _ =>
    obtain ⟨u0, n0, y0, e0, t0⟩ := hc 0 _ rfl
    obtain ⟨u1, n1, y1, e1, t1⟩ := hc 1 _ rfl
    obtain ⟨u2, n2, y2, e2, t2⟩ := hc 2 _ rfl
    obtain ⟨z0, q0, _⟩ := DataW.trod_int Tryz.underlying2 t0
    obtain ⟨z1, q1, _⟩ := DataW.trod_int Tryz.underlying2 t1
    obtain ⟨z2, q2, _⟩ := DataW.trod_int Tryz.underlying2 t2
    cases e0; cases e1; cases e2; cases q0; cases q1; cases q2
    exact ⟨(z0, z1, z2), rfl⟩
end Go.Proofs.YtifolooecfebfaaGreat

