/- Part 2 of what the proof rests on. No condition but those that a theorem names. -/
import Derived.Test.YtffcgajndmhpkaaGreatDoorXe01
import Derived.Lib.SmallJoins
set_option maxHeartbeats 8000000
set_option maxRecDepth 100000
namespace Go.Proofs.YtffcgajndmhpkaaGreatDoor
open Go.ChangeShapes Go.WideShapes Go.ChangeAt Go.RowKit Go.Sort
set_option linter.unusedVariables false
theorem szPaceS_any (a : Option Addr) (n cap : Nat) (left : Int) (hn : n ≤ 9223372036854775807) (h0 : 0 ≤ left) (h1 : left ≤ 1048576) (w : World) :
  Calls Tryz.prog 237 #[.slice a n cap, .int .i64 left] w fun e w' => e = .returned (.int .i64 (szV n left)) ∧ w' = w := by
 by_cases h : left - n < 0
 all_goals
  go_enter Tryz.func237, Tryz.ntmps237
  go_wp2
  go_ret
  exact ⟨ret_int (by first | exact (szV_f (by omega)).symm | exact (szV_t (by omega)).symm), rfl⟩
theorem szRoom_any (b : Int) (a : Option Addr) (n cap : Nat) (left : Int) (hn : n ≤ 9223372036854775807) (h0 : 0 ≤ left) (h1 : left ≤ 1048576) (w : World) :
  Calls Tryz.prog 190 #[.agg #[.int .i64 b, .slice a n cap], .int .i64 left] w fun e w' => e = .returned (.int .i64 (szV n left)) ∧ Below w.heap.size w w' := by
 by_cases h : left - n < 0
 ·go_enter Tryz.func190, Tryz.ntmps190
  go_wp2_with fail
  refine (szPaceS_any _ _ _ _ hn h0 h1 _).mono ?_
  rw [szV_f (by omega)]
  rintro e w' ⟨rfl, rfl⟩
  go_wp2_with fail
  go_ret
  exact ⟨ret_int (szV_f (by omega)).symm, (ba _ _)⟩
 ·go_enter Tryz.func190, Tryz.ntmps190
  go_wp2_with fail
  refine (szPaceS_any _ _ _ _ hn h0 h1 _).mono ?_
  rw [szV_t (by omega)]
  rintro e w' ⟨rfl, rfl⟩
  go_wp2_with fail
  go_ret
  exact ⟨ret_int (szV_t (by omega)).symm, (ba _ _)⟩
def Small (rs : List RoomV) : Prop := rs.length ≤ 1048576 ∧ ∀ j, j < rs.length → (roomAt rs j).2.length ≤ 1048576
theorem szRoomS_any {w : World} {v : Value} {rs : List RoomV} (h : IsRooms w v rs) (left : Int) (h0 : 0 ≤ left) (h1 : left ≤ 1048576) :
  Calls Tryz.prog 125 #[v, .int .i64 left] w fun e w' => ∃ x : Int, e = .returned (.int .i64 x) ∧ x ≤ 1048576 ∧ (0 ≤ x → Small rs) ∧ Below w.heap.size w w' := by
 obtain ⟨a, cap, rfl, hc, hm, hr⟩ := h
 have Hr := hide hr
 clear hr
 by_cases hn : left - rs.length < 0
 ·go_enter Tryz.func125, Tryz.ntmps125
  go_wp2_with fail
  go_ret
  exact ⟨-1, rfl, by omega, fun h => by omega, Below.refl _ _⟩
 ·go_enter Tryz.func125, Tryz.ntmps125
  go_wp2_with fail
  go_loopw [1, 5] (fun l i wr => ∃ (k : Nat) (y : Int), k ≤ rs.length ∧ i = .int .i64 k ∧ l = .int .i64 y ∧ 0 ≤ y ∧ y ≤ 1048576 ∧ (∀ j, j < k → (roomAt rs j).2.length ≤ 1048576) ∧ Below w.heap.size w wr) (fun _ i _ => rs.length - (intOf i).toNat)
  case atStart => exact ⟨0, _, Nat.zero_le _, rfl, rfl, by omega, by omega, fun j hj => by omega, Below.refl _ _⟩
  case round =>
   obtain ⟨k, y, hk, rfl, rfl, y0, y1, hst, hb⟩ := hrel
   have Hst := hide hst
   have Hb := hide hb
   clear hst
   by_cases hlt : k < rs.length
   ·rcases uh Hr with h0 | ⟨b, off, rfl, hbw, hcl⟩
    ·rw [h0] at hlt; simp at hlt
    obtain ⟨c0, pv, c1, hip⟩ := hcl k hlt
    rw [← hb.cell (p := ⟨b, off + k * 2, none⟩) hbw] at c0
    rw [← hb.cell (p := ⟨b, off + k * 2 + 1, none⟩) hbw] at c1
    obtain ⟨pa, pcap, rfl, hpc, hpm, _⟩ := hip
    generalize hp : (roomAt rs k).2.length = n at *
    generalize (roomAt rs k).1 = rb at *
    have Hp := hide hp
    clear hp hcl hb
    by_cases hy : y - n < 0
    ·go_wp2_with fail
     refine (szRoom_any _ _ _ _ _ (by omega) y0 y1 _).mono ?_
     rw [szV_f (by omega)]
     rintro e w1 ⟨rfl, hb1⟩
     have Hb1 := hide hb1
     clear hb1
     go_wp2_with fail
     go_ret
     exact ⟨-1, rfl, by omega, fun h => by omega, (uh Hb).trans ((uh Hb1).mono (uh Hb).size)⟩
    ·go_wp2_with fail
     refine (szRoom_any _ _ _ _ _ (by omega) y0 y1 _).mono ?_
     rw [szV_t (by omega)]
     rintro e w1 ⟨rfl, hb1⟩
     have Hb1 := hide hb1
     clear hb1
     go_wp2_with fail
     go_roundw
     case rel => exact ⟨k + 1, y - n, by omega, by go_num, rfl, by omega, by omega, next_all (uh Hst) (by rw [uh Hp]; omega), (uh Hb).trans ((uh Hb1).mono (uh Hb).size)⟩
     case measure => exact ms
   ·obtain rfl : k = rs.length := by omega
    go_wp2_with fail
    go_ret
    exact ⟨y, rfl, by omega, fun h => ⟨by omega, uh Hst⟩, hb⟩
theorem eqPace_yes (f c : Int) (w : World) :
  Calls Tryz.prog 275 #[.agg #[.int .i64 f, .int .i64 c], .agg #[.int .i64 f, .int .i64 c]] w fun e w' => e = .returned (.bool true) ∧ Below w.heap.size w w' := by
 go_enter Tryz.func275, Tryz.ntmps275
 go_wp2_with fail
 go_ret
 exact ⟨rfl, ((ba _ _)).alloc (by simp) _⟩
theorem eqPaceS_yes {w : World} {v u : Value} {ps : List PaceV} (hv : IsPaces w v ps) (hu : IsPaces w u ps) :
  Calls Tryz.prog 239 #[v, u] w fun e w' => e = .returned (.bool true) ∧ Below w.heap.size w w' := by
 obtain ⟨a, cap, rfl, hc, hm, hr⟩ := hv
 obtain ⟨a', cap', rfl, hc', hm', hr'⟩ := hu
 have Hr := hide hr
 have Hr' := hide hr'
 clear hr hr'
 go_enter Tryz.func239, Tryz.ntmps239
 go_wp2_with fail
 go_loopw [5] (fun i wr => ∃ k : Nat, k ≤ ps.length ∧ i = .int .i64 k ∧ Below w.heap.size w wr) (fun i _ => ps.length - (intOf i).toNat)
 case atStart => exact ⟨0, Nat.zero_le _, rfl, Below.refl _ _⟩
 case round =>
  obtain ⟨k, hk, rfl, hb⟩ := hrel
  have Hb := hide hb
  by_cases hlt : k < ps.length
  ·rcases uh Hr with h0 | ⟨b, off, rfl, hbw, hcl⟩
   ·rw [h0] at hlt; simp at hlt
   rcases uh Hr' with h0 | ⟨b', off', rfl, hbw', hcl'⟩
   ·rw [h0] at hlt; simp at hlt
   obtain ⟨c0, c1⟩ := hcl k hlt
   obtain ⟨d0, d1⟩ := hcl' k hlt
   rw [← hb.cell (p := ⟨b, off + k * 2, none⟩) hbw] at c0
   rw [← hb.cell (p := ⟨b, off + k * 2 + 1, none⟩) hbw] at c1
   rw [← hb.cell (p := ⟨b', off' + k * 2, none⟩) hbw'] at d0
   rw [← hb.cell (p := ⟨b', off' + k * 2 + 1, none⟩) hbw'] at d1
   generalize (paceAt ps k).1 = f at *
   generalize (paceAt ps k).2 = c at *
   have k0 := cell_regrown c0
   have k1 := cell_regrown c1
   have k2 := cell_regrown d0
   have k3 := cell_regrown d1
   clear hcl hcl' hb c0 c1 d0 d1
   go_wp2_with fail
   refine wq ?_
   repeat (go_big_quiet_step (exact Calls.regrown_of (eqPace_yes _ _ _)))
   refine wpQuiet_nil ?_
   intro _ hw'
   obtain ⟨⟨dq, osq⟩, hw''⟩ := hw'
   subst hw''
   go_wp2_with fail
   go_roundw
   case rel => exact ⟨k + 1, by omega, by go_num, (uh Hb).trans ((below_regrown _ _ _).mono (uh Hb).size)⟩
   case measure => exact ms
  ·go_wp2_with fail
   go_ret
   exact ⟨rfl, hb⟩
theorem eqRoom_yes {w : World} {v u : Value} {ps : List PaceV} (rb : Int) (hv : IsPaces w v ps) (hu : IsPaces w u ps) :
  Calls Tryz.prog 192 #[.agg #[.int .i64 rb, v], .agg #[.int .i64 rb, u]] w fun e w' => e = .returned (.bool true) ∧ Below w.heap.size w w' := by
 have Hv := hide hv
 have Hu := hide hu
 obtain ⟨a, cap, rfl, hc, hm, hr⟩ := hv
 obtain ⟨a', cap', rfl, hc', hm', hr'⟩ := hu
 clear hr hr'
 go_enter Tryz.func192, Tryz.ntmps192
 go_wp2_with fail
 refine ck (eqPaceS_yes ((uh Hv).below (((ba _ _)).alloc (by simp) _)) ((uh Hu).below (((ba _ _)).alloc (by simp) _))) fun w1 hb => ?_
 have Hb := hide hb
 clear hb
 go_wp2_with fail
 go_ret
 exact ⟨rfl, (((ba _ _)).alloc (by simp) _).trans ((uh Hb).mono (by simp; omega))⟩
theorem eqRoomS_yes {w : World} {v u : Value} {rs : List RoomV} (hv : IsRooms w v rs) (hu : IsRooms w u rs) :
  Calls Tryz.prog 130 #[v, u] w fun e w' => e = .returned (.bool true) ∧ Below w.heap.size w w' := by
 obtain ⟨a, cap, rfl, hc, hm, hr⟩ := hv
 obtain ⟨a', cap', rfl, hc', hm', hr'⟩ := hu
 have Hr := hide hr
 have Hr' := hide hr'
 clear hr hr'
 go_enter Tryz.func130, Tryz.ntmps130
 go_wp2_with fail
 go_loopw [5] (fun i wr => ∃ k : Nat, k ≤ rs.length ∧ i = .int .i64 k ∧ Below w.heap.size w wr) (fun i _ => rs.length - (intOf i).toNat)
 case atStart => exact ⟨0, Nat.zero_le _, rfl, Below.refl _ _⟩
 case round =>
  obtain ⟨k, hk, rfl, hb⟩ := hrel
  have Hb := hide hb
  by_cases hlt : k < rs.length
  ·rcases uh Hr with h0 | ⟨b, off, rfl, hbw, hcl⟩
   ·rw [h0] at hlt; simp at hlt
   rcases uh Hr' with h0 | ⟨b', off', rfl, hbw', hcl'⟩
   ·rw [h0] at hlt; simp at hlt
   obtain ⟨c0, pv, c1, hip⟩ := hcl k hlt
   obtain ⟨d0, pu, d1, hiu⟩ := hcl' k hlt
   rw [← hb.cell (p := ⟨b, off + k * 2, none⟩) hbw] at c0
   rw [← hb.cell (p := ⟨b, off + k * 2 + 1, none⟩) hbw] at c1
   rw [← hb.cell (p := ⟨b', off' + k * 2, none⟩) hbw'] at d0
   rw [← hb.cell (p := ⟨b', off' + k * 2 + 1, none⟩) hbw'] at d1
   have Hip := hide (hip.below hb)
   have Hiu := hide (hiu.below hb)
   obtain ⟨pa, pcap, rfl, _⟩ := hip
   obtain ⟨pa', pcap', rfl, _⟩ := hiu
   generalize (roomAt rs k).1 = f at *
   generalize (roomAt rs k).2 = ps at *
   have k0 := cell_regrown c0
   have k1 := cell_regrown c1
   have k2 := cell_regrown d0
   have k3 := cell_regrown d1
   clear hcl hcl' hb c0 c1 d0 d1
   go_wp2_with fail
   refine wq ?_
   repeat (go_big_quiet_step (exact Calls.regrown_of (eqRoom_yes _ ((uh Hip).below (below_regrown _ _ _)) ((uh Hiu).below (below_regrown _ _ _)))))
   refine wpQuiet_nil ?_
   intro _ hw'
   obtain ⟨⟨dq, osq⟩, hw''⟩ := hw'
   subst hw''
   go_wp2_with fail
   go_roundw
   case rel => exact ⟨k + 1, by omega, by go_num, (uh Hb).trans ((below_regrown _ _ _).mono (uh Hb).size)⟩
   case measure => exact ms
  ·go_wp2_with fail
   go_ret
   exact ⟨rfl, hb⟩
theorem eqHall_yes {w : World} {v u : Value} {rs : List RoomV} (hv : IsRooms w v rs) (hu : IsRooms w u rs) :
  Calls Tryz.prog 74 #[.agg #[v], .agg #[u]] w fun e w' => e = .returned (.bool true) ∧ Below w.heap.size w w' := by
 have Hv := hide hv
 have Hu := hide hu
 obtain ⟨a, cap, rfl, hc, hm, hr⟩ := hv
 obtain ⟨a', cap', rfl, hc', hm', hr'⟩ := hu
 clear hr hr'
 go_enter Tryz.func74, Tryz.ntmps74
 go_wp2_with fail
 refine ck (eqRoomS_yes ((uh Hv).below (((ba _ _)).alloc (by simp) _)) ((uh Hu).below (((ba _ _)).alloc (by simp) _))) fun w1 hb => ?_
 have Hb := hide hb
 clear hb
 go_wp2_with fail
 go_ret
 exact ⟨rfl, (((ba _ _)).alloc (by simp) _).trans ((uh Hb).mono (by simp; omega))⟩
theorem infoPace : (Tryz.prog.info? 42).map (fun i => (i.zero, i.size, i.bytes)) = some (some (.agg #[.int .i64 0, .int .i64 0]), 2, 16) := by kernel_rfl
theorem infoRoom : (Tryz.prog.info? 45).map (fun i => (i.zero, i.size, i.bytes)) = some (some (.agg #[.int .i64 0, .slice none 0 0]), 2, 32) := by kernel_rfl
theorem toPace_any (f c : Int) (w : World) :
  Calls Tryz.prog 274 #[.agg #[.int .i64 f, .int .i64 c]] w fun e w' => e = .returned (.agg #[.int .i64 f, .int .i64 c]) ∧ Below w.heap.size w w' := by
 go_enter Tryz.func274, Tryz.ntmps274
 go_wp2_with fail
 exact bodyPost_ret (v := .agg #[.int .i64 f, .int .i64 c]) (by simp [results, Tryz.results274, go_sem]) rfl ⟨rfl, (((ba _ _)).alloc (by simp) _).alloc (by simp; omega) _⟩
theorem toPaceS_any {w : World} {v : Value} {ps : List PaceV} (h : IsPaces w v ps) (hs : ps.length ≤ 1048576) :
  Calls Tryz.prog 238 #[v] w fun e w' => ∃ v', e = .returned v' ∧ IsPaces w' v' ps ∧ (∀ k, v'.ownBlock = some k → w.heap.size ≤ k) ∧ Below w.heap.size w w' := by
 obtain ⟨a, cap, rfl, hc, hm, hr⟩ := h
 have Hr := hide hr
 clear hr
 obtain ⟨i0, hi, hz0, hz1, hz2⟩ := info_parts infoPace
 go_enter Tryz.func238, Tryz.ntmps238
 go_wp2_with (at_make; refine wpList_make_full _ rfl _ _ 43 rfl w.heap.size 42 i0 (.agg #[.int .i64 0, .int .i64 0]) 2 Tryz.underlying43 hi hz0 hz1 _ _ _ _ ps.length rfl rfl rfl rfl (by rw [hz2]; omega) (by unfold maxLen; omega) (Nat.le_refl _) ?_; intro w0 hown hgrow)
 have Hown := hide hown
 have Hgr := hide hgrow
 clear hown hgrow
 go_loopw [4] (fun i wr => ∃ k : Nat, k ≤ ps.length ∧ i = .int .i64 k ∧ ∃ xs, wr.ownsRow w.heap.size 42 2 (.slice (some ⟨w.heap.size, 0, none⟩) ps.length ps.length) ps.length xs ∧ Pairs xs (isPaceOf ps) k ∧ Below w.heap.size w wr) (fun i _ => ps.length - (intOf i).toNat)
 case atStart => exact ⟨0, Nat.zero_le _, rfl, _, uh Hown, fun j hj => by omega, (Below.refl _ _).grown (uh Hgr) (Nat.le_refl _) (fun k e => by cases e)⟩
 case round =>
  obtain ⟨k, hk, rfl, xs, hown, hpr, hb⟩ := hrel
  have Hb := hide hb
  by_cases hlt : k < ps.length
  ·rcases uh Hr with h0 | ⟨b, off, rfl, hbw, hcl⟩
   ·rw [h0] at hlt; simp at hlt
   obtain ⟨c0, c1⟩ := hcl k hlt
   rw [← hb.cell (p := ⟨b, off + k * 2, none⟩) hbw] at c0
   rw [← hb.cell (p := ⟨b, off + k * 2 + 1, none⟩) hbw] at c1
   have hxs : xs.length = ps.length * 2 := hown.1
   have Ho := hide hown
   have Hpr := hide hpr
   generalize hp : paceAt ps k = p at c0 c1
   obtain ⟨f, c⟩ := p
   simp only at c0 c1
   have Hp := hide hp
   clear hcl hb hown hpr hp
   go_wp2_with fail
   refine ck (toPace_any _ _ _) fun w1 hb1 => ?_
   have ho1 := own_later (uh Ho) hb1
   obtain ⟨⟨x0, y0⟩, z0⟩ := own_cell ho1 (j := k * 2) (by omega)
   obtain ⟨⟨x1, y1⟩, z1⟩ := own_cell ho1 (j := k * 2 + 1) (by omega)
   have Hp2 := hide (own_pair ho1 (k * 2) (.int .i64 f) (.int .i64 c))
   have Hb1 := hide hb1
   have hsz := hb1.size
   have hsz0 := (uh Hb).size
   clear ho1 hb1
   go_wp2_with fail
   go_roundw
   case rel => exact ⟨k + 1, by omega, by go_num, _, (uh Hp2).1, (uh Hpr).next (by omega) ⟨by rw [uh Hp], by rw [uh Hp]⟩, ((uh Hb).trans ((uh Hb1).mono hsz0)).trans (below_grown (uh Hp2).2 (Nat.le_refl _) (by omega))⟩
   case measure => exact ms
  ·obtain rfl : k = ps.length := by omega
   go_wp2_with fail
   go_ret
   exact ⟨_, rfl, IsPaces.of_row hown hpr rfl, fun k e => by cases e; exact Nat.le_refl _, hb⟩
theorem IsPaces.set {w : World} {v : Value} {ps : List PaceV} (h : IsPaces w v ps) (b o : Nat) (u : Value) (hn : ∀ k, v.ownBlock = some k → k ≠ b) : IsPaces (w.setCell ⟨b, o, none⟩ u) v ps := by
 obtain ⟨a, cap, rfl, hc, hm, hr⟩ := h
 refine ⟨a, cap, rfl, hc, hm, ?_⟩
 rcases hr with hr | ⟨b', off, rfl, hlt, hcl⟩
 ·exact .inl hr
 ·have hne : b' ≠ b := hn b' rfl
  refine .inr ⟨b', off, rfl, by simpa using hlt, fun k hk => ?_⟩
  obtain ⟨h1, h2⟩ := hcl k hk
  exact ⟨by rw [World.cell?_setCell_other _ _ _ _ (by simp)]; exact h1, by rw [World.cell?_setCell_other _ _ _ _ (by simp)]; exact h2⟩
theorem toRoom_any {w : World} {v : Value} {ps : List PaceV} (rb : Int) (h : IsPaces w v ps) (hs : ps.length ≤ 1048576) :
  Calls Tryz.prog 191 #[.agg #[.int .i64 rb, v]] w fun e w' => ∃ v', e = .returned (.agg #[.int .i64 rb, v']) ∧ IsPaces w' v' ps ∧ (∀ k, v'.ownBlock = some k → w.heap.size ≤ k) ∧ Below w.heap.size w w' := by
 have Hv := hide h
 obtain ⟨a, cap, rfl, hc, hm, hr⟩ := h
 clear hr
 have Hb0 : Hid (∀ o1 o2 o3 : Obj, Below w.heap.size w (((w.alloc o1).alloc o2).alloc o3)) := hide (fun o1 o2 o3 => (((ba _ _)).alloc (by simp) _).alloc (by simp; omega) _)
 go_enter Tryz.func191, Tryz.ntmps191
 go_wp2_with fail
 refine (toPaceS_any ((uh Hv).below (uh Hb0 _ _ _)) hs).mono ?_
 rintro e w1 ⟨v', rfl, hp, hk, hb1⟩
 have hsz : w.heap.size + 3 ≤ w1.heap.size := by have := hb1.size; simp at this; omega
 have hk' : ∀ k, v'.ownBlock = some k → w.heap.size + 3 ≤ k := fun k e => by have := hk k e; simp at this; omega
 obtain ⟨cc, ff⟩ := bcell hb1
 have x0 := cc (w.heap.size + 2) 0 (by simp)
 have x1 := cc (w.heap.size + 2) 1 (by simp)
 have y0 := cc (w.heap.size + 1) 0 (by simp)
 have y1 := cc (w.heap.size + 1) 1 (by simp)
 have fx0 := ff (w.heap.size + 2) 0 (by simp)
 have fx1 := ff (w.heap.size + 2) 1 (by simp)
 have fy0 := ff (w.heap.size + 1) 0 (by simp)
 have fy1 := ff (w.heap.size + 1) 1 (by simp)
 have Hp := hide hp
 have Hk := hide hk'
 have Hb1 := hide hb1
 obtain ⟨a', cap', rfl, _⟩ := hp
 clear cc ff hk hk' hb1
 go_wp2_with fail
 have Q : ∀ b o u, b ≤ w.heap.size + 2 → ∀ w' v', IsPaces w' v' ps → (∀ k, v'.ownBlock = some k → w.heap.size + 3 ≤ k) → IsPaces (w'.setCell ⟨b, o, none⟩ u) v' ps := fun b o u hb w' v' h hk => h.set b o u (fun k e => by have := hk k e; omega)
 have B1 : Below w.heap.size w w1 := (uh Hb0 _ _ _).trans ((uh Hb1).mono (by simp; omega))
 refine bodyPost_ret (v := .agg #[.int .i64 rb, .slice a' ps.length cap']) (by simp [results, Tryz.results191, go_sem, *]) rfl ⟨_, rfl, ?_, fun k e => by have := uh Hk k e; omega, ?_⟩
 ·exact Q _ _ _ (by omega) _ _ (Q _ _ _ (by omega) _ _ (Q _ _ _ (by omega) _ _ (uh Hp) (uh Hk)) (uh Hk)) (uh Hk)
 ·exact ((B1.setCell (by show _ ≤ w.heap.size + 1 + 1; omega) _).setCell (by show _ ≤ w.heap.size + 1; omega) _).setCell (by show _ ≤ w.heap.size + 1; omega) _
def isRoomOf (w : World) (g : Nat) (rs : List RoomV) (j : Nat) (u u' : Value) : Prop := u = .int .i64 (roomAt rs j).1 ∧ IsPaces w u' (roomAt rs j).2 ∧ ∀ k, u'.ownBlock = some k → g < k
def RoomsFrom (n₀ : Nat) (w : World) (v : Value) (rs : List RoomV) : Prop :=
 ∃ (a : Option Addr) (cap : Nat), v = .slice a rs.length cap ∧ rs.length ≤ cap ∧ cap ≤ 9223372036854775807 ∧ (rs = [] ∨ ∃ b off, a = some ⟨b, off, none⟩ ∧ n₀ ≤ b ∧ b < w.heap.size ∧
  ∀ k, k < rs.length → w.cell? ⟨b, off + k * 2, none⟩ = some (.int .i64 (roomAt rs k).1) ∧ ∃ pv, w.cell? ⟨b, off + k * 2 + 1, none⟩ = some pv ∧ IsPaces w pv (roomAt rs k).2 ∧ ∀ j, pv.ownBlock = some j → n₀ ≤ j)
theorem RoomsFrom.rooms {n₀ : Nat} {w : World} {v : Value} {rs : List RoomV} (h : RoomsFrom n₀ w v rs) : IsRooms w v rs := by
 obtain ⟨a, cap, rfl, hc, hm, hr⟩ := h
 refine ⟨a, cap, rfl, hc, hm, ?_⟩
 rcases hr with hr | ⟨b, off, rfl, _, hlt, hcl⟩
 ·exact .inl hr
 ·exact .inr ⟨b, off, rfl, hlt, fun k hk => by obtain ⟨h1, pv, h2, h3, _⟩ := hcl k hk; exact ⟨h1, pv, h2, h3⟩⟩
theorem RoomsFrom.set {n₀ : Nat} {w : World} {v : Value} {rs : List RoomV} (h : RoomsFrom n₀ w v rs) (g o : Nat) (u : Value) (hg : g < n₀) : RoomsFrom n₀ (w.setCell ⟨g, o, none⟩ u) v rs := by
 obtain ⟨a, cap, rfl, hc, hm, hr⟩ := h
 refine ⟨a, cap, rfl, hc, hm, ?_⟩
 rcases hr with hr | ⟨b, off, rfl, hn, hlt, hcl⟩
 ·exact .inl hr
 ·have hne : b ≠ g := by omega
  refine .inr ⟨b, off, rfl, hn, by simpa using hlt, fun k hk => ?_⟩
  obtain ⟨h1, pv, h2, h3, h4⟩ := hcl k hk
  exact ⟨by rw [World.cell?_setCell_other _ _ _ _ (by simp)]; exact h1, pv, by rw [World.cell?_setCell_other _ _ _ _ (by simp)]; exact h2, h3.set _ _ _ (fun j e => by have := h4 j e; omega), h4⟩
theorem RoomsFrom.of_row {w : World} {B g n cap t : Nat} {rs : List RoomV} {xs : List Value} (h : w.ownsRow B t 2 (.slice (some ⟨g, 0, none⟩) n cap) n xs) (hp : Pairs xs (isRoomOf w g rs) rs.length) (hn : n = rs.length) : RoomsFrom g w (.slice (some ⟨g, 0, none⟩) n cap) rs := by
 subst hn
 have h' := h
 rcases h.2 with ⟨hh, _⟩ | ⟨g', cap', cur, hh, hb, hg, hnc, hcm, r⟩
 ·simp at hh
 ·simp only [Value.slice.injEq, Option.some.injEq, Addr.mk.injEq, and_true, true_and] at hh
  obtain ⟨rfl, rfl⟩ := hh
  refine ⟨_, cap, rfl, hnc, by unfold maxLen at hcm; omega, .inr ⟨g, 0, rfl, Nat.le_refl _, (Array.getElem?_eq_some_iff.1 hg).1, fun k hk => ?_⟩⟩
  obtain ⟨u, u', h1, h2, rfl, h3, h4⟩ := hp k hk
  refine ⟨?_, u', ?_, h3, fun j e => Nat.le_of_lt (h4 j e)⟩
  ·rw [Nat.zero_add, World.ownsRow.cellAt h' _ (by omega)]; exact h1
  ·rw [Nat.zero_add, World.ownsRow.cellAt h' _ (by omega)]; exact h2
theorem toRoomS_any {w : World} {v : Value} {rs : List RoomV} (h : IsRooms w v rs) (hs : Small rs) :
  Calls Tryz.prog 126 #[v] w fun e w' => ∃ v', e = .returned v' ∧ RoomsFrom w.heap.size w' v' rs ∧ Below w.heap.size w w' := by
 obtain ⟨a, cap, rfl, hc, hm, hr⟩ := h
 have Hr := hide hr
 clear hr
 obtain ⟨hs1, hs2⟩ := hs
 have Hs2 := hide hs2
 clear hs2
 obtain ⟨i0, hi, hz0, hz1, hz2⟩ := info_parts infoRoom
 go_enter Tryz.func126, Tryz.ntmps126
 go_wp2_with (at_make; refine wpList_make_full _ rfl _ _ 24 rfl w.heap.size 45 i0 (.agg #[.int .i64 0, .slice none 0 0]) 2 Tryz.underlying24 hi hz0 hz1 _ _ _ _ rs.length rfl rfl rfl rfl (by rw [hz2]; omega) (by unfold maxLen; omega) (Nat.le_refl _) ?_; intro w0 hown hgrow)
 have Hown := hide hown
 have Hgr := hide hgrow
 clear hown hgrow
 go_loopw [4] (fun i wr => ∃ k : Nat, k ≤ rs.length ∧ i = .int .i64 k ∧ ∃ xs, wr.ownsRow w.heap.size 45 2 (.slice (some ⟨w.heap.size, 0, none⟩) rs.length rs.length) rs.length xs ∧ Pairs xs (isRoomOf wr w.heap.size rs) k ∧ Below w.heap.size w wr) (fun i _ => rs.length - (intOf i).toNat)
 case atStart => exact ⟨0, Nat.zero_le _, rfl, _, uh Hown, fun j hj => by omega, (Below.refl _ _).grown (uh Hgr) (Nat.le_refl _) (fun k e => by cases e)⟩
 case round =>
  obtain ⟨k, hk, rfl, xs, hown, hpr, hb⟩ := hrel
  have Hb := hide hb
  by_cases hlt : k < rs.length
  ·rcases uh Hr with h0 | ⟨b, off, rfl, hbw, hcl⟩
   ·rw [h0] at hlt; simp at hlt
   obtain ⟨c0, pv, c1, hip⟩ := hcl k hlt
   rw [← hb.cell (p := ⟨b, off + k * 2, none⟩) hbw] at c0
   rw [← hb.cell (p := ⟨b, off + k * 2 + 1, none⟩) hbw] at c1
   have hxs : xs.length = rs.length * 2 := hown.1
   have hg1 : w.heap.size < wr.heap.size := (World.ownsRow.lt hown w.heap.size rfl).2
   have Ho := hide hown
   have Hpr := hide hpr
   have Hip := hide (hip.below hb)
   obtain ⟨pa, pcap, rfl, _⟩ := hip
   have hsk := uh Hs2 k hlt
   generalize hp : roomAt rs k = p at *
   obtain ⟨rb, ps⟩ := p
   simp only at c0 c1 hsk
   have Hp := hide hp
   clear hcl hb hown hpr hp
   go_wp2_with fail
   refine (toRoom_any rb (uh Hip) hsk).mono ?_
   rintro e w1 ⟨v', rfl, hip', hk', hb1⟩
   have ho1 := own_later (uh Ho) hb1
   obtain ⟨⟨x0, y0⟩, z0⟩ := own_cell ho1 (j := k * 2) (by omega)
   obtain ⟨⟨x1, y1⟩, z1⟩ := own_cell ho1 (j := k * 2 + 1) (by omega)
   have Hp2 := hide (own_pair ho1 (k * 2) (.int .i64 rb) v')
   have Hip' := hide hip'
   have Hk' := hide hk'
   have Hb1 := hide hb1
   have hsz := hb1.size
   have hsz0 := (uh Hb).size
   obtain ⟨a', cap', rfl, _⟩ := hip'
   clear ho1 hb1 hk'
   go_wp2_with fail
   have hne : ∀ {u : Value}, (∀ m, u.ownBlock = some m → w.heap.size < m) → ∀ {qs}, IsPaces wr u qs → IsPaces ((w1.setCell ⟨w.heap.size, k * 2, none⟩ (.int .i64 rb)).setCell ⟨w.heap.size, k * 2 + 1, none⟩ (.slice a' ps.length cap')) u qs := fun hn qs hq => ((hq.below (uh Hb1)).set _ _ _ (fun m e => by have := hn m e; omega)).set _ _ _ (fun m e => by have := hn m e; omega)
   have hn' : ∀ m, (Value.slice a' ps.length cap').ownBlock = some m → w.heap.size < m := fun m e => by have := uh Hk' _ e; omega
   have hlast : isRoomOf ((w1.setCell ⟨w.heap.size, k * 2, none⟩ (.int .i64 rb)).setCell ⟨w.heap.size, k * 2 + 1, none⟩ (.slice a' ps.length cap')) w.heap.size rs k (.int .i64 rb) (.slice a' ps.length cap') := by
    unfold isRoomOf
    rw [uh Hp]
    exact ⟨rfl, ((uh Hip').set _ _ _ (fun m e => by have := hn' m e; omega)).set _ _ _ (fun m e => by have := hn' m e; omega), hn'⟩
   have hprev := (uh Hpr).mono (Q := isRoomOf ((w1.setCell ⟨w.heap.size, k * 2, none⟩ (.int .i64 rb)).setCell ⟨w.heap.size, k * 2 + 1, none⟩ (.slice a' ps.length cap')) w.heap.size rs) (fun j u u' h => ⟨h.1, hne h.2.2 h.2.1, h.2.2⟩)
   go_roundw
   case rel => exact ⟨k + 1, by omega, by go_num, _, (uh Hp2).1, hprev.next (by omega) hlast, ((uh Hb).trans ((uh Hb1).mono hsz0)).trans (below_grown (uh Hp2).2 (Nat.le_refl _) (by omega))⟩
   case measure => exact ms
  ·obtain rfl : k = rs.length := by omega
   go_wp2_with fail
   go_ret
   exact ⟨_, rfl, RoomsFrom.of_row hown hpr rfl, hb⟩
theorem IsRooms.shape {w : World} {v : Value} {rs : List RoomV} (h : IsRooms w v rs) : ∃ a cap, v = .slice a rs.length cap ∧ rs.length ≤ cap ∧ cap ≤ 9223372036854775807 := by
 obtain ⟨a, cap, rfl, hc, hm, _⟩ := h; exact ⟨a, cap, rfl, hc, hm⟩
section
variable {α : Type} {t k : Nat} {enc : α → List Value}
def flat (enc : α → List Value) (xs : List α) : List Value := xs.flatMap enc
theorem flat_len (hk : ∀ x, (enc x).length = k) : ∀ xs : List α, (flat enc xs).length = xs.length * k
 | [] => by simp [flat]
 | x :: xs => by
  have ih := flat_len hk xs
  unfold flat at ih ⊢
  rw [List.flatMap_cons, List.length_append, ih, hk, List.length_cons, Nat.add_mul]; omega
theorem flat_append (xs ys : List α) : flat enc (xs ++ ys) = flat enc xs ++ flat enc ys := by unfold flat; rw [List.flatMap_append]
def setL (L : List Value) (o : Nat) : List Value → List Value
 | [] => L
 | u :: us => setL (L.set o u) (o + 1) us
def setW (w : World) (g o : Nat) : List Value → World
 | [] => w
 | u :: us => setW (w.setCell ⟨g, o, none⟩ u) g (o + 1) us
theorem setL_len : ∀ (us L : List Value) (o : Nat), (setL L o us).length = L.length
 | [], L, o => rfl
 | u :: us, L, o => by unfold setL; rw [setL_len us]; simp
theorem setL_get : ∀ (us L : List Value) (o m : Nat), o + us.length ≤ L.length → (setL L o us)[m]? = if o ≤ m ∧ m < o + us.length then us[m - o]? else L[m]?
 | [], L, o, m, h => by unfold setL; rw [if_neg (by simp)]
 | u :: us, L, o, m, h => by
  unfold setL
  have ih := setL_get us (L.set o u) (o + 1) m (by simp at h ⊢; omega)
  rw [ih]
  simp only [List.length_cons] at h ⊢
  by_cases h1 : o + 1 ≤ m ∧ m < o + 1 + us.length
  ·rw [if_pos h1, if_pos (by omega), show m - o = (m - (o + 1)) + 1 by omega]; rfl
  ·rw [if_neg h1]
   by_cases h2 : m = o
   ·subst h2; rw [if_pos (by omega), List.getElem?_set_self (by omega)]; simp
   ·rw [if_neg (by omega), List.getElem?_set_ne (by omega)]
theorem own_setW {B t n cap g sz : Nat} : ∀ (us : List Value) {w : World} {xs : List Value} (o : Nat), w.ownsRow B t sz (.slice (some ⟨g, 0, none⟩) n cap) n xs →
  (setW w g o us).ownsRow B t sz (.slice (some ⟨g, 0, none⟩) n cap) n (setL xs o us) ∧ w.grownBy (setW w g o us) (some g)
 | [], w, xs, o, h => ⟨h, grown_refl _ _⟩
 | u :: us, w, xs, o, h => by
  obtain ⟨h1, h2⟩ := World.ownsRow.stored h o u
  obtain ⟨h3, h4⟩ := own_setW us (o + 1) h1
  exact ⟨h3, grown_trans h2 h4⟩
def RecAt (t k : Nat) (enc : α → List Value) (n₀ : Nat) (w : World) (v : Value) (xs : List α) : Prop := w.ownsRow n₀ t k v xs.length (flat enc xs)
theorem RecAt.lt {n₀ : Nat} {w : World} {v : Value} {xs : List α} (h : RecAt t k enc n₀ w v xs) {i : Nat} (hi : v.ownBlock = some i) : n₀ ≤ i ∧ i < w.heap.size := World.ownsRow.lt h i hi
theorem RecAt.mono {n₀ n₁ : Nat} {w : World} {v : Value} {xs : List α} (h : RecAt t k enc n₀ w v xs) (hn : n₁ ≤ n₀) : RecAt t k enc n₁ w v xs := own_mono h hn
theorem RecAt.same {n₀ : Nat} {w w' : World} {v : Value} {xs : List α} (h : RecAt t k enc n₀ w v xs) (hs : ∀ i, v.ownBlock = some i → w'.heap[i]? = w.heap[i]?) : RecAt t k enc n₀ w' v xs := own_same h hs
theorem RecAt.later {n₀ : Nat} {w w' : World} {v : Value} {xs : List α} (h : RecAt t k enc n₀ w v xs) (hb : Below w.heap.size w w') : RecAt t k enc n₀ w' v xs := h.same fun i hi => hb.block i (h.lt hi).2
theorem RecAt.grown {n₀ : Nat} {w w' : World} {v : Value} {xs : List α} {r : Option Nat} (h : RecAt t k enc n₀ w v xs) (hg : w.grownBy w' r) (hr : ∀ i, v.ownBlock = some i → r ≠ some i) : RecAt t k enc n₀ w' v xs := h.same fun i hi => hg.block i (h.lt hi).2 (fun e => hr i hi e.symm)
theorem RecAt.shape {n₀ : Nat} {w : World} {v : Value} {xs : List α} (h : RecAt t k enc n₀ w v xs) : ∃ a cap, v = .slice a xs.length cap := by
 rcases h.2 with ⟨rfl, hz⟩ | ⟨g, cap, cur, rfl, _⟩
 ·exact ⟨none, 0, by rw [hz]⟩
 ·exact ⟨_, cap, rfl⟩
end
section
variable {α : Type} [Inhabited α] {t k : Nat} {enc : α → List Value}
def recAt (xs : List α) (j : Nat) : α := xs.getD j default
theorem recAt_get {xs : List α} {j : Nat} (h : j < xs.length) : recAt xs j = xs[j] := by unfold recAt; simp [List.getD, h]
theorem recAt_mem {xs : List α} {j : Nat} (h : j < xs.length) : recAt xs j ∈ xs := by rw [recAt_get h]; exact List.getElem_mem h
theorem recAt_set {xs : List α} {i : Nat} {x : α} (h : i < xs.length) (j : Nat) : recAt (xs.set i x) j = if j = i then x else recAt xs j := by
 unfold recAt
 by_cases e : j = i
 ·subst e; simp [List.getD, h]
 ·rw [if_neg e]; simp [List.getD, Ne.symm e]
theorem flat_get (hk : ∀ x, (enc x).length = k) : ∀ (xs : List α) (j : Nat), j < xs.length → ∀ i, i < k → (flat enc xs)[j * k + i]? = (enc (recAt xs j))[i]?
 | x :: xs, 0, _, i, hi => by
  unfold flat recAt
  rw [List.flatMap_cons, Nat.zero_mul, Nat.zero_add, List.getElem?_append_left (by rw [hk]; exact hi)]; rfl
 | x :: xs, j + 1, h, i, hi => by
  have ih := flat_get hk xs j (by simpa using h) i hi
  unfold flat recAt at ih ⊢
  rw [List.flatMap_cons, List.getElem?_append_right (by rw [hk, Nat.add_mul]; omega), hk, show (j + 1) * k + i - k = j * k + i by rw [Nat.add_mul]; omega, ih]
  rfl
theorem flat_set (hk : ∀ x, (enc x).length = k) (h0 : 0 < k) (xs : List α) (j : Nat) (hj : j < xs.length) (x : α) : setL (flat enc xs) (j * k) (enc x) = flat enc (xs.set j x) := by
 have hl := flat_len hk xs
 have hjk : j * k + k ≤ xs.length * k := by rw [← Nat.succ_mul]; exact Nat.mul_le_mul_right k hj
 apply List.ext_getElem?
 intro m
 by_cases hm : m < xs.length * k
 ·have hd : m / k < xs.length := (Nat.div_lt_iff_lt_mul h0).2 hm
  have hr : m % k < k := Nat.mod_lt _ h0
  have he : m = m / k * k + m % k := by rw [Nat.mul_comm]; exact (Nat.div_add_mod m k).symm
  have hg := flat_get hk (xs.set j x) (m / k) (by simpa using hd) (m % k) hr
  have hg0 := flat_get hk xs (m / k) hd (m % k) hr
  rw [← he] at hg hg0
  rw [setL_get _ _ _ _ (by rw [hl, hk]; exact hjk), hg, hk, recAt_set hj, hg0]
  by_cases e : m / k = j
  ·rw [if_pos e, if_pos (by rw [← e]; omega), show m - j * k = m % k by rw [← e]; omega]
  ·rw [if_neg e, if_neg]
   intro ⟨h1, h2⟩
   apply e
   exact Nat.div_eq_of_lt_le h1 (by rw [Nat.succ_mul]; exact h2)
 ·rw [List.getElem?_eq_none (by rw [setL_len, hl]; omega), List.getElem?_eq_none (by rw [flat_len hk]; simp; omega)]
def IsRec (k : Nat) (enc : α → List Value) (w : World) (v : Value) (xs : List α) : Prop :=
 ∃ (a : Option Addr) (cap : Nat), v = .slice a xs.length cap ∧ xs.length ≤ cap ∧ cap ≤ 9223372036854775807 ∧ (xs = [] ∨ ∃ b off, a = some ⟨b, off, none⟩ ∧ b < w.heap.size ∧
  ∀ j, j < xs.length → ∀ i u, (enc (recAt xs j))[i]? = some u → w.cell? ⟨b, off + j * k + i, none⟩ = some u)
theorem IsRec.below {w w' : World} {v : Value} {xs : List α} (h : IsRec k enc w v xs) (hb : Below w.heap.size w w') : IsRec k enc w' v xs := by
 obtain ⟨a, cap, rfl, hc, hm, hr⟩ := h
 refine ⟨a, cap, rfl, hc, hm, ?_⟩
 rcases hr with hr | ⟨b, off, rfl, hlt, hcl⟩
 ·exact .inl hr
 ·exact .inr ⟨b, off, rfl, Nat.lt_of_lt_of_le hlt hb.size, fun j hj i u hu => (hb.cell (p := ⟨b, off + j * k + i, none⟩) hlt).trans (hcl j hj i u hu)⟩
theorem IsRec.shape {w : World} {v : Value} {xs : List α} (h : IsRec k enc w v xs) : ∃ a cap, v = .slice a xs.length cap ∧ xs.length ≤ cap ∧ cap ≤ 9223372036854775807 := by
 obtain ⟨a, cap, rfl, hc, hm, _⟩ := h; exact ⟨a, cap, rfl, hc, hm⟩
theorem RecAt.recs (hk : ∀ x, (enc x).length = k) (h0 : 0 < k) {n₀ : Nat} {w : World} {v : Value} {xs : List α} (h : RecAt t k enc n₀ w v xs) : IsRec k enc w v xs := by
 have h' := h
 rcases h.2 with ⟨rfl, hz⟩ | ⟨g, cap, cur, rfl, hb, hg, hnc, hcm, r⟩
 ·exact ⟨none, 0, by rw [hz], by omega, by omega, .inl (List.eq_nil_of_length_eq_zero hz)⟩
 ·refine ⟨_, cap, rfl, hnc, by unfold maxLen at hcm; omega, .inr ⟨g, 0, rfl, (Array.getElem?_eq_some_iff.1 hg).1, fun j hj i u hu => ?_⟩⟩
  have hi : i < k := by
   rcases Nat.lt_or_ge i k with h | h
   ·exact h
   ·rw [List.getElem?_eq_none (by rw [hk]; exact h)] at hu; cases hu
  have hjk : j * k + k ≤ xs.length * k := by rw [← Nat.succ_mul]; exact Nat.mul_le_mul_right k hj
  rw [Nat.zero_add, World.ownsRow.cellAt h' (j * k + i) (by omega), flat_get hk xs j hj i hi]
  exact hu
theorem RecAt.view (hk : ∀ x, (enc x).length = k) (h0 : 0 < k) {n₀ n cap : Nat} {w : World} {a : Option Addr} {xs : List α} (h : RecAt t k enc n₀ w (.slice a n cap) xs) (hn : n = xs.length) (hl : 0 < xs.length) : ∃ g, a = some ⟨g, 0, none⟩ ∧ n₀ ≤ g ∧ g < w.heap.size ∧
  (∀ j, j < xs.length → ∀ i u, (enc (recAt xs j))[i]? = some u → w.cell? ⟨g, j * k + i, none⟩ = some u) ∧ (∀ o, w.frozen? ⟨g, o, none⟩ = false) := by
 subst hn
 have h' := h
 rcases h.2 with ⟨hv, hz⟩ | ⟨g, cap', cur, hv, hb, hg, hnc, hcm, r⟩
 ·omega
 ·cases hv
  refine ⟨g, rfl, hb, (Array.getElem?_eq_some_iff.1 hg).1, fun j hj i u hu => ?_, fun o => World.ownsRow.frozenAt h' o⟩
  have hi : i < k := by
   rcases Nat.lt_or_ge i k with h | h
   ·exact h
   ·rw [List.getElem?_eq_none (by rw [hk]; exact h)] at hu; cases hu
  have hjk : j * k + k ≤ xs.length * k := by rw [← Nat.succ_mul]; exact Nat.mul_le_mul_right k hj
  rw [World.ownsRow.cellAt h' (j * k + i) (by omega), flat_get hk xs j hj i hi]
  exact hu
theorem RecAt.put (hk : ∀ x, (enc x).length = k) (h0 : 0 < k) {n₀ n cap g : Nat} {w : World} {xs : List α} (h : RecAt t k enc n₀ w (.slice (some ⟨g, 0, none⟩) n cap) xs) (hn : n = xs.length) {j : Nat} (hj : j < xs.length) (x : α) :
  RecAt t k enc n₀ (setW w g (j * k) (enc x)) (.slice (some ⟨g, 0, none⟩) n cap) (xs.set j x) ∧ w.grownBy (setW w g (j * k) (enc x)) (some g) := by
 subst hn
 obtain ⟨h1, h2⟩ := own_setW (enc x) (j * k) h
 rw [flat_set hk h0 xs j hj x] at h1
 refine ⟨?_, h2⟩
 unfold RecAt
 rw [List.length_set]
 exact h1
end
end Go.Proofs.YtffcgajndmhpkaaGreatDoor
namespace Go.Proofs.YtffcgajndmhpkaaGreatDoor
open Go.ChangeShapes Go.WideShapes Go.ChangeAt Go.RowKit Go.Sort
set_option linter.unusedVariables false
section
variable {α : Type} {t k : Nat} {enc : α → List Value}
def fillL (xs : List α) (z : α) (j : Nat) : List α := xs.take j ++ List.replicate (xs.length - j) z
theorem fillL_len {xs : List α} {z : α} {j : Nat} (h : j ≤ xs.length) : (fillL xs z j).length = xs.length := by unfold fillL; simp; omega
theorem fillL_zero (xs : List α) (z : α) : fillL xs z 0 = List.replicate xs.length z := by unfold fillL; simp
theorem fillL_all (xs : List α) (z : α) : fillL xs z xs.length = xs := by unfold fillL; simp
theorem fillL_set [Inhabited α] {xs : List α} {z : α} {j : Nat} (h : j < xs.length) : (fillL xs z j).set j (recAt xs j) = fillL xs z (j + 1) := by
 unfold fillL
 have hl : (xs.take j).length = j := by simp; omega
 rw [List.set_append_right _ _ (by rw [hl]; exact Nat.le_refl _), hl, Nat.sub_self, recAt_get h, List.take_succ_eq_append_getElem h, List.append_assoc]
 congr 1
 obtain ⟨m, hm⟩ : ∃ m, xs.length - j = m + 1 := ⟨xs.length - j - 1, by omega⟩
 rw [hm, List.replicate_succ, List.set_cons_zero, show xs.length - (j + 1) = m by omega]
 rfl
def markL (mk : Int → α) (d : Nat) (c : Int) (n : Nat) : List α := (List.range n).map fun i : Nat => mk (c + (d : Int) * (i : Int))
theorem markL_len (mk : Int → α) (d : Nat) (c : Int) (n : Nat) : (markL mk d c n).length = n := by simp [markL]
theorem markL_at [Inhabited α] (mk : Int → α) (d : Nat) (c : Int) {n i : Nat} (h : i < n) : recAt (markL mk d c n) i = mk (c + (d : Int) * (i : Int)) := by unfold recAt markL; simp [List.getD, h]
def markedL (mk : Int → α) (d : Nat) (c : Int) (xs : List α) (j : Nat) : List α := markL mk d c j ++ xs.drop j
theorem markedL_len {mk : Int → α} {d : Nat} {c : Int} {xs : List α} {j : Nat} (h : j ≤ xs.length) : (markedL mk d c xs j).length = xs.length := by unfold markedL; simp [markL_len]; omega
theorem markedL_zero (mk : Int → α) (d : Nat) (c : Int) (xs : List α) : markedL mk d c xs 0 = xs := by unfold markedL markL; simp
theorem markedL_all (mk : Int → α) (d : Nat) (c : Int) (xs : List α) : markedL mk d c xs xs.length = markL mk d c xs.length := by unfold markedL; simp
theorem markedL_set {mk : Int → α} {d : Nat} {c : Int} {xs : List α} {j : Nat} (h : j < xs.length) : (markedL mk d c xs j).set j (mk (c + (d : Int) * (j : Int))) = markedL mk d c xs (j + 1) := by
 unfold markedL
 rw [List.set_append_right _ _ (by rw [markL_len]; exact Nat.le_refl _), markL_len, Nat.sub_self, List.drop_eq_getElem_cons h, List.set_cons_zero]
 simp [markL, List.range_succ]
theorem made_flat [Inhabited α] (hk : ∀ x, (enc x).length = k) (h0 : 0 < k) (z : α) (zs : Array Value) (hz : zs.toList = enc z) (n : Nat) : (madeCells zs (n * k)).toList = flat enc (List.replicate n z) := by
 have hs : zs.size = k := by rw [← Array.length_toList, hz, hk]
 apply List.ext_getElem?
 intro m
 by_cases hm : m < n * k
 ·have hd : m / k < n := (Nat.div_lt_iff_lt_mul h0).2 hm
  have hr : m % k < k := Nat.mod_lt _ h0
  have he : m = m / k * k + m % k := by rw [Nat.mul_comm]; exact (Nat.div_add_mod m k).symm
  have hg := flat_get hk (List.replicate n z) (m / k) (by simpa using hd) (m % k) hr
  rw [← he] at hg
  have hrec : recAt (List.replicate n z) (m / k) = z := by unfold recAt; simp [List.getD, hd]
  rw [hg, hrec, ← hz]
  simp [madeCells, hm, hs, hr]
 ·rw [List.getElem?_eq_none (by simp [madeCells]; omega), List.getElem?_eq_none (by rw [flat_len hk]; simp; omega)]
end
end Go.Proofs.YtffcgajndmhpkaaGreatDoor
namespace Go.Proofs.YtffcgajndmhpkaaGreatDoor
open Go.ChangeShapes Go.WideShapes Go.ChangeAt Go.RowKit Go.Sort
set_option linter.unusedVariables false
abbrev GuildV := Int × Int × Int
def encGuild (p : GuildV) : List Value := [.int .i64 p.1, .int .i64 p.2.1, .int .i64 p.2.2]
theorem encGuild_len (p : GuildV) : (encGuild p).length = 3 := rfl
abbrev IsGuilds (w : World) (v : Value) (ps : List GuildV) : Prop := IsRec 3 encGuild w v ps
abbrev GuildsAt (n₀ : Nat) (w : World) (v : Value) (ps : List GuildV) : Prop := RecAt 88 3 encGuild n₀ w v ps
theorem infoGuild : (Tryz.prog.info? 88).map (fun i => (i.zero, i.size, i.bytes)) = some (some (.agg #[.int .i64 0, .int .i64 0, .int .i64 0]), 3, 24) := by kernel_rfl
theorem GuildsAt.list {n₀ : Nat} {w : World} {v : Value} {ps : List GuildV} (h : GuildsAt n₀ w v ps) : IsGuilds w v ps := RecAt.recs encGuild_len (by omega) h
theorem guild_cells {w : World} {b off : Nat} {ps : List GuildV} (h : ∀ j, j < ps.length → ∀ i u, (encGuild (recAt ps j))[i]? = some u → w.cell? ⟨b, off + j * 3 + i, none⟩ = some u) {j : Nat} (hj : j < ps.length) :
  w.cell? ⟨b, off + j * 3, none⟩ = some (.int .i64 (recAt ps j).1) ∧ w.cell? ⟨b, off + j * 3 + 1, none⟩ = some (.int .i64 (recAt ps j).2.1) ∧ w.cell? ⟨b, off + j * 3 + 2, none⟩ = some (.int .i64 (recAt ps j).2.2) :=
 ⟨h j hj 0 _ rfl, h j hj 1 _ rfl, h j hj 2 _ rfl⟩
theorem szGuildS_any (a : Option Addr) (n cap : Nat) (left : Int) (hn : n ≤ 9223372036854775807) (h0 : 0 ≤ left) (h1 : left ≤ 1048576) (w : World) :
  Calls Tryz.prog 65 #[.slice a n cap, .int .i64 left] w fun e w' => e = .returned (.int .i64 (szV n left)) ∧ w' = w := by
 by_cases h : left - n < 0
 all_goals
  go_enter Tryz.func65, Tryz.ntmps65
  go_wp2
  go_ret
  exact ⟨ret_int (by first | exact (szV_f (by omega)).symm | exact (szV_t (by omega)).symm), rfl⟩
theorem eqGuild_yes (x0 : Int) (x1 : Int) (x2 : Int) (w : World) :
  Calls Tryz.prog 131 #[.agg #[.int .i64 x0, .int .i64 x1, .int .i64 x2], .agg #[.int .i64 x0, .int .i64 x1, .int .i64 x2]] w fun e w' => e = .returned (.bool true) ∧ Below w.heap.size w w' := by
 go_enter Tryz.func131, Tryz.ntmps131
 go_wp2_with fail
 go_ret
 exact ⟨rfl, ((ba _ _)).alloc (by simp) _⟩
theorem eqGuildS_yes {w : World} {v u : Value} {ps : List GuildV} (hv : IsGuilds w v ps) (hu : IsGuilds w u ps) :
  Calls Tryz.prog 75 #[v, u] w fun e w' => e = .returned (.bool true) ∧ Below w.heap.size w w' := by
 obtain ⟨a, cap, rfl, hc, hm, hr⟩ := hv
 obtain ⟨a', cap', rfl, hc', hm', hr'⟩ := hu
 have Hr := hide hr
 have Hr' := hide hr'
 clear hr hr'
 go_enter Tryz.func75, Tryz.ntmps75
 go_wp2_with fail
 go_loopw [5] (fun i wr => ∃ k : Nat, k ≤ ps.length ∧ i = .int .i64 k ∧ Below w.heap.size w wr) (fun i _ => ps.length - (intOf i).toNat)
 case atStart => exact ⟨0, Nat.zero_le _, rfl, Below.refl _ _⟩
 case round =>
  obtain ⟨k, hk, rfl, hb⟩ := hrel
  have Hb := hide hb
  by_cases hlt : k < ps.length
  ·rcases uh Hr with h0 | ⟨b, off, rfl, hbw, hcl⟩
   ·rw [h0] at hlt; simp at hlt
   rcases uh Hr' with h0 | ⟨b', off', rfl, hbw', hcl'⟩
   ·rw [h0] at hlt; simp at hlt
   obtain ⟨c0, c1, c2⟩ := guild_cells hcl hlt
   obtain ⟨d0, d1, d2⟩ := guild_cells hcl' hlt
   generalize recAt ps k = p at *
   obtain ⟨x0, x1, x2⟩ := p
   simp only at c0 c1 c2 d0 d1 d2
   have k0 := cell_regrown ((hb.cell (p := ⟨b, off + k * 3, none⟩) hbw).trans c0)
   have m0 := cell_regrown ((hb.cell (p := ⟨b', off' + k * 3, none⟩) hbw').trans d0)
   have k1 := cell_regrown ((hb.cell (p := ⟨b, off + k * 3 + 1, none⟩) hbw).trans c1)
   have m1 := cell_regrown ((hb.cell (p := ⟨b', off' + k * 3 + 1, none⟩) hbw').trans d1)
   have k2 := cell_regrown ((hb.cell (p := ⟨b, off + k * 3 + 2, none⟩) hbw).trans c2)
   have m2 := cell_regrown ((hb.cell (p := ⟨b', off' + k * 3 + 2, none⟩) hbw').trans d2)
   clear hcl hcl' hb c0 c1 c2 d0 d1 d2
   go_wp2_with fail
   refine wq ?_
   repeat (go_big_quiet_step (exact Calls.regrown_of (eqGuild_yes _ _ _ _)))
   refine wpQuiet_nil ?_
   intro _ hw'
   obtain ⟨⟨dq, osq⟩, hw''⟩ := hw'
   subst hw''
   go_wp2_with fail
   go_roundw
   case rel => exact ⟨k + 1, by omega, by go_num, (uh Hb).trans ((below_regrown _ _ _).mono (uh Hb).size)⟩
   case measure => exact ms
  ·go_wp2_with fail
   go_ret
   exact ⟨rfl, hb⟩
theorem toGuild_any (x0 : Int) (x1 : Int) (x2 : Int) (w : World) :
  Calls Tryz.prog 127 #[.agg #[.int .i64 x0, .int .i64 x1, .int .i64 x2]] w fun e w' => e = .returned (.agg #[.int .i64 x0, .int .i64 x1, .int .i64 x2]) ∧ Below w.heap.size w w' := by
 go_enter Tryz.func127, Tryz.ntmps127
 go_wp2_with fail
 exact bodyPost_ret (v := .agg #[.int .i64 x0, .int .i64 x1, .int .i64 x2]) (by simp [results, Tryz.results127, go_sem]) rfl ⟨rfl, (((ba _ _)).alloc (by simp) _).alloc (by simp; omega) _⟩
theorem toGuildS_any {w : World} {v : Value} {ps : List GuildV} (h : IsGuilds w v ps) (hs : ps.length ≤ 1048576) :
  Calls Tryz.prog 70 #[v] w fun e w' => ∃ v', e = .returned v' ∧ GuildsAt w.heap.size w' v' ps ∧ Below w.heap.size w w' := by
 obtain ⟨a, cap, rfl, hc, hm, hr⟩ := h
 have Hr := hide hr
 clear hr
 obtain ⟨i0, hi, hz0, hz1, hz2⟩ := info_parts infoGuild
 go_enter Tryz.func70, Tryz.ntmps70
 go_wp2_with (at_make; refine wpList_make_full _ rfl _ _ 27 rfl w.heap.size 88 i0 (.agg #[.int .i64 0, .int .i64 0, .int .i64 0]) 3 Tryz.underlying27 hi hz0 hz1 _ _ _ _ ps.length rfl rfl rfl rfl (by rw [hz2]; omega) (by unfold maxLen; omega) (Nat.le_refl _) ?_; intro w0 hown hgrow)
 have Hown : Hid (GuildsAt w.heap.size w0 (.slice (some ⟨w.heap.size, 0, none⟩) ps.length ps.length) (fillL ps (0, 0, 0) 0)) := hide (by
  rw [made_flat encGuild_len (by omega) (0, 0, 0) (Value.agg #[.int .i64 0, .int .i64 0, .int .i64 0]).cells rfl ps.length] at hown
  rw [fillL_zero]
  show w0.ownsRow _ _ _ _ (List.replicate ps.length _).length _
  rw [List.length_replicate]
  exact hown)
 have Hgr := hide hgrow
 clear hown hgrow
 go_loopw [4] (fun i wr => ∃ k : Nat, k ≤ ps.length ∧ i = .int .i64 k ∧ GuildsAt w.heap.size wr (.slice (some ⟨w.heap.size, 0, none⟩) ps.length ps.length) (fillL ps (0, 0, 0) k) ∧ Below w.heap.size w wr) (fun i _ => ps.length - (intOf i).toNat)
 case atStart => exact ⟨0, Nat.zero_le _, rfl, uh Hown, (Below.refl _ _).grown (uh Hgr) (Nat.le_refl _) (fun k e => by cases e)⟩
 case round =>
  obtain ⟨k, hk, rfl, hown, hb⟩ := hrel
  have Hb := hide hb
  by_cases hlt : k < ps.length
  ·rcases uh Hr with h0 | ⟨b, off, rfl, hbw, hcl⟩
   ·rw [h0] at hlt; simp at hlt
   obtain ⟨c0, c1, c2⟩ := guild_cells hcl hlt
   rw [← hb.cell (p := ⟨b, off + k * 3, none⟩) hbw] at c0
   rw [← hb.cell (p := ⟨b, off + k * 3 + 1, none⟩) hbw] at c1
   rw [← hb.cell (p := ⟨b, off + k * 3 + 2, none⟩) hbw] at c2
   have Ho := hide hown
   have HS := hide (fillL_set (z := ((0, 0, 0) : GuildV)) hlt)
   generalize hp : recAt ps k = p at *
   obtain ⟨x0, x1, x2⟩ := p
   simp only at c0 c1 c2
   clear hcl hb hown hp
   go_wp2_with fail
   refine ck (toGuild_any _ _ _ _) fun w1 hb1 => ?_
   have ho1 := RecAt.later (uh Ho) hb1
   have hfl := fillL_len (z := ((0, 0, 0) : GuildV)) hk
   obtain ⟨g, hg, _, _, hcells, hfz⟩ := RecAt.view encGuild_len (by omega) ho1 hfl.symm (by omega)
   cases hg
   have hq := fun i u hu => hcells k (by omega) i u hu
   generalize recAt (fillL ps (0, 0, 0) k) k = old at hq
   have o0 := hq 0 _ rfl
   have f0 := hfz (k * 3)
   have o1 := hq 1 _ rfl
   have f1 := hfz (k * 3 + 1)
   have o2 := hq 2 _ rfl
   have f2 := hfz (k * 3 + 2)
   simp only [Nat.add_zero] at o0
   have Hp2 := hide (RecAt.put encGuild_len (by omega) ho1 hfl.symm (j := k) (by omega) (x0, x1, x2))
   have Hb1 := hide hb1
   have hsz := hb1.size
   have hsz0 := (uh Hb).size
   clear ho1 hb1 hcells hq hfz hfl
   go_wp2_with fail
   go_roundw
   case rel => exact ⟨k + 1, by omega, by go_num, by have h9 := (uh Hp2).1; rw [uh HS] at h9; exact h9, ((uh Hb).trans ((uh Hb1).mono hsz0)).trans (below_grown (uh Hp2).2 (Nat.le_refl _) (by omega))⟩
   case measure => exact ms
  ·obtain rfl : k = ps.length := by omega
   rw [fillL_all] at hown
   go_wp2_with fail
   go_ret
   exact ⟨_, rfl, hown, hb⟩
abbrev SmithV := Int × Int × Int × Int × Int × Int × Int × Int × Int × Int × Int
def encSmith (p : SmithV) : List Value := [.int .i64 p.1, .int .i64 p.2.1, .int .i64 p.2.2.1, .int .i64 p.2.2.2.1, .int .i64 p.2.2.2.2.1, .int .i64 p.2.2.2.2.2.1, .int .i64 p.2.2.2.2.2.2.1, .int .i64 p.2.2.2.2.2.2.2.1, .int .i64 p.2.2.2.2.2.2.2.2.1, .int .i64 p.2.2.2.2.2.2.2.2.2.1, .int .i64 p.2.2.2.2.2.2.2.2.2.2]
theorem encSmith_len (p : SmithV) : (encSmith p).length = 11 := rfl
abbrev IsSmiths (w : World) (v : Value) (ps : List SmithV) : Prop := IsRec 11 encSmith w v ps
abbrev SmithsAt (n₀ : Nat) (w : World) (v : Value) (ps : List SmithV) : Prop := RecAt 39 11 encSmith n₀ w v ps
theorem infoSmith : (Tryz.prog.info? 39).map (fun i => (i.zero, i.size, i.bytes)) = some (some (.agg #[.int .i64 0, .int .i64 0, .int .i64 0, .int .i64 0, .int .i64 0, .int .i64 0, .int .i64 0, .int .i64 0, .int .i64 0, .int .i64 0, .int .i64 0]), 11, 88) := by kernel_rfl
theorem SmithsAt.list {n₀ : Nat} {w : World} {v : Value} {ps : List SmithV} (h : SmithsAt n₀ w v ps) : IsSmiths w v ps := RecAt.recs encSmith_len (by omega) h
theorem smith_cells {w : World} {b off : Nat} {ps : List SmithV} (h : ∀ j, j < ps.length → ∀ i u, (encSmith (recAt ps j))[i]? = some u → w.cell? ⟨b, off + j * 11 + i, none⟩ = some u) {j : Nat} (hj : j < ps.length) :
  w.cell? ⟨b, off + j * 11, none⟩ = some (.int .i64 (recAt ps j).1) ∧ w.cell? ⟨b, off + j * 11 + 1, none⟩ = some (.int .i64 (recAt ps j).2.1) ∧ w.cell? ⟨b, off + j * 11 + 2, none⟩ = some (.int .i64 (recAt ps j).2.2.1) ∧ w.cell? ⟨b, off + j * 11 + 3, none⟩ = some (.int .i64 (recAt ps j).2.2.2.1) ∧ w.cell? ⟨b, off + j * 11 + 4, none⟩ = some (.int .i64 (recAt ps j).2.2.2.2.1) ∧ w.cell? ⟨b, off + j * 11 + 5, none⟩ = some (.int .i64 (recAt ps j).2.2.2.2.2.1) ∧ w.cell? ⟨b, off + j * 11 + 6, none⟩ = some (.int .i64 (recAt ps j).2.2.2.2.2.2.1) ∧ w.cell? ⟨b, off + j * 11 + 7, none⟩ = some (.int .i64 (recAt ps j).2.2.2.2.2.2.2.1) ∧ w.cell? ⟨b, off + j * 11 + 8, none⟩ = some (.int .i64 (recAt ps j).2.2.2.2.2.2.2.2.1) ∧ w.cell? ⟨b, off + j * 11 + 9, none⟩ = some (.int .i64 (recAt ps j).2.2.2.2.2.2.2.2.2.1) ∧ w.cell? ⟨b, off + j * 11 + 10, none⟩ = some (.int .i64 (recAt ps j).2.2.2.2.2.2.2.2.2.2) :=
 ⟨h j hj 0 _ rfl, h j hj 1 _ rfl, h j hj 2 _ rfl, h j hj 3 _ rfl, h j hj 4 _ rfl, h j hj 5 _ rfl, h j hj 6 _ rfl, h j hj 7 _ rfl, h j hj 8 _ rfl, h j hj 9 _ rfl, h j hj 10 _ rfl⟩
theorem szSmithS_any (a : Option Addr) (n cap : Nat) (left : Int) (hn : n ≤ 9223372036854775807) (h0 : 0 ≤ left) (h1 : left ≤ 1048576) (w : World) :
  Calls Tryz.prog 66 #[.slice a n cap, .int .i64 left] w fun e w' => e = .returned (.int .i64 (szV n left)) ∧ w' = w := by
 by_cases h : left - n < 0
 all_goals
  go_enter Tryz.func66, Tryz.ntmps66
  go_wp2
  go_ret
  exact ⟨ret_int (by first | exact (szV_f (by omega)).symm | exact (szV_t (by omega)).symm), rfl⟩
theorem eqSmith_yes (x0 : Int) (x1 : Int) (x2 : Int) (x3 : Int) (x4 : Int) (x5 : Int) (x6 : Int) (x7 : Int) (x8 : Int) (x9 : Int) (x10 : Int) (w : World) :
  Calls Tryz.prog 132 #[.agg #[.int .i64 x0, .int .i64 x1, .int .i64 x2, .int .i64 x3, .int .i64 x4, .int .i64 x5, .int .i64 x6, .int .i64 x7, .int .i64 x8, .int .i64 x9, .int .i64 x10], .agg #[.int .i64 x0, .int .i64 x1, .int .i64 x2, .int .i64 x3, .int .i64 x4, .int .i64 x5, .int .i64 x6, .int .i64 x7, .int .i64 x8, .int .i64 x9, .int .i64 x10]] w fun e w' => e = .returned (.bool true) ∧ Below w.heap.size w w' := by
 go_enter Tryz.func132, Tryz.ntmps132
 go_wp2_with fail
 go_ret
 exact ⟨rfl, ((ba _ _)).alloc (by simp) _⟩
theorem eqSmithS_yes {w : World} {v u : Value} {ps : List SmithV} (hv : IsSmiths w v ps) (hu : IsSmiths w u ps) :
  Calls Tryz.prog 76 #[v, u] w fun e w' => e = .returned (.bool true) ∧ Below w.heap.size w w' := by
 obtain ⟨a, cap, rfl, hc, hm, hr⟩ := hv
 obtain ⟨a', cap', rfl, hc', hm', hr'⟩ := hu
 have Hr := hide hr
 have Hr' := hide hr'
 clear hr hr'
 go_enter Tryz.func76, Tryz.ntmps76
 go_wp2_with fail
 go_loopw [5] (fun i wr => ∃ k : Nat, k ≤ ps.length ∧ i = .int .i64 k ∧ Below w.heap.size w wr) (fun i _ => ps.length - (intOf i).toNat)
 case atStart => exact ⟨0, Nat.zero_le _, rfl, Below.refl _ _⟩
 case round =>
  obtain ⟨k, hk, rfl, hb⟩ := hrel
  have Hb := hide hb
  by_cases hlt : k < ps.length
  ·rcases uh Hr with h0 | ⟨b, off, rfl, hbw, hcl⟩
   ·rw [h0] at hlt; simp at hlt
   rcases uh Hr' with h0 | ⟨b', off', rfl, hbw', hcl'⟩
   ·rw [h0] at hlt; simp at hlt
   obtain ⟨c0, c1, c2, c3, c4, c5, c6, c7, c8, c9, c10⟩ := smith_cells hcl hlt
   obtain ⟨d0, d1, d2, d3, d4, d5, d6, d7, d8, d9, d10⟩ := smith_cells hcl' hlt
   generalize recAt ps k = p at *
   obtain ⟨x0, x1, x2, x3, x4, x5, x6, x7, x8, x9, x10⟩ := p
   simp only at c0 c1 c2 c3 c4 c5 c6 c7 c8 c9 c10 d0 d1 d2 d3 d4 d5 d6 d7 d8 d9 d10
   have k0 := cell_regrown ((hb.cell (p := ⟨b, off + k * 11, none⟩) hbw).trans c0)
   have m0 := cell_regrown ((hb.cell (p := ⟨b', off' + k * 11, none⟩) hbw').trans d0)
   have k1 := cell_regrown ((hb.cell (p := ⟨b, off + k * 11 + 1, none⟩) hbw).trans c1)
   have m1 := cell_regrown ((hb.cell (p := ⟨b', off' + k * 11 + 1, none⟩) hbw').trans d1)
   have k2 := cell_regrown ((hb.cell (p := ⟨b, off + k * 11 + 2, none⟩) hbw).trans c2)
   have m2 := cell_regrown ((hb.cell (p := ⟨b', off' + k * 11 + 2, none⟩) hbw').trans d2)
   have k3 := cell_regrown ((hb.cell (p := ⟨b, off + k * 11 + 3, none⟩) hbw).trans c3)
   have m3 := cell_regrown ((hb.cell (p := ⟨b', off' + k * 11 + 3, none⟩) hbw').trans d3)
   have k4 := cell_regrown ((hb.cell (p := ⟨b, off + k * 11 + 4, none⟩) hbw).trans c4)
   have m4 := cell_regrown ((hb.cell (p := ⟨b', off' + k * 11 + 4, none⟩) hbw').trans d4)
   have k5 := cell_regrown ((hb.cell (p := ⟨b, off + k * 11 + 5, none⟩) hbw).trans c5)
   have m5 := cell_regrown ((hb.cell (p := ⟨b', off' + k * 11 + 5, none⟩) hbw').trans d5)
   have k6 := cell_regrown ((hb.cell (p := ⟨b, off + k * 11 + 6, none⟩) hbw).trans c6)
   have m6 := cell_regrown ((hb.cell (p := ⟨b', off' + k * 11 + 6, none⟩) hbw').trans d6)
   have k7 := cell_regrown ((hb.cell (p := ⟨b, off + k * 11 + 7, none⟩) hbw).trans c7)
   have m7 := cell_regrown ((hb.cell (p := ⟨b', off' + k * 11 + 7, none⟩) hbw').trans d7)
   have k8 := cell_regrown ((hb.cell (p := ⟨b, off + k * 11 + 8, none⟩) hbw).trans c8)
   have m8 := cell_regrown ((hb.cell (p := ⟨b', off' + k * 11 + 8, none⟩) hbw').trans d8)
   have k9 := cell_regrown ((hb.cell (p := ⟨b, off + k * 11 + 9, none⟩) hbw).trans c9)
   have m9 := cell_regrown ((hb.cell (p := ⟨b', off' + k * 11 + 9, none⟩) hbw').trans d9)
   have k10 := cell_regrown ((hb.cell (p := ⟨b, off + k * 11 + 10, none⟩) hbw).trans c10)
   have m10 := cell_regrown ((hb.cell (p := ⟨b', off' + k * 11 + 10, none⟩) hbw').trans d10)
   clear hcl hcl' hb c0 c1 c2 c3 c4 c5 c6 c7 c8 c9 c10 d0 d1 d2 d3 d4 d5 d6 d7 d8 d9 d10
   go_wp2_with fail
   refine wq ?_
   repeat (go_big_quiet_step (exact Calls.regrown_of (eqSmith_yes _ _ _ _ _ _ _ _ _ _ _ _)))
   refine wpQuiet_nil ?_
   intro _ hw'
   obtain ⟨⟨dq, osq⟩, hw''⟩ := hw'
   subst hw''
   go_wp2_with fail
   go_roundw
   case rel => exact ⟨k + 1, by omega, by go_num, (uh Hb).trans ((below_regrown _ _ _).mono (uh Hb).size)⟩
   case measure => exact ms
  ·go_wp2_with fail
   go_ret
   exact ⟨rfl, hb⟩
theorem toSmith_any (x0 : Int) (x1 : Int) (x2 : Int) (x3 : Int) (x4 : Int) (x5 : Int) (x6 : Int) (x7 : Int) (x8 : Int) (x9 : Int) (x10 : Int) (w : World) :
  Calls Tryz.prog 128 #[.agg #[.int .i64 x0, .int .i64 x1, .int .i64 x2, .int .i64 x3, .int .i64 x4, .int .i64 x5, .int .i64 x6, .int .i64 x7, .int .i64 x8, .int .i64 x9, .int .i64 x10]] w fun e w' => e = .returned (.agg #[.int .i64 x0, .int .i64 x1, .int .i64 x2, .int .i64 x3, .int .i64 x4, .int .i64 x5, .int .i64 x6, .int .i64 x7, .int .i64 x8, .int .i64 x9, .int .i64 x10]) ∧ Below w.heap.size w w' := by
 go_enter Tryz.func128, Tryz.ntmps128
 go_wp2_with fail
 exact bodyPost_ret (v := .agg #[.int .i64 x0, .int .i64 x1, .int .i64 x2, .int .i64 x3, .int .i64 x4, .int .i64 x5, .int .i64 x6, .int .i64 x7, .int .i64 x8, .int .i64 x9, .int .i64 x10]) (by simp [results, Tryz.results128, go_sem]) rfl ⟨rfl, (((ba _ _)).alloc (by simp) _).alloc (by simp; omega) _⟩
theorem toSmithS_any {w : World} {v : Value} {ps : List SmithV} (h : IsSmiths w v ps) (hs : ps.length ≤ 1048576) :
  Calls Tryz.prog 71 #[v] w fun e w' => ∃ v', e = .returned v' ∧ SmithsAt w.heap.size w' v' ps ∧ Below w.heap.size w w' := by
 obtain ⟨a, cap, rfl, hc, hm, hr⟩ := h
 have Hr := hide hr
 clear hr
 obtain ⟨i0, hi, hz0, hz1, hz2⟩ := info_parts infoSmith
 go_enter Tryz.func71, Tryz.ntmps71
 go_wp2_with (at_make; refine wpList_make_full _ rfl _ _ 28 rfl w.heap.size 39 i0 (.agg #[.int .i64 0, .int .i64 0, .int .i64 0, .int .i64 0, .int .i64 0, .int .i64 0, .int .i64 0, .int .i64 0, .int .i64 0, .int .i64 0, .int .i64 0]) 11 Tryz.underlying28 hi hz0 hz1 _ _ _ _ ps.length rfl rfl rfl rfl (by rw [hz2]; omega) (by unfold maxLen; omega) (Nat.le_refl _) ?_; intro w0 hown hgrow)
 have Hown : Hid (SmithsAt w.heap.size w0 (.slice (some ⟨w.heap.size, 0, none⟩) ps.length ps.length) (fillL ps (0, 0, 0, 0, 0, 0, 0, 0, 0, 0, 0) 0)) := hide (by
  rw [made_flat encSmith_len (by omega) (0, 0, 0, 0, 0, 0, 0, 0, 0, 0, 0) (Value.agg #[.int .i64 0, .int .i64 0, .int .i64 0, .int .i64 0, .int .i64 0, .int .i64 0, .int .i64 0, .int .i64 0, .int .i64 0, .int .i64 0, .int .i64 0]).cells rfl ps.length] at hown
  rw [fillL_zero]
  show w0.ownsRow _ _ _ _ (List.replicate ps.length _).length _
  rw [List.length_replicate]
  exact hown)
 have Hgr := hide hgrow
 clear hown hgrow
 go_loopw [4] (fun i wr => ∃ k : Nat, k ≤ ps.length ∧ i = .int .i64 k ∧ SmithsAt w.heap.size wr (.slice (some ⟨w.heap.size, 0, none⟩) ps.length ps.length) (fillL ps (0, 0, 0, 0, 0, 0, 0, 0, 0, 0, 0) k) ∧ Below w.heap.size w wr) (fun i _ => ps.length - (intOf i).toNat)
 case atStart => exact ⟨0, Nat.zero_le _, rfl, uh Hown, (Below.refl _ _).grown (uh Hgr) (Nat.le_refl _) (fun k e => by cases e)⟩
 case round =>
  obtain ⟨k, hk, rfl, hown, hb⟩ := hrel
  have Hb := hide hb
  by_cases hlt : k < ps.length
  ·rcases uh Hr with h0 | ⟨b, off, rfl, hbw, hcl⟩
   ·rw [h0] at hlt; simp at hlt
   obtain ⟨c0, c1, c2, c3, c4, c5, c6, c7, c8, c9, c10⟩ := smith_cells hcl hlt
   rw [← hb.cell (p := ⟨b, off + k * 11, none⟩) hbw] at c0
   rw [← hb.cell (p := ⟨b, off + k * 11 + 1, none⟩) hbw] at c1
   rw [← hb.cell (p := ⟨b, off + k * 11 + 2, none⟩) hbw] at c2
   rw [← hb.cell (p := ⟨b, off + k * 11 + 3, none⟩) hbw] at c3
   rw [← hb.cell (p := ⟨b, off + k * 11 + 4, none⟩) hbw] at c4
   rw [← hb.cell (p := ⟨b, off + k * 11 + 5, none⟩) hbw] at c5
   rw [← hb.cell (p := ⟨b, off + k * 11 + 6, none⟩) hbw] at c6
   rw [← hb.cell (p := ⟨b, off + k * 11 + 7, none⟩) hbw] at c7
   rw [← hb.cell (p := ⟨b, off + k * 11 + 8, none⟩) hbw] at c8
   rw [← hb.cell (p := ⟨b, off + k * 11 + 9, none⟩) hbw] at c9
   rw [← hb.cell (p := ⟨b, off + k * 11 + 10, none⟩) hbw] at c10
   have Ho := hide hown
   have HS := hide (fillL_set (z := ((0, 0, 0, 0, 0, 0, 0, 0, 0, 0, 0) : SmithV)) hlt)
   generalize hp : recAt ps k = p at *
   obtain ⟨x0, x1, x2, x3, x4, x5, x6, x7, x8, x9, x10⟩ := p
   simp only at c0 c1 c2 c3 c4 c5 c6 c7 c8 c9 c10
   clear hcl hb hown hp
   go_wp2_with fail
   refine ck (toSmith_any _ _ _ _ _ _ _ _ _ _ _ _) fun w1 hb1 => ?_
   have ho1 := RecAt.later (uh Ho) hb1
   have hfl := fillL_len (z := ((0, 0, 0, 0, 0, 0, 0, 0, 0, 0, 0) : SmithV)) hk
   obtain ⟨g, hg, _, _, hcells, hfz⟩ := RecAt.view encSmith_len (by omega) ho1 hfl.symm (by omega)
   cases hg
   have hq := fun i u hu => hcells k (by omega) i u hu
   generalize recAt (fillL ps (0, 0, 0, 0, 0, 0, 0, 0, 0, 0, 0) k) k = old at hq
   have o0 := hq 0 _ rfl
   have f0 := hfz (k * 11)
   have o1 := hq 1 _ rfl
   have f1 := hfz (k * 11 + 1)
   have o2 := hq 2 _ rfl
   have f2 := hfz (k * 11 + 2)
   have o3 := hq 3 _ rfl
   have f3 := hfz (k * 11 + 3)
   have o4 := hq 4 _ rfl
   have f4 := hfz (k * 11 + 4)
   have o5 := hq 5 _ rfl
   have f5 := hfz (k * 11 + 5)
   have o6 := hq 6 _ rfl
   have f6 := hfz (k * 11 + 6)
   have o7 := hq 7 _ rfl
   have f7 := hfz (k * 11 + 7)
   have o8 := hq 8 _ rfl
   have f8 := hfz (k * 11 + 8)
   have o9 := hq 9 _ rfl
   have f9 := hfz (k * 11 + 9)
   have o10 := hq 10 _ rfl
   have f10 := hfz (k * 11 + 10)
   simp only [Nat.add_zero] at o0
   have Hp2 := hide (RecAt.put encSmith_len (by omega) ho1 hfl.symm (j := k) (by omega) (x0, x1, x2, x3, x4, x5, x6, x7, x8, x9, x10))
   have Hb1 := hide hb1
   have hsz := hb1.size
   have hsz0 := (uh Hb).size
   clear ho1 hb1 hcells hq hfz hfl
   go_wp2_with fail
   go_roundw
   case rel => exact ⟨k + 1, by omega, by go_num, by have h9 := (uh Hp2).1; rw [uh HS] at h9; exact h9, ((uh Hb).trans ((uh Hb1).mono hsz0)).trans (below_grown (uh Hp2).2 (Nat.le_refl _) (by omega))⟩
   case measure => exact ms
  ·obtain rfl : k = ps.length := by omega
   rw [fillL_all] at hown
   go_wp2_with fail
   go_ret
   exact ⟨_, rfl, hown, hb⟩
end Go.Proofs.YtffcgajndmhpkaaGreatDoor
