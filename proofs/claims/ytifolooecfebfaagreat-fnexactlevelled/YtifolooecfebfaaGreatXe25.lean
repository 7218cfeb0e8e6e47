/- What the proof rests on, part 25: lists and numbers, how they lie in memory, and contracts of the calls. No condition but those that a theorem names. -/
import Derived.Test.YtifolooecfebfaaGreatXe01
import Derived.Test.YtifolooecfebfaaGreatXe02
import Derived.Test.YtifolooecfebfaaGreatXe03
import Derived.Test.YtifolooecfebfaaGreatXe04
import Derived.Test.YtifolooecfebfaaGreatXe05
import Derived.Test.YtifolooecfebfaaGreatXe06
import Derived.Test.YtifolooecfebfaaGreatXe07
import Derived.Test.YtifolooecfebfaaGreatXe08
import Derived.Test.YtifolooecfebfaaGreatXe09
import Derived.Test.YtifolooecfebfaaGreatXe10
import Derived.Test.YtifolooecfebfaaGreatXe12
import Derived.Test.YtifolooecfebfaaGreatXe13
import Derived.Test.YtifolooecfebfaaGreatXe14
import Derived.Test.YtifolooecfebfaaGreatXe16
import Derived.Test.YtifolooecfebfaaGreatXe19
import Derived.Test.YtifolooecfebfaaGreatXe22
import Derived.Laws.CopyRow
import Derived.WalkMore
import Derived.Below
import Derived.ChangeKeysEq
import Derived.Laws.StructEq
import GoSem.Claim
import GoSem.ClaimJoined
import GoSem.ClaimMapViews
import Derived.JoinedTies
import Derived.KernelRfl
import Derived.RowKit
import Derived.WalkKit
import Derived.ProofKit
import Derived.OpenShut
import Derived.Outline
import Derived.Lib.QuietBelow
import Derived.Deep.RegionHeld3
import Derived.Deep.DrawnRows
import Derived.BigRegion
import Derived.Deep.RegionLawGrows
import Derived.Deep.RegionWith
import Derived.Deep.QuietTactic
import Derived.BigQuiet
import Derived.Laws.OwnMore
import Derived.OwnWalk
import Derived.Maps.AppendAt
import Derived.RangeFuncNested
import Derived.RangeFuncBound
import Derived.RangeFuncCalls
import Derived.RangeFuncLeaves
import Derived.RangeFuncBox
import Derived.Shelf.Abstract
import Derived.Shelf.RegionOpen
import Derived.OwnWalkIn
import Derived.TacticsInMore
import Derived.LoopNIn
import Derived.LoopIn
import Derived.Lib.SmallJoins
import Derived.Deep.Fields
import Derived.Deep.Slices
import Derived.OrdersHeld
import Derived.Deep.RegionHeldLaw
import Derived.Deep.DeepCutAuto
/- The program's helpers of chapter 12: those behind the first of a queue, copied; a smithy copied. Conditions: what is handed in can be read; what each theorem names. -/
namespace Go.Proofs.YtifolooecfebfaaGreat
open Go.ChangeShapes Go.WideShapes Go.ChangeAt Go.RowKit Go.Sort
set_option linter.unusedVariables false
set_option linter.unusedSimpArgs false
set_option maxRecDepth 100000

theorem slice_cut (a : Option Addr) (n cap k : Nat) (hn : n = k + 1) (hc : n ≤ cap) (W : World) : (Instr.slice 47 (.slice a n cap) (some (.int .i64 1)) (some (.int .i64 (n : Int))) (some (.int .i64 (n : Int)))).run Tryz.prog W = .ok (.slice (if k = 0 then a else a.map (·.add 2)) k k) W := by
  obtain ⟨i0, hi, hz0, hz1, hz2⟩ := info_parts infoEntry
  have hs : ∀ W, (sizeOf 129).run Tryz.prog W = .ok 2 W := fun W => by simp [sizeOf, typeInfo, hi, hz1]
  have hb : ∀ W, (Instr.sliceBounds true n cap (some (.int .i64 1)) (some (.int .i64 (n : Int))) (some (.int .i64 (n : Int)))).run Tryz.prog W = .ok (1, n, n) W := fun W => by
    have h1 : (0 : Int) ≤ (n : Int) ∧ (n : Int) ≤ (cap : Int) := by omega
    have h2 : (0 : Int) ≤ (n : Int) ∧ (n : Int) ≤ (n : Int) := by omega
    have h3 : (0 : Int) ≤ 1 ∧ (1 : Int) ≤ (n : Int) := by omega
    simp only [Instr.sliceBounds, Instr.sliceBound, asIntOf, Sem.run_bind, Sem.run_pure, Result.andThen_ok, if_pos h1, if_pos h2, if_pos h3, Int.toNat_natCast]
    rfl
  simp only [Instr.slice, Sem.run_bind, run_underlying Tryz.underlying47, Result.andThen, hb, hs, Sem.run_pure]
  have e1 : (n = 1) = (k = 0) := by apply propext; omega
  rw [show n - 1 = k by omega]
  simp only [e1, Nat.one_mul]
theorem IsPaces.behind {w : World} {a : Option Addr} {n cap : Nat} {e : PaceV} {t : List PaceV} (h : IsPaces w (.slice a n cap) (e :: t)) : IsPaces w (.slice (if t.length = 0 then a else a.map (·.add 2)) t.length t.length) t := by
  obtain ⟨a', cap', he, hc, hm, hr⟩ := h
  cases he
  rw [List.length_cons] at hc
  refine ⟨_, t.length, rfl, Nat.le_refl _, by omega, ?_⟩
  by_cases h0 : t.length = 0
  · exact .inl (List.eq_nil_of_length_eq_zero h0)
  · rcases hr with hr | ⟨b, off, rfl, hlt, hcl⟩
    · cases hr
    · rw [if_neg h0]
      refine .inr ⟨b, off + 2, by simp [addr_at], hlt, fun j hj => ?_⟩
      have := hcl (j + 1) (by simp; omega)
      rw [show off + (j + 1) * 2 = off + 2 + j * 2 by omega] at this
      exact this
theorem run_copy_ents {w : World} {g base sc : Nat} {sp : Option Addr} {ps : List PaceV} {xs : List Value} (ty : TypeId) (hd : w.ownsRow base 129 2 (.slice (some ⟨g, 0, none⟩) ps.length ps.length) ps.length xs) (hs : IsPaces w (.slice sp ps.length sc) ps) :
    ∃ w', (Builtin.copy_ #[47, 47] ty #[.slice (some ⟨g, 0, none⟩) ps.length ps.length, .slice sp ps.length sc]).run Tryz.prog w = .ok (goInt ps.length) w' ∧ EntsAt base w' (.slice (some ⟨g, 0, none⟩) ps.length ps.length) ps ∧ Below base w w' := by
  obtain ⟨i0, hi, hz0, hz1, hz2⟩ := info_parts infoEntry
  rcases hd.2 with ⟨he, _⟩ | ⟨g', cap, cur, he, hb, hg, hnc, hcm, hsz, htk⟩
  · cases he
  cases he
  have hpl := pcells_len ps
  obtain ⟨a', cap', he, hc, hm, hr⟩ := hs
  cases he
  have hload : (Builtin.firstCells 2 ps.length (.slice sp ps.length sc)).run Tryz.prog w = .ok (pcells ps).toArray w := by
    rcases hr with hr | ⟨b, off, rfl, hlt, hcl⟩
    · subst hr
      cases sp with
      | none => rfl
      | some ad =>
        have := run_loadCells_list (P := Tryz.prog) w ad (pcells []) (fun j v h => by simp [pcells] at h)
        exact this
    · have := run_loadCells_list (P := Tryz.prog) w ⟨b, off, none⟩ (pcells ps) (fun j v h => by
        have hj : j < ps.length * 2 := by
          have := (List.getElem?_eq_some_iff.1 h).1
          omega
        have hp := pairs_get (f := fun p : PaceV => Value.int .i64 p.1) (g := fun p : PaceV => Value.int .i64 p.2) ps (j / 2) (by omega)
        have hat : paceAt ps (j / 2) = ps[j / 2]'(by omega) := by unfold paceAt; simp [List.getD, (by omega : j / 2 < ps.length)]
        obtain ⟨c0, c1⟩ := hcl (j / 2) (by omega)
        rw [hat] at c0 c1
        have ha : (⟨b, off, none⟩ : Addr).add j = ⟨b, off + j, none⟩ := by unfold Addr.add; split <;> simp_all
        rw [ha]
        rcases Nat.mod_two_eq_zero_or_one j with e2 | e2
        · have ej : j = j / 2 * 2 := by omega
          have h9 : (pcells ps)[j / 2 * 2]? = some (.int .i64 (ps[j / 2]'(by omega)).1) := hp.1
          rw [← ej, h] at h9
          cases h9
          rw [show off + j = off + j / 2 * 2 by omega]
          exact c0
        · have ej : j = j / 2 * 2 + 1 := by omega
          have h9 : (pcells ps)[j / 2 * 2 + 1]? = some (.int .i64 (ps[j / 2]'(by omega)).2) := hp.2
          rw [← ej, h] at h9
          cases h9
          rw [show off + j = off + j / 2 * 2 + 1 by omega]
          exact c1)
      rw [hpl] at this
      exact this
  have hst := run_storeCells_at Tryz.prog g 0 129 (pcells ps) 0 cur w hg (by rw [hpl, hsz]; omega) (fun v hv => by
    unfold pcells at hv
    obtain ⟨p, _, hp⟩ := List.mem_flatMap.1 hv
    simp only [List.mem_cons, List.not_mem_nil, or_false] at hp
    rcases hp with rfl | rfl <;> rfl)
  have hdrop : cur.toList.drop (pcells ps).length = [] := by
    rw [List.drop_eq_nil_iff, Array.length_toList, hsz, hpl]; exact Nat.le_refl _
  simp only [Nat.zero_add, List.take_zero, List.nil_append, hdrop, List.append_nil] at hst
  refine ⟨w.setRow g (pcells ps).toArray, ?_, ⟨hpl, .inr ⟨g, ps.length, (pcells ps).toArray, rfl, hb, setRow_heap w g _ _ _ _ hg, Nat.le_refl _, hcm, by simp [hpl], ?_⟩⟩, ?_⟩
  · have hsz2 : (sizeOf 129).run Tryz.prog w = .ok 2 w := by simp [sizeOf, typeInfo, hi, hz1]
    have hlen : (Builtin.lenOf (.slice sp ps.length sc)).run Tryz.prog w = .ok ps.length w := rfl
    have hmin : Nat.min ps.length ps.length = ps.length := Nat.min_self _
    unfold Builtin.copy_
    simp only [Sem.run_bind, run_underlying Tryz.underlying47, Result.andThen_ok, hlen, hmin, hsz2, hload, List.getElem?_toArray, List.getElem?_cons_zero, List.getElem?_cons_succ, Sem.run_pure, hst]
  · rw [List.take_of_length_le (by simp [hpl])]
  · exact ⟨rfl, rfl, rfl, by simp [World.setRow], fun k hk => setRow_other w g k _ (by omega)⟩
set_option maxHeartbeats 4000000 in
theorem waitingIn_any {w : World} {v : Value} {e : PaceV} {t : List PaceV} (h : IsPaces w v (e :: t)) (hl : t.length ≤ 1000) : Calls Tryz.prog 143 #[v] w fun e w' => ∃ v', e = .returned v' ∧ EntsAt w.heap.size w' v' t ∧ Below w.heap.size w w' := by
  have Hv := hide h
  obtain ⟨a, cap, rfl, hc, hm, hr⟩ := h
  obtain ⟨n, hn⟩ : ∃ n, n = t.length + 1 := ⟨_, rfl⟩
  rw [show (e :: t).length = n by rw [hn]; rfl] at Hv hc ⊢
  have hcut := fun W => slice_cut a n cap t.length hn hc W
  have HB := hide (unhide Hv).behind
  obtain ⟨sp, hsp⟩ : ∃ q, (if t.length = 0 then a else a.map (·.add 2)) = q := ⟨_, rfl⟩
  rw [hsp] at HB
  simp only [hsp] at hcut
  have hn1 : n ≤ 1001 := by omega
  clear hr hn hsp
  obtain ⟨i0, hi, hz0, hz1, hz2⟩ := info_parts infoEntry
  go_enter Tryz.func143, Tryz.ntmps143
  go_upto_region 3 with (at_make; refine wpList_make_full _ rfl _ _ 47 rfl w.heap.size 129 i0 (.agg #[.int .i64 0, .int .i64 0]) 2 Tryz.underlying47 hi hz0 hz1 _ _ _ _ t.length rfl rfl rfl rfl (by rw [hz2]; omega) (by unfold maxLen; omega) (Nat.le_refl _) ?_; intro w0 hown hgrow; have HBB : Hid (Below w.heap.size w w0) := hide ((Below.refl _ _).grown hgrow (Nat.le_refl _) (fun k e => by cases e)); obtain ⟨w9, hrun, he9, hb9⟩ := run_copy_ents 3 hown ((unhide HB).below (unhide HBB)); have HR := hide hrun; have HE := hide he9; have HB9 := hide hb9; clear hown hgrow hrun he9 hb9)
  have hr9 := unhide HR
  go_wp2_with fail
  go_ret
  exact ⟨_, rfl, unhide HE, (unhide HBB).trans (unhide HB9)⟩

set_option maxHeartbeats 1000000 in
theorem copiedGuild_any {w : World} {v : Value} {ps : List GuildV} (h : IsGuilds w v ps) (hl : ps.length ≤ 1000) : Calls Tryz.prog 88 #[v] w fun e w' => ∃ v', e = .returned v' ∧ GuildsAt w.heap.size w' v' ps ∧ Below w.heap.size w w' := by
  have HR := hide (h.below ((Below.refl _ _).alloc (Nat.le_refl _) (.cells #[] 76)))
  obtain ⟨a, cap, rfl, hc, hm, hr⟩ := h
  clear hr
  go_enter Tryz.func88, Tryz.ntmps88
  go_wp2_with (at_builtin; refine wpList_append_recs tyG rfl (.tmp 3) (.tmp 4) 100 Tryz.underlying100 rfl w.heap.size _ _ [] ps rfl rfl (recs_empty rfl (Nat.le_refl _)) (unhide HR) (by simp; omega) (by simp) ?_; intro u9 w9 hp9 hg9 hat9; rw [List.nil_append] at hp9; have HP9 := hide hp9; have HG9 := hide hg9; clear hp9 hg9 hat9)
  have hb9 : Below w.heap.size w w9 := ((Below.refl _ _).alloc (Nat.le_refl _) _).trans ((Below.refl _ _).grown (unhide HG9) (by simp) (fun i e => by cases e; exact Nat.le_refl _))
  go_wp2_with fail
  go_ret
  exact ⟨_, rfl, unhide HP9, hb9⟩
set_option maxHeartbeats 1000000 in
theorem copiedSmith_any {w : World} {v : Value} {ps : List SmithV} (h : IsSmiths w v ps) (hl : ps.length ≤ 1000) : Calls Tryz.prog 90 #[v] w fun e w' => ∃ v', e = .returned v' ∧ SmithsAt w.heap.size w' v' ps ∧ Below w.heap.size w w' := by
  have HR := hide (h.below ((Below.refl _ _).alloc (Nat.le_refl _) (.cells #[] 42)))
  obtain ⟨a, cap, rfl, hc, hm, hr⟩ := h
  clear hr
  go_enter Tryz.func90, Tryz.ntmps90
  go_wp2_with (at_builtin; refine wpList_append_recs tyS rfl (.tmp 3) (.tmp 4) 102 Tryz.underlying102 rfl w.heap.size _ _ [] ps rfl rfl (recs_empty rfl (Nat.le_refl _)) (unhide HR) (by simp; omega) (by simp) ?_; intro u9 w9 hp9 hg9 hat9; rw [List.nil_append] at hp9; have HP9 := hide hp9; have HG9 := hide hg9; clear hp9 hg9 hat9)
  have hb9 : Below w.heap.size w w9 := ((Below.refl _ _).alloc (Nat.le_refl _) _).trans ((Below.refl _ _).grown (unhide HG9) (by simp) (fun i e => by cases e; exact Nat.le_refl _))
  go_wp2_with fail
  go_ret
  exact ⟨_, rfl, unhide HP9, hb9⟩
set_option maxHeartbeats 1000000 in
theorem copiedDesk_any {w : World} {v : Value} {ps : List DeskV} (h : IsDesks w v ps) (hl : ps.length ≤ 1000) : Calls Tryz.prog 92 #[v] w fun e w' => ∃ v', e = .returned v' ∧ DesksAt w.heap.size w' v' ps ∧ Below w.heap.size w w' := by
  have HR := hide (h.below ((Below.refl _ _).alloc (Nat.le_refl _) (.cells #[] 78)))
  obtain ⟨a, cap, rfl, hc, hm, hr⟩ := h
  clear hr
  go_enter Tryz.func92, Tryz.ntmps92
  go_wp2_with (at_builtin; refine wpList_append_recs tyD rfl (.tmp 3) (.tmp 4) 105 Tryz.underlying105 rfl w.heap.size _ _ [] ps rfl rfl (recs_empty rfl (Nat.le_refl _)) (unhide HR) (by simp; omega) (by simp) ?_; intro u9 w9 hp9 hg9 hat9; rw [List.nil_append] at hp9; have HP9 := hide hp9; have HG9 := hide hg9; clear hp9 hg9 hat9)
  have hb9 : Below w.heap.size w w9 := ((Below.refl _ _).alloc (Nat.le_refl _) _).trans ((Below.refl _ _).grown (unhide HG9) (by simp) (fun i e => by cases e; exact Nat.le_refl _))
  go_wp2_with fail
  go_ret
  exact ⟨_, rfl, unhide HP9, hb9⟩
set_option maxHeartbeats 1000000 in
theorem copiedNum_any {w : World} {v : Value} {ps : List Int} (h : IsNums w v ps) (hl : ps.length ≤ 1000) : Calls Tryz.prog 93 #[v] w fun e w' => ∃ v', e = .returned v' ∧ NumsAt w.heap.size w' v' ps ∧ Below w.heap.size w w' := by
  have HR := hide (h.below ((Below.refl _ _).alloc (Nat.le_refl _) (.cells #[] 2)))
  obtain ⟨a, cap, rfl, hc, hm, hr⟩ := h
  clear hr
  go_enter Tryz.func93, Tryz.ntmps93
  go_wp2_with (at_builtin; refine wpList_append_recs tyN rfl (.tmp 3) (.tmp 4) 108 Tryz.underlying108 rfl w.heap.size _ _ [] ps rfl rfl (recs_empty rfl (Nat.le_refl _)) (unhide HR) (by simp; omega) (by simp) ?_; intro u9 w9 hp9 hg9 hat9; rw [List.nil_append] at hp9; have HP9 := hide hp9; have HG9 := hide hg9; clear hp9 hg9 hat9)
  have hb9 : Below w.heap.size w w9 := ((Below.refl _ _).alloc (Nat.le_refl _) _).trans ((Below.refl _ _).grown (unhide HG9) (by simp) (fun i e => by cases e; exact Nat.le_refl _))
  go_wp2_with fail
  go_ret
  exact ⟨_, rfl, unhide HP9, hb9⟩

set_option maxHeartbeats 8000000 in
theorem copyOfSmithy_any {w : World} {v0 v1 v2 v3 v4 : Value} {m : SmyV} (h : Smy w v0 v1 v2 v3 v4 m) (hF : Few m) :
    Calls Tryz.prog 34 #[.agg #[v0, v1, v2, v3, v4, .int .i64 m.now]] w fun e w' => ∃ u0 u1 u2 u3 u4 qs, e = .returned (.agg #[u0, u1, u2, u3, u4, .int .i64 m.now]) ∧ FullSmy w.heap.size w' u0 u1 u2 u3 u4 m qs ∧ Below w.heap.size w w' := by
  have Hv0 := hide h
  have HF := hide hF
  obtain ⟨a0, p0, rfl, _, _⟩ := IsRooms.shape h.rooms
  obtain ⟨a1, p1, rfl, _, _⟩ := IsRec.shape h.guilds
  obtain ⟨a2, p2, rfl, _, _⟩ := IsRec.shape h.smiths
  obtain ⟨a3, p3, rfl, _, _⟩ := IsRec.shape h.desks
  obtain ⟨a4, p4, rfl, _, _⟩ := IsRec.shape h.paces
  clear h hF
  go_enter Tryz.func34, Tryz.ntmps34
  go_wp2_with fail
  have kb : Hid (Blk ((w.alloc (.cells #[.slice a0 m.rooms.length p0, .slice a1 m.guilds.length p1, .slice a2 m.smiths.length p2, .slice a3 m.desks.length p3, .slice a4 m.paces.length p4, .int .i64 m.now] 32)).alloc (.cells #[.slice none 0 0, .slice none 0 0, .slice none 0 0, .slice none 0 0, .slice none 0 0, .int .i64 0] 32)) w.heap.size 32 #[.slice a0 m.rooms.length p0, .slice a1 m.guilds.length p1, .slice a2 m.smiths.length p2, .slice a3 m.desks.length p3, .slice a4 m.paces.length p4, .int .i64 m.now]) := hide ((Blk.new w _ _).alloc _)
  have kr : Hid (Blk ((w.alloc (.cells #[.slice a0 m.rooms.length p0, .slice a1 m.guilds.length p1, .slice a2 m.smiths.length p2, .slice a3 m.desks.length p3, .slice a4 m.paces.length p4, .int .i64 m.now] 32)).alloc (.cells #[.slice none 0 0, .slice none 0 0, .slice none 0 0, .slice none 0 0, .slice none 0 0, .int .i64 0] 32)) (w.heap.size + 1) 32 #[.slice none 0 0, .slice none 0 0, .slice none 0 0, .slice none 0 0, .slice none 0 0, .int .i64 0]) := hide (by
    have k := Blk.new (w.alloc (.cells #[.slice a0 m.rooms.length p0, .slice a1 m.guilds.length p1, .slice a2 m.smiths.length p2, .slice a3 m.desks.length p3, .slice a4 m.paces.length p4, .int .i64 m.now] 32)) 32 #[.slice none 0 0, .slice none 0 0, .slice none 0 0, .slice none 0 0, .slice none 0 0, .int .i64 0]
    rw [World.size_alloc] at k
    exact k)
  have BB : Hid (Below w.heap.size w ((w.alloc (.cells #[.slice a0 m.rooms.length p0, .slice a1 m.guilds.length p1, .slice a2 m.smiths.length p2, .slice a3 m.desks.length p3, .slice a4 m.paces.length p4, .int .i64 m.now] 32)).alloc (.cells #[.slice none 0 0, .slice none 0 0, .slice none 0 0, .slice none 0 0, .slice none 0 0, .int .i64 0] 32))) := hide (((Below.refl _ _).alloc (Nat.le_refl _) _).alloc (by simp) _)
  generalize (w.alloc (.cells #[.slice a0 m.rooms.length p0, .slice a1 m.guilds.length p1, .slice a2 m.smiths.length p2, .slice a3 m.desks.length p3, .slice a4 m.paces.length p4, .int .i64 m.now] 32)).alloc (.cells #[.slice none 0 0, .slice none 0 0, .slice none 0 0, .slice none 0 0, .slice none 0 0, .int .i64 0] 32) = W at *
  have c0 := (unhide kb).cell (i := 0) (v := .slice a0 m.rooms.length p0) rfl
  have c1 := (unhide kb).cell (i := 1) (v := .slice a1 m.guilds.length p1) rfl
  have c2 := (unhide kb).cell (i := 2) (v := .slice a2 m.smiths.length p2) rfl
  have c3 := (unhide kb).cell (i := 3) (v := .slice a3 m.desks.length p3) rfl
  have c4 := (unhide kb).cell (i := 4) (v := .slice a4 m.paces.length p4) rfl
  have c5 := (unhide kb).cell (i := 5) (v := .int .i64 m.now) rfl
  refine wp_region_last (S := fun w' => w'.cell? ⟨w.heap.size, 0, none⟩ = some (.slice a0 m.rooms.length p0) ∧ w'.cell? ⟨w.heap.size, 1, none⟩ = some (.slice a1 m.guilds.length p1) ∧ w'.cell? ⟨w.heap.size, 2, none⟩ = some (.slice a2 m.smiths.length p2) ∧ w'.cell? ⟨w.heap.size, 3, none⟩ = some (.slice a3 m.desks.length p3) ∧ w'.cell? ⟨w.heap.size, 4, none⟩ = some (.slice a4 m.paces.length p4) ∧ w'.cell? ⟨w.heap.size, 5, none⟩ = some (.int .i64 m.now)) (by kernel_rfl) (List.cons_ne_nil _ _) (by kernel_rfl) ⟨c0, c1, c2, c3, c4, c5⟩ (fun hHeld => ?_)
  replace kb := hide ((unhide kb).below (Below.refl _ _).drew (unhide kb).lt)
  replace kr := hide ((unhide kr).below (Below.refl _ _).drew (unhide kr).lt)
  replace BB := hide ((unhide BB).drew)
  have Hv := hide ((unhide Hv0).below (unhide BB))
  clear c0 c1 c2 c3 c4 c5
  simp only [List.dropLast_cons_cons, List.dropLast_singleton, List.length_cons, List.length_nil, Nat.zero_add, Nat.reduceAdd]
  generalize W.drew = X0 at *
  have hz0 : w.heap.size + 2 ≤ X0.heap.size := by have := (unhide kr).lt; omega
  (refine wpAnyH_take (i := 0) (v := ?_) rfl (by kernel_rfl) (by kernel_rfl) (by kernel_rfl) (fun _ _ _ h => h) (Or.inl ⟨by rfl, ?_⟩) (by assumption) ?_; rotate_left; (intro W9 hSw; (try dsimp only at hSw); go_simp; (try with_reducible rfl)); (try simp only [Act.put, List.setIfInBounds_toArray, List.set_cons_zero, List.set_cons_succ]))
  (refine wpAnyH_take (i := 1) (v := ?_) rfl (by kernel_rfl) (by kernel_rfl) (by kernel_rfl) (fun _ _ _ h => h) (Or.inl ⟨by rfl, ?_⟩) (by assumption) ?_; rotate_left; (intro W9 hSw; (try dsimp only at hSw); go_simp; (try with_reducible rfl)); (try simp only [Act.put, List.setIfInBounds_toArray, List.set_cons_zero, List.set_cons_succ]))
  (refine wpAnyH_take (i := 3) (v := ?_) rfl (by kernel_rfl) (by kernel_rfl) (by kernel_rfl) (fun _ _ _ h => h) (Or.inl ⟨by rfl, ?_⟩) (by assumption) ?_; rotate_left; (intro W9 hSw; (try dsimp only at hSw); go_simp; (try with_reducible rfl)); (try simp only [Act.put, List.setIfInBounds_toArray, List.set_cons_zero, List.set_cons_succ]))
  (refine wpAnyH_take (i := 4) (v := ?_) rfl (by kernel_rfl) (by kernel_rfl) (by kernel_rfl) (fun _ _ _ h => h) (Or.inl ⟨by rfl, ?_⟩) (by assumption) ?_; rotate_left; (intro W9 hSw; (try dsimp only at hSw); go_simp; (try with_reducible rfl)); (try simp only [Act.put, List.setIfInBounds_toArray, List.set_cons_zero, List.set_cons_succ]))
  (refine wpAnyH_take (i := 6) (v := ?_) rfl (by kernel_rfl) (by kernel_rfl) (by kernel_rfl) (fun _ _ _ h => h) (Or.inl ⟨by rfl, ?_⟩) (by assumption) ?_; rotate_left; (intro W9 hSw; (try dsimp only at hSw); go_simp; (try with_reducible rfl)); (try simp only [Act.put, List.setIfInBounds_toArray, List.set_cons_zero, List.set_cons_succ]))
  (refine wpAnyH_take (i := 9) (v := ?_) rfl (by kernel_rfl) (by kernel_rfl) (by kernel_rfl) (fun _ _ _ h => h) (Or.inl ⟨by rfl, ?_⟩) (by assumption) ?_; rotate_left; (intro W9 hSw; (try dsimp only at hSw); go_simp; (try with_reducible rfl)); (try simp only [Act.put, List.setIfInBounds_toArray, List.set_cons_zero, List.set_cons_succ]))
  (refine wpAnyH_take (i := 12) (v := ?_) rfl (by kernel_rfl) (by kernel_rfl) (by kernel_rfl) (fun _ _ _ h => h) (Or.inl ⟨by rfl, ?_⟩) (by assumption) ?_; rotate_left; (intro W9 hSw; (try dsimp only at hSw); go_simp; (try with_reducible rfl)); (try simp only [Act.put, List.setIfInBounds_toArray, List.set_cons_zero, List.set_cons_succ]))
  (refine wpAnyH_take (i := 13) (v := ?_) rfl (by kernel_rfl) (by kernel_rfl) (by kernel_rfl) (fun _ _ _ h => h) (Or.inl ⟨by rfl, ?_⟩) (by assumption) ?_; rotate_left; (intro W9 hSw; (try dsimp only at hSw); go_simp; (try with_reducible rfl)); (try simp only [Act.put, List.setIfInBounds_toArray, List.set_cons_zero, List.set_cons_succ]))
  (refine wpAnyH_take (i := 15) (v := ?_) rfl (by kernel_rfl) (by kernel_rfl) (by kernel_rfl) (fun _ _ _ h => h) (Or.inl ⟨by rfl, ?_⟩) (by assumption) ?_; rotate_left; (intro W9 hSw; (try dsimp only at hSw); go_simp; (try with_reducible rfl)); (try simp only [Act.put, List.setIfInBounds_toArray, List.set_cons_zero, List.set_cons_succ]))
  (refine wpAnyH_take (i := 16) (v := ?_) rfl (by kernel_rfl) (by kernel_rfl) (by kernel_rfl) (fun _ _ _ h => h) (Or.inl ⟨by rfl, ?_⟩) (by assumption) ?_; rotate_left; (intro W9 hSw; (try dsimp only at hSw); go_simp; (try with_reducible rfl)); (try simp only [Act.put, List.setIfInBounds_toArray, List.set_cons_zero, List.set_cons_succ]))
  refine wpAnyH_ready (rs := [2]) (by kernel_rfl) (by simp) ?_
  refine AllReadyH.cons rfl (fun K hK => ?_) AllReadyH.nil
  go_simp
  refine (copyOfHall_any (unhide Hv).rooms (unhide HF).rooms (unhide HF).paces).mono ?_
  rintro e9 X1 ⟨u0, qs, rfl, hmap, hp, hb⟩
  replace Hv := hide ((unhide Hv).below hb)
  replace kb := hide ((unhide kb).below hb (unhide kb).lt)
  replace kr := hide ((unhide kr).below hb (unhide kr).lt)
  replace BB := hide ((unhide BB).trans (hb.mono (unhide BB).size))
  have Hmap := hide hmap
  have hql : qs.length = m.rooms.length := by rw [← hmap, List.length_map]
  obtain ⟨b0, q0, hu0⟩ : ∃ b0 q0, u0 = .slice b0 m.rooms.length q0 := by
    obtain ⟨a9, c9, e9⟩ := hp.shape
    exact ⟨a9, c9, by rw [e9, hql]⟩
  subst hu0
  have N0 : Hid (OwnHall (w.heap.size + 2) X1 (.slice b0 m.rooms.length q0) qs) := hide (hp.mono hz0)
  have L0 : Hid (∀ b, ((Value.slice b0 m.rooms.length q0).ownBlock = some b ∨ ∃ q ∈ qs, q.2.ownBlock = some b) → b < X1.heap.size) := hide (fun b e => (hp.lt e).2)
  have hz1 : w.heap.size + 2 ≤ X1.heap.size := by have := hb.size; omega
  clear hmap hql hp hb
  refine hK.out _ _ ⟨(unhide kb).cell (i := 0) rfl, (unhide kb).cell (i := 1) rfl, (unhide kb).cell (i := 2) rfl, (unhide kb).cell (i := 3) rfl, (unhide kb).cell (i := 4) rfl, (unhide kb).cell (i := 5) rfl⟩ (fun hHeld => ?_)
  clear hK K
  (try simp only [Act.put, List.setIfInBounds_toArray, List.set_cons_zero, List.set_cons_succ])
  refine wpAnyH_ready (rs := [5]) (by kernel_rfl) (by simp) ?_
  refine AllReadyH.cons rfl (fun K hK => ?_) AllReadyH.nil
  go_simp
  refine (copiedGuild_any (unhide Hv).guilds (unhide HF).guilds).mono ?_
  rintro e9 X2 ⟨u1, rfl, hp, hb⟩
  replace Hv := hide ((unhide Hv).below hb)
  replace kb := hide ((unhide kb).below hb (unhide kb).lt)
  replace kr := hide ((unhide kr).below hb (unhide kr).lt)
  replace BB := hide ((unhide BB).trans (hb.mono (unhide BB).size))
  replace N0 := hide ((unhide N0).later hb)
  obtain ⟨b1, q1, hu1⟩ := RecAt.shape hp
  subst hu1
  have N1 : Hid (GuildsAt (w.heap.size + 2) X2 (.slice b1 m.guilds.length q1) m.guilds) := hide (RecAt.mono hp (by omega))
  have L1 : Hid (∀ b, (Value.slice b1 m.guilds.length q1).ownBlock = some b → X1.heap.size ≤ b ∧ b < X2.heap.size) := hide (fun b e => RecAt.lt hp e)
  have hsX2 := hb.size
  clear hp hb
  refine hK.out _ _ ⟨(unhide kb).cell (i := 0) rfl, (unhide kb).cell (i := 1) rfl, (unhide kb).cell (i := 2) rfl, (unhide kb).cell (i := 3) rfl, (unhide kb).cell (i := 4) rfl, (unhide kb).cell (i := 5) rfl⟩ (fun hHeld => ?_)
  clear hK K
  (try simp only [Act.put, List.setIfInBounds_toArray, List.set_cons_zero, List.set_cons_succ])
  refine wpAnyH_ready (rs := [7]) (by kernel_rfl) (by simp) ?_
  refine AllReadyH.cons rfl (fun K hK => ?_) AllReadyH.nil
  go_simp
  refine (smithsOf_any _ _ _ _ _ _ _ _ _ _ _ _ _ _ _ _ _).mono ?_
  rintro e9 X3 ⟨rfl, hb⟩
  replace Hv := hide ((unhide Hv).below hb)
  replace kb := hide ((unhide kb).below hb (unhide kb).lt)
  replace kr := hide ((unhide kr).below hb (unhide kr).lt)
  replace BB := hide ((unhide BB).trans (hb.mono (unhide BB).size))
  replace N0 := hide ((unhide N0).later hb)
  replace N1 := hide (RecAt.later (unhide N1) hb)
  have hsX3 := hb.size
  clear hb
  refine hK.out _ _ ⟨(unhide kb).cell (i := 0) rfl, (unhide kb).cell (i := 1) rfl, (unhide kb).cell (i := 2) rfl, (unhide kb).cell (i := 3) rfl, (unhide kb).cell (i := 4) rfl, (unhide kb).cell (i := 5) rfl⟩ (fun hHeld => ?_)
  clear hK K
  (try simp only [Act.put, List.setIfInBounds_toArray, List.set_cons_zero, List.set_cons_succ])
  refine wpAnyH_ready (rs := [8]) (by kernel_rfl) (by simp) ?_
  refine AllReadyH.cons rfl (fun K hK => ?_) AllReadyH.nil
  go_simp
  refine (copiedSmith_any (unhide Hv).smiths (Nat.le_trans (unhide HF).smiths (by omega))).mono ?_
  rintro e9 X4 ⟨u2, rfl, hp, hb⟩
  replace Hv := hide ((unhide Hv).below hb)
  replace kb := hide ((unhide kb).below hb (unhide kb).lt)
  replace kr := hide ((unhide kr).below hb (unhide kr).lt)
  replace BB := hide ((unhide BB).trans (hb.mono (unhide BB).size))
  replace N0 := hide ((unhide N0).later hb)
  replace N1 := hide (RecAt.later (unhide N1) hb)
  obtain ⟨b2, q2, hu2⟩ := RecAt.shape hp
  subst hu2
  have N2 : Hid (SmithsAt (w.heap.size + 2) X4 (.slice b2 m.smiths.length q2) m.smiths) := hide (RecAt.mono hp (by omega))
  have L2 : Hid (∀ b, (Value.slice b2 m.smiths.length q2).ownBlock = some b → X3.heap.size ≤ b ∧ b < X4.heap.size) := hide (fun b e => RecAt.lt hp e)
  have hsX4 := hb.size
  clear hp hb
  refine hK.out _ _ ⟨(unhide kb).cell (i := 0) rfl, (unhide kb).cell (i := 1) rfl, (unhide kb).cell (i := 2) rfl, (unhide kb).cell (i := 3) rfl, (unhide kb).cell (i := 4) rfl, (unhide kb).cell (i := 5) rfl⟩ (fun hHeld => ?_)
  clear hK K
  (try simp only [Act.put, List.setIfInBounds_toArray, List.set_cons_zero, List.set_cons_succ])
  refine wpAnyH_ready (rs := [10]) (by kernel_rfl) (by simp) ?_
  refine AllReadyH.cons rfl (fun K hK => ?_) AllReadyH.nil
  go_simp
  refine (desksOf_any _ _ _ _ _ _ _ _ _ _ _ _ _ _ _ _ _).mono ?_
  rintro e9 X5 ⟨rfl, hb⟩
  replace Hv := hide ((unhide Hv).below hb)
  replace kb := hide ((unhide kb).below hb (unhide kb).lt)
  replace kr := hide ((unhide kr).below hb (unhide kr).lt)
  replace BB := hide ((unhide BB).trans (hb.mono (unhide BB).size))
  replace N0 := hide ((unhide N0).later hb)
  replace N1 := hide (RecAt.later (unhide N1) hb)
  replace N2 := hide (RecAt.later (unhide N2) hb)
  have hsX5 := hb.size
  clear hb
  refine hK.out _ _ ⟨(unhide kb).cell (i := 0) rfl, (unhide kb).cell (i := 1) rfl, (unhide kb).cell (i := 2) rfl, (unhide kb).cell (i := 3) rfl, (unhide kb).cell (i := 4) rfl, (unhide kb).cell (i := 5) rfl⟩ (fun hHeld => ?_)
  clear hK K
  (try simp only [Act.put, List.setIfInBounds_toArray, List.set_cons_zero, List.set_cons_succ])
  refine wpAnyH_ready (rs := [11]) (by kernel_rfl) (by simp) ?_
  refine AllReadyH.cons rfl (fun K hK => ?_) AllReadyH.nil
  go_simp
  refine (copiedDesk_any (unhide Hv).desks (unhide HF).desks).mono ?_
  rintro e9 X6 ⟨u3, rfl, hp, hb⟩
  replace Hv := hide ((unhide Hv).below hb)
  replace kb := hide ((unhide kb).below hb (unhide kb).lt)
  replace kr := hide ((unhide kr).below hb (unhide kr).lt)
  replace BB := hide ((unhide BB).trans (hb.mono (unhide BB).size))
  replace N0 := hide ((unhide N0).later hb)
  replace N1 := hide (RecAt.later (unhide N1) hb)
  replace N2 := hide (RecAt.later (unhide N2) hb)
  obtain ⟨b3, q3, hu3⟩ := RecAt.shape hp
  subst hu3
  have N3 : Hid (DesksAt (w.heap.size + 2) X6 (.slice b3 m.desks.length q3) m.desks) := hide (RecAt.mono hp (by omega))
  have L3 : Hid (∀ b, (Value.slice b3 m.desks.length q3).ownBlock = some b → X5.heap.size ≤ b ∧ b < X6.heap.size) := hide (fun b e => RecAt.lt hp e)
  have hsX6 := hb.size
  clear hp hb
  refine hK.out _ _ ⟨(unhide kb).cell (i := 0) rfl, (unhide kb).cell (i := 1) rfl, (unhide kb).cell (i := 2) rfl, (unhide kb).cell (i := 3) rfl, (unhide kb).cell (i := 4) rfl, (unhide kb).cell (i := 5) rfl⟩ (fun hHeld => ?_)
  clear hK K
  (try simp only [Act.put, List.setIfInBounds_toArray, List.set_cons_zero, List.set_cons_succ])
  refine wpAnyH_ready (rs := [14]) (by kernel_rfl) (by simp) ?_
  refine AllReadyH.cons rfl (fun K hK => ?_) AllReadyH.nil
  go_simp
  refine (copiedNum_any (unhide Hv).paces (unhide HF).nums).mono ?_
  rintro e9 X7 ⟨u4, rfl, hp, hb⟩
  replace Hv := hide ((unhide Hv).below hb)
  replace kb := hide ((unhide kb).below hb (unhide kb).lt)
  replace kr := hide ((unhide kr).below hb (unhide kr).lt)
  replace BB := hide ((unhide BB).trans (hb.mono (unhide BB).size))
  replace N0 := hide ((unhide N0).later hb)
  replace N1 := hide (RecAt.later (unhide N1) hb)
  replace N2 := hide (RecAt.later (unhide N2) hb)
  replace N3 := hide (RecAt.later (unhide N3) hb)
  obtain ⟨b4, q4, hu4⟩ := RecAt.shape hp
  subst hu4
  have N4 : Hid (NumsAt (w.heap.size + 2) X7 (.slice b4 m.paces.length q4) m.paces) := hide (RecAt.mono hp (by omega))
  have L4 : Hid (∀ b, (Value.slice b4 m.paces.length q4).ownBlock = some b → X6.heap.size ≤ b ∧ b < X7.heap.size) := hide (fun b e => RecAt.lt hp e)
  have hsX7 := hb.size
  clear hp hb
  refine hK.out _ _ ⟨(unhide kb).cell (i := 0) rfl, (unhide kb).cell (i := 1) rfl, (unhide kb).cell (i := 2) rfl, (unhide kb).cell (i := 3) rfl, (unhide kb).cell (i := 4) rfl, (unhide kb).cell (i := 5) rfl⟩ (fun hHeld => ?_)
  clear hK K
  (try simp only [Act.put, List.setIfInBounds_toArray, List.set_cons_zero, List.set_cons_succ])
  (refine wpAnyH_take (i := 17) (v := ?_) rfl (by kernel_rfl) (by kernel_rfl) (by kernel_rfl) (fun _ _ _ h => h) (Or.inl ⟨by rfl, ?_⟩) (by assumption) ?_; rotate_left; (intro W9 hSw; (try dsimp only at hSw); go_simp; (try with_reducible rfl)); (try simp only [Act.put, List.setIfInBounds_toArray, List.set_cons_zero, List.set_cons_succ]))
  have o0 := (unhide kr).cell (i := 0) (v := .slice none 0 0) rfl
  have o1 := (unhide kr).cell (i := 1) (v := .slice none 0 0) rfl
  have o2 := (unhide kr).cell (i := 2) (v := .slice none 0 0) rfl
  have o3 := (unhide kr).cell (i := 3) (v := .slice none 0 0) rfl
  have o4 := (unhide kr).cell (i := 4) (v := .slice none 0 0) rfl
  have o5 := (unhide kr).cell (i := 5) (v := .int .i64 0) rfl
  have f0 := (unhide kr).free 0
  have f1 := (unhide kr).free 1
  have f2 := (unhide kr).free 2
  have f3 := (unhide kr).free 3
  have f4 := (unhide kr).free 4
  have f5 := (unhide kr).free 5
  refine wpAnyH_done (by kernel_rfl) ?_ _
  refine tailQ_run rfl rfl ?_
  go_simp
  clear hHeld
  have HFull : Hid (FullSmy (w.heap.size + 2) X7 (.slice b0 m.rooms.length q0) (.slice b1 m.guilds.length q1) (.slice b2 m.smiths.length q2) (.slice b3 m.desks.length q3) (.slice b4 m.paces.length q4) m qs) := hide (full_of X1.heap.size X2.heap.size X4.heap.size X6.heap.size (unhide N0) (unhide Hmap) (unhide N1) (unhide N2) (unhide N3) (unhide N4) (unhide L0) (unhide L1) (fun b e => by have := unhide L2 b e; omega) (fun b e => by have := unhide L3 b e; omega) (fun b e => (unhide L4 b e).1) (by omega) (by omega) (by omega))
  go_wp2_with fail
  refine bodyPost_ret (v := .agg #[.slice b0 m.rooms.length q0, .slice b1 m.guilds.length q1, .slice b2 m.smiths.length q2, .slice b3 m.desks.length q3, .slice b4 m.paces.length q4, .int .i64 m.now]) (by simp [results, Tryz.results34, go_sem, *]) rfl ⟨_, _, _, _, _, qs, rfl, ?_, ?_⟩
  · refine FullSmy.mono (n₀ := w.heap.size + 2) ?_ (by omega)
    iterate 6 (refine FullSmy.set ?_ _ _ _ (by omega))
    exact unhide HFull
  · iterate 6 (refine Below.setCell ?_ (by show _ ≤ w.heap.size + 1; omega) _)
    exact unhide BB

end Go.Proofs.YtifolooecfebfaaGreat

