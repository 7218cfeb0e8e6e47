/- What the proof rests on, part 14: lists and numbers, how they lie in memory, and contracts of the calls. No condition but those that a theorem names. -/
import Derived.Test.YtaegckehjlkaaaaGreatXe01
import Derived.Test.YtaegckehjlkaaaaGreatXe02
import Derived.Test.YtaegckehjlkaaaaGreatXe03
import Derived.Test.YtaegckehjlkaaaaGreatXe04
import Derived.Test.YtaegckehjlkaaaaGreatXe05
import Derived.Test.YtaegckehjlkaaaaGreatXe06
import Derived.Test.YtaegckehjlkaaaaGreatXe07
import Derived.Test.YtaegckehjlkaaaaGreatXe08
import Derived.Test.YtaegckehjlkaaaaGreatXe09
import Derived.Test.YtaegckehjlkaaaaGreatXe10
import Derived.Test.YtaegckehjlkaaaaGreatXe11
import Derived.Test.YtaegckehjlkaaaaGreatXe12
import Derived.Test.YtaegckehjlkaaaaGreatXe13
import Derived.Deep.RegionWith
import Derived.Lib.QuietBelow
import Derived.WalkMore
import Derived.Below
import Derived.ChangeKeysEq
import Derived.Laws.StructEq
import Derived.WalkKit
import Derived.ProofKit
import Derived.OpenShut
import Derived.Outline
import Derived.RangeFuncCalls
import Derived.Shelf.RegionOpen
import Derived.Deep.RegionHeld3
import Derived.Deep.DrawnRows
import Derived.BigRegion
import Derived.Deep.RegionLawGrows
import Derived.Deep.LoopGhost
import Derived.Deep.QuietTactic
import Derived.BigQuiet
import Derived.Laws.OwnMore
import Derived.OwnWalk
import Derived.Maps.AppendAt
import Derived.RangeFuncNested
import Derived.RangeFuncBound
import Derived.RangeFuncLeaves
import Derived.RangeFuncBox
import Derived.Shelf.Abstract
import Derived.OwnWalkIn
import Derived.TacticsInMore
import Derived.LoopNIn
import Derived.LoopIn
import Derived.Lib.SmallJoins
import Derived.Deep.Fields
import Derived.Deep.Slices
import Derived.OrdersHeld
import Derived.Deep.RegionHeldLaw
import Derived.Deep.DeepCutAuto
import Derived.Laws.CopyRow
/- Contracts of the program's benches behind their interfaces, and of benchAt, usableIn, withoutWho and benchesFor. Conditions: the smithy can be read; what each theorem names. -/
namespace Go.Proofs.YtaegckehjlkaaaaGreat
open Go.ChangeShapes Go.WideShapes Go.ChangeAt Go.RowKit Go.Sort Go.Shelf
set_option linter.unusedVariables false
set_option linter.unusedSimpArgs false
set_option maxRecDepth 100000

theorem m_place (x u f : Int) (w : World) : (method 412 196 (.agg #[.int .i64 x, .int .i64 u, .int .i64 f]) "loop.example/g00553/impl.place").run Tryz.prog w = .ok (341, .agg #[.int .i64 x, .int .i64 u, .int .i64 f]) w := by kernel_rfl
theorem place_any (x u f : Int) (w : World) : Calls Tryz.prog 341 #[.agg #[.int .i64 x, .int .i64 u, .int .i64 f]] w fun e w' => e = .returned (.int .i64 x) ∧ Below w.heap.size w w' := by
  go_enter Tryz.func341, Tryz.ntmps341
  go_wp2_with fail
  go_ret
  exact ⟨rfl, (Below.refl _ _).alloc (Nat.le_refl _) _⟩
theorem m_takes (x u f : Int) (w : World) : (method 412 196 (.agg #[.int .i64 x, .int .i64 u, .int .i64 f]) "loop.example/g00553/impl.takes").run Tryz.prog w = .ok (343, .agg #[.int .i64 x, .int .i64 u, .int .i64 f]) w := by kernel_rfl
theorem takes_any (n x u f : Int) (w : World) : Calls Tryz.prog 343 #[.agg #[.int .i64 x, .int .i64 u, .int .i64 f], .int .i64 n] w fun e w' => e = .returned (.bool (fitsB n u f)) ∧ Below w.heap.size w w' := by
  go_enter Tryz.func343, Tryz.ntmps343
  go_wp2_with fail
  have BB : Hid (Below w.heap.size w (w.alloc (.cells #[.int .i64 x, .int .i64 u, .int .i64 f] 196))) := hide ((Below.refl _ _).alloc (Nat.le_refl _) _)
  refine (implFitsIn_any _ _ _ _).mono ?_
  rintro e w1 ⟨rfl, hb⟩
  replace BB := bt BB hb
  clear hb
  go_wp2_with fail
  go_ret
  exact ⟨rfl, unhide BB⟩
theorem m_hasTooMuch (x u f : Int) (w : World) : (method 412 196 (.agg #[.int .i64 x, .int .i64 u, .int .i64 f]) "loop.example/g00553/impl.hasTooMuch").run Tryz.prog w = .ok (340, .agg #[.int .i64 x, .int .i64 u, .int .i64 f]) w := by kernel_rfl
theorem hasTooMuch_any (x u f : Int) (w : World) : Calls Tryz.prog 340 #[.agg #[.int .i64 x, .int .i64 u, .int .i64 f]] w fun e w' => e = .returned (.bool (muchB u f)) ∧ Below w.heap.size w w' := by
  go_enter Tryz.func340, Tryz.ntmps340
  go_wp2_with fail
  have BB : Hid (Below w.heap.size w (w.alloc (.cells #[.int .i64 x, .int .i64 u, .int .i64 f] 196))) := hide ((Below.refl _ _).alloc (Nat.le_refl _) _)
  refine (implTooMuch_any _ _ _).mono ?_
  rintro e w1 ⟨rfl, hb⟩
  replace BB := bt BB hb
  clear hb
  go_wp2_with fail
  go_ret
  exact ⟨rfl, unhide BB⟩
theorem m_spare (x u f : Int) (w : World) : (method 412 196 (.agg #[.int .i64 x, .int .i64 u, .int .i64 f]) "loop.example/g00553/impl.spare").run Tryz.prog w = .ok (342, .agg #[.int .i64 x, .int .i64 u, .int .i64 f]) w := by kernel_rfl
theorem spare_any (x u f : Int) (w : World) : Calls Tryz.prog 342 #[.agg #[.int .i64 x, .int .i64 u, .int .i64 f]] w fun e w' => e = .returned (.int .i64 (spareV u f)) ∧ Below w.heap.size w w' := by
  go_enter Tryz.func342, Tryz.ntmps342
  go_wp2_with fail
  have BB : Hid (Below w.heap.size w (w.alloc (.cells #[.int .i64 x, .int .i64 u, .int .i64 f] 196))) := hide ((Below.refl _ _).alloc (Nat.le_refl _) _)
  refine (implSpareOf_any _ _ _).mono ?_
  rintro e w1 ⟨rfl, hb⟩
  replace BB := bt BB hb
  clear hb
  go_wp2_with fail
  go_ret
  exact ⟨rfl, unhide BB⟩
theorem as_open (v : Value) (w : World) : (Instr.typeAssert (.iface 196 v) 147 96 true).run Tryz.prog w = .ok (.tuple #[.iface 196 v, .bool true]) w := by kernel_rfl
theorem least_some {l : List String} (h : l ≠ []) : ∃ s, Instr.least l = some s := by
  cases l with
  | nil => exact absurd rfl h
  | cons s r => exact ⟨_, rfl⟩
theorem part_some (p : String → Bool) (f : String → String) {ms : List String} (h : ms ≠ []) : ∃ s, (match ms.partition p with | (u, e) => Instr.least e <|> Instr.least (u.map f)) = some s := by
  rw [List.partition_eq_filter_filter]
  dsimp only
  by_cases he : ms.filter (not ∘ p) = []
  · have hu : ms.filter p ≠ [] := by
      intro e
      apply h
      have h1 := List.filter_eq_nil_iff.1 he
      have h2 := List.filter_eq_nil_iff.1 e
      refine List.eq_nil_iff_forall_not_mem.2 (fun x hx => ?_)
      have k1 := h1 x hx
      have k2 := h2 x hx
      simp only [Function.comp_apply] at k1
      cases hp : p x
      · rw [hp] at k1; exact k1 rfl
      · exact k2 hp
    obtain ⟨s, hs⟩ := least_some (l := (ms.filter p).map f) (by simpa using hu)
    rw [he, hs]
    exact ⟨s, rfl⟩
  · obtain ⟨s, hs⟩ := least_some he
    rw [hs]
    exact ⟨s, rfl⟩
theorem missing_some {want : Array (String × TypeId)} {got : Array Method} (h : (want.toList.filter fun x => !got.any fun m => m.name == x.1 && m.sig == x.2).isEmpty = false) : ∃ s, Instr.missingMethod want got = some s := by
  refine part_some _ _ (ms := (want.toList.filter fun x => !got.any fun m => m.name == x.1 && m.sig == x.2).map (·.1)) ?_
  intro e
  rw [List.map_eq_nil_iff] at e
  rw [e] at h
  cases h
/-- An interface is asked for that the value's type has not all methods of. -/
theorem assert_miss {P : Program} {w : World} {t xt asserted : TypeId} {v z : Value} {want : Array (String × TypeId)} {i j : TypeInfo} (hu : P.underlying asserted = some (.interface want)) (hi : P.info? t = some i) (hm : (want.toList.filter fun x => !i.methods.any fun m => m.name == x.1 && m.sig == x.2).isEmpty = false) (hj : P.info? asserted = some j) (hz : j.zero = some z) : (Instr.typeAssert (.iface t v) xt asserted true).run P w = .ok (.tuple #[z, .bool false]) w := by
  obtain ⟨s, hs⟩ := missing_some hm
  simp [Instr.typeAssert, run_underlying hu, typeInfo, hi, hs, zeroValue, hj, hz]
theorem closed_no : ((Tryz.prog.info? 194).bind fun i => (Tryz.prog.underlying 96).map fun d => match d with | .interface want => (want.toList.filter fun x => !i.methods.any fun m => m.name == x.1 && m.sig == x.2).isEmpty | _ => true) = some false := by kernel_rfl
theorem as_closed (v : Value) (w : World) : (Instr.typeAssert (.iface 194 v) 147 96 true).run Tryz.prog w = .ok (.tuple #[.nilIface, .bool false]) w := by
  obtain ⟨j, hj, hz, _, _⟩ := parts_of infoBench
  have h := closed_no
  cases hi : Tryz.prog.info? 194 with
  | none => rw [hi] at h; cases h
  | some i =>
    cases hu : Tryz.prog.underlying 96 with
    | none => rw [hi, hu] at h; cases h
    | some d =>
      rw [hi, hu] at h
      cases d with
      | interface want => exact assert_miss hu hi (by simpa using h) hj hz
      | _ => cases h
def benchB (m : SmyV) (b : Int) : Value := if openB m b then .iface 196 (.agg #[.int .i64 b, .int .i64 (usedV m b (-1)), .int .i64 (forceV m.rooms b)]) else .iface 194 (.agg #[.int .i64 b])
set_option maxHeartbeats 8000000 in
theorem benchAt_any {w : World} {v0 v1 v2 v3 v4 : Value} {m : SmyV} {b : Int} (h : Smy w v0 v1 v2 v3 v4 m) (hW : Wants m) (hl : m.smiths.length ≤ 12) : Calls Tryz.prog 144 #[.agg #[v0, v1, v2, v3, v4, .int .i64 m.now], .int .i64 b] w fun e w' => e = .returned (benchB m b) ∧ Below w.heap.size w w' := by
  have HW := hide hW
  clear hW
  obtain ⟨op, hop⟩ : ∃ q, openB m b = q := ⟨_, rfl⟩
  have Hop := hide hop
  unfold benchB
  rw [hop]
  clear hop
  obtain ⟨us, hus⟩ : ∃ q, usedV m b (-1) = q := ⟨_, rfl⟩
  have Hus := hide hus
  rw [hus]
  clear hus
  obtain ⟨a0, p0, a1, p1, a2, p2, a3, p3, a4, p4, rfl, rfl, rfl, rfl, rfl, K⟩ := Bx.new h
  clear h
  go_enter Tryz.func144, Tryz.ntmps144
  go_wp2_with fail
  generalize w.alloc (.cells #[.slice a0 m.rooms.length p0, .slice a1 m.guilds.length p1, .slice a2 m.smiths.length p2, .slice a3 m.desks.length p3, .slice a4 m.paces.length p4, .int .i64 m.now] 32) = W at *
  refine (hasOpen_any (unhide Hop) K.smy).mono ?_
  rintro e w1 ⟨rfl, hb⟩
  replace K := K.next hb
  clear hb
  cases op
  · go_wp2_with fail
    go_ret
    exact ⟨rfl, K.bb⟩
  clear Hop
  have HN := hide (fun (X : World) (hX : Below w1.heap.size w1 X) => usedAt_any (unhide Hus) (K.smy.below hX) (unhide HW) hl)
  have HF := hide (fun (X : World) (hX : Below w1.heap.size w1 X) => implForceOf_any b (K.smy.below hX).rooms)
  obtain ⟨c0, c1, c2, c3, c4, c5⟩ := K.cells
  have k0 := cell_regrown c0
  have k1 := cell_regrown c1
  have k2 := cell_regrown c2
  have k3 := cell_regrown c3
  have k4 := cell_regrown c4
  have k5 := cell_regrown c5
  go_wp2_with fail
  refine wp_region_quiet_below (by kernel_rfl) (by kernel_rfl) ?_
  repeat (go_big_quiet_step (first | exact Calls.regrown_of (unhide HN _ (below_regrown _ _ _)) | exact Calls.regrown_of (unhide HF _ (below_regrown _ _ _))))
  refine wpQuiet_nil ?_
  intro _ hw'
  obtain ⟨⟨dq, osq⟩, hw''⟩ := hw'
  subst hw''
  go_wp2_with fail
  go_ret
  exact ⟨rfl, K.bb.trans ((below_regrown _ _ _).mono K.bb.size)⟩
theorem Bx.grown {w W X : World} {R : Nat} {a0 a1 a2 a3 a4 : Option Addr} {p0 p1 p2 p3 p4 : Nat} {m : SmyV} {r : Option Nat} (h : Bx w W R a0 p0 a1 p1 a2 p2 a3 p3 a4 p4 m) (hs : Smy w (.slice a0 m.rooms.length p0) (.slice a1 m.guilds.length p1) (.slice a2 m.smiths.length p2) (.slice a3 m.desks.length p3) (.slice a4 m.paces.length p4) m) (hg : W.grownBy X r) (hr : ∀ k, r = some k → w.heap.size ≤ k ∧ k ≠ R) : Bx w X R a0 p0 a1 p1 a2 p2 a3 p3 a4 p4 m := by
  have hb : Below w.heap.size w X := h.bb.grown hg h.bb.size (fun k e => (hr k e).1)
  exact ⟨hs.below hb, (hg.block _ h.blk.lt (fun e => (hr R e.symm).2 rfl)).trans h.blk, hb⟩
attribute [local go_sem] as_open as_closed
set_option maxHeartbeats 8000000 in
theorem usableIn_any {w : World} {v0 v1 v2 v3 v4 : Value} {m : SmyV} (h : Smy w v0 v1 v2 v3 v4 m) (hW : Wants m) (hl : m.smiths.length ≤ 12) (hd : m.desks.length ≤ 1000) : Calls Tryz.prog 89 #[.agg #[v0, v1, v2, v3, v4, .int .i64 m.now]] w fun e w' => ∃ v', e = .returned v' ∧ BenchesAt w.heap.size w' v' (openTo m m.desks.length) ∧ Below w.heap.size w w' := by
  have HW := hide hW
  clear hW
  have Hs := hide h
  obtain ⟨a0, p0, a1, p1, a2, p2, a3, p3, a4, p4, rfl, rfl, rfl, rfl, rfl, K⟩ := Bx.new h
  clear h
  go_enter Tryz.func89, Tryz.ntmps89
  go_wp2_with fail
  go_loopw [3, 11] (fun l i wr => ∃ k : Nat, k ≤ m.desks.length ∧ i = .int .i64 k ∧ BenchesAt (w.heap.size + 1) wr l (openTo m k) ∧ Bx w wr w.heap.size a0 p0 a1 p1 a2 p2 a3 p3 a4 p4 m) (fun _ i _ => m.desks.length - (intOf i).toNat)
  case atStart => exact ⟨0, Nat.zero_le _, rfl, recs_empty (by simp) (Nat.le_refl _), K.alloc _⟩
  case round =>
    obtain ⟨k, hk, rfl, hln, hK⟩ := hrel
    clear K
    have K := hK
    clear hK
    obtain ⟨la, lc, rfl⟩ := RecAt.shape hln
    have HL := hide hln
    have hfl := openTo_len m k
    clear hln
    by_cases hlt : k < m.desks.length
    · have hlt1 : (k : Int) < (m.desks.length : Int) := by omega
      have HY := hide (fun hh => openTo_yes (m := m) (k := k) hh)
      have HN := hide (fun hh => openTo_no (m := m) (k := k) hh)
      have hop := open_at hlt
      obtain ⟨op, hq⟩ : ∃ q, (recAt m.desks k).1 = q := ⟨_, rfl⟩
      rw [hq] at hop HY HN
      obtain ⟨bv, hbv⟩ : ∃ v, benchB m (k : Int) = v := ⟨_, rfl⟩
      have HB := hide (fun (X : World) (hX : Smy X (.slice a0 m.rooms.length p0) (.slice a1 m.guilds.length p1) (.slice a2 m.smiths.length p2) (.slice a3 m.desks.length p3) (.slice a4 m.paces.length p4) m) => benchAt_any (b := (k : Int)) hX (unhide HW) hl)
      rw [hbv] at HB
      unfold benchB at hbv
      rw [hop] at hbv
      unfold benchV at HY
      generalize usedV m (k : Int) (-1) = us at *
      generalize forceV m.rooms (k : Int) = fo at *
      subst hbv
      clear hq hop
      obtain ⟨c0, c1, c2, c3, c4, c5⟩ := K.cells
      go_wp2_with fail
      refine (unhide HB _ K.smy).mono ?_
      rintro e w1 ⟨rfl, hb⟩
      replace K := K.next hb
      replace HL := hide (RecAt.later (unhide HL) hb)
      clear hb c0 c1 c2 c3 c4 c5 HB
      cases op
      · rw [if_neg (by simp)]
        go_wp2_with fail
        go_roundw
        case rel => exact ⟨k + 1, by omega, by go_num, by rw [unhide HN (by trivial)]; exact unhide HL, K⟩
        case measure => simp [intOf]; omega
      · rw [if_pos rfl]
        have hsx := K.blk.lt
        go_wp2_with (at_builtin; refine wpList_append_bench rfl (.tmp 22) (.tmp 24) 93 Tryz.underlying93 rfl (w.heap.size + 1) _ _ (openTo m k) [((k : Int), us, fo)] rfl rfl (RecAt.later (unhide HL) ((Below.refl _ _).alloc (Nat.le_refl _) _)) (recs_one ((k : Int), us, fo) rfl (Nat.le_refl _) (by omega)) (by simp; omega) (by simp; omega) ?_; intro u9 w9 hp9 hg9 hat9; have HP9 := hide hp9; have HG9 := hide hg9; clear hp9 hg9 hat9)
        have hgo : ∀ i, (Value.slice la (openTo m k).length lc).ownBlock = some i → w.heap.size ≤ i ∧ i ≠ w.heap.size := fun i e => by have := (RecAt.lt (unhide HL) e).1; omega
        replace K := (K.alloc _).grown (unhide Hs) (unhide HG9) hgo
        go_wp2_with fail
        go_roundw
        case rel => exact ⟨k + 1, by omega, by go_num, by rw [unhide HY (by trivial)]; exact unhide HP9, K⟩
        case measure => simp [intOf]; omega
    · obtain rfl : k = m.desks.length := by omega
      go_wp2_with fail
      go_ret
      exact ⟨_, rfl, RecAt.mono (unhide HL) (Nat.le_succ _), K.bb⟩
set_option maxHeartbeats 8000000 in
theorem withoutWho_any {w : World} {a0 a1 a2 a3 a4 : Option Addr} {p0 p1 p2 p3 p4 : Nat} {m : SmyV} {k : Nat} (h : Smy w (.slice a0 m.rooms.length p0) (.slice a1 m.guilds.length p1) (.slice a2 m.smiths.length p2) (.slice a3 m.desks.length p3) (.slice a4 m.paces.length p4) m) (hl : m.smiths.length ≤ 1000) (hk : k < m.smiths.length) : Calls Tryz.prog 140 #[.agg #[.slice a0 m.rooms.length p0, .slice a1 m.guilds.length p1, .slice a2 m.smiths.length p2, .slice a3 m.desks.length p3, .slice a4 m.paces.length p4, .int .i64 m.now], .int .i64 (k : Int)] w fun e w' => ∃ g gc, e = .returned (.agg #[.slice a0 m.rooms.length p0, .slice a1 m.guilds.length p1, .slice (some ⟨g, 0, none⟩) m.smiths.length gc, .slice a3 m.desks.length p3, .slice a4 m.paces.length p4, .int .i64 m.now]) ∧ Smy w' (.slice a0 m.rooms.length p0) (.slice a1 m.guilds.length p1) (.slice (some ⟨g, 0, none⟩) m.smiths.length gc) (.slice a3 m.desks.length p3) (.slice a4 m.paces.length p4) (awayM m (k : Int)) ∧ Below w.heap.size w w' := by
  have Hv0 := hide h
  have hk1 : (k : Int) < (m.smiths.length : Int) := by omega
  clear h
  go_enter Tryz.func140, Tryz.ntmps140
  go_upto_region 1 with fail
  obtain ⟨W, hW, kb, kr, BB⟩ := two_boxes w 32 #[.slice a0 m.rooms.length p0, .slice a1 m.guilds.length p1, .slice a2 m.smiths.length p2, .slice a3 m.desks.length p3, .slice a4 m.paces.length p4, .int .i64 m.now] 32 #[.slice none 0 0, .slice none 0 0, .slice none 0 0, .slice none 0 0, .slice none 0 0, .int .i64 0]
  have Hv := hide ((unhide Hv0).below (unhide BB))
  rw [hW]
  clear hW
  obtain ⟨c0, c1, c2, c3, c4, c5⟩ := (unhide kb).c6
  go_wp2_with fail
  refine (smithsOf_any _ _ _ _ _ _ _ _ _ _ _ _ _ _ _ _ _).mono ?_
  rintro e w1 ⟨rfl, hb⟩
  replace kb := bl kb hb
  replace kr := bl kr hb
  replace Hv := hide ((unhide Hv).below hb)
  replace BB := bt BB hb
  clear hb c0 c1 c2 c3 c4 c5
  go_wp2_with fail
  refine (copiedSmith_any (unhide Hv).smiths hl).mono ?_
  rintro e w2 ⟨v2, rfl, hs, hb⟩
  have hlb := (unhide kb).lt
  have hlr := (unhide kr).lt
  have hlo := (unhide BB).size
  replace kb := bl kb hb
  replace kr := bl kr hb
  replace BB := bt BB hb
  clear hb Hv
  obtain ⟨ga, gc, rfl⟩ := RecAt.shape hs
  obtain ⟨g, rfl, hg1, hg2, hcl, hfr⟩ := RecAt.view encSmith_len (by omega) hs rfl (by omega)
  have hgb : g ≠ w.heap.size := by omega
  have hgr : g ≠ w.heap.size + 1 := by omega
  have hbg : w.heap.size ≠ g := by omega
  have hrg : w.heap.size + 1 ≠ g := by omega
  have hwg : w.heap.size ≤ g := by omega
  have HS : Hid (SmithsAt (w.heap.size + 1) w2 (.slice (some ⟨g, 0, none⟩) m.smiths.length gc) (m.smiths.set k (recAt m.smiths k))) := hide (by rw [set_same hk]; exact RecAt.mono hs (by omega))
  have s0 := hcl k hk 0 _ rfl
  have f0 := hfr (k * 11)
  simp only [Nat.add_zero] at s0
  clear hcl hfr hs hg1
  obtain ⟨c0, c1, c2, c3, c4, c5⟩ := (unhide kb).c6
  obtain ⟨q0, q1, q2, q3, q4, q5⟩ := (unhide kb).f6
  obtain ⟨o0, o1, o2, o3, o4, o5⟩ := (unhide kr).c6
  obtain ⟨t0, t1, t2, t3, t4, t5⟩ := (unhide kr).f6
  go_wp2_with fail
  refine bodyPost_ret (v := .agg #[.slice a0 m.rooms.length p0, .slice a1 m.guilds.length p1, .slice (some ⟨g, 0, none⟩) m.smiths.length gc, .slice a3 m.desks.length p3, .slice a4 m.paces.length p4, .int .i64 m.now]) (by simp [results, Tryz.results140, go_sem, *]) rfl ⟨g, gc, rfl, ?_, ?_⟩
  · have h1 : SmithsAt (w.heap.size + 1) (w2.setCell ⟨w.heap.size, 2, none⟩ (.slice (some ⟨g, 0, none⟩) m.smiths.length gc)) (.slice (some ⟨g, 0, none⟩) m.smiths.length gc) (m.smiths.set k (recAt m.smiths k)) := RecAt.same (unhide HS) (fun i e => by cases e; exact heap_setCell_other _ _ _ _ hgb)
    have h2 := h1.put rfl hk (i := 0) (by omega) (.int .i64 1) (1, (recAt m.smiths k).2) rfl
    exact (unhide Hv0).other (Below.put6 _ _ _ _ _ _ (((unhide BB).setCell (Nat.le_refl _) _).setCell (by show w.heap.size ≤ g; omega) _) (Nat.le_succ _)) (RecAt.off6 (.slice a0 m.rooms.length p0) (.slice a1 m.guilds.length p1) (.slice (some ⟨g, 0, none⟩) m.smiths.length gc) (.slice a3 m.desks.length p3) (.slice a4 m.paces.length p4) (.int .i64 m.now) h2 (fun i e => by cases e; exact hgr))
  · exact Below.put6 _ _ _ _ _ _ (((unhide BB).setCell (Nat.le_refl _) _).setCell (by show w.heap.size ≤ g; omega) _) (Nat.le_succ _)
attribute [local go_sem] m_place
set_option maxHeartbeats 8000000 in
theorem benchesFor_q {w : World} {v0 v1 v2 v3 v4 : Value} {m : SmyV} {who : Int} {q : List BenchV} (hq : forV m who = q) (h : Smy w v0 v1 v2 v3 v4 m) : Calls Tryz.prog 79 #[.agg #[v0, v1, v2, v3, v4, .int .i64 m.now], .int .i64 who] w fun e w' => ∃ v', e = .returned v' ∧ BenchesAt w.heap.size w' v' q ∧ Below w.heap.size w w' := by
  have Hq := hide hq
  clear hq
  obtain ⟨wn, hwn⟩ : ∃ x, wantOfV m who = x := ⟨_, rfl⟩
  have Hwn := hide hwn
  clear hwn
  have Hs := hide h
  obtain ⟨a0, p0, a1, p1, a2, p2, a3, p3, a4, p4, rfl, rfl, rfl, rfl, rfl, K⟩ := Bx.new h
  clear h
  go_enter Tryz.func79, Tryz.ntmps79
  go_wp2_with fail
  have HL : Hid (BenchesAt (w.heap.size + 1) ((w.alloc (.cells #[.slice a0 m.rooms.length p0, .slice a1 m.guilds.length p1, .slice a2 m.smiths.length p2, .slice a3 m.desks.length p3, .slice a4 m.paces.length p4, .int .i64 m.now] 32)).alloc (.cells #[] 96)) (.slice (some ⟨w.heap.size + 1, 0, none⟩) 0 0) []) := hide (recs_empty (by simp) (Nat.le_refl _))
  replace K := K.alloc (.cells #[] 96)
  generalize (w.alloc (.cells #[.slice a0 m.rooms.length p0, .slice a1 m.guilds.length p1, .slice a2 m.smiths.length p2, .slice a3 m.desks.length p3, .slice a4 m.paces.length p4, .int .i64 m.now] 32)).alloc (.cells #[] 96) = W at *
  refine (implWantOf_any (unhide Hwn) K.smy).mono ?_
  rintro e w1 ⟨rfl, hb⟩
  replace K := K.next hb
  replace HL := hide (RecAt.later (unhide HL) hb)
  clear hb
  rcases want_neg (unhide Hwn) with rfl | ⟨hw0, hok, hwh⟩
  · obtain rfl : q = [] := (unhide Hq).symm.trans (for_none (unhide Hwn))
    go_wp2_with fail
    go_ret
    exact ⟨_, rfl, RecAt.mono (unhide HL) (Nat.le_succ _), K.bb⟩
  have hwb : (wn == -1) = false := beq_eq_false_iff_ne.mpr (by omega)
  have hwd : ¬ wn = -1 := by omega
  obtain ⟨k, rfl, hk, hs⟩ := whoB_of hwh
  have HLo := hide (smy_loose hok)
  have hl := smyB_few hok
  have h8 := (unhide HLo).sane.eight
  have HF := hide ((for_some hok hwh hk).trans (unhide Hq))
  clear Hq
  have HM := hide (fun x hx => mem_may (unhide HLo) hk hs (x := x) hx)
  have HU := hide (fun (g gc : Nat) (X : World) (hX : Smy X (.slice a0 m.rooms.length p0) (.slice a1 m.guilds.length p1) (.slice (some ⟨g, 0, none⟩) m.smiths.length gc) (.slice a3 m.desks.length p3) (.slice a4 m.paces.length p4) (awayM m (k : Int))) => usableIn_any (m := awayM m (k : Int)) hX ((unhide HLo).wants.away hk hs) (by rw [away_len]; exact hl) (show m.desks.length ≤ 1000 by omega))
  have hlen := openTo_len (awayM m (k : Int)) m.desks.length
  clear hwh hok hw0 hs Hwn
  obtain ⟨c0, c1, c2, c3, c4, c5⟩ := K.cells
  go_wp2_with fail
  refine (withoutWho_any K.smy (by omega) hk).mono ?_
  rintro e w2 ⟨g, gc, rfl, hsm, hb⟩
  replace K := K.next hb
  replace HL := hide (RecAt.later (unhide HL) hb)
  have HA := hide hsm
  clear hb c0 c1 c2 c3 c4 c5 hsm hwb hwd
  go_wp2_with fail
  refine (unhide HU g gc _ (unhide HA)).mono ?_
  rintro e w3 ⟨v3, rfl, hu, hb⟩
  have hu2 : BenchesAt w2.heap.size w3 v3 (openTo (awayM m (k : Int)) m.desks.length) := hu
  have hlo2 : ∀ i, v3.ownBlock = some i → w2.heap.size ≤ i := fun i e => (RecAt.lt hu2 e).1
  have hsp : ∀ i, v3.ownBlock = some i → (Value.slice (some ⟨w.heap.size + 1, 0, none⟩) 0 0).ownBlock ≠ some i := fun i e e2 => by have := hlo2 i e; have := (RecAt.lt (unhide HL) e2).2; omega
  replace K := K.next hb
  replace HL := hide (RecAt.later (unhide HL) hb)
  clear hb HU HA hu hlo2
  generalize openTo (awayM m (k : Int)) m.desks.length = us at *
  obtain ⟨ua, uc, rfl⟩ := RecAt.shape hu2
  have HU := hide hu2
  have Hsp := hide hsp
  clear hu2 hsp
  have hus : us.length ≤ 8 := by omega
  go_wp2_with fail
  go_loopw [5, 19] (fun l i wr => ∃ j : Nat, j ≤ us.length ∧ i = .int .i64 j ∧ BenchesAt (w.heap.size + 1) wr l ((us.take j).filter (inMay m k)) ∧ BenchesAt w2.heap.size wr (.slice ua us.length uc) us ∧ (∀ i, (Value.slice ua us.length uc).ownBlock = some i → l.ownBlock ≠ some i) ∧ Bx w wr w.heap.size a0 p0 a1 p1 a2 p2 a3 p3 a4 p4 m) (fun _ i _ => us.length - (intOf i).toNat)
  case atStart => exact ⟨0, Nat.zero_le _, rfl, unhide HL, unhide HU, unhide Hsp, K⟩
  case round =>
    obtain ⟨j, hj, rfl, hln, hun, hsp, hK⟩ := hrel
    clear K HL HU Hsp
    have K := hK
    clear hK
    obtain ⟨la, lc, rfl⟩ := RecAt.shape hln
    have HL := hide hln
    have HU := hide hun
    have Hsp := hide hsp
    have hfl : ((us.take j).filter (inMay m k)).length ≤ 8 := by have := List.length_filter_le (inMay m k) (us.take j); have : (us.take j).length ≤ us.length := by simp; omega
                                                                 omega
    clear hln hun hsp
    by_cases hlt : j < us.length
    · have hlt1 : (j : Int) < (us.length : Int) := by omega
      have HY := hide (fun hh => filter_yes (p := inMay m k) hlt hh)
      have HN := hide (fun hh => filter_no (p := inMay m k) hlt hh)
      obtain ⟨q, hq⟩ : ∃ q, inMay m k (recAt us j) = q := ⟨_, rfl⟩
      have hmm := unhide HM _ (recAt_mem hlt)
      rw [hq] at HY HN hmm
      generalize (us.take j).filter (inMay m k) = ls at *
      obtain ⟨g, rfl, hgl, hgw, hcl, _⟩ := RecAt.view encBench_len (by omega) (unhide HU) rfl (by omega)
      have z0 := bench_cell hcl hlt
      clear hcl hq
      generalize hx : recAt us j = x at *
      clear hx
      obtain ⟨bx, ux, fx⟩ := x
      simp only at z0 hmm
      obtain ⟨_, _, hse, _, _, r2⟩ := K.smy.smiths
      cases hse
      rcases r2 with e0 | ⟨sb, off, rfl, hbw, hcs⟩
      · rw [e0] at hk; simp at hk
      obtain ⟨d0, d1, d2, d3, d4, d5, d6, d7, d8, d9, d10⟩ := smith_cells hcs hk
      clear hcs d0 d1 d2 d4 d5 d6 d7 d8 d9 d10
      have hk1 : (k : Int) < (m.smiths.length : Int) := by omega
      have HI := hide (fun X => Calls.bool_of (Calls.same_below' (implInSet_any (recAt m.smiths k).2.2.2.1 bx X)) hmm)
      clear hmm
      generalize hmy : (recAt m.smiths k).2.2.2.1 = my at *
      clear hmy
      go_upto_region 7 with fail
      have c2 := K.blk.cell (i := 2) (v := .slice (some ⟨sb, off, none⟩) m.smiths.length p2) rfl
      have k2 := cell_regrown c2
      have k3 := cell_regrown d3
      refine wp_region_quiet_below (by kernel_rfl) (by kernel_rfl) ?_
      repeat (go_big_quiet_step (first | exact Calls.regrown_of (place_any _ _ _ _) | exact Calls.regrown_of (unhide HI _)))
      refine wpQuiet_nil ?_
      intro _ hw'
      obtain ⟨⟨dq, osq⟩, hw''⟩ := hw'
      subst hw''
      have hb : Below wr.heap.size wr (Go.Sort.grow (Go.redrawn wr dq) osq) := below_regrown wr dq osq
      generalize Go.Sort.grow (Go.redrawn wr dq) osq = wq at *
      replace K := K.next hb
      replace HL := hide (RecAt.later (unhide HL) hb)
      replace HU := hide (RecAt.later (unhide HU) hb)
      clear hb c2 k2 k3 d3 z0
      cases q
      · go_wp2_with fail
        go_roundw
        case rel => exact ⟨j + 1, by omega, by go_num, by rw [unhide HN (by trivial)]; exact unhide HL, unhide HU, unhide Hsp, K⟩
        case measure => simp [intOf]; omega
      · have hsx := K.blk.lt
        go_wp2_with (at_builtin; refine wpList_append_bench rfl (.tmp 32) (.tmp 34) 93 Tryz.underlying93 rfl (w.heap.size + 1) _ _ ls [(bx, ux, fx)] rfl rfl (RecAt.later (unhide HL) ((Below.refl _ _).alloc (Nat.le_refl _) _)) (recs_one (bx, ux, fx) rfl (Nat.le_refl _) (by omega)) (by simp; omega) (by simp; omega) ?_; intro u9 w9 hp9 hg9 hat9; have HP9 := hide hp9; have HG9 := hide hg9; have HA9 := hide hat9; clear hp9 hg9 hat9)
        have hgo : ∀ i, (Value.slice la ls.length lc).ownBlock = some i → w.heap.size ≤ i ∧ i ≠ w.heap.size := fun i e => by have := (RecAt.lt (unhide HL) e).1; omega
        replace K := (K.alloc _).grown (unhide Hs) (unhide HG9) hgo
        have hul := fun i e => (RecAt.lt (unhide HU) (i := i) e).2
        have hsp9 : ∀ i, (Value.slice (some ⟨g, 0, none⟩) us.length uc).ownBlock = some i → u9.ownBlock ≠ some i := by
          intro i e e2
          rcases unhide HA9 with h9 | h9
          · rw [h9] at e2; exact unhide Hsp i e e2
          · rw [h9] at e2
            have := hul i e
            simp at e2
            omega
        replace HU := hide (RecAt.grown (RecAt.later (unhide HU) ((Below.refl _ _).alloc (Nat.le_refl _) _)) (unhide HG9) (unhide Hsp))
        go_wp2_with fail
        go_roundw
        case rel => exact ⟨j + 1, by omega, by go_num, by rw [unhide HY (by trivial)]; exact unhide HP9, unhide HU, hsp9, K⟩
        case measure => simp [intOf]; omega
    · obtain rfl : j = us.length := by omega
      have e9 : (us.take us.length).filter (inMay m k) = q := by rw [List.take_length]; exact unhide HF
      have E9 := hide e9
      clear e9
      go_wp2_with fail
      go_ret
      exact ⟨_, rfl, by rw [← unhide E9]; exact RecAt.mono (unhide HL) (Nat.le_succ _), K.bb⟩
theorem benchesFor_any {w : World} {v0 v1 v2 v3 v4 : Value} {m : SmyV} {who : Int} (h : Smy w v0 v1 v2 v3 v4 m) : Calls Tryz.prog 79 #[.agg #[v0, v1, v2, v3, v4, .int .i64 m.now], .int .i64 who] w fun e w' => ∃ v', e = .returned v' ∧ BenchesAt w.heap.size w' v' (forV m who) ∧ Below w.heap.size w w' := benchesFor_q rfl h

end Go.Proofs.YtaegckehjlkaaaaGreat

/- Contracts of the program's roomiestOf, cheapestFor, MayWork, Fitting, Crowded and Chosen: each answers what the plain lists say. Conditions: the smithy can be read; what each theorem names. -/
namespace Go.Proofs.YtaegckehjlkaaaaGreat
open Go.ChangeShapes Go.WideShapes Go.ChangeAt Go.RowKit Go.Sort Go.Shelf
set_option linter.unusedVariables false
set_option linter.unusedSimpArgs false
set_option maxRecDepth 100000

theorem for_len (m : SmyV) (who : Int) : (forV m who).length ≤ 8 := by
  unfold forV
  split
  · rename_i h
    simp only [Bool.and_eq_true] at h
    have := (smy_loose h.1).sane.eight
    have := mayTo_len m who m.desks.length
    omega
  · simp
theorem fit_few (m : SmyV) (who : Int) : (fittingOfV m who).length ≤ 1000 := by
  rw [← for_fit, List.length_map]
  have := List.length_filter_le (takesB (wantOfV m who)) (forV m who)
  have := for_len m who
  omega
theorem fit_who {m : SmyV} {who : Int} {fs : List Int} (h : fittingOfV m who = fs) (h0 : ¬ fs.length = 0) : ∃ k : Nat, who = (k : Int) ∧ k < m.smiths.length := by
  unfold fittingOfV at h
  cases hc : (smyB m && whoB m who)
  · rw [hc] at h; subst h; simp at h0
  · simp only [Bool.and_eq_true] at hc
    obtain ⟨k, rfl, hk, _⟩ := whoB_of hc.2
    exact ⟨k, rfl, hk⟩
attribute [local go_sem] m_place m_spare
set_option maxHeartbeats 8000000 in
theorem roomiestOf_any {w : World} {v : Value} {n0 : Nat} {us : List BenchV} (h : BenchesAt n0 w v us) (hl : us.length ≤ 1000) : Calls Tryz.prog 86 #[v] w fun e w' => e = .returned (.int .i64 (roomL us).1) ∧ Below w.heap.size w w' := by
  obtain ⟨ua, uc, rfl⟩ := RecAt.shape h
  have H0 := hide h
  clear h
  go_enter Tryz.func86, Tryz.ntmps86
  go_wp2_with fail
  go_loopw [3, 4, 9] (fun c t i wr => ∃ j : Nat, j ≤ us.length ∧ i = .int .i64 j ∧ c = .int .i64 (roomL (us.take j)).1 ∧ t = .int .i64 (roomL (us.take j)).2 ∧ Below w.heap.size w wr) (fun _ _ i _ => us.length - (intOf i).toNat)
  case atStart => exact ⟨0, Nat.zero_le _, rfl, rfl, rfl, Below.refl _ _⟩
  case round =>
    obtain ⟨j, hj, rfl, rfl, rfl, hb⟩ := hrel
    have HU := hide (RecAt.later (unhide H0) hb)
    have BB := hide hb
    clear hb
    by_cases hlt : j < us.length
    · have hlt1 : (j : Int) < (us.length : Int) := by omega
      have HR := hide (room_next hlt)
      generalize hcm : roomL (us.take j) = cm at *
      clear hcm
      obtain ⟨ch, mo⟩ := cm
      obtain ⟨g, rfl, hgl, hgw, hcl, _⟩ := RecAt.view encBench_len (by omega) (unhide HU) rfl (by omega)
      have z0 := bench_cell hcl hlt
      clear hcl
      generalize hx : recAt us j = x at *
      clear hx
      obtain ⟨bx, ux, fx⟩ := x
      simp only at z0
      unfold roomStep at HR
      simp only at HR ⊢
      by_cases h1 : ch = -1
      · subst h1
        rw [if_pos (.inl rfl)] at HR
        go_upto_region 6 with fail
        go_wp2_with (first | (go_at_call 341; refine (place_any _ _ _ _).mono ?_; rintro e w1 ⟨rfl, hb⟩; replace BB := bt BB hb; clear hb) | (go_at_call 342; refine (spare_any _ _ _ _).mono ?_; rintro e w2 ⟨rfl, hb⟩; replace BB := bt BB hb; clear hb))
        go_roundw
        case rel => exact ⟨j + 1, by omega, by go_num, by rw [unhide HR], by rw [unhide HR], unhide BB⟩
        case measure => simp [intOf]; omega
      · have h1b : (ch == -1) = false := beq_eq_false_iff_ne.mpr h1
        obtain ⟨sp, hsp⟩ : ∃ x, spareV ux fx = x := ⟨_, rfl⟩
        have HSP := hide (fun X => Calls.int_of (spare_any bx ux fx X) hsp)
        rw [hsp] at HR
        clear hsp
        go_upto_region 5 with fail
        go_wp2_with fail
        refine (unhide HSP _).mono ?_
        rintro e w1 ⟨rfl, hb⟩
        replace BB := bt BB hb
        clear hb
        by_cases h2 : mo < sp
        · rw [if_pos (.inr h2)] at HR
          go_upto_region 6 with fail
          go_wp2_with (first | (go_at_call 341; refine (place_any _ _ _ _).mono ?_; rintro e w2 ⟨rfl, hb⟩; replace BB := bt BB hb; clear hb) | (go_at_call 342; refine (unhide HSP _).mono ?_; rintro e w3 ⟨rfl, hb⟩; replace BB := bt BB hb; clear hb))
          go_roundw
          case rel => exact ⟨j + 1, by omega, by go_num, by rw [unhide HR], by rw [unhide HR], unhide BB⟩
          case measure => simp [intOf]; omega
        · rw [if_neg (by rintro (e | e); · exact h1 e
                         · exact h2 e)] at HR
          go_wp2_with fail
          go_roundw
          case rel => exact ⟨j + 1, by omega, by go_num, by rw [unhide HR], by rw [unhide HR], unhide BB⟩
          case measure => simp [intOf]; omega
    · obtain rfl : j = us.length := by omega
      rw [List.take_length]
      go_wp2_with fail
      go_ret
      exact ⟨rfl, unhide BB⟩
set_option maxHeartbeats 8000000 in
theorem cheapestFor_any {w : World} {v0 v1 v2 v3 v4 : Value} {m : SmyV} {k n0 : Nat} {v : Value} {fs : List Int} (h : Smy w v0 v1 v2 v3 v4 m) (hk : k < m.smiths.length) (hf : NumsAt n0 w v fs) (hl : fs.length ≤ 1000) (ho : ∀ x ∈ fs, coalWithOfV m (k : Int) x = coalWithV m (k : Int) x) : Calls Tryz.prog 87 #[.agg #[v0, v1, v2, v3, v4, .int .i64 m.now], .int .i64 (k : Int), v] w fun e w' => e = .returned (.int .i64 (cheapL m (k : Int) fs).1) ∧ Below w.heap.size w w' := by
  obtain ⟨ua, uc, rfl⟩ := RecAt.shape hf
  have HO := hide ho
  clear ho
  have H0 := hide (RecAt.later hf ((Below.refl _ _).alloc (Nat.le_refl _) (.cells #[v0, v1, v2, v3, v4, .int .i64 m.now] 32)))
  clear hf
  obtain ⟨a0, p0, a1, p1, a2, p2, a3, p3, a4, p4, rfl, rfl, rfl, rfl, rfl, K⟩ := Bx.new h
  clear h
  go_enter Tryz.func87, Tryz.ntmps87
  go_wp2_with fail
  generalize w.alloc (.cells #[.slice a0 m.rooms.length p0, .slice a1 m.guilds.length p1, .slice a2 m.smiths.length p2, .slice a3 m.desks.length p3, .slice a4 m.paces.length p4, .int .i64 m.now] 32) = W at *
  go_loopw [7, 8, 14] (fun c t i wr => ∃ j : Nat, j ≤ fs.length ∧ i = .int .i64 j ∧ c = .int .i64 (cheapL m (k : Int) (fs.take j)).1 ∧ t = .int .i64 (cheapL m (k : Int) (fs.take j)).2 ∧ Bx w wr w.heap.size a0 p0 a1 p1 a2 p2 a3 p3 a4 p4 m ∧ Below W.heap.size W wr) (fun _ _ i _ => fs.length - (intOf i).toNat)
  case atStart => exact ⟨0, Nat.zero_le _, rfl, rfl, rfl, K, Below.refl _ _⟩
  case round =>
    obtain ⟨j, hj, rfl, rfl, rfl, hK, hb⟩ := hrel
    clear K
    have K := hK
    have HU := hide (RecAt.later (unhide H0) hb)
    have BB := hide hb
    clear hb hK
    by_cases hlt : j < fs.length
    · have hlt1 : (j : Int) < (fs.length : Int) := by omega
      have HR := hide (cheap_next (m := m) (who := (k : Int)) hlt)
      have Hcw := hide (unhide HO _ (recAt_mem hlt))
      obtain ⟨g, rfl, hgl, hgw, hcl, _⟩ := RecAt.view encNum_len (by omega) (unhide HU) rfl (by omega)
      have z0 := hcl j hlt 0 _ rfl
      simp only [Nat.mul_one, Nat.add_zero] at z0
      clear hcl
      generalize hx : recAt fs j = bx at *
      clear hx
      generalize hcm : cheapL m (k : Int) (fs.take j) = cm at *
      clear hcm
      obtain ⟨ch, mo⟩ := cm
      unfold cheapStep at HR
      rw [Int.toNat_natCast] at HR
      simp only at HR ⊢
      generalize coalWithV m (k : Int) bx = cw at *
      obtain ⟨c0, c1, c2, c3, c4, c5⟩ := K.cells
      go_wp2_with fail
      refine (implCoalWith_any (unhide Hcw) K.smy).mono ?_
      rintro e w1 ⟨rfl, hb⟩
      replace K := K.next hb
      replace BB := bt BB hb
      clear hb c0 c1 c2 c3 c4 c5 z0 HU Hcw
      by_cases h1 : ch = -1
      · subst h1
        rw [if_pos (.inl rfl)] at HR
        go_wp2_with fail
        go_roundw
        case rel => exact ⟨j + 1, by omega, by go_num, by rw [unhide HR], by rw [unhide HR], K, unhide BB⟩
        case measure => simp [intOf]; omega
      have h1b : (ch == -1) = false := beq_eq_false_iff_ne.mpr h1
      by_cases h2 : cw < mo
      · rw [if_pos (.inr (.inl h2))] at HR
        go_wp2_with fail
        go_roundw
        case rel => exact ⟨j + 1, by omega, by go_num, by rw [unhide HR], by rw [unhide HR], K, unhide BB⟩
        case measure => simp [intOf]; omega
      by_cases h3 : cw = mo
      · have h3b : (cw == mo) = true := beq_iff_eq.mpr h3
        have hk1 : (k : Int) < (m.smiths.length : Int) := by omega
        obtain ⟨_, _, hse, _, _, r2⟩ := K.smy.smiths
        cases hse
        rcases r2 with e0 | ⟨sb, off, rfl, hbw, hcs⟩
        · rw [e0] at hk; simp at hk
        obtain ⟨d0, d1, d2, d3, d4, d5, d6, d7, d8, d9, d10⟩ := smith_cells hcs hk
        have c2 := K.blk.cell (i := 2) (v := .slice (some ⟨sb, off, none⟩) m.smiths.length p2) rfl
        clear hcs d0 d2 d3 d4 d5 d6 d7 d8 d9 d10
        generalize (recAt m.smiths k).2.1 = own at *
        subst h3
        clear h3b
        by_cases h4 : bx = own
        · have h4b : (bx == own) = true := beq_iff_eq.mpr h4
          rw [if_pos (.inr (.inr ⟨rfl, h4⟩))] at HR
          subst h4
          go_wp2_with fail
          go_roundw
          case rel => exact ⟨j + 1, by omega, by go_num, by rw [unhide HR], by rw [unhide HR], K, unhide BB⟩
          case measure => simp [intOf]; omega
        · have h4b : (bx == own) = false := beq_eq_false_iff_ne.mpr h4
          rw [if_neg (by rintro (e | e | ⟨_, e⟩); · exact h1 e
                         · exact h2 e
                         · exact h4 e)] at HR
          go_wp2_with fail
          go_roundw
          case rel => exact ⟨j + 1, by omega, by go_num, by rw [unhide HR], by rw [unhide HR], K, unhide BB⟩
          case measure => simp [intOf]; omega
      · have h3b : (cw == mo) = false := beq_eq_false_iff_ne.mpr h3
        rw [if_neg (by rintro (e | e | ⟨e, _⟩); · exact h1 e
                       · exact h2 e
                       · exact h3 e)] at HR
        go_wp2_with fail
        go_roundw
        case rel => exact ⟨j + 1, by omega, by go_num, by rw [unhide HR], by rw [unhide HR], K, unhide BB⟩
        case measure => simp [intOf]; omega
    · obtain rfl : j = fs.length := by omega
      rw [List.take_length]
      go_wp2_with fail
      go_ret
      exact ⟨rfl, K.bb⟩
attribute [local go_sem] m_place
set_option maxHeartbeats 8000000 in
theorem implMayWork_any {w : World} {v0 v1 v2 v3 v4 : Value} {m : SmyV} {who b : Int} {q : Bool} (hq : mayWorkV m who b = q) (h : Smy w v0 v1 v2 v3 v4 m) : Calls Tryz.prog 30 #[.agg #[v0, v1, v2, v3, v4, .int .i64 m.now], .int .i64 who, .int .i64 b] w fun e w' => e = .returned (.bool q) ∧ Below w.heap.size w w' := by
  rw [← for_may] at hq
  have Hq := hide hq
  clear hq
  have hfl := for_len m who
  obtain ⟨a0, p0, a1, p1, a2, p2, a3, p3, a4, p4, rfl, rfl, rfl, rfl, rfl, K⟩ := Bx.new h
  clear h
  go_enter Tryz.func30, Tryz.ntmps30
  go_wp2_with fail
  generalize w.alloc (.cells #[.slice a0 m.rooms.length p0, .slice a1 m.guilds.length p1, .slice a2 m.smiths.length p2, .slice a3 m.desks.length p3, .slice a4 m.paces.length p4, .int .i64 m.now] 32) = W at *
  refine (benchesFor_any (who := who) K.smy).mono ?_
  rintro e w1 ⟨v1, rfl, hu, hb⟩
  replace K := K.next hb
  clear hb
  generalize forV m who = us at *
  obtain ⟨ua, uc, rfl⟩ := RecAt.shape hu
  have H0 := hide hu
  clear hu
  go_wp2_with fail
  go_loopw [13] (fun i wr => ∃ j : Nat, j ≤ us.length ∧ i = .int .i64 j ∧ (∀ i, i < j → (fun x : BenchV => x.1 == b) (recAt us i) = false) ∧ Bx w wr w.heap.size a0 p0 a1 p1 a2 p2 a3 p3 a4 p4 m ∧ Below w1.heap.size w1 wr) (fun i _ => us.length - (intOf i).toNat)
  case atStart => exact ⟨0, Nat.zero_le _, rfl, fun i hi => by omega, K, Below.refl _ _⟩
  case round =>
    obtain ⟨j, hj, rfl, hno, hK, hb⟩ := hrel
    clear K
    have K := hK
    have HU := hide (RecAt.later (unhide H0) hb)
    have BB := hide hb
    have Hno := hide hno
    clear hb hK hno
    by_cases hlt : j < us.length
    · have hlt1 : (j : Int) < (us.length : Int) := by omega
      obtain ⟨pq, hpq⟩ : ∃ q, (fun x : BenchV => x.1 == b) (recAt us j) = q := ⟨_, rfl⟩
      have HY := hide (fun hh : pq = true => any_yes hlt (p := (fun x : BenchV => x.1 == b)) (hpq.trans hh))
      have HX : Hid (pq = false → ∀ i, i < j + 1 → (fun x : BenchV => x.1 == b) (recAt us i) = false) := hide (fun hh i hi => by
        by_cases e : i = j
        · rw [e, hpq, hh]
        · exact unhide Hno i (by omega))
      have Hpq := hide hpq
      clear hpq
      obtain ⟨g, rfl, hgl, hgw, hcl, _⟩ := RecAt.view encBench_len (by omega) (unhide HU) rfl (by omega)
      have z0 := bench_cell hcl hlt
      clear hcl
      generalize hx : recAt us j = x at *
      clear hx
      obtain ⟨bx, ux, fx⟩ := x
      simp only at z0
      have hpq : (bx == b) = pq := unhide Hpq
      go_upto_region 4 with fail
      go_wp2_with fail
      refine (place_any _ _ _ _).mono ?_
      rintro e w2 ⟨rfl, hb⟩
      replace K := K.next hb
      replace BB := bt BB hb
      clear hb z0
      cases pq
      · have hbn : bx ≠ b := by simpa using hpq
        go_wp2_with fail
        go_roundw
        case rel => exact ⟨j + 1, by omega, by go_num, unhide HX (by trivial), K, unhide BB⟩
        case measure => simp [intOf]; omega
      · obtain rfl : q = true := (unhide Hq).symm.trans (unhide HY (by trivial))
        obtain rfl : bx = b := by simpa using hpq
        clear hpq
        go_wp2_with fail
        go_ret
        exact ⟨rfl, K.bb⟩
    · obtain rfl : j = us.length := by omega
      obtain rfl : q = false := (unhide Hq).symm.trans (any_no (unhide Hno))
      go_wp2_with fail
      go_ret
      exact ⟨rfl, K.bb⟩
attribute [local go_sem] m_hasTooMuch
set_option maxHeartbeats 8000000 in
theorem implCrowded_any {w : World} {v0 v1 v2 v3 v4 : Value} {m : SmyV} {q : Bool} (hq : crowdedV m = q) (h : Smy w v0 v1 v2 v3 v4 m) : Calls Tryz.prog 39 #[.agg #[v0, v1, v2, v3, v4, .int .i64 m.now]] w fun e w' => e = .returned (.bool q) ∧ Below w.heap.size w w' := by
  have Hq := hide hq
  clear hq
  obtain ⟨ok, hok⟩ : ∃ q, smyB m = q := ⟨_, rfl⟩
  have Hok := hide hok
  clear hok
  obtain ⟨a0, p0, a1, p1, a2, p2, a3, p3, a4, p4, rfl, rfl, rfl, rfl, rfl, K⟩ := Bx.new h
  clear h
  go_enter Tryz.func39, Tryz.ntmps39
  go_wp2_with fail
  generalize w.alloc (.cells #[.slice a0 m.rooms.length p0, .slice a1 m.guilds.length p1, .slice a2 m.smiths.length p2, .slice a3 m.desks.length p3, .slice a4 m.paces.length p4, .int .i64 m.now] 32) = W at *
  refine (implSmithyOk_q _ _ _ _ _ _ _ _ (unhide Hok) K.smy).mono ?_
  rintro e w1 ⟨rfl, hb⟩
  replace K := K.next hb
  clear hb
  cases ok
  · obtain rfl : q = false := by rw [← unhide Hq]; unfold crowdedV; rw [unhide Hok]; rfl
    go_wp2_with fail
    go_ret
    exact ⟨rfl, K.bb⟩
  have Hq2 : Hid ((openTo m m.desks.length).any (fun x => muchB x.2.1 x.2.2) = q) := hide (by rw [crowd_any, ← unhide Hq]; unfold crowdedV; rw [unhide Hok]; rfl)
  clear Hq
  have HLo := hide (smy_loose (unhide Hok))
  have hl := smyB_few (unhide Hok)
  have h8 := (unhide HLo).sane.eight
  have hfl := openTo_len m m.desks.length
  obtain ⟨c0, c1, c2, c3, c4, c5⟩ := K.cells
  go_wp2_with fail
  refine (usableIn_any K.smy (unhide HLo).wants hl (by omega)).mono ?_
  rintro e w2 ⟨v2, rfl, hu, hb⟩
  replace K := K.next hb
  clear hb c0 c1 c2 c3 c4 c5
  generalize openTo m m.desks.length = us at *
  obtain ⟨ua, uc, rfl⟩ := RecAt.shape hu
  have H0 := hide hu
  clear hu
  go_wp2_with fail
  go_loopw [11] (fun i wr => ∃ j : Nat, j ≤ us.length ∧ i = .int .i64 j ∧ (∀ i, i < j → (fun x : BenchV => muchB x.2.1 x.2.2) (recAt us i) = false) ∧ Bx w wr w.heap.size a0 p0 a1 p1 a2 p2 a3 p3 a4 p4 m ∧ Below w2.heap.size w2 wr) (fun i _ => us.length - (intOf i).toNat)
  case atStart => exact ⟨0, Nat.zero_le _, rfl, fun i hi => by omega, K, Below.refl _ _⟩
  case round =>
    obtain ⟨j, hj, rfl, hno, hK, hb⟩ := hrel
    clear K
    have K := hK
    have HU := hide (RecAt.later (unhide H0) hb)
    have BB := hide hb
    have Hno := hide hno
    clear hb hK hno
    by_cases hlt : j < us.length
    · have hlt1 : (j : Int) < (us.length : Int) := by omega
      obtain ⟨pq, hpq⟩ : ∃ q, (fun x : BenchV => muchB x.2.1 x.2.2) (recAt us j) = q := ⟨_, rfl⟩
      have HY := hide (fun hh : pq = true => any_yes hlt (p := (fun x : BenchV => muchB x.2.1 x.2.2)) (hpq.trans hh))
      have HX : Hid (pq = false → ∀ i, i < j + 1 → (fun x : BenchV => muchB x.2.1 x.2.2) (recAt us i) = false) := hide (fun hh i hi => by
        by_cases e : i = j
        · rw [e, hpq, hh]
        · exact unhide Hno i (by omega))
      have Hpq := hide hpq
      clear hpq
      obtain ⟨g, rfl, hgl, hgw, hcl, _⟩ := RecAt.view encBench_len (by omega) (unhide HU) rfl (by omega)
      have z0 := bench_cell hcl hlt
      clear hcl
      generalize hx : recAt us j = x at *
      clear hx
      obtain ⟨bx, ux, fx⟩ := x
      simp only at z0
      go_upto_region 6 with fail
      go_wp2_with fail
      refine (Calls.bool_of (hasTooMuch_any _ _ _ _) (unhide Hpq)).mono ?_
      rintro e w3 ⟨rfl, hb⟩
      replace K := K.next hb
      replace BB := bt BB hb
      clear hb z0
      cases pq
      · go_wp2_with fail
        go_roundw
        case rel => exact ⟨j + 1, by omega, by go_num, unhide HX (by trivial), K, unhide BB⟩
        case measure => simp [intOf]; omega
      · obtain rfl : q = true := (unhide Hq2).symm.trans (unhide HY (by trivial))
        go_wp2_with fail
        go_ret
        exact ⟨rfl, K.bb⟩
    · obtain rfl : j = us.length := by omega
      obtain rfl : q = false := (unhide Hq2).symm.trans (any_no (unhide Hno))
      go_wp2_with fail
      go_ret
      exact ⟨rfl, K.bb⟩
attribute [local go_sem] m_place m_takes
theorem fit_next {wn : Int} {us : List BenchV} {j : Nat} (hj : j < us.length) (h : takesB wn (recAt us j) = true) : ((us.take (j + 1)).filter (takesB wn)).map (·.1) = ((us.take j).filter (takesB wn)).map (·.1) ++ [(recAt us j).1] := by rw [filter_yes hj h, List.map_append]; rfl
theorem fit_same {wn : Int} {us : List BenchV} {j : Nat} (hj : j < us.length) (h : takesB wn (recAt us j) = false) : ((us.take (j + 1)).filter (takesB wn)).map (·.1) = ((us.take j).filter (takesB wn)).map (·.1) := by rw [filter_no hj h]
set_option maxHeartbeats 8000000 in
theorem implFitting_any {w : World} {v0 v1 v2 v3 v4 : Value} {m : SmyV} {who : Int} {q : List Int} (hq : fittingOfV m who = q) (h : Smy w v0 v1 v2 v3 v4 m) : Calls Tryz.prog 26 #[.agg #[v0, v1, v2, v3, v4, .int .i64 m.now], .int .i64 who] w fun e w' => ∃ v', e = .returned v' ∧ NumsAt w.heap.size w' v' q ∧ Below w.heap.size w w' := by
  rw [← for_fit] at hq
  have hfl := for_len m who
  obtain ⟨wn, hwn⟩ : ∃ x, wantOfV m who = x := ⟨_, rfl⟩
  rw [hwn] at hq
  have Hwn := hide hwn
  have Hq := hide hq
  clear hwn hq
  have Hs := hide h
  obtain ⟨a0, p0, a1, p1, a2, p2, a3, p3, a4, p4, rfl, rfl, rfl, rfl, rfl, K⟩ := Bx.new h
  clear h
  go_enter Tryz.func26, Tryz.ntmps26
  go_wp2_with fail
  generalize w.alloc (.cells #[.slice a0 m.rooms.length p0, .slice a1 m.guilds.length p1, .slice a2 m.smiths.length p2, .slice a3 m.desks.length p3, .slice a4 m.paces.length p4, .int .i64 m.now] 32) = W at *
  refine (implWantOf_any (unhide Hwn) K.smy).mono ?_
  rintro e w1 ⟨rfl, hb⟩
  replace K := K.next hb
  clear hb Hwn
  obtain ⟨c0, c1, c2, c3, c4, c5⟩ := K.cells
  have hsz := K.blk.lt
  go_wp2_with fail
  clear c0 c1 c2 c3 c4 c5
  have HL : Hid (NumsAt (w.heap.size + 1) (w1.alloc (.cells #[] 2)) (.slice (some ⟨w1.heap.size, 0, none⟩) 0 0) []) := hide (recs_empty rfl (by omega))
  replace K := K.alloc (.cells #[] 2)
  generalize w1.alloc (.cells #[] 2) = W1 at *
  generalize w1.heap.size = lb at *
  refine (benchesFor_any (who := who) K.smy).mono ?_
  rintro e w2 ⟨v2, rfl, hu, hb⟩
  have hsp : ∀ i, v2.ownBlock = some i → (Value.slice (some ⟨lb, 0, none⟩) 0 0).ownBlock ≠ some i := fun i e e2 => by have := (RecAt.lt hu e).1; have := (RecAt.lt (unhide HL) e2).2; omega
  have hu2 : BenchesAt W1.heap.size w2 v2 (forV m who) := hu
  replace K := K.next hb
  replace HL := hide (RecAt.later (unhide HL) hb)
  clear hb hu
  generalize forV m who = us at *
  obtain ⟨ua, uc, rfl⟩ := RecAt.shape hu2
  have HU := hide hu2
  have Hsp := hide hsp
  clear hu2 hsp
  go_wp2_with fail
  go_loopw [6, 17] (fun l i wr => ∃ j : Nat, j ≤ us.length ∧ i = .int .i64 j ∧ NumsAt (w.heap.size + 1) wr l (((us.take j).filter (takesB wn)).map (·.1)) ∧ BenchesAt W1.heap.size wr (.slice ua us.length uc) us ∧ (∀ i, (Value.slice ua us.length uc).ownBlock = some i → l.ownBlock ≠ some i) ∧ Bx w wr w.heap.size a0 p0 a1 p1 a2 p2 a3 p3 a4 p4 m) (fun _ i _ => us.length - (intOf i).toNat)
  case atStart => exact ⟨0, Nat.zero_le _, rfl, unhide HL, unhide HU, unhide Hsp, K⟩
  case round =>
    obtain ⟨j, hj, rfl, hln, hun, hsp, hK⟩ := hrel
    clear K HL HU Hsp
    have K := hK
    clear hK
    obtain ⟨la, lc, rfl⟩ := RecAt.shape hln
    have HL := hide hln
    have HU := hide hun
    have Hsp := hide hsp
    have hgl9 : (((us.take j).filter (takesB wn)).map (·.1)).length ≤ 8 := by have := List.length_filter_le (takesB wn) (us.take j); have : (us.take j).length ≤ us.length := by simp; omega
                                                                              simp only [List.length_map]; omega
    clear hln hun hsp
    by_cases hlt : j < us.length
    · have hlt1 : (j : Int) < (us.length : Int) := by omega
      have HY := hide (fun hh => fit_next (wn := wn) hlt hh)
      have HN := hide (fun hh => fit_same (wn := wn) hlt hh)
      obtain ⟨tq, htq⟩ : ∃ q, takesB wn (recAt us j) = q := ⟨_, rfl⟩
      rw [htq] at HY HN
      have Htq := hide htq
      clear htq
      generalize ((us.take j).filter (takesB wn)).map (·.1) = ls at *
      obtain ⟨g, rfl, hgl, hgw, hcl, _⟩ := RecAt.view encBench_len (by omega) (unhide HU) rfl (by omega)
      have z0 := bench_cell hcl hlt
      clear hcl
      generalize hx : recAt us j = x at *
      clear hx
      obtain ⟨bx, ux, fx⟩ := x
      simp only at z0
      go_upto_region 6 with fail
      go_wp2_with fail
      refine (Calls.bool_of (takes_any wn bx ux fx _) (unhide Htq)).mono ?_
      rintro e w3 ⟨rfl, hb⟩
      replace K := K.next hb
      replace HL := hide (RecAt.later (unhide HL) hb)
      replace HU := hide (RecAt.later (unhide HU) hb)
      clear hb z0
      cases tq
      · go_wp2_with fail
        go_roundw
        case rel => exact ⟨j + 1, by omega, by go_num, by rw [unhide HN (by trivial)]; exact unhide HL, unhide HU, unhide Hsp, K⟩
        case measure => simp [intOf]; omega
      · go_wp2_with fail
        refine (place_any _ _ _ _).mono ?_
        rintro e w4 ⟨rfl, hb⟩
        replace K := K.next hb
        replace HL := hide (RecAt.later (unhide HL) hb)
        replace HU := hide (RecAt.later (unhide HU) hb)
        clear hb
        have hsx := K.blk.lt
        go_wp2_with (at_builtin; refine wpList_append_recs tyN rfl (.tmp 24) (.tmp 27) 30 Tryz.underlying30 rfl (w.heap.size + 1) _ _ ls [bx] rfl rfl (RecAt.later (unhide HL) ((Below.refl _ _).alloc (Nat.le_refl _) _)) (recs_one bx rfl (Nat.le_refl _) (by omega)) (by simp; omega) (by simp; omega) ?_; intro u9 w9 hp9 hg9 hat9; have HP9 := hide hp9; have HG9 := hide hg9; have HA9 := hide hat9; clear hp9 hg9 hat9)
        have hgo : ∀ i, (Value.slice la ls.length lc).ownBlock = some i → w.heap.size ≤ i ∧ i ≠ w.heap.size := fun i e => by have := (RecAt.lt (unhide HL) e).1; omega
        replace K := (K.alloc _).grown (unhide Hs) (unhide HG9) hgo
        have hul := fun i e => (RecAt.lt (unhide HU) (i := i) e).2
        have hsp9 : ∀ i, (Value.slice (some ⟨g, 0, none⟩) us.length uc).ownBlock = some i → u9.ownBlock ≠ some i := by
          intro i e e2
          rcases unhide HA9 with h9 | h9
          · rw [h9] at e2; exact unhide Hsp i e e2
          · rw [h9] at e2
            have := hul i e
            simp at e2
            omega
        replace HU := hide (RecAt.grown (RecAt.later (unhide HU) ((Below.refl _ _).alloc (Nat.le_refl _) _)) (unhide HG9) (unhide Hsp))
        go_wp2_with fail
        go_roundw
        case rel => exact ⟨j + 1, by omega, by go_num, by rw [unhide HY (by trivial)]; exact unhide HP9, unhide HU, hsp9, K⟩
        case measure => simp [intOf]; omega
    · obtain rfl : j = us.length := by omega
      have e9 : ((us.take us.length).filter (takesB wn)).map (·.1) = q := by rw [List.take_length]; exact unhide Hq
      have E9 := hide e9
      clear e9
      go_wp2_with fail
      go_ret
      exact ⟨_, rfl, by rw [← unhide E9]; exact RecAt.mono (unhide HL) (Nat.le_succ _), K.bb⟩
set_option maxHeartbeats 8000000 in
theorem implChosen_any {w : World} {v0 v1 v2 v3 v4 : Value} {m : SmyV} {who q : Int} (hq : chosenOfV m who = q) (h : Smy w v0 v1 v2 v3 v4 m) : Calls Tryz.prog 37 #[.agg #[v0, v1, v2, v3, v4, .int .i64 m.now], .int .i64 who] w fun e w' => e = .returned (.int .i64 q) ∧ Below w.heap.size w w' := by
  rw [chosen_is] at hq
  have Hq := hide hq
  clear hq
  obtain ⟨fs, hfs⟩ : ∃ q, fittingOfV m who = q := ⟨_, rfl⟩
  have Hfs := hide hfs
  have hfl : fs.length ≤ 1000 := by rw [← hfs]; exact fit_few m who
  rw [hfs] at Hq
  obtain ⟨cr, hcr⟩ : ∃ q, crowdedV m = q := ⟨_, rfl⟩
  have Hcr := hide hcr
  rw [hcr] at Hq
  clear hfs hcr
  have hul := for_len m who
  obtain ⟨a0, p0, a1, p1, a2, p2, a3, p3, a4, p4, rfl, rfl, rfl, rfl, rfl, K⟩ := Bx.new h
  clear h
  go_enter Tryz.func37, Tryz.ntmps37
  go_wp2_with fail
  generalize w.alloc (.cells #[.slice a0 m.rooms.length p0, .slice a1 m.guilds.length p1, .slice a2 m.smiths.length p2, .slice a3 m.desks.length p3, .slice a4 m.paces.length p4, .int .i64 m.now] 32) = W at *
  refine (implFitting_any (unhide Hfs) K.smy).mono ?_
  rintro e w1 ⟨v1, rfl, hn, hb⟩
  replace K := K.next hb
  clear hb
  obtain ⟨na, nc, rfl⟩ := RecAt.shape hn
  have HN := hide hn
  clear hn
  obtain ⟨c0, c1, c2, c3, c4, c5⟩ := K.cells
  go_wp2_with fail
  refine (implCrowded_any (unhide Hcr) K.smy).mono ?_
  rintro e w2 ⟨rfl, hb⟩
  replace K := K.next hb
  replace HN := hide (RecAt.later (unhide HN) hb)
  clear hb c0 c1 c2 c3 c4 c5 Hcr
  obtain ⟨c0, c1, c2, c3, c4, c5⟩ := K.cells
  by_cases hcond : (cr || decide (fs.length = 0)) = true
  · rw [hcond, if_pos rfl] at Hq
    obtain rfl := (unhide Hq).symm
    have hrun : cr = true ∨ (cr = false ∧ fs.length = 0) := by
      cases cr
      · right; exact ⟨rfl, by simpa using hcond⟩
      · exact .inl rfl
    clear hcond Hq
    rcases hrun with rfl | ⟨rfl, h0⟩
    all_goals
      try (obtain rfl := List.eq_nil_of_length_eq_zero h0; clear h0)
      go_wp2_with fail
      refine (benchesFor_any (who := who) K.smy).mono ?_
      rintro e w3 ⟨v3, rfl, hu, hb⟩
      replace K := K.next hb
      have HU := hide hu
      clear hb hu c0 c1 c2 c3 c4 c5
      go_wp2_with fail
      refine (roomiestOf_any (unhide HU) (by omega)).mono ?_
      rintro e w4 ⟨rfl, hb⟩
      replace K := K.next hb
      clear hb
      go_wp2_with fail
      go_ret
      exact ⟨rfl, K.bb⟩
  · obtain rfl : cr = false := by cases cr; · rfl
                                  · simp at hcond
    have h0 : ¬ fs.length = 0 := by simpa using hcond
    rw [Bool.false_or, decide_eq_false h0, if_neg (by simp)] at Hq
    obtain rfl := (unhide Hq).symm
    clear hcond Hq
    obtain ⟨k, rfl, hk⟩ := fit_who (unhide Hfs) h0
    have HO : Hid (∀ x ∈ fs, coalWithOfV m (k : Int) x = coalWithV m (k : Int) x) := hide (fun x hx => fit_open (by rw [unhide Hfs]; exact hx))
    have h0i : ¬ ((fs.length : Int) = 0) := by omega
    have h0b : ((fs.length : Int) == 0) = false := beq_eq_false_iff_ne.mpr h0i
    clear h0
    go_wp2_with fail
    refine (cheapestFor_any K.smy hk (unhide HN) hfl (unhide HO)).mono ?_
    rintro e w3 ⟨rfl, hb⟩
    replace K := K.next hb
    clear hb c0 c1 c2 c3 c4 c5
    go_wp2_with fail
    go_ret
    exact ⟨rfl, K.bb⟩

end Go.Proofs.YtaegckehjlkaaaaGreat

/- Contracts of the model's ForceOf, at whatever hall can be read and whatever bench. No other condition. -/
namespace Go.Proofs.YtaegckehjlkaaaaGreat
open Go.ChangeShapes Go.WideShapes Go.ChangeAt Go.RowKit Go.Sort
set_option linter.unusedVariables false

set_option maxHeartbeats 1000000 in
theorem l4Force_any {w : World} {v : Value} {rs : List RoomV} (n : Int) (h : IsRooms w v rs) (h1 : isBench rs n = true) :
    Calls Tryz.prog 85 #[.agg #[v], .int .i64 n] w fun e w' => e = .returned (.int .i64 (lastForce (roomAt rs (roomN rs n)).2)) ∧ Below w.heap.size w w' := by
  have Hv := hide h
  obtain ⟨a, cap, rfl, hc, hm⟩ : ∃ a cap, v = .slice a rs.length cap ∧ rs.length ≤ cap ∧ cap ≤ 9223372036854775807 := by obtain ⟨a, cap, rfl, hc, hm, _⟩ := h; exact ⟨a, cap, rfl, hc, hm⟩
  clear h
  have hlt := room_found h1
  have Hh := hide (isBench_of h1).1
  have H1 := hide h1
  have hl3 : rs.length ≤ 3 := (hallB_of (isBench_of h1).1).2.1
  clear h1
  have hw1 := (unhide Hv).alloc (.cells #[.slice a rs.length cap] 26)
  have Hw1 := hide hw1
  obtain ⟨b, off, a', cap', rfl, hbw, d1, p1, p4, sp, hbw', d2⟩ := room_at hw1 hlt (unhide Hh)
  obtain ⟨b', off', sp'⟩ := a'
  simp only at sp hbw' d2
  subst sp
  clear hw1
  have k0 := cell_regrown (w := w.alloc (.cells #[.slice (some ⟨b, off, none⟩) rs.length cap] 26)) (a := ⟨w.heap.size, 0, none⟩) (v := .slice (some ⟨b, off, none⟩) rs.length cap) (by simp)
  have k1 := cell_regrown d1
  have k2 := cell_regrown d2
  clear d1 d2
  go_enter Tryz.func85, Tryz.ntmps85
  go_wp2_with fail
  refine wp_region_quiet_below (by kernel_rfl) (by kernel_rfl) ?_
  repeat (go_big_quiet_step (exact Calls.regrown_of (l4Room_any n ((unhide Hw1).below (below_regrown _ _ _)) (unhide H1))))
  refine wpQuiet_nil ?_
  intro _ hw'
  obtain ⟨⟨dq, osq⟩, hw''⟩ := hw'
  subst hw''
  generalize hr1 : roomN rs n = r at *
  generalize hr2 : lastForce (roomAt rs r).2 = fo at *
  generalize (roomAt rs r).2.length = m at *
  have Hr1 := hide hr1
  have Hr2 := hide hr2
  clear hr1 hr2
  go_wp2_with fail
  go_ret
  exact ⟨ret_int (by rw [unhide Hr1, unhide Hr2]), ((Below.refl _ _).alloc (Nat.le_refl _) _).trans ((below_regrown _ _ _).mono (by simp))⟩

end Go.Proofs.YtaegckehjlkaaaaGreat

/- What is used in a room, and what it costs: the model's l13Used, l13Coal, l13All. Conditions: the smithy can be read; it is right enough to be reckoned (Sane). -/
namespace Go.Proofs.YtaegckehjlkaaaaGreat
open Go.ChangeShapes Go.WideShapes Go.ChangeAt Go.RowKit Go.Sort
set_option linter.unusedVariables false

theorem usedIn_no {m : SmyV} {room : Int} {k : Nat} (h : ¬ (roomN m.rooms k : Int) = room) : usedIn m room (k + 1) = usedIn m room k := by show (if _ then _ else _) = _; rw [if_neg h]
theorem usedIn_yes {m : SmyV} {room : Int} {k : Nat} (h : (roomN m.rooms k : Int) = room) : usedIn m room (k + 1) = ((if (recAt m.desks k).1 then max (usedIn m room k).1 (usedV m k (-1)) else (usedIn m room k).1), (usedIn m room k).2 + usedV m k (-1)) := by show (if _ then _ else _) = _; rw [if_pos h]

set_option maxRecDepth 100000 in
set_option maxHeartbeats 8000000 in
theorem l13Used_any {w : World} {v0 v1 v2 v3 v4 : Value} {m : SmyV} (room : Int) (h : Smy w v0 v1 v2 v3 v4 m) (hS : Sane m) :
    Calls Tryz.prog 238 #[.agg #[v0, v1, v2, v3, v4, .int .i64 m.now], .int .i64 room] w fun e w' => e = .returned (.tuple #[.int .i64 (usedIn m room m.desks.length).1, .int .i64 (usedIn m room m.desks.length).2]) ∧ Below w.heap.size w w' := by
  have Hv := hide (h.alloc (.cells #[v0, v1, v2, v3, v4, .int .i64 m.now] 32))
  obtain ⟨a0, p0, rfl, _, _⟩ := IsRooms.shape h.rooms
  obtain ⟨a1, p1, rfl, _, _⟩ := IsRec.shape h.guilds
  obtain ⟨a2, p2, rfl, _, _⟩ := IsRec.shape h.smiths
  obtain ⟨a3, p3, rfl, _, _⟩ := IsRec.shape h.desks
  obtain ⟨a4, p4, rfl, _, _⟩ := IsRec.shape h.paces
  clear h
  have HS := hide hS
  have kb0 : Hid (Blk (w.alloc (.cells #[.slice a0 m.rooms.length p0, .slice a1 m.guilds.length p1, .slice a2 m.smiths.length p2, .slice a3 m.desks.length p3, .slice a4 m.paces.length p4, .int .i64 m.now] 32)) w.heap.size 32 #[.slice a0 m.rooms.length p0, .slice a1 m.guilds.length p1, .slice a2 m.smiths.length p2, .slice a3 m.desks.length p3, .slice a4 m.paces.length p4, .int .i64 m.now]) := hide (Blk.new w _ _)
  have BB0 : Hid (Below w.heap.size w (w.alloc (.cells #[.slice a0 m.rooms.length p0, .slice a1 m.guilds.length p1, .slice a2 m.smiths.length p2, .slice a3 m.desks.length p3, .slice a4 m.paces.length p4, .int .i64 m.now] 32))) := hide ((Below.refl _ _).alloc (Nat.le_refl _) _)
  have h8 := hS.eight
  have hbd := usedIn_bd m room hS.few
  have Hbd := hide hbd
  clear hS hbd
  go_enter Tryz.func238, Tryz.ntmps238
  go_wp2_with fail
  go_loopw [6, 7, 8] (fun mo al i wr => ∃ k : Nat, k ≤ m.desks.length ∧ i = .int .i64 k ∧ mo = .int .i64 (usedIn m room k).1 ∧ al = .int .i64 (usedIn m room k).2 ∧ Blk wr w.heap.size 32 #[.slice a0 m.rooms.length p0, .slice a1 m.guilds.length p1, .slice a2 m.smiths.length p2, .slice a3 m.desks.length p3, .slice a4 m.paces.length p4, .int .i64 m.now] ∧ Smy wr (.slice a0 m.rooms.length p0) (.slice a1 m.guilds.length p1) (.slice a2 m.smiths.length p2) (.slice a3 m.desks.length p3) (.slice a4 m.paces.length p4) m ∧ Below w.heap.size w wr) (fun _ _ i _ => m.desks.length - (intOf i).toNat)
  case atStart => exact ⟨0, Nat.zero_le _, rfl, rfl, rfl, unhide kb0, unhide Hv, unhide BB0⟩
  case round =>
    obtain ⟨k, hk, rfl, rfl, rfl, hkb, hv, hb0⟩ := hrel
    obtain ⟨⟨u0, u1⟩, u2, u3⟩ := unhide Hbd k
    have kb := hide hkb
    have Hv1 := hide hv
    have BB := hide hb0
    clear hkb hv hb0 kb0 BB0 Hv
    have c0 := (unhide kb).cell (i := 0) (v := .slice a0 m.rooms.length p0) rfl
    have c1 := (unhide kb).cell (i := 1) (v := .slice a1 m.guilds.length p1) rfl
    have c2 := (unhide kb).cell (i := 2) (v := .slice a2 m.smiths.length p2) rfl
    have c3 := (unhide kb).cell (i := 3) (v := .slice a3 m.desks.length p3) rfl
    have c4 := (unhide kb).cell (i := 4) (v := .slice a4 m.paces.length p4) rfl
    have c5 := (unhide kb).cell (i := 5) (v := .int .i64 m.now) rfl
    by_cases hlt : k < m.desks.length
    · have hlt1 : (k : Int) < (m.desks.length : Int) := by omega
      have Hno := hide (fun hh => usedIn_no (m := m) (room := room) (k := k) hh)
      have Hyes := hide (fun hh => usedIn_yes (m := m) (room := room) (k := k) hh)
      obtain ⟨⟨mo, al⟩, hmo⟩ : ∃ x, usedIn m room k = x := ⟨_, rfl⟩
      rw [hmo] at u0 u1 u2 u3 Hno Hyes ⊢
      simp only at u0 u1 u2 u3 Hyes ⊢
      clear hmo
      go_wp2_with fail
      refine (l4Room_any (k : Int) (unhide Hv1).rooms ((unhide HS).bench hlt)).mono ?_
      rintro e w1 ⟨rfl, hb⟩
      replace kb := hide ((unhide kb).below hb (unhide kb).lt)
      replace Hv1 := hide ((unhide Hv1).below hb)
      replace BB := hide ((unhide BB).trans (hb.mono (unhide BB).size))
      clear hb c0 c1 c2 c3 c4 c5
      obtain ⟨rn, hrn⟩ : ∃ r : Int, (roomN m.rooms k : Int) = r := ⟨_, rfl⟩
      rw [hrn] at Hno Hyes ⊢
      clear hrn
      by_cases hr : rn = room
      rotate_left
      · have hrb : (rn == room) = false := by simpa using hr
        go_wp2_with fail
        go_roundw
        case rel => exact ⟨k + 1, by omega, by go_num, by rw [unhide Hno hr], by rw [unhide Hno hr], unhide kb, unhide Hv1, unhide BB⟩
        case measure => simp [intOf]; omega
      have hrb : (rn == room) = true := by simpa using hr
      have c0 := (unhide kb).cell (i := 0) (v := .slice a0 m.rooms.length p0) rfl
      have c1 := (unhide kb).cell (i := 1) (v := .slice a1 m.guilds.length p1) rfl
      have c2 := (unhide kb).cell (i := 2) (v := .slice a2 m.smiths.length p2) rfl
      have c3 := (unhide kb).cell (i := 3) (v := .slice a3 m.desks.length p3) rfl
      have c4 := (unhide kb).cell (i := 4) (v := .slice a4 m.paces.length p4) rfl
      have c5 := (unhide kb).cell (i := 5) (v := .int .i64 m.now) rfl
      go_wp2_with fail
      refine (l11Used_any (k : Int) (-1) (unhide Hv1) (unhide HS).guilded (by have := (unhide HS).few; omega)).mono ?_
      rintro e w2 ⟨rfl, hb⟩
      replace kb := hide ((unhide kb).below hb (unhide kb).lt)
      replace Hv1 := hide ((unhide Hv1).below hb)
      replace BB := hide ((unhide BB).trans (hb.mono (unhide BB).size))
      clear hb c0 c1 c2 c3 c4 c5
      have hub := usedV_bd m (k : Int) (-1)
      have hfew := (unhide HS).few
      have hy := unhide Hyes hr
      generalize usedV m (k : Int) (-1) = us at *
      obtain ⟨_, _, hde, _, _, r3⟩ := (unhide Hv1).desks
      cases hde
      rcases r3 with e0 | ⟨db, off, rfl, hbw, hcl⟩
      · rw [e0] at hlt; simp at hlt
      obtain ⟨d0, _, _⟩ := desk_cells hcl hlt
      clear hcl
      obtain ⟨op, hop⟩ : ∃ o, (recAt m.desks k).1 = o := ⟨_, rfl⟩
      rw [hop] at d0 hy
      have Hy := hide hy
      clear hop hy Hno Hyes
      have c3 := (unhide kb).cell (i := 3) (v := .slice (some ⟨db, off, none⟩) m.desks.length p3) rfl
      cases op
      · go_wp2_with fail
        go_roundw
        case rel => exact ⟨k + 1, by omega, by go_num, by rw [unhide Hy]; rfl, by rw [unhide Hy], unhide kb, unhide Hv1, unhide BB⟩
        case measure => simp [intOf]; omega
      · go_wp2_with (go_at_call 118; refine (l1Max_any _ _ _).mono ?_; rintro e w' ⟨rfl, h9⟩; subst w')
        go_roundw
        case rel => exact ⟨k + 1, by omega, by go_num, by rw [unhide Hy]; rfl, by rw [unhide Hy], unhide kb, unhide Hv1, unhide BB⟩
        case measure => simp [intOf]; omega
    · obtain rfl : k = m.desks.length := by omega
      go_wp2_with fail
      go_ret2
      exact ⟨rfl, unhide BB⟩

set_option maxRecDepth 100000 in
set_option maxHeartbeats 4000000 in
theorem l13Coal_any {w : World} {v0 v1 v2 v3 v4 : Value} {m : SmyV} {r : Nat} (h : Smy w v0 v1 v2 v3 v4 m) (hS : Sane m) (hr : r < m.rooms.length) :
    Calls Tryz.prog 202 #[.agg #[v0, v1, v2, v3, v4, .int .i64 m.now], .int .i64 (r : Int)] w fun e w' => e = .returned (.int .i64 (coalIn m r)) ∧ Below w.heap.size w w' := by
  have Hv := hide (h.alloc (.cells #[v0, v1, v2, v3, v4, .int .i64 m.now] 32))
  obtain ⟨a0, p0, rfl, _, _⟩ := IsRooms.shape h.rooms
  obtain ⟨a1, p1, rfl, _, _⟩ := IsRec.shape h.guilds
  obtain ⟨a2, p2, rfl, _, _⟩ := IsRec.shape h.smiths
  obtain ⟨a3, p3, rfl, _, _⟩ := IsRec.shape h.desks
  obtain ⟨a4, p4, rfl, _, _⟩ := IsRec.shape h.paces
  clear h
  have HS := hide hS
  have kb0 : Hid (Blk (w.alloc (.cells #[.slice a0 m.rooms.length p0, .slice a1 m.guilds.length p1, .slice a2 m.smiths.length p2, .slice a3 m.desks.length p3, .slice a4 m.paces.length p4, .int .i64 m.now] 32)) w.heap.size 32 #[.slice a0 m.rooms.length p0, .slice a1 m.guilds.length p1, .slice a2 m.smiths.length p2, .slice a3 m.desks.length p3, .slice a4 m.paces.length p4, .int .i64 m.now]) := hide (Blk.new w _ _)
  have BB0 : Hid (Below w.heap.size w (w.alloc (.cells #[.slice a0 m.rooms.length p0, .slice a1 m.guilds.length p1, .slice a2 m.smiths.length p2, .slice a3 m.desks.length p3, .slice a4 m.paces.length p4, .int .i64 m.now] 32))) := hide ((Below.refl _ _).alloc (Nat.le_refl _) _)
  have hr1 : (r : Int) < (m.rooms.length : Int) := by omega
  have Hc : Hid (coalIn m r = leastV (roomAt m.rooms r) (usedIn m (r : Int) m.desks.length).1 (usedIn m (r : Int) m.desks.length).2) := hide rfl
  rw [unhide Hc]
  clear Hc hS
  obtain ⟨⟨n, ps⟩, hrm⟩ : ∃ x, roomAt m.rooms r = x := ⟨_, rfl⟩
  obtain ⟨mo, hmo⟩ : ∃ x, (usedIn m (r : Int) m.desks.length).1 = x := ⟨_, rfl⟩
  obtain ⟨al, hal⟩ : ∃ x, (usedIn m (r : Int) m.desks.length).2 = x := ⟨_, rfl⟩
  rw [hrm, hmo, hal]
  have Hrm := hide hrm
  have Hmo := hide hmo
  have Hal := hide hal
  clear hrm hmo hal
  go_enter Tryz.func202, Tryz.ntmps202
  go_wp2_with fail
  have hu := l13Used_any (r : Int) (unhide Hv) (unhide HS)
  rw [unhide Hmo, unhide Hal] at hu
  refine hu.mono ?_
  clear hu
  rintro e w1 ⟨rfl, hb⟩
  have kb := hide ((unhide kb0).below hb (unhide kb0).lt)
  replace Hv := hide ((unhide Hv).below hb)
  have BB := hide ((unhide BB0).trans (hb.mono (unhide BB0).size))
  clear hb kb0 BB0
  obtain ⟨_, _, hre, _, _, r0⟩ := (unhide Hv).rooms
  cases hre
  rcases r0 with e0 | ⟨rb, off, rfl, hbw, hcl⟩
  · rw [e0] at hr; simp at hr
  obtain ⟨d0, pv, d1, hpv⟩ := hcl r hr
  rw [unhide Hrm] at d0 hpv
  simp only at d0 hpv
  have Hpv := hide hpv
  obtain ⟨pa, pc, rfl, _, _, _⟩ := hpv
  have c0 := (unhide kb).cell (i := 0) (v := .slice (some ⟨rb, off, none⟩) m.rooms.length p0) rfl
  clear hcl
  go_wp2_with fail
  refine (specLeastCoal_any n mo al (unhide Hpv)).mono ?_
  rintro e w2 ⟨rfl, hb⟩
  replace BB := hide ((unhide BB).trans (hb.mono (unhide BB).size))
  clear hb
  go_wp2_with fail
  go_ret
  exact ⟨rfl, unhide BB⟩

set_option maxRecDepth 100000 in
set_option maxHeartbeats 4000000 in
theorem l13All_any {w : World} {v0 v1 v2 v3 v4 : Value} {m : SmyV} (h : Smy w v0 v1 v2 v3 v4 m) (hS : Sane m) :
    Calls Tryz.prog 146 #[.agg #[v0, v1, v2, v3, v4, .int .i64 m.now]] w fun e w' => e = .returned (.int .i64 (coalAll m)) ∧ Below w.heap.size w w' := by
  have Hv := hide (h.alloc (.cells #[v0, v1, v2, v3, v4, .int .i64 m.now] 32))
  obtain ⟨a0, p0, rfl, _, _⟩ := IsRooms.shape h.rooms
  obtain ⟨a1, p1, rfl, _, _⟩ := IsRec.shape h.guilds
  obtain ⟨a2, p2, rfl, _, _⟩ := IsRec.shape h.smiths
  obtain ⟨a3, p3, rfl, _, _⟩ := IsRec.shape h.desks
  obtain ⟨a4, p4, rfl, _, _⟩ := IsRec.shape h.paces
  clear h
  have HS := hide hS
  have kb0 : Hid (Blk (w.alloc (.cells #[.slice a0 m.rooms.length p0, .slice a1 m.guilds.length p1, .slice a2 m.smiths.length p2, .slice a3 m.desks.length p3, .slice a4 m.paces.length p4, .int .i64 m.now] 32)) w.heap.size 32 #[.slice a0 m.rooms.length p0, .slice a1 m.guilds.length p1, .slice a2 m.smiths.length p2, .slice a3 m.desks.length p3, .slice a4 m.paces.length p4, .int .i64 m.now]) := hide (Blk.new w _ _)
  have BB0 : Hid (Below w.heap.size w (w.alloc (.cells #[.slice a0 m.rooms.length p0, .slice a1 m.guilds.length p1, .slice a2 m.smiths.length p2, .slice a3 m.desks.length p3, .slice a4 m.paces.length p4, .int .i64 m.now] 32))) := hide ((Below.refl _ _).alloc (Nat.le_refl _) _)
  have h3 := (hallB_of hS.hall).2.1
  have Hbd := hide (coalTo_bd m)
  clear hS
  go_enter Tryz.func146, Tryz.ntmps146
  go_wp2_with fail
  go_loopw [3, 4] (fun n i wr => ∃ k : Nat, k ≤ m.rooms.length ∧ i = .int .i64 k ∧ n = .int .i64 (coalTo m k) ∧ Blk wr w.heap.size 32 #[.slice a0 m.rooms.length p0, .slice a1 m.guilds.length p1, .slice a2 m.smiths.length p2, .slice a3 m.desks.length p3, .slice a4 m.paces.length p4, .int .i64 m.now] ∧ Smy wr (.slice a0 m.rooms.length p0) (.slice a1 m.guilds.length p1) (.slice a2 m.smiths.length p2) (.slice a3 m.desks.length p3) (.slice a4 m.paces.length p4) m ∧ Below w.heap.size w wr) (fun _ i _ => m.rooms.length - (intOf i).toNat)
  case atStart => exact ⟨0, Nat.zero_le _, rfl, rfl, unhide kb0, unhide Hv, unhide BB0⟩
  case round =>
    obtain ⟨k, hk, rfl, rfl, hkb, hv, hb0⟩ := hrel
    obtain ⟨u0, u1⟩ := unhide Hbd k
    obtain ⟨u2, u3⟩ := unhide Hbd (k + 1)
    have hst : coalTo m (k + 1) = coalTo m k + coalIn m k := rfl
    have kb := hide hkb
    have Hv1 := hide hv
    have BB := hide hb0
    clear hkb hv hb0 kb0 BB0 Hv
    have c0 := (unhide kb).cell (i := 0) (v := .slice a0 m.rooms.length p0) rfl
    have c1 := (unhide kb).cell (i := 1) (v := .slice a1 m.guilds.length p1) rfl
    have c2 := (unhide kb).cell (i := 2) (v := .slice a2 m.smiths.length p2) rfl
    have c3 := (unhide kb).cell (i := 3) (v := .slice a3 m.desks.length p3) rfl
    have c4 := (unhide kb).cell (i := 4) (v := .slice a4 m.paces.length p4) rfl
    have c5 := (unhide kb).cell (i := 5) (v := .int .i64 m.now) rfl
    by_cases hlt : k < m.rooms.length
    · have hlt1 : (k : Int) < (m.rooms.length : Int) := by omega
      go_wp2_with fail
      refine (l13Coal_any (unhide Hv1) (unhide HS) hlt).mono ?_
      rintro e w1 ⟨rfl, hb⟩
      replace kb := hide ((unhide kb).below hb (unhide kb).lt)
      replace Hv1 := hide ((unhide Hv1).below hb)
      replace BB := hide ((unhide BB).trans (hb.mono (unhide BB).size))
      rw [hst] at u2 u3
      have Hst := hide hst
      clear hb c0 c1 c2 c3 c4 c5 hst
      generalize coalIn m k = ci at *
      generalize coalTo m k = ct at *
      go_wp2_with fail
      go_roundw
      case rel => exact ⟨k + 1, by omega, by go_num, by rw [unhide Hst], unhide kb, unhide Hv1, unhide BB⟩
      case measure => simp [intOf]; omega
    · obtain rfl : k = m.rooms.length := by omega
      go_wp2_with fail
      go_ret
      exact ⟨rfl, unhide BB⟩

end Go.Proofs.YtaegckehjlkaaaaGreat

