/- Part 27 of what the proof rests on. No condition but those that a theorem names. -/
import Derived.Test.YthbbahagpmdooaaGreatDoorXw26
set_option maxHeartbeats 8000000
set_option maxRecDepth 100000
namespace Go.Proofs.YthbbahagpmdooaaGreatDoor
open Go.ChangeShapes Go.WideShapes Go.ChangeAt Go.RowKit Go.Sort Go.Shelf
set_option linter.unusedVariables false
set_option linter.unusedSimpArgs false
set_option maxRecDepth 100000
theorem m_place (x u f : Int) (w : World) : (method 471 303 (.agg #[.int .i64 x, .int .i64 u, .int .i64 f]) "loop.example/g00553/impl.place").run Tryz.prog w = .ok (393, .agg #[.int .i64 x, .int .i64 u, .int .i64 f]) w := by kernel_rfl
theorem place_any (x u f : Int) (w : World) : Calls Tryz.prog 393 #[.agg #[.int .i64 x, .int .i64 u, .int .i64 f]] w fun e w' => e = .returned (.int .i64 x) ∧ Below w.heap.size w w' := by
 go_enter Tryz.func393, Tryz.ntmps393
 go_wp2_with fail
 go_ret
 exact ⟨rfl, (Below.refl _ _).alloc (Nat.le_refl _) _⟩
theorem m_takes (x u f : Int) (w : World) : (method 471 303 (.agg #[.int .i64 x, .int .i64 u, .int .i64 f]) "loop.example/g00553/impl.takes").run Tryz.prog w = .ok (395, .agg #[.int .i64 x, .int .i64 u, .int .i64 f]) w := by kernel_rfl
theorem takes_any (n x u f : Int) (w : World) : Calls Tryz.prog 395 #[.agg #[.int .i64 x, .int .i64 u, .int .i64 f], .int .i64 n] w fun e w' => e = .returned (.bool (fitsB n u f)) ∧ Below w.heap.size w w' := by
 go_enter Tryz.func395, Tryz.ntmps395
 go_wp2_with fail
 have BB : Hid (Below w.heap.size w (w.alloc (.cells #[.int .i64 x, .int .i64 u, .int .i64 f] 303))) := hide ((Below.refl _ _).alloc (Nat.le_refl _) _)
 refine (implFitsIn_any _ _ _ _).mono ?_
 rintro e w1 ⟨rfl, hb⟩
 replace BB := bt BB hb
 clear hb
 go_wp2_with fail
 go_ret
 exact ⟨rfl, uh BB⟩
theorem m_hasTooMuch (x u f : Int) (w : World) : (method 471 303 (.agg #[.int .i64 x, .int .i64 u, .int .i64 f]) "loop.example/g00553/impl.hasTooMuch").run Tryz.prog w = .ok (392, .agg #[.int .i64 x, .int .i64 u, .int .i64 f]) w := by kernel_rfl
theorem hasTooMuch_any (x u f : Int) (w : World) : Calls Tryz.prog 392 #[.agg #[.int .i64 x, .int .i64 u, .int .i64 f]] w fun e w' => e = .returned (.bool (muchB u f)) ∧ Below w.heap.size w w' := by
 go_enter Tryz.func392, Tryz.ntmps392
 go_wp2_with fail
 have BB : Hid (Below w.heap.size w (w.alloc (.cells #[.int .i64 x, .int .i64 u, .int .i64 f] 303))) := hide ((Below.refl _ _).alloc (Nat.le_refl _) _)
 refine (implTooMuch_any _ _ _).mono ?_
 rintro e w1 ⟨rfl, hb⟩
 replace BB := bt BB hb
 clear hb
 go_wp2_with fail
 go_ret
 exact ⟨rfl, uh BB⟩
theorem m_spare (x u f : Int) (w : World) : (method 471 303 (.agg #[.int .i64 x, .int .i64 u, .int .i64 f]) "loop.example/g00553/impl.spare").run Tryz.prog w = .ok (394, .agg #[.int .i64 x, .int .i64 u, .int .i64 f]) w := by kernel_rfl
theorem spare_any (x u f : Int) (w : World) : Calls Tryz.prog 394 #[.agg #[.int .i64 x, .int .i64 u, .int .i64 f]] w fun e w' => e = .returned (.int .i64 (spareV u f)) ∧ Below w.heap.size w w' := by
 go_enter Tryz.func394, Tryz.ntmps394
 go_wp2_with fail
 have BB : Hid (Below w.heap.size w (w.alloc (.cells #[.int .i64 x, .int .i64 u, .int .i64 f] 303))) := hide ((Below.refl _ _).alloc (Nat.le_refl _) _)
 refine (implSpareOf_any _ _ _).mono ?_
 rintro e w1 ⟨rfl, hb⟩
 replace BB := bt BB hb
 clear hb
 go_wp2_with fail
 go_ret
 exact ⟨rfl, uh BB⟩
theorem as_open (v : Value) (w : World) : (Instr.typeAssert (.iface 303 v) 277 246 true).run Tryz.prog w = .ok (.tuple #[.iface 303 v, .bool true]) w := by kernel_rfl
theorem least_some {l : List String} (h : l ≠ []) : ∃ s, Instr.least l = some s := by
 cases l with
 | nil => exact absurd rfl h
 | cons s r => exact ⟨_, rfl⟩
theorem part_some (p : String → Bool) (f : String → String) {ms : List String} (h : ms ≠ []) : ∃ s, (match ms.partition p with | (u, e) => Instr.least e <|> Instr.least (u.map f)) = some s := by
 rw [List.partition_eq_filter_filter]
 dsimp only
 by_cases he : ms.filter (not ∘ p) = []
 ·have hu : ms.filter p ≠ [] := by
   intro e
   apply h
   have h1 := List.filter_eq_nil_iff.1 he
   have h2 := List.filter_eq_nil_iff.1 e
   refine List.eq_nil_iff_forall_not_mem.2 (fun x hx => ?_)
   have k1 := h1 x hx
   have k2 := h2 x hx
   simp only [Function.comp_apply] at k1
   cases hp : p x
   ·rw [hp] at k1; exact k1 rfl
   ·exact k2 hp
  obtain ⟨s, hs⟩ := least_some (l := (ms.filter p).map f) (by simpa using hu)
  rw [he, hs]
  exact ⟨s, rfl⟩
 ·obtain ⟨s, hs⟩ := least_some he
  rw [hs]
  exact ⟨s, rfl⟩
theorem missing_some {want : Array (String × TypeId)} {got : Array Method} (h : (want.toList.filter fun x => !got.any fun m => m.name == x.1 && m.sig == x.2).isEmpty = false) : ∃ s, Instr.missingMethod want got = some s := by
 refine part_some _ _ (ms := (want.toList.filter fun x => !got.any fun m => m.name == x.1 && m.sig == x.2).map (·.1)) ?_
 intro e
 rw [List.map_eq_nil_iff] at e
 rw [e] at h
 cases h
theorem assert_miss {P : Program} {w : World} {t xt asserted : TypeId} {v z : Value} {want : Array (String × TypeId)} {i j : TypeInfo} (hu : P.underlying asserted = some (.interface want)) (hi : P.info? t = some i) (hm : (want.toList.filter fun x => !i.methods.any fun m => m.name == x.1 && m.sig == x.2).isEmpty = false) (hj : P.info? asserted = some j) (hz : j.zero = some z) : (Instr.typeAssert (.iface t v) xt asserted true).run P w = .ok (.tuple #[z, .bool false]) w := by
 obtain ⟨s, hs⟩ := missing_some hm
 simp [Instr.typeAssert, run_underlying hu, typeInfo, hi, hs, zeroValue, hj, hz]
theorem closed_no : ((Tryz.prog.info? 301).bind fun i => (Tryz.prog.underlying 246).map fun d => match d with | .interface want => (want.toList.filter fun x => !i.methods.any fun m => m.name == x.1 && m.sig == x.2).isEmpty | _ => true) = some false := by kernel_rfl
theorem as_closed (v : Value) (w : World) : (Instr.typeAssert (.iface 301 v) 277 246 true).run Tryz.prog w = .ok (.tuple #[.nilIface, .bool false]) w := by
 obtain ⟨j, hj, hz, _, _⟩ := parts_of infoBench
 have h := closed_no
 cases hi : Tryz.prog.info? 301 with
 | none => rw [hi] at h; cases h
 | some i =>
  cases hu : Tryz.prog.underlying 246 with
  | none => rw [hi, hu] at h; cases h
  | some d =>
   rw [hi, hu] at h
   cases d with
   | interface want => exact assert_miss hu hi (by simpa using h) hj hz
   | _ => cases h
def benchB (m : SmyV) (b : Int) : Value := if openB m b then .iface 303 (.agg #[.int .i64 b, .int .i64 (usedV m b (-1)), .int .i64 (forceV m.rooms b)]) else .iface 301 (.agg #[.int .i64 b])
theorem benchAt_any {w : World} {v0 v1 v2 v3 v4 : Value} {m : SmyV} {b : Int} (h : Smy w v0 v1 v2 v3 v4 m) (hW : Wants m) (hl : m.smiths.length ≤ 12) : Calls Tryz.prog 270 #[.agg #[v0, v1, v2, v3, v4, .int .i64 m.now], .int .i64 b] w fun e w' => e = .returned (benchB m b) ∧ Below w.heap.size w w' := by
 have HW := hide hW
 clear hW
 obtain ⟨op, hop⟩ : ∃ q, openB m b = q := ⟨_, rfl⟩
 have Hop := hide hop
 unfold benchB
 rw [hop]
 clear hop
 obtain ⟨us, hus⟩ : ∃ q, usedV m b (-1) = q := ⟨_, rfl⟩
 have Hus := hide hus
 rw [hus]
 clear hus
 obtain ⟨a0, p0, a1, p1, a2, p2, a3, p3, a4, p4, rfl, rfl, rfl, rfl, rfl, K⟩ := Bx.new h
 clear h
 go_enter Tryz.func270, Tryz.ntmps270
 go_wp2_with fail
 generalize w.alloc (.cells #[.slice a0 m.rooms.length p0, .slice a1 m.guilds.length p1, .slice a2 m.smiths.length p2, .slice a3 m.desks.length p3, .slice a4 m.paces.length p4, .int .i64 m.now] 32) = W at *
 refine (hasOpen_any (uh Hop) K.smy).mono ?_
 rintro e w1 ⟨rfl, hb⟩
 replace K := K.next hb
 clear hb
 cases op
 ·go_wp2_with fail
  go_ret
  exact ⟨rfl, K.bb⟩
 clear Hop
 have HN := hide (fun (X : World) (hX : Below w1.heap.size w1 X) => usedAt_any (uh Hus) (K.smy.below hX) (uh HW) hl)
 have HF := hide (fun (X : World) (hX : Below w1.heap.size w1 X) => implForceOf_any b (K.smy.below hX).rooms)
 obtain ⟨c0, c1, c2, c3, c4, c5⟩ := K.cells
 have k0 := cell_regrown c0
 have k1 := cell_regrown c1
 have k2 := cell_regrown c2
 have k3 := cell_regrown c3
 have k4 := cell_regrown c4
 have k5 := cell_regrown c5
 go_wp2_with fail
 refine wp_region_quiet_below (by kernel_rfl) (by kernel_rfl) ?_
 repeat (go_big_quiet_step (first | exact Calls.regrown_of (uh HN _ (below_regrown _ _ _)) | exact Calls.regrown_of (uh HF _ (below_regrown _ _ _))))
 refine wpQuiet_nil ?_
 intro _ hw'
 obtain ⟨⟨dq, osq⟩, hw''⟩ := hw'
 subst hw''
 go_wp2_with fail
 go_ret
 exact ⟨rfl, K.bb.trans ((below_regrown _ _ _).mono K.bb.size)⟩
theorem Bx.grown {w W X : World} {R : Nat} {a0 a1 a2 a3 a4 : Option Addr} {p0 p1 p2 p3 p4 : Nat} {m : SmyV} {r : Option Nat} (h : Bx w W R a0 p0 a1 p1 a2 p2 a3 p3 a4 p4 m) (hs : Smy w (.slice a0 m.rooms.length p0) (.slice a1 m.guilds.length p1) (.slice a2 m.smiths.length p2) (.slice a3 m.desks.length p3) (.slice a4 m.paces.length p4) m) (hg : W.grownBy X r) (hr : ∀ k, r = some k → w.heap.size ≤ k ∧ k ≠ R) : Bx w X R a0 p0 a1 p1 a2 p2 a3 p3 a4 p4 m := by
 have hb : Below w.heap.size w X := h.bb.grown hg h.bb.size (fun k e => (hr k e).1)
 exact ⟨hs.below hb, (hg.block _ h.blk.lt (fun e => (hr R e.symm).2 rfl)).trans h.blk, hb⟩
attribute [local go_sem] as_open as_closed
theorem usableIn_any {w : World} {v0 v1 v2 v3 v4 : Value} {m : SmyV} (h : Smy w v0 v1 v2 v3 v4 m) (hW : Wants m) (hl : m.smiths.length ≤ 12) (hd : m.desks.length ≤ 1000) : Calls Tryz.prog 220 #[.agg #[v0, v1, v2, v3, v4, .int .i64 m.now]] w fun e w' => ∃ v', e = .returned v' ∧ BenchesAt w.heap.size w' v' (openTo m m.desks.length) ∧ Below w.heap.size w w' := by
 have HW := hide hW
 clear hW
 have Hs := hide h
 obtain ⟨a0, p0, a1, p1, a2, p2, a3, p3, a4, p4, rfl, rfl, rfl, rfl, rfl, K⟩ := Bx.new h
 clear h
 go_enter Tryz.func220, Tryz.ntmps220
 go_wp2_with fail
 go_loopw [3, 11] (fun l i wr => ∃ k : Nat, k ≤ m.desks.length ∧ i = .int .i64 k ∧ BenchesAt (w.heap.size + 1) wr l (openTo m k) ∧ Bx w wr w.heap.size a0 p0 a1 p1 a2 p2 a3 p3 a4 p4 m) (fun _ i _ => m.desks.length - (intOf i).toNat)
 case atStart => exact ⟨0, Nat.zero_le _, rfl, recs_empty (by simp) (Nat.le_refl _), K.alloc _⟩
 case round =>
  obtain ⟨k, hk, rfl, hln, hK⟩ := hrel
  clear K
  have K := hK
  clear hK
  obtain ⟨la, lc, rfl⟩ := RecAt.shape hln
  have HL := hide hln
  have hfl := openTo_len m k
  clear hln
  by_cases hlt : k < m.desks.length
  ·have hlt1 : (k : Int) < (m.desks.length : Int) := by omega
   have HY := hide (fun hh => openTo_yes (m := m) (k := k) hh)
   have HN := hide (fun hh => openTo_no (m := m) (k := k) hh)
   have hop := open_at hlt
   obtain ⟨op, hq⟩ : ∃ q, (recAt m.desks k).1 = q := ⟨_, rfl⟩
   rw [hq] at hop HY HN
   obtain ⟨bv, hbv⟩ : ∃ v, benchB m (k : Int) = v := ⟨_, rfl⟩
   have HB := hide (fun (X : World) (hX : Smy X (.slice a0 m.rooms.length p0) (.slice a1 m.guilds.length p1) (.slice a2 m.smiths.length p2) (.slice a3 m.desks.length p3) (.slice a4 m.paces.length p4) m) => benchAt_any (b := (k : Int)) hX (uh HW) hl)
   rw [hbv] at HB
   unfold benchB at hbv
   rw [hop] at hbv
   unfold benchV at HY
   generalize usedV m (k : Int) (-1) = us at *
   generalize forceV m.rooms (k : Int) = fo at *
   subst hbv
   clear hq hop
   obtain ⟨c0, c1, c2, c3, c4, c5⟩ := K.cells
   go_wp2_with fail
   refine (uh HB _ K.smy).mono ?_
   rintro e w1 ⟨rfl, hb⟩
   replace K := K.next hb
   replace HL := hide (RecAt.later (uh HL) hb)
   clear hb c0 c1 c2 c3 c4 c5 HB
   cases op
   ·rw [if_neg (by simp)]
    go_wp2_with fail
    go_roundw
    case rel => exact ⟨k + 1, by omega, by go_num, by rw [uh HN (by trivial)]; exact uh HL, K⟩
    case measure => simp [intOf]; omega
   ·rw [if_pos rfl]
    have hsx := K.blk.lt
    go_wp2_with (at_builtin; refine wpList_append_bench rfl (.tmp 22) (.tmp 24) 186 Tryz.underlying186 rfl (w.heap.size + 1) _ _ (openTo m k) [((k : Int), us, fo)] rfl rfl (RecAt.later (uh HL) ((Below.refl _ _).alloc (Nat.le_refl _) _)) (recs_one ((k : Int), us, fo) rfl (Nat.le_refl _) (by omega)) (by simp; omega) (by simp; omega) ?_; intro u9 w9 hp9 hg9 hat9; have HP9 := hide hp9; have HG9 := hide hg9; clear hp9 hg9 hat9)
    have hgo : ∀ i, (Value.slice la (openTo m k).length lc).ownBlock = some i → w.heap.size ≤ i ∧ i ≠ w.heap.size := fun i e => by have := (RecAt.lt (uh HL) e).1; omega
    replace K := (K.alloc _).grown (uh Hs) (uh HG9) hgo
    go_wp2_with fail
    go_roundw
    case rel => exact ⟨k + 1, by omega, by go_num, by rw [uh HY (by trivial)]; exact uh HP9, K⟩
    case measure => simp [intOf]; omega
  ·obtain rfl : k = m.desks.length := by omega
   go_wp2_with fail
   go_ret
   exact ⟨_, rfl, RecAt.mono (uh HL) (Nat.le_succ _), K.bb⟩
theorem withoutWho_any {w : World} {a0 a1 a2 a3 a4 : Option Addr} {p0 p1 p2 p3 p4 : Nat} {m : SmyV} {k : Nat} (h : Smy w (.slice a0 m.rooms.length p0) (.slice a1 m.guilds.length p1) (.slice a2 m.smiths.length p2) (.slice a3 m.desks.length p3) (.slice a4 m.paces.length p4) m) (hl : m.smiths.length ≤ 1000) (hk : k < m.smiths.length) : Calls Tryz.prog 221 #[.agg #[.slice a0 m.rooms.length p0, .slice a1 m.guilds.length p1, .slice a2 m.smiths.length p2, .slice a3 m.desks.length p3, .slice a4 m.paces.length p4, .int .i64 m.now], .int .i64 (k : Int)] w fun e w' => ∃ g gc, e = .returned (.agg #[.slice a0 m.rooms.length p0, .slice a1 m.guilds.length p1, .slice (some ⟨g, 0, none⟩) m.smiths.length gc, .slice a3 m.desks.length p3, .slice a4 m.paces.length p4, .int .i64 m.now]) ∧ Smy w' (.slice a0 m.rooms.length p0) (.slice a1 m.guilds.length p1) (.slice (some ⟨g, 0, none⟩) m.smiths.length gc) (.slice a3 m.desks.length p3) (.slice a4 m.paces.length p4) (awayM m (k : Int)) ∧ Below w.heap.size w w' := by
 have Hv0 := hide h
 have hk1 : (k : Int) < (m.smiths.length : Int) := by omega
 clear h
 go_enter Tryz.func221, Tryz.ntmps221
 go_upto_region 1 with fail
 obtain ⟨W, hW, kb, kr, BB⟩ := two_boxes w 32 (S6 a0 p0 a1 p1 a2 p2 a3 p3 a4 p4 m) 32 E6
 have Hv := hide ((uh Hv0).below (uh BB))
 rw [hW]
 clear hW
 obtain ⟨c0, c1, c2, c3, c4, c5⟩ := (uh kb).c6
 go_wp2_with fail
 refine (smithsOf_any _ _ _ _ _ _ _ _ _ _ _ _ _ _ _ _ _).mono ?_
 rintro e w1 ⟨rfl, hb⟩
 replace kb := bl kb hb
 replace kr := bl kr hb
 replace Hv := hide ((uh Hv).below hb)
 replace BB := bt BB hb
 clear hb c0 c1 c2 c3 c4 c5
 go_wp2_with fail
 refine (copiedSmith_any (uh Hv).smiths hl).mono ?_
 rintro e w2 ⟨v2, rfl, hs, hb⟩
 have hlb := (uh kb).lt
 have hlr := (uh kr).lt
 have hlo := (uh BB).size
 replace kb := bl kb hb
 replace kr := bl kr hb
 replace BB := bt BB hb
 clear hb Hv
 obtain ⟨ga, gc, rfl⟩ := RecAt.shape hs
 obtain ⟨g, rfl, hg1, hg2, hcl, hfr⟩ := RecAt.view encSmith_len (by omega) hs rfl (by omega)
 have hgb : g ≠ w.heap.size := by omega
 have hgr : g ≠ w.heap.size + 1 := by omega
 have hbg : w.heap.size ≠ g := by omega
 have hrg : w.heap.size + 1 ≠ g := by omega
 have hwg : w.heap.size ≤ g := by omega
 have HS : Hid (SmithsAt (w.heap.size + 1) w2 (.slice (some ⟨g, 0, none⟩) m.smiths.length gc) (m.smiths.set k (recAt m.smiths k))) := hide (by rw [set_same hk]; exact RecAt.mono hs (by omega))
 have s0 := hcl k hk 0 _ rfl
 have f0 := hfr (k * 11)
 simp only [Nat.add_zero] at s0
 clear hcl hfr hs hg1
 obtain ⟨c0, c1, c2, c3, c4, c5⟩ := (uh kb).c6
 obtain ⟨q0, q1, q2, q3, q4, q5⟩ := (uh kb).f6
 obtain ⟨o0, o1, o2, o3, o4, o5⟩ := (uh kr).c6
 obtain ⟨t0, t1, t2, t3, t4, t5⟩ := (uh kr).f6
 go_wp2_with fail
 refine bodyPost_ret (v := .agg #[.slice a0 m.rooms.length p0, .slice a1 m.guilds.length p1, .slice (some ⟨g, 0, none⟩) m.smiths.length gc, .slice a3 m.desks.length p3, .slice a4 m.paces.length p4, .int .i64 m.now]) (by simp [results, Tryz.results221, go_sem, *]) rfl ⟨g, gc, rfl, ?_, ?_⟩
 ·have h1 : SmithsAt (w.heap.size + 1) (w2.setCell ⟨w.heap.size, 2, none⟩ (.slice (some ⟨g, 0, none⟩) m.smiths.length gc)) (.slice (some ⟨g, 0, none⟩) m.smiths.length gc) (m.smiths.set k (recAt m.smiths k)) := RecAt.same (uh HS) (fun i e => by cases e; exact heap_setCell_other _ _ _ _ hgb)
  have h2 := h1.put rfl hk (i := 0) (by omega) (.int .i64 1) (1, (recAt m.smiths k).2) rfl
  exact (uh Hv0).other (Below.put6 _ _ _ _ _ _ (((uh BB).setCell (Nat.le_refl _) _).setCell (by show w.heap.size ≤ g; omega) _) (Nat.le_succ _)) (RecAt.off6 (.slice a0 m.rooms.length p0) (.slice a1 m.guilds.length p1) (.slice (some ⟨g, 0, none⟩) m.smiths.length gc) (.slice a3 m.desks.length p3) (.slice a4 m.paces.length p4) (.int .i64 m.now) h2 (fun i e => by cases e; exact hgr))
 ·exact Below.put6 _ _ _ _ _ _ (((uh BB).setCell (Nat.le_refl _) _).setCell (by show w.heap.size ≤ g; omega) _) (Nat.le_succ _)
attribute [local go_sem] m_place
theorem benchesFor_q {w : World} {v0 v1 v2 v3 v4 : Value} {m : SmyV} {who : Int} {q : List BenchV} (hq : forV m who = q) (h : Smy w v0 v1 v2 v3 v4 m) : Calls Tryz.prog 172 #[.agg #[v0, v1, v2, v3, v4, .int .i64 m.now], .int .i64 who] w fun e w' => ∃ v', e = .returned v' ∧ BenchesAt w.heap.size w' v' q ∧ Below w.heap.size w w' := by
 have Hq := hide hq
 clear hq
 obtain ⟨wn, hwn⟩ : ∃ x, wantOfV m who = x := ⟨_, rfl⟩
 have Hwn := hide hwn
 clear hwn
 have Hs := hide h
 obtain ⟨a0, p0, a1, p1, a2, p2, a3, p3, a4, p4, rfl, rfl, rfl, rfl, rfl, K⟩ := Bx.new h
 clear h
 go_enter Tryz.func172, Tryz.ntmps172
 go_wp2_with fail
 have HL : Hid (BenchesAt (w.heap.size + 1) ((w.alloc (.cells #[.slice a0 m.rooms.length p0, .slice a1 m.guilds.length p1, .slice a2 m.smiths.length p2, .slice a3 m.desks.length p3, .slice a4 m.paces.length p4, .int .i64 m.now] 32)).alloc (.cells #[] 246)) (.slice (some ⟨w.heap.size + 1, 0, none⟩) 0 0) []) := hide (recs_empty (by simp) (Nat.le_refl _))
 replace K := K.alloc (.cells #[] 246)
 generalize (w.alloc (.cells #[.slice a0 m.rooms.length p0, .slice a1 m.guilds.length p1, .slice a2 m.smiths.length p2, .slice a3 m.desks.length p3, .slice a4 m.paces.length p4, .int .i64 m.now] 32)).alloc (.cells #[] 246) = W at *
 refine (implWantOf_any (uh Hwn) K.smy).mono ?_
 rintro e w1 ⟨rfl, hb⟩
 replace K := K.next hb
 replace HL := hide (RecAt.later (uh HL) hb)
 clear hb
 rcases want_neg (uh Hwn) with rfl | ⟨hw0, hok, hwh⟩
 ·obtain rfl : q = [] := (uh Hq).symm.trans (for_none (uh Hwn))
  go_wp2_with fail
  go_ret
  exact ⟨_, rfl, RecAt.mono (uh HL) (Nat.le_succ _), K.bb⟩
 have hwb : (wn == -1) = false := beq_eq_false_iff_ne.mpr (by omega)
 have hwd : ¬ wn = -1 := by omega
 obtain ⟨k, rfl, hk, hs⟩ := whoB_of hwh
 have HLo := hide (smy_loose hok)
 have hl := smyB_few hok
 have h8 := (uh HLo).sane.eight
 have HF := hide ((for_some hok hwh hk).trans (uh Hq))
 clear Hq
 have HM := hide (fun x hx => mem_may (uh HLo) hk hs (x := x) hx)
 have HU := hide (fun (g gc : Nat) (X : World) (hX : Smy X (.slice a0 m.rooms.length p0) (.slice a1 m.guilds.length p1) (.slice (some ⟨g, 0, none⟩) m.smiths.length gc) (.slice a3 m.desks.length p3) (.slice a4 m.paces.length p4) (awayM m (k : Int))) => usableIn_any (m := awayM m (k : Int)) hX ((uh HLo).wants.away hk hs) (by rw [away_len]; exact hl) (show m.desks.length ≤ 1000 by omega))
 have hlen := openTo_len (awayM m (k : Int)) m.desks.length
 clear hwh hok hw0 hs Hwn
 obtain ⟨c0, c1, c2, c3, c4, c5⟩ := K.cells
 go_wp2_with fail
 refine (withoutWho_any K.smy (by omega) hk).mono ?_
 rintro e w2 ⟨g, gc, rfl, hsm, hb⟩
 replace K := K.next hb
 replace HL := hide (RecAt.later (uh HL) hb)
 have HA := hide hsm
 clear hb c0 c1 c2 c3 c4 c5 hsm hwb hwd
 go_wp2_with fail
 refine (uh HU g gc _ (uh HA)).mono ?_
 rintro e w3 ⟨v3, rfl, hu, hb⟩
 have hu2 : BenchesAt w2.heap.size w3 v3 (openTo (awayM m (k : Int)) m.desks.length) := hu
 have hlo2 : ∀ i, v3.ownBlock = some i → w2.heap.size ≤ i := fun i e => (RecAt.lt hu2 e).1
 have hsp : ∀ i, v3.ownBlock = some i → (Value.slice (some ⟨w.heap.size + 1, 0, none⟩) 0 0).ownBlock ≠ some i := fun i e e2 => by have := hlo2 i e; have := (RecAt.lt (uh HL) e2).2; omega
 replace K := K.next hb
 replace HL := hide (RecAt.later (uh HL) hb)
 clear hb HU HA hu hlo2
 generalize openTo (awayM m (k : Int)) m.desks.length = us at *
 obtain ⟨ua, uc, rfl⟩ := RecAt.shape hu2
 have HU := hide hu2
 have Hsp := hide hsp
 clear hu2 hsp
 have hus : us.length ≤ 8 := by omega
 go_wp2_with fail
 go_loopw [5, 19] (fun l i wr => ∃ j : Nat, j ≤ us.length ∧ i = .int .i64 j ∧ BenchesAt (w.heap.size + 1) wr l ((us.take j).filter (inMay m k)) ∧ BenchesAt w2.heap.size wr (.slice ua us.length uc) us ∧ (∀ i, (Value.slice ua us.length uc).ownBlock = some i → l.ownBlock ≠ some i) ∧ Bx w wr w.heap.size a0 p0 a1 p1 a2 p2 a3 p3 a4 p4 m) (fun _ i _ => us.length - (intOf i).toNat)
 case atStart => exact ⟨0, Nat.zero_le _, rfl, uh HL, uh HU, uh Hsp, K⟩
 case round =>
  obtain ⟨j, hj, rfl, hln, hun, hsp, hK⟩ := hrel
  clear K HL HU Hsp
  have K := hK
  clear hK
  obtain ⟨la, lc, rfl⟩ := RecAt.shape hln
  have HL := hide hln
  have HU := hide hun
  have Hsp := hide hsp
  have hfl : ((us.take j).filter (inMay m k)).length ≤ 8 := by have e1 := List.length_filter_le (inMay m k) (us.take j); have e2 : (us.take j).length ≤ us.length := (by simp; omega); omega
  clear hln hun hsp
  by_cases hlt : j < us.length
  ·have hlt1 : (j : Int) < (us.length : Int) := by omega
   have HY := hide (fun hh => filter_yes (p := inMay m k) hlt hh)
   have HN := hide (fun hh => filter_no (p := inMay m k) hlt hh)
   obtain ⟨q, hq⟩ : ∃ q, inMay m k (recAt us j) = q := ⟨_, rfl⟩
   have hmm := uh HM _ (recAt_mem hlt)
   rw [hq] at HY HN hmm
   generalize (us.take j).filter (inMay m k) = ls at *
   obtain ⟨g, rfl, hgl, hgw, hcl, _⟩ := RecAt.view encBench_len (by omega) (uh HU) rfl (by omega)
   have z0 := bench_cell hcl hlt
   clear hcl hq
   generalize hx : recAt us j = x at *
   clear hx
   obtain ⟨bx, ux, fx⟩ := x
   simp only at z0 hmm
   obtain ⟨_, _, hse, _, _, r2⟩ := K.smy.smiths
   cases hse
   rcases r2 with e0 | ⟨sb, off, rfl, hbw, hcs⟩
   ·rw [e0] at hk; simp at hk
   obtain ⟨d0, d1, d2, d3, d4, d5, d6, d7, d8, d9, d10⟩ := smith_cells hcs hk
   clear hcs d0 d1 d2 d4 d5 d6 d7 d8 d9 d10
   have hk1 : (k : Int) < (m.smiths.length : Int) := by omega
   have HI := hide (fun X => Calls.bool_of (Calls.same_below' (implInSet_any (recAt m.smiths k).2.2.2.1 bx X)) hmm)
   clear hmm
   generalize hmy : (recAt m.smiths k).2.2.2.1 = my at *
   clear hmy
   go_upto_region 7 with fail
   have c2 := K.blk.cell (i := 2) (v := .slice (some ⟨sb, off, none⟩) m.smiths.length p2) rfl
   have k2 := cell_regrown c2
   have k3 := cell_regrown d3
   refine wp_region_quiet_below (by kernel_rfl) (by kernel_rfl) ?_
   repeat (go_big_quiet_step (first | exact Calls.regrown_of (place_any _ _ _ _) | exact Calls.regrown_of (uh HI _)))
   refine wpQuiet_nil ?_
   intro _ hw'
   obtain ⟨⟨dq, osq⟩, hw''⟩ := hw'
   subst hw''
   have hb : Below wr.heap.size wr (Go.Sort.grow (Go.redrawn wr dq) osq) := below_regrown wr dq osq
   generalize Go.Sort.grow (Go.redrawn wr dq) osq = wq at *
   replace K := K.next hb
   replace HL := hide (RecAt.later (uh HL) hb)
   replace HU := hide (RecAt.later (uh HU) hb)
   clear hb c2 k2 k3 d3 z0
   cases q
   ·go_wp2_with fail
    go_roundw
    case rel => exact ⟨j + 1, by omega, by go_num, by rw [uh HN (by trivial)]; exact uh HL, uh HU, uh Hsp, K⟩
    case measure => simp [intOf]; omega
   ·have hsx := K.blk.lt
    go_wp2_with (at_builtin; refine wpList_append_bench rfl (.tmp 32) (.tmp 34) 186 Tryz.underlying186 rfl (w.heap.size + 1) _ _ ls [(bx, ux, fx)] rfl rfl (RecAt.later (uh HL) ((Below.refl _ _).alloc (Nat.le_refl _) _)) (recs_one (bx, ux, fx) rfl (Nat.le_refl _) (by omega)) (by simp; omega) (by simp; omega) ?_; intro u9 w9 hp9 hg9 hat9; have HP9 := hide hp9; have HG9 := hide hg9; have HA9 := hide hat9; clear hp9 hg9 hat9)
    have hgo : ∀ i, (Value.slice la ls.length lc).ownBlock = some i → w.heap.size ≤ i ∧ i ≠ w.heap.size := fun i e => by have := (RecAt.lt (uh HL) e).1; omega
    replace K := (K.alloc _).grown (uh Hs) (uh HG9) hgo
    have hul := fun i e => (RecAt.lt (uh HU) (i := i) e).2
    have hsp9 : ∀ i, (Value.slice (some ⟨g, 0, none⟩) us.length uc).ownBlock = some i → u9.ownBlock ≠ some i := by
     intro i e e2
     rcases uh HA9 with h9 | h9
     ·rw [h9] at e2; exact uh Hsp i e e2
     ·rw [h9] at e2
      have := hul i e
      simp at e2
      omega
    replace HU := hide (RecAt.grown (RecAt.later (uh HU) ((Below.refl _ _).alloc (Nat.le_refl _) _)) (uh HG9) (uh Hsp))
    go_wp2_with fail
    go_roundw
    case rel => exact ⟨j + 1, by omega, by go_num, by rw [uh HY (by trivial)]; exact uh HP9, uh HU, hsp9, K⟩
    case measure => simp [intOf]; omega
  ·obtain rfl : j = us.length := by omega
   have e9 : (us.take us.length).filter (inMay m k) = q := by rw [List.take_length]; exact uh HF
   have E9 := hide e9
   clear e9
   go_wp2_with fail
   go_ret
   exact ⟨_, rfl, by rw [← uh E9]; exact RecAt.mono (uh HL) (Nat.le_succ _), K.bb⟩
theorem benchesFor_any {w : World} {v0 v1 v2 v3 v4 : Value} {m : SmyV} {who : Int} (h : Smy w v0 v1 v2 v3 v4 m) : Calls Tryz.prog 172 #[.agg #[v0, v1, v2, v3, v4, .int .i64 m.now], .int .i64 who] w fun e w' => ∃ v', e = .returned v' ∧ BenchesAt w.heap.size w' v' (forV m who) ∧ Below w.heap.size w w' := benchesFor_q rfl h
end Go.Proofs.YthbbahagpmdooaaGreatDoor
