/- Part 28 of what the proof rests on. No condition but those that a theorem names. -/
import Derived.Test.YtgdpaigcmoifbaaGreatXe25
import Derived.Test.YtgdpaigcmoifbaaGreatXe26
set_option maxHeartbeats 8000000
set_option maxRecDepth 100000
namespace Go.Proofs.YtgdpaigcmoifbaaGreat
open Go.ChangeShapes Go.WideShapes Go.ChangeAt Go.RowKit Go.Sort Go.Proofs.Tryz
set_option linter.unusedVariables false
set_option linter.unusedSimpArgs false
set_option maxRecDepth 100000
theorem withWhoAt_any {w : World} {a0 a1 a2 a3 a4 : Option Addr} {p0 p1 p2 p3 p4 : Nat} {m : SmyV} {k : Nat} (b : Int) (h : Smy w (.slice a0 m.rooms.length p0) (.slice a1 m.guilds.length p1) (.slice a2 m.smiths.length p2) (.slice a3 m.desks.length p3) (.slice a4 m.paces.length p4) m) (hl : m.smiths.length ≤ 1000) (hk : k < m.smiths.length) : Calls prog 128 #[.agg (S6 a0 p0 a1 p1 a2 p2 a3 p3 a4 p4 m), .int .i64 (k : Int), .int .i64 b] w fun e w' => ∃ g gc, e = .returned (.agg (S6 a0 p0 a1 p1 (some ⟨g, 0, none⟩) gc a3 p3 a4 p4 m)) ∧ Smy w' (.slice a0 m.rooms.length p0) (.slice a1 m.guilds.length p1) (.slice (some ⟨g, 0, none⟩) m.smiths.length gc) (.slice a3 m.desks.length p3) (.slice a4 m.paces.length p4) (withM m (k : Int) b) ∧ Below w.heap.size w w' := by
 have Hv0 := hide h
 have hk1 : (k : Int) < (m.smiths.length : Int) := by omega
 clear h
 go_enter func128, ntmps128
 go_upto_region 1 with fail
 obtain ⟨W, hW, kb, kr, BB⟩ := two_boxes w 32 (S6 a0 p0 a1 p1 a2 p2 a3 p3 a4 p4 m) 32 E6
 have Hv := hide ((uh Hv0).below (uh BB))
 rw [hW]
 clear hW
 obtain ⟨c0, c1, c2, c3, c4, c5⟩ := (uh kb).c6
 go_wp2_with fail
 refine ck (smithsOf_any _ _ _ _ _ _ _ _ _ _ _ _ _ _ _ _ _) fun w1 hb => ?_
 replace kb := bl kb hb
 replace kr := bl kr hb
 replace Hv := hide ((uh Hv).below hb)
 replace BB := bt BB hb
 clear hb c0 c1 c2 c3 c4 c5
 go_wp2_with fail
 refine (copiedSmith_any (uh Hv).smiths hl).mono ?_
 rintro e w2 ⟨v2, rfl, hs, hb⟩
 have hlb := (uh kb).lt
 have hlr := (uh kr).lt
 have hlo := (uh BB).size
 replace kb := bl kb hb
 replace kr := bl kr hb
 replace BB := bt BB hb
 clear hb Hv
 obtain ⟨ga, gc, rfl⟩ := RecAt.shape hs
 obtain ⟨g, rfl, hg1, hg2, hcl, hfr⟩ := RecAt.view encSmith_len (by omega) hs rfl (by omega)
 have hgb : g ≠ w.heap.size := by omega
 have hgr : g ≠ w.heap.size + 1 := by omega
 have hbg : w.heap.size ≠ g := by omega
 have hrg : w.heap.size + 1 ≠ g := by omega
 have hwg : w.heap.size ≤ g := by omega
 have HS : Hid (SmithsAt (w.heap.size + 1) w2 (.slice (some ⟨g, 0, none⟩) m.smiths.length gc) (m.smiths.set k (recAt m.smiths k))) := hide (by rw [set_same hk]; exact RecAt.mono hs (by omega))
 have s0 := hcl k hk 0 _ rfl
 have s1 := hcl k hk 1 _ rfl
 have f0 := hfr (k * 11)
 have f1 := hfr (k * 11 + 1)
 simp only [Nat.add_zero] at s0
 clear hcl hfr hs hg1
 obtain ⟨c0, c1, c2, c3, c4, c5⟩ := (uh kb).c6
 obtain ⟨q0, q1, q2, q3, q4, q5⟩ := (uh kb).f6
 obtain ⟨o0, o1, o2, o3, o4, o5⟩ := (uh kr).c6
 obtain ⟨t0, t1, t2, t3, t4, t5⟩ := (uh kr).f6
 go_wp2_with fail
 refine alBpr (v := .agg (S6 a0 p0 a1 p1 (some ⟨g, 0, none⟩) gc a3 p3 a4 p4 m)) (by simp [results, results128, go_sem, *]) rfl ⟨g, gc, rfl, ?_, ?_⟩
 ·have h1 : SmithsAt (w.heap.size + 1) (w2.setCell ⟨w.heap.size, 2, none⟩ (.slice (some ⟨g, 0, none⟩) m.smiths.length gc)) (.slice (some ⟨g, 0, none⟩) m.smiths.length gc) (m.smiths.set k (recAt m.smiths k)) := RecAt.same (uh HS) (fun i e => by cases e; exact heap_setCell_other _ _ _ _ hgb)
  have h2 := h1.put rfl hk (i := 0) (by omega) (.int .i64 2) (2, (recAt m.smiths k).2) rfl
  have h3 := h2.put rfl hk (i := 1) (by omega) (.int .i64 b) (2, b, (recAt m.smiths k).2.2) rfl
  exact (uh Hv0).other (Below.put6 _ _ _ _ _ _ ((((uh BB).setCell (alNlr _) _).setCell (by show w.heap.size ≤ g; omega) _).setCell (by show w.heap.size ≤ g; omega) _) (Nat.le_succ _)) (RecAt.off6 (.slice a0 m.rooms.length p0) (.slice a1 m.guilds.length p1) (.slice (some ⟨g, 0, none⟩) m.smiths.length gc) (.slice a3 m.desks.length p3) (.slice a4 m.paces.length p4) (.int .i64 m.now) h3 (fun i e => by cases e; exact hgr))
 ·exact Below.put6 _ _ _ _ _ _ ((((uh BB).setCell (alNlr _) _).setCell (by show w.heap.size ≤ g; omega) _).setCell (by show w.heap.size ≤ g; omega) _) (Nat.le_succ _)
theorem want_neg {m : SmyV} {who q : Int} (h : wantOfV m who = q) : q = -1 ∨ (0 ≤ q ∧ smyB m = true ∧ whoB m who = true) := by
 subst h
 unfold wantOfV
 by_cases hh : (smyB m && whoB m who) = true
 ·right
  rw [if_pos hh]
  simp only [alBae] at hh
  exact ⟨(wantV_bd m who).1, hh.1, hh.2⟩
 ·left; rw [if_neg hh]
theorem want_none {m : SmyV} {who b : Int} (h : wantOfV m who = -1) : coalWithOfV m who b = -1 := by
 unfold coalWithOfV
 unfold wantOfV at h
 have hb := (wantV_bd m who).1
 cases h1 : smyB m
 ·rfl
 ·cases h2 : whoB m who
  ·rfl
  ·have h9 : wantV m who = -1 := by simpa [h1, h2] using h
   omega
theorem coalWith_k {w : World} {v0 v1 v2 v3 v4 : Value} {m : SmyV} {k : Nat} {b q : Int} (hq2 : coalWithV m (k : Int) b = q) (h : Smy w v0 v1 v2 v3 v4 m) (hS : Sane m) (hT : Wants m) (hk : k < m.smiths.length) (hs : (recAt m.smiths k).1 ≠ 0) : cB 62 #[.agg #[v0, v1, v2, v3, v4, .int .i64 m.now], .int .i64 (k : Int), .int .i64 b] w (.int .i64 q) := by
 replace hq2 : coalAll (withM m (k : Int) b) = q := hq2
 have HS := hide (hS.with hk hs b)
 have HT := hide (hT.with hk hs b)
 have hl := hS.few
 clear hS hT
 obtain ⟨a0, p0, a1, p1, a2, p2, a3, p3, a4, p4, rfl, rfl, rfl, rfl, rfl, K⟩ := Bx.new h
 clear h
 go_enter func62, ntmps62
 go_wp2_with fail
 generalize w.alloc (.cells (S6 a0 p0 a1 p1 a2 p2 a3 p3 a4 p4 m) 32) = W at *
 have HR : Hid (∀ {X : World} {R : Nat} {c0 : Option Addr} {g gc r0 : Nat} {W : World}, Bx X W R a0 p0 a1 p1 (some ⟨g, 0, none⟩) gc a3 p3 a4 p4 (withM m (k : Int) b) → cB 126 #[.slice c0 m.rooms.length r0, .func (Fn.func 186) #[] #[.pointer (some ⟨R, 0, none⟩)]] W (.int .i64 q)) := hide (fun hK => by rw [← hq2]; exact together_any hK (uh HS) (uh HT))
 have HC : Hid (∀ (g gc : Nat) (W : World), Smy W (.slice a0 m.rooms.length p0) (.slice a1 m.guilds.length p1) (.slice (some ⟨g, 0, none⟩) m.smiths.length gc) (.slice a3 m.desks.length p3) (.slice a4 m.paces.length p4) (withM m (k : Int) b) → Calls prog 127 #[.agg (S6 a0 p0 a1 p1 (some ⟨g, 0, none⟩) gc a3 p3 a4 p4 m)] W fun e w' => e = .returned (.func (Fn.func 186) #[] #[.pointer (some ⟨W.heap.size, 0, none⟩)]) ∧ Bx W w' W.heap.size a0 p0 a1 p1 (some ⟨g, 0, none⟩) gc a3 p3 a4 p4 (withM m (k : Int) b)) := hide (fun g gc W hs => by
  have hwl : (withM m (k : Int) b).smiths.length = m.smiths.length := by unfold withM; simp
  have h9 := costsIn_any (w := W) (m := withM m (k : Int) b) (a0 := a0) (a1 := a1) (a2 := some ⟨g, 0, none⟩) (a3 := a3) (a4 := a4) (p0 := p0) (p1 := p1) (p2 := gc) (p3 := p3) (p4 := p4) (by rw [hwl]; exact hs)
  (try unfold S6 at h9)
  rw [hwl] at h9
  exact h9)
 clear HS HT hq2
 have KD := K.drew
 obtain ⟨c0, c1, c2, c3, c4, c5⟩ := K.cells
 go_wp2_with fail
 go_region_with (first
  | (go_at_call 128; refine (withWhoAt_any b KD.smy (by omega) hk).mono ?_; rintro e w3 ⟨g, gc, rfl, hsm, hb3⟩; have K3 := KD.next hb3; have z0 := K3.blk.cell (i := 0) (v := .slice a0 m.rooms.length p0) rfl; have HS3 := hide hsm; clear hsm hb3)
  | (go_at_call 127; refine (uh HC _ _ _ (uh HS3)).mono ?_; rintro e w4 ⟨rfl, KX⟩; have K4 := K3.next KX.bb; have y0 := K4.blk.cell (i := 0) (v := .slice a0 m.rooms.length p0) rfl)
  | (go_at_call 126; refine (uh HR KX).mono ?_; rintro e w5 ⟨rfl, hb5⟩; have K5 := K4.next hb5; clear hb5))
 all_goals
  go_wp2_with fail
  go_ret
  exact ⟨rfl, K5.bb⟩
theorem implCoalWith_any {w : World} {v0 v1 v2 v3 v4 : Value} {m : SmyV} {who b q : Int} (hq : coalWithOfV m who b = q) (h : Smy w v0 v1 v2 v3 v4 m) : cB 14 #[.agg #[v0, v1, v2, v3, v4, .int .i64 m.now], .int .i64 who, .int .i64 b] w (.int .i64 q) := by
 have Hq := hide hq
 clear hq
 obtain ⟨wn, Hwn⟩ := alAn (wantOfV m who)
 obtain ⟨a0, p0, a1, p1, a2, p2, a3, p3, a4, p4, rfl, rfl, rfl, rfl, rfl, K⟩ := Bx.new h
 clear h
 go_enter func14, ntmps14
 go_wp2_with fail
 generalize w.alloc (.cells (S6 a0 p0 a1 p1 a2 p2 a3 p3 a4 p4 m) 32) = W at *
 refine ck (implWantOf_any (uh Hwn) K.smy) fun w1 hb => ?_
 replace K := K.next hb
 clear hb
 rcases want_neg (uh Hwn) with rfl | ⟨hw0, hok, hwh⟩
 ·obtain rfl : q = -1 := (uh Hq).symm.trans (want_none (uh Hwn))
  go_wp2_with fail
  go_ret
  exact ⟨rfl, K.bb⟩
 have hwb : (wn == -1) = false := beq_eq_false_iff_ne.mpr (by omega)
 have hwd : ¬ wn = -1 := by omega
 obtain ⟨op, Hop⟩ := alAn (openB m b)
 obtain ⟨c0, c1, c2, c3, c4, c5⟩ := K.cells
 go_wp2_with fail
 refine ck (hasOpen_any (uh Hop) K.smy) fun w2 hb => ?_
 replace K := K.next hb
 clear hb c0 c1 c2 c3 c4 c5
 cases op
 ·obtain rfl : q = -1 := by rw [← uh Hq]; unfold coalWithOfV; rw [uh Hop]; simp
  go_wp2_with fail
  go_ret
  exact ⟨rfl, K.bb⟩
 obtain ⟨k, rfl, hk, hs⟩ := whoB_of hwh
 have hq2 : coalWithV m (k : Int) b = q := by rw [← uh Hq]; unfold coalWithOfV; rw [hok, hwh, uh Hop]; rfl
 have HL := hide (smy_loose hok)
 clear hwh Hq Hwn hok hwb hwd hw0
 obtain ⟨c0, c1, c2, c3, c4, c5⟩ := K.cells
 go_wp2_with fail
 refine ck (coalWith_k hq2 K.smy (uh HL).sane (uh HL).wants hk hs) fun w3 hb => ?_
 replace K := K.next hb
 clear hb c0 c1 c2 c3 c4 c5
 go_wp2_with fail
 go_ret
 exact ⟨rfl, K.bb⟩
open Go.ChangeShapes Go.WideShapes Go.ChangeAt Go.RowKit Go.Sort Go.Shelf Go.Proofs.Tryz
set_option maxRecDepth 100000
theorem m_place (x u f : Int) (w : World) : (method 414 225 (.agg #[.int .i64 x, .int .i64 u, .int .i64 f]) "loop.example/g00553/impl.place").run prog w = .ok (359, .agg #[.int .i64 x, .int .i64 u, .int .i64 f]) w := by kernel_rfl
theorem place_any (x u f : Int) (w : World) : cB 359 #[.agg #[.int .i64 x, .int .i64 u, .int .i64 f]] w (.int .i64 x) := by
 go_enter func359, ntmps359
 go_wp2_with fail
 go_ret
 exact ⟨rfl, (ba _ _)⟩
theorem m_takes (x u f : Int) (w : World) : (method 414 225 (.agg #[.int .i64 x, .int .i64 u, .int .i64 f]) "loop.example/g00553/impl.takes").run prog w = .ok (361, .agg #[.int .i64 x, .int .i64 u, .int .i64 f]) w := by kernel_rfl
theorem takes_any (n x u f : Int) (w : World) : cB 361 #[.agg #[.int .i64 x, .int .i64 u, .int .i64 f], .int .i64 n] w (.bool (fitsB n u f)) := by
 go_enter func361, ntmps361
 go_wp2_with fail
 have BB : Hid (Below w.heap.size w (w.alloc (.cells #[.int .i64 x, .int .i64 u, .int .i64 f] 225))) := hide ((ba _ _))
 refine ck (implFitsIn_any _ _ _ _) fun w1 hb => ?_
 replace BB := bt BB hb
 clear hb
 go_wp2_with fail
 go_ret
 exact ⟨rfl, uh BB⟩
theorem m_hasTooMuch (x u f : Int) (w : World) : (method 414 225 (.agg #[.int .i64 x, .int .i64 u, .int .i64 f]) "loop.example/g00553/impl.hasTooMuch").run prog w = .ok (358, .agg #[.int .i64 x, .int .i64 u, .int .i64 f]) w := by kernel_rfl
theorem hasTooMuch_any (x u f : Int) (w : World) : cB 358 #[.agg #[.int .i64 x, .int .i64 u, .int .i64 f]] w (.bool (muchB u f)) := by
 go_enter func358, ntmps358
 go_wp2_with fail
 have BB : Hid (Below w.heap.size w (w.alloc (.cells #[.int .i64 x, .int .i64 u, .int .i64 f] 225))) := hide ((ba _ _))
 refine ck (implTooMuch_any _ _ _) fun w1 hb => ?_
 replace BB := bt BB hb
 clear hb
 go_wp2_with fail
 go_ret
 exact ⟨rfl, uh BB⟩
theorem m_spare (x u f : Int) (w : World) : (method 414 225 (.agg #[.int .i64 x, .int .i64 u, .int .i64 f]) "loop.example/g00553/impl.spare").run prog w = .ok (360, .agg #[.int .i64 x, .int .i64 u, .int .i64 f]) w := by kernel_rfl
theorem spare_any (x u f : Int) (w : World) : cB 360 #[.agg #[.int .i64 x, .int .i64 u, .int .i64 f]] w (.int .i64 (spareV u f)) := by
 go_enter func360, ntmps360
 go_wp2_with fail
 have BB : Hid (Below w.heap.size w (w.alloc (.cells #[.int .i64 x, .int .i64 u, .int .i64 f] 225))) := hide ((ba _ _))
 refine ck (implSpareOf_any _ _ _) fun w1 hb => ?_
 replace BB := bt BB hb
 clear hb
 go_wp2_with fail
 go_ret
 exact ⟨rfl, uh BB⟩
theorem as_open (v : Value) (w : World) : (Instr.typeAssert (.iface 225 v) 184 88 true).run prog w = .ok (.tuple #[.iface 225 v, .bool true]) w := by kernel_rfl
theorem least_some {l : List String} (h : l ≠ []) : ∃ s, Instr.least l = some s := by
 cases l with
 | nil => exact absurd rfl h
 | cons s r => exact ⟨_, rfl⟩
theorem part_some (p : String → Bool) (f : String → String) {ms : List String} (h : ms ≠ []) : ∃ s, (match ms.partition p with | (u, e) => Instr.least e <|> Instr.least (u.map f)) = some s := by
 rw [List.partition_eq_filter_filter]
 dsimp only
 by_cases he : ms.filter (not ∘ p) = []
 ·have hu : ms.filter p ≠ [] := by
   intro e
   apply h
   have h1 := List.filter_eq_nil_iff.1 he
   have h2 := List.filter_eq_nil_iff.1 e
   refine List.eq_nil_iff_forall_not_mem.2 (fun x hx => ?_)
   have k1 := h1 x hx
   have k2 := h2 x hx
   simp only [Function.comp_apply] at k1
   cases hp : p x
   ·rw [hp] at k1; exact k1 rfl
   ·exact k2 hp
  obtain ⟨s, hs⟩ := least_some (l := (ms.filter p).map f) (by simpa using hu)
  rw [he, hs]
  exact ⟨s, rfl⟩
 ·obtain ⟨s, hs⟩ := least_some he
  rw [hs]
  exact ⟨s, rfl⟩
theorem missing_some {want : Array (String × TypeId)} {got : Array Method} (h : (want.toList.filter fun x => !got.any fun m => m.name == x.1 && m.sig == x.2).isEmpty = false) : ∃ s, Instr.missingMethod want got = some s := by
 refine part_some _ _ (ms := (want.toList.filter fun x => !got.any fun m => m.name == x.1 && m.sig == x.2).map (·.1)) ?_
 intro e
 rw [List.map_eq_nil_iff] at e
 rw [e] at h
 cases h
theorem assert_miss {P : Program} {w : World} {t xt asserted : TypeId} {v z : Value} {want : Array (String × TypeId)} {i j : TypeInfo} (hu : P.underlying asserted = some (.interface want)) (hi : P.info? t = some i) (hm : (want.toList.filter fun x => !i.methods.any fun m => m.name == x.1 && m.sig == x.2).isEmpty = false) (hj : P.info? asserted = some j) (hz : j.zero = some z) : (Instr.typeAssert (.iface t v) xt asserted true).run P w = .ok (.tuple #[z, .bool false]) w := by
 obtain ⟨s, hs⟩ := missing_some hm
 simp [Instr.typeAssert, run_underlying hu, typeInfo, hi, hs, zeroValue, hj, hz]
theorem closed_no : ((prog.info? 223).bind fun i => (prog.underlying 88).map fun d => match d with | .interface want => (want.toList.filter fun x => !i.methods.any fun m => m.name == x.1 && m.sig == x.2).isEmpty | _ => true) = some false := by kernel_rfl
theorem as_closed (v : Value) (w : World) : (Instr.typeAssert (.iface 223 v) 184 88 true).run prog w = .ok (.tuple #[.nilIface, .bool false]) w := by
 obtain ⟨j, hj, hz, _, _⟩ := parts_of infoBench
 have h := closed_no
 cases hi : prog.info? 223 with
 | none => rw [hi] at h; cases h
 | some i =>
  cases hu : prog.underlying 88 with
  | none => rw [hi, hu] at h; cases h
  | some d =>
   rw [hi, hu] at h
   cases d with
   | interface want => exact assert_miss hu hi (by simpa using h) hj hz
   | _ => cases h
def benchB (m : SmyV) (b : Int) : Value := if openB m b then .iface 225 (.agg #[.int .i64 b, .int .i64 (usedV m b (-1)), .int .i64 (forceV m.rooms b)]) else .iface 223 (.agg #[.int .i64 b])
theorem benchAt_any {w : World} {v0 v1 v2 v3 v4 : Value} {m : SmyV} {b : Int} (h : Smy w v0 v1 v2 v3 v4 m) (hW : Wants m) (hl : m.smiths.length ≤ 12) : cB 199 #[.agg #[v0, v1, v2, v3, v4, .int .i64 m.now], .int .i64 b] w (benchB m b) := by
 have HW := hide hW
 clear hW
 obtain ⟨op, hop⟩ := alAx (openB m b)
 have Hop := hide hop
 unfold benchB
 rw [hop]
 clear hop
 obtain ⟨us, hus⟩ := alAx (usedV m b (-1))
 have Hus := hide hus
 rw [hus]
 clear hus
 obtain ⟨a0, p0, a1, p1, a2, p2, a3, p3, a4, p4, rfl, rfl, rfl, rfl, rfl, K⟩ := Bx.new h
 clear h
 go_enter func199, ntmps199
 go_wp2_with fail
 generalize w.alloc (.cells (S6 a0 p0 a1 p1 a2 p2 a3 p3 a4 p4 m) 32) = W at *
 refine ck (hasOpen_any (uh Hop) K.smy) fun w1 hb => ?_
 replace K := K.next hb
 clear hb
 cases op
 ·go_wp2_with fail
  go_ret
  exact ⟨rfl, K.bb⟩
 clear Hop
 have HN := hide (fun (X : World) (hX : Below w1.heap.size w1 X) => usedAt_any (uh Hus) (K.smy.below hX) (uh HW) hl)
 have HF := hide (fun (X : World) (hX : Below w1.heap.size w1 X) => implForceOf_any b (K.smy.below hX).rooms)
 obtain ⟨c0, c1, c2, c3, c4, c5⟩ := K.cells
 have k0 := alCrg c0
 have k1 := alCrg c1
 have k2 := alCrg c2
 have k3 := alCrg c3
 have k4 := alCrg c4
 have k5 := alCrg c5
 go_wp2_with fail
 refine wq ?_
 repeat (go_big_quiet_step (first | exact alCro (uh HN _ (alBrg _ _ _)) | exact alCro (uh HF _ (alBrg _ _ _))))
 refine wpQuiet_nil ?_
 intro _ hw'
 obtain ⟨⟨dq, osq⟩, hw''⟩ := hw'
 subst hw''
 go_wp2_with fail
 go_ret
 exact ⟨rfl, K.bb.trans ((alBrg _ _ _).mono K.bb.size)⟩
attribute [local go_sem] as_open as_closed
theorem usableIn_any {w : World} {v0 v1 v2 v3 v4 : Value} {m : SmyV} (h : Smy w v0 v1 v2 v3 v4 m) (hW : Wants m) (hl : m.smiths.length ≤ 12) (hd : m.desks.length ≤ 1000) : Calls prog 140 #[.agg #[v0, v1, v2, v3, v4, .int .i64 m.now]] w fun e w' => ∃ v', e = .returned v' ∧ BenchesAt w.heap.size w' v' (openTo m m.desks.length) ∧ Below w.heap.size w w' := by
 have HW := hide hW
 clear hW
 have Hs := hide h
 obtain ⟨a0, p0, a1, p1, a2, p2, a3, p3, a4, p4, rfl, rfl, rfl, rfl, rfl, K⟩ := Bx.new h
 clear h
 go_enter func140, ntmps140
 go_wp2_with fail
 go_loopw [3, 11] (fun l i wr => ∃ k : Nat, k ≤ m.desks.length ∧ i = .int .i64 k ∧ BenchesAt (w.heap.size + 1) wr l (openTo m k) ∧ Bx w wr w.heap.size a0 p0 a1 p1 a2 p2 a3 p3 a4 p4 m) (fun _ i _ => m.desks.length - (intOf i).toNat)
 case atStart => exact ⟨0, alNzl _, rfl, recs_empty (by simp) (alNlr _), K.alloc _⟩
 case round =>
  obtain ⟨k, hk, rfl, hln, hK⟩ := hrel
  clear K
  have K := hK
  clear hK
  obtain ⟨la, lc, rfl⟩ := RecAt.shape hln
  have HL := hide hln
  have hfl := openTo_len m k
  clear hln
  by_cases hlt : k < m.desks.length
  ·have hlt1 : (k : Int) < (m.desks.length : Int) := by omega
   have HY := hide (fun hh => openTo_yes (m := m) (k := k) hh)
   have HN := hide (fun hh => openTo_no (m := m) (k := k) hh)
   have hop := open_at hlt
   obtain ⟨op, hq⟩ := alAx ((recAt m.desks k).1)
   rw [hq] at hop HY HN
   obtain ⟨bv, hbv⟩ := alAx (benchB m (k : Int))
   have HB := hide (fun (X : World) (hX : Smy X (.slice a0 m.rooms.length p0) (.slice a1 m.guilds.length p1) (.slice a2 m.smiths.length p2) (.slice a3 m.desks.length p3) (.slice a4 m.paces.length p4) m) => benchAt_any (b := (k : Int)) hX (uh HW) hl)
   rw [hbv] at HB
   unfold benchB at hbv
   rw [hop] at hbv
   unfold benchV at HY
   generalize usedV m (k : Int) (-1) = us at *
   generalize forceV m.rooms (k : Int) = fo at *
   subst hbv
   clear hq hop
   obtain ⟨c0, c1, c2, c3, c4, c5⟩ := K.cells
   go_wp2_with fail
   refine ck (uh HB _ K.smy) fun w1 hb => ?_
   replace K := K.next hb
   replace HL := hide (RecAt.later (uh HL) hb)
   clear hb c0 c1 c2 c3 c4 c5 HB
   cases op
   ·rw [if_neg (by simp)]
    go_wp2_with fail
    go_roundw
    case rel => exact ⟨k + 1, by omega, by go_num, by rw [uh HN (by trivial)]; exact uh HL, K⟩
    case measure => exact ms
   ·rw [if_pos rfl]
    have hsx := K.blk.lt
    go_wp2_with (at_builtin; refine wpList_append_bench rfl (.tmp 22) (.tmp 24) 85 underlying85 rfl (w.heap.size + 1) _ _ (openTo m k) [((k : Int), us, fo)] rfl rfl (RecAt.later (uh HL) ((ba _ _))) (recs_one ((k : Int), us, fo) rfl (alNlr _) (by omega)) (by simp; omega) (by simp; omega) ?_; intro u9 w9 hp9 hg9 hat9; have HP9 := hide hp9; have HG9 := hide hg9; clear hp9 hg9 hat9)
    have hgo : ∀ i, (Value.slice la (openTo m k).length lc).ownBlock = some i → w.heap.size ≤ i ∧ i ≠ w.heap.size := fun i e => by have := (RecAt.lt (uh HL) e).1; omega
    replace K := (K.alloc _).grown (uh Hs) (uh HG9) hgo
    go_wp2_with fail
    go_roundw
    case rel => exact ⟨k + 1, by omega, by go_num, by rw [uh HY (by trivial)]; exact uh HP9, K⟩
    case measure => exact ms
  ·obtain rfl : k = m.desks.length := by omega
   go_wp2_with fail
   go_ret
   exact ⟨_, rfl, RecAt.mono (uh HL) (Nat.le_succ _), K.bb⟩
theorem withoutWho_any {w : World} {a0 a1 a2 a3 a4 : Option Addr} {p0 p1 p2 p3 p4 : Nat} {m : SmyV} {k : Nat} (h : Smy w (.slice a0 m.rooms.length p0) (.slice a1 m.guilds.length p1) (.slice a2 m.smiths.length p2) (.slice a3 m.desks.length p3) (.slice a4 m.paces.length p4) m) (hl : m.smiths.length ≤ 1000) (hk : k < m.smiths.length) : Calls prog 141 #[.agg (S6 a0 p0 a1 p1 a2 p2 a3 p3 a4 p4 m), .int .i64 (k : Int)] w fun e w' => ∃ g gc, e = .returned (.agg (S6 a0 p0 a1 p1 (some ⟨g, 0, none⟩) gc a3 p3 a4 p4 m)) ∧ Smy w' (.slice a0 m.rooms.length p0) (.slice a1 m.guilds.length p1) (.slice (some ⟨g, 0, none⟩) m.smiths.length gc) (.slice a3 m.desks.length p3) (.slice a4 m.paces.length p4) (awayM m (k : Int)) ∧ Below w.heap.size w w' := by
 have Hv0 := hide h
 have hk1 : (k : Int) < (m.smiths.length : Int) := by omega
 clear h
 go_enter func141, ntmps141
 go_upto_region 1 with fail
 obtain ⟨W, hW, kb, kr, BB⟩ := two_boxes w 32 (S6 a0 p0 a1 p1 a2 p2 a3 p3 a4 p4 m) 32 E6
 have Hv := hide ((uh Hv0).below (uh BB))
 rw [hW]
 clear hW
 obtain ⟨c0, c1, c2, c3, c4, c5⟩ := (uh kb).c6
 go_wp2_with fail
 refine ck (smithsOf_any _ _ _ _ _ _ _ _ _ _ _ _ _ _ _ _ _) fun w1 hb => ?_
 replace kb := bl kb hb
 replace kr := bl kr hb
 replace Hv := hide ((uh Hv).below hb)
 replace BB := bt BB hb
 clear hb c0 c1 c2 c3 c4 c5
 go_wp2_with fail
 refine (copiedSmith_any (uh Hv).smiths hl).mono ?_
 rintro e w2 ⟨v2, rfl, hs, hb⟩
 have hlb := (uh kb).lt
 have hlr := (uh kr).lt
 have hlo := (uh BB).size
 replace kb := bl kb hb
 replace kr := bl kr hb
 replace BB := bt BB hb
 clear hb Hv
 obtain ⟨ga, gc, rfl⟩ := RecAt.shape hs
 obtain ⟨g, rfl, hg1, hg2, hcl, hfr⟩ := RecAt.view encSmith_len (by omega) hs rfl (by omega)
 have hgb : g ≠ w.heap.size := by omega
 have hgr : g ≠ w.heap.size + 1 := by omega
 have hbg : w.heap.size ≠ g := by omega
 have hrg : w.heap.size + 1 ≠ g := by omega
 have hwg : w.heap.size ≤ g := by omega
 have HS : Hid (SmithsAt (w.heap.size + 1) w2 (.slice (some ⟨g, 0, none⟩) m.smiths.length gc) (m.smiths.set k (recAt m.smiths k))) := hide (by rw [set_same hk]; exact RecAt.mono hs (by omega))
 have s0 := hcl k hk 0 _ rfl
 have f0 := hfr (k * 11)
 simp only [Nat.add_zero] at s0
 clear hcl hfr hs hg1
 obtain ⟨c0, c1, c2, c3, c4, c5⟩ := (uh kb).c6
 obtain ⟨q0, q1, q2, q3, q4, q5⟩ := (uh kb).f6
 obtain ⟨o0, o1, o2, o3, o4, o5⟩ := (uh kr).c6
 obtain ⟨t0, t1, t2, t3, t4, t5⟩ := (uh kr).f6
 go_wp2_with fail
 refine alBpr (v := .agg (S6 a0 p0 a1 p1 (some ⟨g, 0, none⟩) gc a3 p3 a4 p4 m)) (by simp [results, results141, go_sem, *]) rfl ⟨g, gc, rfl, ?_, ?_⟩
 ·have h1 : SmithsAt (w.heap.size + 1) (w2.setCell ⟨w.heap.size, 2, none⟩ (.slice (some ⟨g, 0, none⟩) m.smiths.length gc)) (.slice (some ⟨g, 0, none⟩) m.smiths.length gc) (m.smiths.set k (recAt m.smiths k)) := RecAt.same (uh HS) (fun i e => by cases e; exact heap_setCell_other _ _ _ _ hgb)
  have h2 := h1.put rfl hk (i := 0) (by omega) (.int .i64 1) (1, (recAt m.smiths k).2) rfl
  exact (uh Hv0).other (Below.put6 _ _ _ _ _ _ (((uh BB).setCell (alNlr _) _).setCell (by show w.heap.size ≤ g; omega) _) (Nat.le_succ _)) (RecAt.off6 (.slice a0 m.rooms.length p0) (.slice a1 m.guilds.length p1) (.slice (some ⟨g, 0, none⟩) m.smiths.length gc) (.slice a3 m.desks.length p3) (.slice a4 m.paces.length p4) (.int .i64 m.now) h2 (fun i e => by cases e; exact hgr))
 ·exact Below.put6 _ _ _ _ _ _ (((uh BB).setCell (alNlr _) _).setCell (by show w.heap.size ≤ g; omega) _) (Nat.le_succ _)
structure Asks (m : SmyV) (k : Nat) : Prop where
 sane : Sane m
 wants : Wants m
 hk : k < m.smiths.length
 hs : (recAt m.smiths k).1 ≠ 0
 may : 0 ≤ (recAt m.smiths k).2.2.2.1 ∧ (recAt m.smiths k).2.2.2.1 ≤ 255
theorem Loose.asks {m : SmyV} (h : Loose m) {k : Nat} (hk : k < m.smiths.length) (hs : (recAt m.smiths k).1 ≠ 0) : Asks m k := ⟨h.sane, h.wants, hk, hs, may_bd h hk hs⟩
theorem Asks.mem {m : SmyV} {k : Nat} (h : Asks m k) {x : BenchV} (hx : x ∈ openTo (awayM m (k : Int)) m.desks.length) : memB (recAt m.smiths k).2.2.2.1 x.1 = inMay m k x := by
 obtain ⟨b, hb, _, rfl⟩ := (openTo_mem _ x _).1 hx
 obtain ⟨y0, y1⟩ := h.may
 have h8 := h.sane.eight
 unfold memB inMay benchV
 rw [inB_t y0 y1, inB_t (show (0 : Int) ≤ (b : Int) by omega) (show (b : Int) ≤ 7 by omega)]
 rfl
theorem Asks.few {m : SmyV} {k : Nat} (h : Asks m k) : (mayTo m (k : Int) m.desks.length).length ≤ 8 := by
 have := h.sane.eight
 have := mayTo_len m (k : Int) m.desks.length
 omega
theorem chosen_isS (m : SmyV) (who : Int) : chosenV m who = if crowdB m || decide ((fittingL m who).length = 0) then (roomL (mayTo m who m.desks.length)).1 else (cheapL m who (fittingL m who)).1 := by
 unfold chosenV
 rw [may_most]
 cases hc : crowdB m
 ·by_cases hl : (fittingL m who).length = 0
  ·rw [if_neg (by simp [hl]), if_pos (by simp [hl])]
  ·rw [if_pos (by simp; omega), if_neg (by simp; intro e; rw [e] at hl; simp at hl)]
   rw [cheap_best m who (by omega) (fun x hx => by obtain ⟨b, _, rfl, _⟩ := fitL_mem hx; omega)]
 ·rfl
attribute [local go_sem] m_place
theorem benchesFor_q {w : World} {v0 v1 v2 v3 v4 : Value} {m : SmyV} {k : Nat} {q : List BenchV} (hq : (openTo (awayM m (k : Int)) m.desks.length).filter (inMay m k) = q) (h : Smy w v0 v1 v2 v3 v4 m) (hS : Sane m) (hT : Wants m) (hk : k < m.smiths.length) (hs : (recAt m.smiths k).1 ≠ 0) (hM : ∀ x : BenchV, x ∈ openTo (awayM m (k : Int)) m.desks.length → memB (recAt m.smiths k).2.2.2.1 x.1 = inMay m k x) : Calls prog 74 #[.agg #[v0, v1, v2, v3, v4, .int .i64 m.now], .int .i64 (k : Int)] w fun e w' => ∃ v', e = .returned v' ∧ BenchesAt w.heap.size w' v' q ∧ Below w.heap.size w w' := by
 have HF := hide hq
 clear hq
 have Hs := hide h
 obtain ⟨a0, p0, a1, p1, a2, p2, a3, p3, a4, p4, rfl, rfl, rfl, rfl, rfl, K⟩ := Bx.new h
 clear h
 have hl := hS.few
 have h8 := hS.eight
 have HM := hide hM
 have HU := hide (fun (g gc : Nat) (X : World) (hX : Smy X (.slice a0 m.rooms.length p0) (.slice a1 m.guilds.length p1) (.slice (some ⟨g, 0, none⟩) m.smiths.length gc) (.slice a3 m.desks.length p3) (.slice a4 m.paces.length p4) (awayM m (k : Int))) => usableIn_any (m := awayM m (k : Int)) hX (hT.away hk hs) (by rw [away_len]; exact hl) (show m.desks.length ≤ 1000 by omega))
 have hlen := openTo_len (awayM m (k : Int)) m.desks.length
 clear hS hT hM hs
 go_enter func74, ntmps74
 go_upto_region 2 with fail
 have HL : Hid (BenchesAt (w.heap.size + 1) ((w.alloc (.cells (S6 a0 p0 a1 p1 a2 p2 a3 p3 a4 p4 m) 32)).alloc (.cells #[] 88)) (.slice (some ⟨w.heap.size + 1, 0, none⟩) 0 0) []) := hide (recs_empty (by simp) (alNlr _))
 replace K := K.alloc (.cells #[] 88)
 generalize (w.alloc (.cells (S6 a0 p0 a1 p1 a2 p2 a3 p3 a4 p4 m) 32)).alloc (.cells #[] 88) = W at *
 obtain ⟨c0, c1, c2, c3, c4, c5⟩ := K.cells
 go_wp2_with fail
 refine (withoutWho_any K.smy (by omega) hk).mono ?_
 rintro e w2 ⟨g, gc, rfl, hsm, hb⟩
 replace K := K.next hb
 replace HL := hide (RecAt.later (uh HL) hb)
 have HA := hide hsm
 clear hb c0 c1 c2 c3 c4 c5 hsm
 go_wp2_with fail
 refine (uh HU g gc _ (uh HA)).mono ?_
 rintro e w3 ⟨v3, rfl, hu, hb⟩
 have hu2 : BenchesAt w2.heap.size w3 v3 (openTo (awayM m (k : Int)) m.desks.length) := hu
 have hlo2 : ∀ i, v3.ownBlock = some i → w2.heap.size ≤ i := fun i e => (RecAt.lt hu2 e).1
 have hsp : ∀ i, v3.ownBlock = some i → (Value.slice (some ⟨w.heap.size + 1, 0, none⟩) 0 0).ownBlock ≠ some i := fun i e e2 => by have := hlo2 i e; have := (RecAt.lt (uh HL) e2).2; omega
 replace K := K.next hb
 replace HL := hide (RecAt.later (uh HL) hb)
 clear hb HU HA hu hlo2
 generalize openTo (awayM m (k : Int)) m.desks.length = us at *
 obtain ⟨ua, uc, rfl⟩ := RecAt.shape hu2
 have HU := hide hu2
 have Hsp := hide hsp
 clear hu2 hsp
 have hus : us.length ≤ 8 := by omega
 go_wp2_with fail
 go_loopw [5, 14] (fun l i wr => ∃ j : Nat, j ≤ us.length ∧ i = .int .i64 j ∧ BenchesAt (w.heap.size + 1) wr l ((us.take j).filter (inMay m k)) ∧ BenchesAt w2.heap.size wr (.slice ua us.length uc) us ∧ (∀ i, (Value.slice ua us.length uc).ownBlock = some i → l.ownBlock ≠ some i) ∧ Bx w wr w.heap.size a0 p0 a1 p1 a2 p2 a3 p3 a4 p4 m) (fun _ i _ => us.length - (intOf i).toNat)
 case atStart => exact ⟨0, alNzl _, rfl, uh HL, uh HU, uh Hsp, K⟩
 case round =>
  obtain ⟨j, hj, rfl, hln, hun, hsp, hK⟩ := hrel
  clear K HL HU Hsp
  have K := hK
  clear hK
  obtain ⟨la, lc, rfl⟩ := RecAt.shape hln
  have HL := hide hln
  have HU := hide hun
  have Hsp := hide hsp
  have hfl : ((us.take j).filter (inMay m k)).length ≤ 8 := by have e1 := List.length_filter_le (inMay m k) (us.take j); have e2 : (us.take j).length ≤ us.length := (by simp; omega); omega
  clear hln hun hsp
  by_cases hlt : j < us.length
  ·have hlt1 : (j : Int) < (us.length : Int) := by omega
   have HY := hide (fun hh => filter_yes (p := inMay m k) hlt hh)
   have HN := hide (fun hh => filter_no (p := inMay m k) hlt hh)
   obtain ⟨q, hq⟩ := alAx (inMay m k (recAt us j))
   have hmm := uh HM _ (recAt_mem hlt)
   rw [hq] at HY HN hmm
   generalize (us.take j).filter (inMay m k) = ls at *
   obtain ⟨g, rfl, hgl, hgw, hcl, _⟩ := RecAt.view encBench_len (by omega) (uh HU) rfl (by omega)
   have z0 := bench_cell hcl hlt
   clear hcl hq
   generalize hx : recAt us j = x at *
   clear hx
   obtain ⟨bx, ux, fx⟩ := x
   simp only at z0 hmm
   obtain ⟨_, _, hse, _, _, r2⟩ := K.smy.smiths
   cases hse
   rcases r2 with e0 | ⟨sb, off, rfl, hbw, hcs⟩
   ·rw [e0] at hk; simp at hk
   obtain ⟨d0, d1, d2, d3, d4, d5, d6, d7, d8, d9, d10⟩ := smith_cells hcs hk
   clear hcs d0 d1 d2 d4 d5 d6 d7 d8 d9 d10
   have hk1 : (k : Int) < (m.smiths.length : Int) := by omega
   have HI := hide (fun X => Calls.bool_of (Calls.same_below' (implInSet_any (recAt m.smiths k).2.2.2.1 bx X)) hmm)
   clear hmm
   generalize hmy : (recAt m.smiths k).2.2.2.1 = my at *
   clear hmy
   go_upto_region 5 with fail
   have c2 := K.blk.cell (i := 2) (v := .slice (some ⟨sb, off, none⟩) m.smiths.length p2) rfl
   have k2 := alCrg c2
   have k3 := alCrg d3
   refine wq ?_
   repeat (go_big_quiet_step (first | exact alCro (place_any _ _ _ _) | exact alCro (uh HI _)))
   refine wqn fun wq hb => ?_
   replace K := K.next hb
   replace HL := hide (RecAt.later (uh HL) hb)
   replace HU := hide (RecAt.later (uh HU) hb)
   clear hb c2 k2 k3 d3 z0
   cases q
   ·go_wp2_with fail
    go_roundw
    case rel => exact ⟨j + 1, by omega, by go_num, by rw [uh HN (by trivial)]; exact uh HL, uh HU, uh Hsp, K⟩
    case measure => exact ms
   ·have hsx := K.blk.lt
    go_wp2_with (at_builtin; refine wpList_append_bench rfl (.tmp 27) (.tmp 29) 85 underlying85 rfl (w.heap.size + 1) _ _ ls [(bx, ux, fx)] rfl rfl (RecAt.later (uh HL) ((ba _ _))) (recs_one (bx, ux, fx) rfl (alNlr _) (by omega)) (by simp; omega) (by simp; omega) ?_; intro u9 w9 hp9 hg9 hat9; have HP9 := hide hp9; have HG9 := hide hg9; have HA9 := hide hat9; clear hp9 hg9 hat9)
    have hgo : ∀ i, (Value.slice la ls.length lc).ownBlock = some i → w.heap.size ≤ i ∧ i ≠ w.heap.size := fun i e => by have := (RecAt.lt (uh HL) e).1; omega
    replace K := (K.alloc _).grown (uh Hs) (uh HG9) hgo
    have hul := fun i e => (RecAt.lt (uh HU) (i := i) e).2
    have hsp9 : ∀ i, (Value.slice (some ⟨g, 0, none⟩) us.length uc).ownBlock = some i → u9.ownBlock ≠ some i := by
     intro i e e2
     rcases uh HA9 with h9 | h9
     ·rw [h9] at e2; exact uh Hsp i e e2
     ·rw [h9] at e2
      have := hul i e
      simp at e2
      omega
    replace HU := hide (RecAt.grown (RecAt.later (uh HU) ((ba _ _))) (uh HG9) (uh Hsp))
    go_wp2_with fail
    go_roundw
    case rel => exact ⟨j + 1, by omega, by go_num, by rw [uh HY (by trivial)]; exact uh HP9, uh HU, hsp9, K⟩
    case measure => exact ms
  ·obtain rfl : j = us.length := by omega
   have e9 : (us.take us.length).filter (inMay m k) = q := by rw [List.take_length]; exact uh HF
   have E9 := hide e9
   clear e9
   go_wp2_with fail
   go_ret
   exact ⟨_, rfl, by rw [← uh E9]; exact RecAt.mono (uh HL) (Nat.le_succ _), K.bb⟩
theorem benchesFor_any {w : World} {v0 v1 v2 v3 v4 : Value} {m : SmyV} {k : Nat} (h : Smy w v0 v1 v2 v3 v4 m) (A : Asks m k) : Calls prog 74 #[.agg #[v0, v1, v2, v3, v4, .int .i64 m.now], .int .i64 (k : Int)] w fun e w' => ∃ v', e = .returned v' ∧ BenchesAt w.heap.size w' v' (mayTo m (k : Int) m.desks.length) ∧ Below w.heap.size w w' := benchesFor_q (open_may m A.hk _) h A.sane A.wants A.hk A.hs (fun x hx => A.mem hx)
end Go.Proofs.YtgdpaigcmoifbaaGreat
