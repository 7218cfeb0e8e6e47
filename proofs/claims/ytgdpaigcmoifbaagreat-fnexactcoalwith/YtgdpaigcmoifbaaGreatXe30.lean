/- Part 30 of what the proof rests on. No condition but those that a theorem names. -/
import Derived.Test.YtgdpaigcmoifbaaGreatXe25
import Derived.Test.YtgdpaigcmoifbaaGreatXe27
namespace Go.Proofs.YtgdpaigcmoifbaaGreat
open Go.ChangeShapes Go.WideShapes Go.ChangeAt Go.RowKit Go.Sort Go.Proofs.Tryz
set_option linter.unusedVariables false
set_option maxRecDepth 100000
set_option maxHeartbeats 4000000 in
theorem specCoalWith_any {w : World} {v0 v1 v2 v3 v4 : Value} {m : SmyV} {who b q : Int} (hq : coalWithOfV m who b = q) (h : Smy w v0 v1 v2 v3 v4 m) : cB 15 #[.agg #[v0, v1, v2, v3, v4, .int .i64 m.now], .int .i64 who, .int .i64 b] w (.int .i64 q) := by
 have Hq := hide hq
 clear hq
 obtain ⟨ok, Hok⟩ := alAn (smyB m)
 obtain ⟨a0, p0, a1, p1, a2, p2, a3, p3, a4, p4, rfl, rfl, rfl, rfl, rfl, K⟩ := Bx.new h
 clear h
 go_enter func15, ntmps15
 go_wp2_with fail
 generalize w.alloc (.cells (S6 a0 p0 a1 p1 a2 p2 a3 p3 a4 p4 m) 32) = W at *
 refine ck (spec_q (uh Hok) K.smy) fun w1 hb => ?_
 replace K := K.next hb
 clear hb
 cases ok
 ·obtain rfl : q = -1 := by rw [← uh Hq]; unfold coalWithOfV; rw [uh Hok]; simp
  go_wp2_with fail
  go_ret
  exact ⟨rfl, K.bb⟩
 obtain ⟨qw, Hw⟩ := alAn (whoB m who)
 obtain ⟨c0, c1, c2, c3, c4, c5⟩ := K.cells
 go_wp2_with fail
 refine ck (l11Who_q (uh Hw) K.smy) fun w2 hb => ?_
 replace K := K.next hb
 clear hb c0 c1 c2 c3 c4 c5
 cases qw
 ·obtain rfl : q = -1 := by rw [← uh Hq]; unfold coalWithOfV; rw [uh Hw]; simp
  go_wp2_with fail
  go_ret
  exact ⟨rfl, K.bb⟩
 obtain ⟨qb, Hb⟩ := alAn (isBenchB m b)
 obtain ⟨c0, c1, c2, c3, c4, c5⟩ := K.cells
 go_wp2_with fail
 refine ck (l11Bench_q (uh Hb) K.smy) fun w3 hb => ?_
 replace K := K.next hb
 clear hb c0 c1 c2 c3 c4 c5
 have HO : Hid (openB m b = (isBenchB m b && (recAt m.desks b.toNat).1)) := hide (by unfold openB isBenchB; rw [has_in])
 cases qb
 ·obtain rfl : q = -1 := by rw [← uh Hq]; unfold coalWithOfV; rw [uh HO, uh Hb]; simp
  go_wp2_with fail
  go_ret
  exact ⟨rfl, K.bb⟩
 obtain ⟨k, rfl, hk, hs⟩ := whoB_of (uh Hw)
 have hbb : 0 ≤ b ∧ b < (m.desks.length : Int) := by have := inB_of (show inB b 0 ((m.desks.length : Int) - 1) = true from uh Hb); omega
 obtain ⟨bn, rfl⟩ : ∃ bn : Nat, b = bn := ⟨b.toNat, by omega⟩
 have hlt : bn < m.desks.length := by omega
 have hlt1 : (bn : Int) < (m.desks.length : Int) := by omega
 obtain ⟨_, _, hde, _, _, r3⟩ := K.smy.desks
 cases hde
 rcases r3 with e0 | ⟨db, off, rfl, hbw, hcl⟩
 ·rw [e0] at hlt; simp at hlt
 obtain ⟨d0, _, _⟩ := desk_cells hcl hlt
 clear hcl
 obtain ⟨op, hop⟩ := alAx ((recAt m.desks bn).1)
 have Hop := hide hop
 rw [hop] at d0
 clear hop
 obtain ⟨c0, c1, c2, c3, c4, c5⟩ := K.cells
 cases op
 ·obtain rfl : q = -1 := by rw [← uh Hq]; unfold coalWithOfV; rw [uh HO, alInc, uh Hop]; simp
  go_wp2_with fail
  go_ret
  exact ⟨rfl, K.bb⟩
 obtain rfl : q = coalWithV m (k : Int) (bn : Int) := by rw [← uh Hq]; unfold coalWithOfV; rw [uh Hok, uh Hw, uh HO, uh Hb, alInc, uh Hop]; rfl
 have HS := hide (smy_loose (uh Hok)).sane
 have hp := (few_of (smy_loose (uh Hok))).nums
 go_wp2_with fail
 refine ck (l13With_any (bn : Int) K.smy (uh HS) hp hk hs) fun w4 hb => ?_
 replace K := K.next hb
 clear hb c0 c1 c2 c3 c4 c5
 go_wp2_with fail
 go_ret
 exact ⟨rfl, K.bb⟩
end Go.Proofs.YtgdpaigcmoifbaaGreat
