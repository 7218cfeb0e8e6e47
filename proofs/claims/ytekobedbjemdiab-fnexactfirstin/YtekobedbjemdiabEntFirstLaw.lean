/- The exact law on FirstIn: whatever list of entries is handed in, the program answers as its model and leaves it as it was. No condition but that what is handed in can be read. -/
import Derived.Test.YtekobedbjemdiabEntTo
import Derived.Test.YtekobedbjemdiabEntFirst
namespace Go.Proofs.Ytekobedbjemdiab
open Go.ChangeShapes Go.WideShapes Go.ChangeAt Go.RowKit Go.Sort
set_option linter.unusedVariables false

set_option maxHeartbeats 4000000 in
theorem walkFnExactFirstIn (v : Value) (ps : List PaceV) (w : World) (h : IsPaces w v ps) :
    Calls Try.prog 3 #[v] w fun e w' => e = .returned (.bool true) ∧ Below w.heap.size w w' := by
  have Hv := hide h
  obtain ⟨a, cap, rfl, hc, hm, hr⟩ := h
  clear hr
  go_enter Try.func3, Try.ntmps3
  go_wp2_with fail
  refine (szEntryS_any _ _ _ _ (by omega) (by omega) (by omega) _).mono ?_
  by_cases hx : (1048576 : Int) - ps.length < 0
  · rw [szV_f hx]
    rintro e w1 ⟨rfl, rfl⟩
    go_wp2_with fail
    go_ret
    exact ⟨rfl, Below.refl _ _⟩
  rw [szV_t hx]
  rintro e w1 ⟨rfl, h1⟩
  subst w1
  go_wp2_with fail
  refine (toEntryS_any (unhide Hv) (by omega)).mono ?_
  rintro e w2 ⟨v1, rfl, hi1, hb2⟩
  obtain ⟨a1, cap1, rfl⟩ := hi1.shape
  have Hi1 := hide hi1
  have B2 := hide hb2
  clear hi1 hb2
  go_wp2_with fail
  refine (specFirstIn_any (unhide Hi1).paces).mono ?_
  generalize hF : firstV ps = F
  obtain ⟨⟨f, z⟩, ok⟩ := F
  have HF := hide hF
  clear hF
  simp only
  rintro e w3 ⟨rfl, hb3⟩
  have B3 := hide ((unhide B2).trans (hb3.mono (unhide B2).size))
  clear hb3 B2 Hi1
  go_wp2_with fail
  generalize hW : w3.alloc (.cells #[.int .i64 f, .int .i64 z] 25) = W3
  have d0 : W3.cell? ⟨w3.heap.size, 0, none⟩ = some (.int .i64 f) := by rw [← hW]; simp
  have d1 : W3.cell? ⟨w3.heap.size, 1, none⟩ = some (.int .i64 z) := by rw [← hW]; simp
  have hs3 : W3.heap.size = w3.heap.size + 1 := by rw [← hW]; simp
  have C3 : Hid (Below w.heap.size w W3) := hide (by rw [← hW]; exact (unhide B3).alloc (unhide B3).size _)
  clear hW B3
  refine (toEntryS_any ((unhide Hv).below (unhide C3)) (by omega)).mono ?_
  rintro e w4 ⟨v2, rfl, hi2, hb4⟩
  obtain ⟨a2, cap2, rfl⟩ := hi2.shape
  have hlt : w3.heap.size < W3.heap.size := by omega
  have e0 := (hb4.cell (p := ⟨w3.heap.size, 0, none⟩) hlt).trans d0
  have e1 := (hb4.cell (p := ⟨w3.heap.size, 1, none⟩) hlt).trans d1
  have hz4 := hb4.size
  have Hi2 := hide hi2
  have B4 := hide ((unhide C3).trans (hb4.mono (unhide C3).size))
  clear hi2 hb4 C3 d0 d1
  go_wp2_with fail
  refine (implFirstIn_any (unhide Hi2).paces).mono ?_
  rw [unhide HF]
  simp only
  rintro e w5 ⟨rfl, hb5⟩
  have hlt4 : w3.heap.size < w4.heap.size := by omega
  have f0 := (hb5.cell (p := ⟨w3.heap.size, 0, none⟩) hlt4).trans e0
  have f1 := (hb5.cell (p := ⟨w3.heap.size, 1, none⟩) hlt4).trans e1
  have hz5 := hb5.size
  have Hi5 := hide ((unhide Hi2).later hb5)
  have B5 := hide ((unhide B4).trans (hb5.mono (unhide B4).size))
  clear hb5 B4 Hi2 e0 e1
  have hlt5 : w3.heap.size < w5.heap.size := by omega
  have hne5 : w3.heap.size ≠ w5.heap.size := by omega
  have g0 : (w5.alloc (.cells #[.int .i64 f, .int .i64 z] 25)).cell? ⟨w3.heap.size, 0, none⟩ = some (.int .i64 f) := by rw [World.cell?_alloc_old _ _ _ hne5]; exact f0
  have g1 : (w5.alloc (.cells #[.int .i64 f, .int .i64 z] 25)).cell? ⟨w3.heap.size, 1, none⟩ = some (.int .i64 z) := by rw [World.cell?_alloc_old _ _ _ hne5]; exact f1
  go_wp2_with fail
  generalize hW : w5.alloc (.cells #[.int .i64 f, .int .i64 z] 25) = W5 at *
  have hs5 : W5.heap.size = w5.heap.size + 1 := by rw [← hW]; simp
  have C5 : Hid (Below w.heap.size w W5) := hide (by rw [← hW]; exact (unhide B5).alloc (unhide B5).size _)
  have Hi5' : Hid (EntsAt W3.heap.size W5 (.slice a2 ps.length cap2) ps) := hide (by rw [← hW]; exact (unhide Hi5).later ((Below.refl _ _).alloc (Nat.le_refl _) _))
  clear hW B5 Hi5 f0 f1
  refine (eqEntry_yes _ _ _).mono ?_
  rintro e w6 ⟨rfl, hb6⟩
  have Hi6 := hide ((unhide Hi5').later hb6)
  have B6 := hide ((unhide C5).trans (hb6.mono (unhide C5).size))
  clear hb6 C5 Hi5' g0 g1
  cases ok
  all_goals
    go_wp2_with fail
    refine (toEntryS_any ((unhide Hv).below (unhide B6)) (by omega)).mono ?_
    rintro e w7 ⟨v3, rfl, hi7, hb7⟩
    obtain ⟨a3, cap3, rfl⟩ := hi7.shape
    have Hi7 := hide hi7
    have Hi8 := hide ((unhide Hi6).later hb7)
    have B7 := hide ((unhide B6).trans (hb7.mono (unhide B6).size))
    clear hi7 hb7 Hi6 B6
    go_wp2_with fail
    refine (eqEntryS_yes (unhide Hi8).paces (unhide Hi7).paces).mono ?_
    rintro e w8 ⟨rfl, hb8⟩
    have B8 := hide ((unhide B7).trans (hb8.mono (unhide B7).size))
    clear hb8 B7
    go_wp2_with fail
    go_ret
    exact ⟨rfl, unhide B8⟩

end Go.Proofs.Ytekobedbjemdiab
