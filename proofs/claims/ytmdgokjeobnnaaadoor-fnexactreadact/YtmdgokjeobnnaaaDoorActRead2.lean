/- Contract of the program's ReadAct: it answers what the lists say and writes into no memory that was there. Conditions: the text is no longer than 2^20; the library's variables hold what the calls ask. -/
import Derived.Test.YtmdgokjeobnnaaaDoorActRead
import Derived.Test.YtmdgokjeobnnaaaDoorActShow
import Derived.Deep.RegionWith
namespace Go.Proofs.YtmdgokjeobnnaaaDoor
open Go.ChangeShapes Go.WideShapes Go.ChangeAt Go.RowKit Go.Sort
open Go.Lib (decDigits itoa join joinTail)
set_option linter.unusedVariables false
set_option linter.unusedSimpArgs false
set_option maxRecDepth 100000

theorem read_found {l w0 : Txt} {r : List Txt} {j : Nat} (hs : splitL 32 l = w0 :: r) (hj : j < 14) (hn : ∀ q : Nat, q < j → wordsL.getD q [] ≠ w0) (he : wordsL.getD j [] = w0) : readAct l = readNums r (tellsL.getD j []) ((j : Int) + 1, 0, 0, 0) := by
  unfold readAct
  rw [hs]
  show (wordFrom w0 wordsL 0).bind _ = _
  rw [word_first wordsL 0 j hn hj he, Nat.zero_add]; rfl
theorem read_lost {l w0 : Txt} {r : List Txt} (hs : splitL 32 l = w0 :: r) (hn : ∀ q : Nat, q < 14 → wordsL.getD q [] ≠ w0) : readAct l = none := by
  unfold readAct
  rw [hs]
  show (wordFrom w0 wordsL 0).bind _ = _
  rw [word_none wordsL 0 hn]; rfl
theorem str_from (g n cap : Nat) (W : World) : (Instr.slice 33 (.slice (some ⟨g, 0, none⟩) (n + 1) cap) (some (.int .i64 1)) none none).run Tryd.prog W = .ok (.slice (if cap = 1 then some ⟨g, 0, none⟩ else some ⟨g, 1, none⟩) n (cap - 1)) W := by
  obtain ⟨i0, hi, hz0, hz1, hz2⟩ := info_parts infoStr
  have hs : ∀ W, (sizeOf 9).run Tryd.prog W = .ok 1 W := fun W => by simp [sizeOf, typeInfo, hi, hz1]
  have hb : ∀ W, (Instr.sliceBounds true (n + 1) cap (some (.int .i64 1)) none none).run Tryd.prog W = .ok (1, n + 1, cap) W := fun W => by
    simp [Instr.sliceBounds, Instr.sliceBound, asIntOf]
    try omega
  simp only [Instr.slice, Sem.run_bind, run_underlying Tryd.underlying33, Result.andThen, hb, hs, Sem.run_pure]
  rfl
theorem res_is (Q : Option ActV) : ∃ (b0 b1 b2 b3 : Int) (bb : Bool), actRes Q = .tuple #[.agg #[.int .i64 b0, .int .i64 b1, .int .i64 b2, .int .i64 b3], .bool bb] := by
  cases Q with
  | none => exact ⟨_, _, _, _, _, rfl⟩
  | some a => exact ⟨_, _, _, _, _, rfl⟩
set_option maxHeartbeats 8000000 in
theorem implReadAct_any (l : Txt) (w : World) (he : Env w) (hl : l.length ≤ 1048576) :
    Calls Tryd.prog 9 #[.string (bs l)] w fun e w' => e = .returned (actRes (readAct l)) ∧ Below w.heap.size w w' := by
  obtain ⟨Q, hQ⟩ : ∃ q, readAct l = q := ⟨_, rfl⟩
  rw [hQ]
  have HQ := hide hQ
  obtain ⟨w0, r, hsp⟩ : ∃ w0 r, splitL 32 l = w0 :: r := by
    cases h : splitL 32 l with
    | nil => exact absurd h (splitL_ne _ _)
    | cons a b => exact ⟨a, b, rfl⟩
  have Hsz : Hid (∀ p ∈ w0 :: r, p.length ≤ 1048576) := hide (fun p hp => by rw [← hsp] at hp; have := splitFrom_size 32 l [] p hp; simp only [List.length_nil, Nat.zero_add] at this; omega)
  have hpl := (splitFrom_len 32 l []).2
  have hrl : r.length ≤ 1048576 := by have : (splitL 32 l).length ≤ l.length + 1 := hpl; rw [hsp] at this; simp at this; omega
  have Hsp := hide hsp
  have He := hide he
  have Hsplit := hide (fun w h => split_any l 32 w h hl)
  clear hQ he hpl hsp
  have W1 : Hid (Below w.heap.size w (w.alloc (.cells #[.int .i64 0, .int .i64 0, .int .i64 0, .int .i64 0] 25))) := hide ((Below.refl _ _).alloc (Nat.le_refl _) _)
  have k1 : Hid (Blk (w.alloc (.cells #[.int .i64 0, .int .i64 0, .int .i64 0, .int .i64 0] 25)) w.heap.size 25 #[.int .i64 0, .int .i64 0, .int .i64 0, .int .i64 0]) := hide (Blk.new w _ _)
  go_enter Tryd.func9, Tryd.ntmps9
  go_wp2_with fail
  generalize w.alloc (.cells #[.int .i64 0, .int .i64 0, .int .i64 0, .int .i64 0] 25) = W at *
  refine (unhide Hsplit W ((unhide He).below (unhide W1))).mono ?_
  rintro e w1 ⟨v, rfl, hst, hb⟩
  rw [unhide Hsp] at hst
  obtain ⟨va, vcap, rfl, hc, hcm, hrow⟩ := hst.view
  rcases hrow with h0 | ⟨g, rfl, hg0, hg, hcl⟩
  · cases h0
  replace k1 := bl k1 hb
  replace W1 := hide ((unhide W1).trans (hb.mono (unhide W1).size))
  have Hcl := hide hcl
  simp only [List.length_cons] at hc
  clear hb hst hcl hg0 Hsplit
  go_wp2_with fail
  refine (forms_any w1).mono ?_
  rintro e w2 ⟨g2, rfl, hF, hb⟩
  replace k1 := bl k1 hb
  replace W1 := hide ((unhide W1).trans (hb.mono (unhide W1).size))
  have Hcl2 : Hid (∀ j, j < (w0 :: r).length → w2.cell? ⟨g, j, none⟩ = some (.string (bs ((w0 :: r).getD j [])))) := hide (fun j hj => (hb.cell (p := ⟨g, j, none⟩) hg).trans (unhide Hcl j hj))
  have hg2 : g < w2.heap.size := Nat.lt_of_lt_of_le hg hb.size
  have HF := hide hF
  clear hb hF Hcl hg
  go_wp2_with fail
  go_loopw [11] (fun i wr => ∃ j : Nat, j ≤ 14 ∧ i = .int .i64 j ∧ (∀ q : Nat, q < j → wordsL.getD q [] ≠ w0) ∧ Below w2.heap.size w2 wr) (fun i _ => 14 - (intOf i).toNat)
  case atStart => exact ⟨0, by omega, rfl, fun q h => by omega, Below.refl _ _⟩
  case round =>
    obtain ⟨j, hj, rfl, hno, hb⟩ := hrel
    have Hno := hide hno
    have Hb := hide hb
    clear hno hb
    have hzW := (unhide W1).size
    have hzr := (unhide Hb).size
    by_cases hlt : j < 14
    · have hlt1 : (j : Int) < 14 := by omega
      have F := (unhide HF).below (unhide Hb)
      have q0 := F.kind j hlt
      have q1 := F.word j hlt
      obtain ⟨pv, q2, hpv⟩ := F.part j hlt
      obtain ⟨pa, pcap, rfl, hpp⟩ := hpv
      have Hpv : Hid (PartsAt wr (.slice pa (tellsL.getD j []).length pcap) (tellsL.getD j [])) := hide ⟨pa, pcap, rfl, hpp⟩
      have HT := hide (tells_ok j hlt).1
      have HL := hide (tells_len j hlt)
      have hfound : Hid (wordsL.getD j [] = w0 → readAct l = readNums r (tellsL.getD j []) ((j : Int) + 1, 0, 0, 0)) := hide (fun h => read_found (unhide Hsp) hlt (unhide Hno) h)
      obtain ⟨wd, hwd⟩ : ∃ x, wordsL.getD j [] = x := ⟨_, rfl⟩
      rw [hwd] at q1 hfound
      have Hwd := hide hwd
      generalize tellsL.getD j [] = t at *
      clear F hpp hwd
      have hl0 : g < wr.heap.size := by omega
      have hw0 := ((unhide Hb).cell (p := ⟨g, 0, none⟩) hg2).trans (unhide Hcl2 0 (by simp))
      simp only [List.getD_cons_zero] at hw0
      have hba : Below wr.heap.size wr (wr.alloc (.cells #[.int .i64 ((j : Int) + 1), .string (bs wd), .slice pa t.length pcap] 43)) := (Below.refl _ _).alloc (Nat.le_refl _) _
      have kf : Hid (Blk (wr.alloc (.cells #[.int .i64 ((j : Int) + 1), .string (bs wd), .slice pa t.length pcap] 43)) wr.heap.size 43 #[.int .i64 ((j : Int) + 1), .string (bs wd), .slice pa t.length pcap]) := hide (Blk.new wr _ _)
      have Hpv2 := hide ((unhide Hpv).below hba)
      have Hb2 := hide ((unhide Hb).trans (hba.mono hzr))
      have hw1 := (hba.cell (p := ⟨g, 0, none⟩) hl0).trans hw0
      go_upto_region 5 with fail
      clear hba q0 q1 q2 hw0 Hb Hpv
      generalize wr.alloc (.cells #[.int .i64 ((j : Int) + 1), .string (bs wd), .slice pa t.length pcap] 43) = W3 at *
      generalize wr.heap.size = fb at *
      have f1 := (unhide kf).cell (i := 1) (v := .string (bs wd)) rfl
      have r0 := cell_regrown f1
      have r1 := cell_regrown hw1
      refine wp_region_quiet_below (by kernel_rfl) (by kernel_rfl) ?_
      repeat (go_big_quiet_step (fail))
      refine wpQuiet_nil ?_
      intro _ hw'
      obtain ⟨⟨dq, osq⟩, hw''⟩ := hw'
      subst hw''
      have hb : Below W3.heap.size W3 (Go.Sort.grow (Go.redrawn W3 dq) osq) := below_regrown W3 dq osq
      generalize Go.Sort.grow (Go.redrawn W3 dq) osq = wq at *
      replace kf := bl kf hb
      have Hpv3 := hide ((unhide Hpv2).below hb)
      have Hb3 := hide ((unhide Hb2).trans (hb.mono (unhide Hb2).size))
      clear hb f1 hw1 r0 r1 Hpv2 Hb2
      by_cases hk : wd = w0
      · subst hk
        have hQ2 : Q = readNums r t ((j : Int) + 1, 0, 0, 0) := (unhide HQ).symm.trans (unhide hfound rfl)
        have HQ2 := hide hQ2
        have hst : ((bs wd).toList == (bs wd).toList) = true := by simp
        have HT2 : Hid (∀ w9, Below w2.heap.size w2 w9 → TxtsAt w9 (.slice (if vcap = 1 then some ⟨g, 0, none⟩ else some ⟨g, 1, none⟩) r.length (vcap - 1)) r) := hide (fun w9 h => ⟨_, _, rfl, fun i hi => ⟨g, 1, if_neg (by omega), Nat.lt_of_lt_of_le hg2 h.size, by
          have := (h.cell (p := ⟨g, i + 1, none⟩) hg2).trans (unhide Hcl2 (i + 1) (by simp; omega))
          rw [Nat.add_comm 1 i]
          simpa using this⟩⟩)
        replace k1 := bl k1 (unhide Hb3)
        replace W1 := hide ((unhide W1).trans ((unhide Hb3).mono hzW))
        have HR := hide (fun w9 (hb9 : Below wq.heap.size wq w9) => read_any (w := w9) ((j : Int) + 1) wd ((unhide Hpv3).below hb9) (unhide HT2 w9 ((unhide Hb3).trans (hb9.mono (unhide Hb3).size))) (unhide HT) (unhide HL) (fun p hp => unhide Hsz p (by simp [hp])) ((unhide He).below ((unhide W1).trans (hb9.mono (unhide W1).size))))
        rw [← hQ2] at HR
        have hfr := str_from g r.length vcap
        generalize (if vcap = 1 then some (⟨g, 0, none⟩ : Addr) else some ⟨g, 1, none⟩) = sa at *
        clear hQ2 hfound Hno HQ
        rw [hst]
        go_upto_region 6 with fail
        clear hst
        have c0 := (unhide kf).cell (i := 0) (v := .int .i64 ((j : Int) + 1)) rfl
        have c1 := (unhide kf).cell (i := 1) (v := .string (bs wd)) rfl
        have c2 := (unhide kf).cell (i := 2) (v := .slice pa t.length pcap) rfl
        obtain ⟨b0, b1, b2, b3, bb, hres⟩ := res_is Q
        rw [hres] at HR
        have HRes := hide hres
        clear hres
        have kd := bl k1 (Below.refl _ _).drew
        go_region_with (go_at_call 21; refine (unhide HR _ (Below.refl _ _).drew).mono ?_; rintro e w9 ⟨rfl, hb9⟩; have k9 := bl kd hb9; have z0 := (unhide k9).cell (i := 0) (v := .int .i64 0) rfl; have z1 := (unhide k9).cell (i := 1) (v := .int .i64 0) rfl; have z2 := (unhide k9).cell (i := 2) (v := .int .i64 0) rfl; have z3 := (unhide k9).cell (i := 3) (v := .int .i64 0) rfl; have f0 := (unhide k9).free 0; have f1 := (unhide k9).free 1; have f2 := (unhide k9).free 2; have f3 := (unhide k9).free 3; have HB9 : Hid (Below w.heap.size w w9) := hide ((unhide W1).trans (((Below.refl _ _).drew.trans hb9).mono (unhide W1).size)); clear hb9)
        all_goals
          go_wp2_with fail
          refine bodyPost_ret (v := .tuple #[.agg #[.int .i64 b0, .int .i64 b1, .int .i64 b2, .int .i64 b3], .bool bb]) (by simp [results, Tryd.results9, go_sem, *]) rfl ⟨by rw [unhide HRes], ?_⟩
          iterate 4 (refine Below.setCell ?_ (by show _ ≤ w.heap.size; omega) _)
          exact unhide HB9
      · have hst := bs_ne hk
        have Hk : Hid (wordsL.getD j [] ≠ w0) := hide (by rw [unhide Hwd]; exact hk)
        clear hk
        rw [hst]
        go_wp2_with fail
        go_roundw
        case rel => exact ⟨j + 1, by omega, by go_num, fun q hq => by
          by_cases e : q = j
          · rw [e]; exact unhide Hk
          · exact unhide Hno q (by omega), unhide Hb3⟩
        case measure => simp [intOf]; omega
    · obtain rfl : j = 14 := by omega
      have e1 : Q = none := (unhide HQ).symm.trans (read_lost (unhide Hsp) (unhide Hno))
      have E1 := hide e1
      replace k1 := bl k1 (unhide Hb)
      have hB : Below w.heap.size w wr := (unhide W1).trans ((unhide Hb).mono hzW)
      have HB := hide hB
      have z0 := (unhide k1).cell (i := 0) (v := .int .i64 0) rfl
      have z1 := (unhide k1).cell (i := 1) (v := .int .i64 0) rfl
      have z2 := (unhide k1).cell (i := 2) (v := .int .i64 0) rfl
      have z3 := (unhide k1).cell (i := 3) (v := .int .i64 0) rfl
      have f0 := (unhide k1).free 0
      have f1 := (unhide k1).free 1
      have f2 := (unhide k1).free 2
      have f3 := (unhide k1).free 3
      clear hB e1
      go_wp2_with fail
      refine bodyPost_ret (v := .tuple #[.agg #[.int .i64 0, .int .i64 0, .int .i64 0, .int .i64 0], .bool false]) (by simp [results, Tryd.results9, go_sem, *]) rfl ⟨by rw [unhide E1]; rfl, ?_⟩
      iterate 4 (refine Below.setCell ?_ (by show _ ≤ w.heap.size; omega) _)
      exact unhide HB

end Go.Proofs.YtmdgokjeobnnaaaDoor
