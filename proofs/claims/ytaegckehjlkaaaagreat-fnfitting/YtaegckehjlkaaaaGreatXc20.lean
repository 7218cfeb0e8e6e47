/- Part 20 of what the proof rests on. No condition but those that a theorem names. -/
import Derived.Test.YtaegckehjlkaaaaGreatXc19
set_option maxHeartbeats 8000000
set_option maxRecDepth 100000
namespace Go.Proofs.YtaegckehjlkaaaaGreat
open Go.ChangeShapes Go.WideShapes Go.ChangeAt Go.RowKit Go.Sort Go.Shelf
set_option linter.unusedVariables false
set_option linter.unusedSimpArgs false
set_option maxRecDepth 100000
theorem Mc (m:Z6) (who:Int):(RR m who).length<=8:=by
  unfold RR
  split
  · rename_i h
    simp only [Bool.and_eq_true] at h
    have:=(ZZ h.1).sane.eight
    have:=M8 m who m.desks.length
    omega
  · simp
theorem Gz (m:Z6) (who:Int):(Zp m who).length<=1000:=by
  rw [<-GA,List.length_map]
  have:=List.length_filter_le (Xg (YV m who)) (RR m who)
  have:=Mc m who
  omega
theorem C7 {m:Z6} {who:Int} {fs:List Int} (h:Zp m who=fs) (h0:¬ fs.length=0):∃ k:Nat,who=(k:Int)/\k<m.smiths.length:=by
  unfold Zp at h
  cases hc:(ZS m && Yg m who)
  · rw [hc] at h;subst h;simp at h0
  · simp only [Bool.and_eq_true] at hc
    obtain ⟨k,rfl,hk,_⟩:=Yz hc.2
    exact ⟨k,rfl,hk⟩
attribute [local go_sem] Pu De
theorem O2 {w : World} {v : Value} {n0 : Nat} {us : List YA} (h : YD n0 w v us) (hl : us.length ≤ 1000) : Calls Tryz.prog 86 #[v] w fun e w' => e = .returned (.int .i64 (SX us).1) ∧ Below w.heap.size w w' := by
  obtain ⟨ua, uc, rfl⟩ := RecAt.shape h
  have H0 := Z9 h
  clear h
  go_enter Tryz.func86, Tryz.ntmps86
  go_wp2_with fail
  go_loopw [3, 4, 9] (fun c t i wr => ∃ j : Nat, j ≤ us.length ∧ i = .int .i64 j ∧ c = .int .i64 (SX (us.take j)).1 ∧ t = .int .i64 (SX (us.take j)).2 ∧ Below w.heap.size w wr) (fun _ _ i _ => us.length - (intOf i).toNat)
  case atStart => exact ⟨0, Nat.zero_le _, rfl, rfl, rfl, Below.refl _ _⟩
  case round =>
    obtain ⟨j, hj, rfl, rfl, rfl, hb⟩ := hrel
    have HU := Z9 (RecAt.later (uh H0) hb)
    have BB := Z9 hb
    clear hb
    by_cases hlt : j < us.length
    · have hlt1 : (j : Int) < (us.length : Int) := by omega
      have HR := Z9 (F0 hlt)
      generalize hcm : SX (us.take j) = cm at *
      clear hcm
      obtain ⟨ch, mo⟩ := cm
      obtain ⟨g, rfl, hgl, hgw, hcl, _⟩ := RecAt.view WN (by omega) (uh HU) rfl (by omega)
      have z0 := Ts hcl hlt
      clear hcl
      generalize hx : Z8 us j = x at *
      clear hx
      obtain ⟨bx, ux, fx⟩ := x
      simp only at z0
      unfold Ry at HR
      simp only at HR ⊢
      by_cases h1 : ch = -1
      · subst h1
        rw [if_pos (.inl rfl)] at HR
        go_upto_region 6 with fail
        go_wp2_with (first | (go_at_call 341; refine (Su _ _ _ _).mono ?_; rintro e w1 ⟨rfl, hb⟩; replace BB := bt BB hb; clear hb) | (go_at_call 342; refine (Np _ _ _ _).mono ?_; rintro e w2 ⟨rfl, hb⟩; replace BB := bt BB hb; clear hb))
        go_roundw
        case rel => exact ⟨j + 1, by omega, by go_num, by rw [uh HR], by rw [uh HR], uh BB⟩
        case measure => simp [intOf]; omega
      · have h1b : (ch == -1) = false := beq_eq_false_iff_ne.mpr h1
        obtain ⟨sp, hsp⟩ : ∃ x, Yi ux fx = x := ⟨_, rfl⟩
        have HSP := Z9 (fun X => Calls.int_of (Np bx ux fx X) hsp)
        rw [hsp] at HR
        clear hsp
        go_upto_region 5 with fail
        go_wp2_with fail
        refine (uh HSP _).mono ?_
        rintro e w1 ⟨rfl, hb⟩
        replace BB := bt BB hb
        clear hb
        by_cases h2 : mo < sp
        · rw [if_pos (.inr h2)] at HR
          go_upto_region 6 with fail
          go_wp2_with (first | (go_at_call 341; refine (Su _ _ _ _).mono ?_; rintro e w2 ⟨rfl, hb⟩; replace BB := bt BB hb; clear hb) | (go_at_call 342; refine (uh HSP _).mono ?_; rintro e w3 ⟨rfl, hb⟩; replace BB := bt BB hb; clear hb))
          go_roundw
          case rel => exact ⟨j + 1, by omega, by go_num, by rw [uh HR], by rw [uh HR], uh BB⟩
          case measure => simp [intOf]; omega
        · rw [if_neg (by rintro (e | e); · exact h1 e
                         · exact h2 e)] at HR
          go_wp2_with fail
          go_roundw
          case rel => exact ⟨j + 1, by omega, by go_num, by rw [uh HR], by rw [uh HR], uh BB⟩
          case measure => simp [intOf]; omega
    · obtain rfl : j = us.length := by omega
      rw [List.take_length]
      go_wp2_with fail
      go_ret
      exact ⟨rfl, uh BB⟩
theorem PC {w : World} {v0 v1 v2 v3 v4 : Value} {m : Z6} {k n0 : Nat} {v : Value} {fs : List Int} (h : Smy w v0 v1 v2 v3 v4 m) (hk : k < m.smiths.length) (hf : NumsAt n0 w v fs) (hl : fs.length ≤ 1000) (ho : ∀ x ∈ fs, Zi m (k : Int) x = ZX m (k : Int) x) : Calls Tryz.prog 87 #[.agg #[v0, v1, v2, v3, v4, .int .i64 m.now], .int .i64 (k : Int), v] w fun e w' => e = .returned (.int .i64 (Vy m (k : Int) fs).1) ∧ Below w.heap.size w w' := by
  obtain ⟨ua, uc, rfl⟩ := RecAt.shape hf
  have HO := Z9 ho
  clear ho
  have H0 := Z9 (RecAt.later hf ((Below.refl _ _).alloc (Nat.le_refl _) (.cells #[v0, v1, v2, v3, v4, .int .i64 m.now] 32)))
  clear hf
  obtain ⟨a0, p0, a1, p1, a2, p2, a3, p3, a4, p4, rfl, rfl, rfl, rfl, rfl, K⟩ := Bx.new h
  clear h
  go_enter Tryz.func87, Tryz.ntmps87
  go_wp2_with fail
  generalize w.alloc (.cells #[.slice a0 m.rooms.length p0, .slice a1 m.guilds.length p1, .slice a2 m.smiths.length p2, .slice a3 m.desks.length p3, .slice a4 m.paces.length p4, .int .i64 m.now] 32) = W at *
  go_loopw [7, 8, 14] (fun c t i wr => ∃ j : Nat, j ≤ fs.length ∧ i = .int .i64 j ∧ c = .int .i64 (Vy m (k : Int) (fs.take j)).1 ∧ t = .int .i64 (Vy m (k : Int) (fs.take j)).2 ∧ Bx w wr w.heap.size a0 p0 a1 p1 a2 p2 a3 p3 a4 p4 m ∧ Below W.heap.size W wr) (fun _ _ i _ => fs.length - (intOf i).toNat)
  case atStart => exact ⟨0, Nat.zero_le _, rfl, rfl, rfl, K, Below.refl _ _⟩
  case round =>
    obtain ⟨j, hj, rfl, rfl, rfl, hK, hb⟩ := hrel
    clear K
    have K := hK
    have HU := Z9 (RecAt.later (uh H0) hb)
    have BB := Z9 hb
    clear hb hK
    by_cases hlt : j < fs.length
    · have hlt1 : (j : Int) < (fs.length : Int) := by omega
      have HR := Z9 (Ip (m := m) (who := (k : Int)) hlt)
      have Hcw := Z9 (uh HO _ (Xn hlt))
      obtain ⟨g, rfl, hgl, hgw, hcl, _⟩ := RecAt.view YK (by omega) (uh HU) rfl (by omega)
      have z0 := hcl j hlt 0 _ rfl
      simp only [Nat.mul_one, Nat.add_zero] at z0
      clear hcl
      generalize hx : Z8 fs j = bx at *
      clear hx
      generalize hcm : Vy m (k : Int) (fs.take j) = cm at *
      clear hcm
      obtain ⟨ch, mo⟩ := cm
      unfold XC at HR
      rw [Int.toNat_natCast] at HR
      simp only at HR ⊢
      generalize ZX m (k : Int) bx = cw at *
      obtain ⟨c0, c1, c2, c3, c4, c5⟩ := K.cells
      go_wp2_with fail
      refine (Qx (uh Hcw) K.smy).mono ?_
      rintro e w1 ⟨rfl, hb⟩
      replace K := K.next hb
      replace BB := bt BB hb
      clear hb c0 c1 c2 c3 c4 c5 z0 HU Hcw
      by_cases h1 : ch = -1
      · subst h1
        rw [if_pos (.inl rfl)] at HR
        go_wp2_with fail
        go_roundw
        case rel => exact ⟨j + 1, by omega, by go_num, by rw [uh HR], by rw [uh HR], K, uh BB⟩
        case measure => simp [intOf]; omega
      have h1b : (ch == -1) = false := beq_eq_false_iff_ne.mpr h1
      by_cases h2 : cw < mo
      · rw [if_pos (.inr (.inl h2))] at HR
        go_wp2_with fail
        go_roundw
        case rel => exact ⟨j + 1, by omega, by go_num, by rw [uh HR], by rw [uh HR], K, uh BB⟩
        case measure => simp [intOf]; omega
      by_cases h3 : cw = mo
      · have h3b : (cw == mo) = true := beq_iff_eq.mpr h3
        have hk1 : (k : Int) < (m.smiths.length : Int) := by omega
        obtain ⟨_, _, hse, _, _, r2⟩ := K.smy.smiths
        cases hse
        rcases r2 with e0 | ⟨sb, off, rfl, hbw, hcs⟩
        · rw [e0] at hk; simp at hk
        obtain ⟨d0, d1, d2, d3, d4, d5, d6, d7, d8, d9, d10⟩ := ZE hcs hk
        have c2 := K.blk.cell (i := 2) (v := .slice (some ⟨sb, off, none⟩) m.smiths.length p2) rfl
        clear hcs d0 d2 d3 d4 d5 d6 d7 d8 d9 d10
        generalize (Z8 m.smiths k).2.1 = own at *
        subst h3
        clear h3b
        by_cases h4 : bx = own
        · have h4b : (bx == own) = true := beq_iff_eq.mpr h4
          rw [if_pos (.inr (.inr ⟨rfl, h4⟩))] at HR
          subst h4
          go_wp2_with fail
          go_roundw
          case rel => exact ⟨j + 1, by omega, by go_num, by rw [uh HR], by rw [uh HR], K, uh BB⟩
          case measure => simp [intOf]; omega
        · have h4b : (bx == own) = false := beq_eq_false_iff_ne.mpr h4
          rw [if_neg (by rintro (e | e | ⟨_, e⟩); · exact h1 e
                         · exact h2 e
                         · exact h4 e)] at HR
          go_wp2_with fail
          go_roundw
          case rel => exact ⟨j + 1, by omega, by go_num, by rw [uh HR], by rw [uh HR], K, uh BB⟩
          case measure => simp [intOf]; omega
      · have h3b : (cw == mo) = false := beq_eq_false_iff_ne.mpr h3
        rw [if_neg (by rintro (e | e | ⟨e, _⟩); · exact h1 e
                       · exact h2 e
                       · exact h3 e)] at HR
        go_wp2_with fail
        go_roundw
        case rel => exact ⟨j + 1, by omega, by go_num, by rw [uh HR], by rw [uh HR], K, uh BB⟩
        case measure => simp [intOf]; omega
    · obtain rfl : j = fs.length := by omega
      rw [List.take_length]
      go_wp2_with fail
      go_ret
      exact ⟨rfl, K.bb⟩
attribute [local go_sem] Pu
attribute [local go_sem] Mm
theorem Te {w:World} {v0 v1 v2 v3 v4:Value} {m:Z6} {q:Bool} (hq:Yo m=q) (h:Smy w v0 v1 v2 v3 v4 m):Calls Tryz.prog 39 #[.agg #[v0,v1,v2,v3,v4,.int .i64 m.now]] w fun e w'=>e= .returned (.bool q)/\Below w.heap.size w w':=by
  have Hq:=Z9 hq
  clear hq
  obtain ⟨ok,hok⟩:∃ q,ZS m=q:=⟨_,rfl⟩
  have Hok:=Z9 hok
  clear hok
  obtain ⟨a0,p0,a1,p1,a2,p2,a3,p3,a4,p4,rfl,rfl,rfl,rfl,rfl,K⟩:=Bx.new h
  clear h
  go_enter Tryz.func39,Tryz.ntmps39
  go_wp2_with fail
  generalize w.alloc (.cells #[.slice a0 m.rooms.length p0,.slice a1 m.guilds.length p1,.slice a2 m.smiths.length p2,.slice a3 m.desks.length p3,.slice a4 m.paces.length p4,.int .i64 m.now] 32)=W at *
  refine (SL _ _ _ _ _ _ _ _ (uh Hok) K.smy).mono ?_
  rintro e w1 ⟨rfl,hb⟩
  replace K:=K.next hb
  clear hb
  cases ok
  · obtain rfl:q=false:=by rw [<-uh Hq];unfold Yo;rw [uh Hok];rfl
    go_wp2_with fail
    go_ret
    exact ⟨rfl,K.bb⟩
  have Hq2:Hid ((XW m m.desks.length).any (fun x=>WK x.2.1 x.2.2)=q):=Z9 (by rw [Fb,<-uh Hq];unfold Yo;rw [uh Hok];rfl)
  clear Hq
  have HLo:=Z9 (ZZ (uh Hok))
  have hl:=RC (uh Hok)
  have h8:=(uh HLo).sane.eight
  have hfl:=TH m m.desks.length
  obtain ⟨c0,c1,c2,c3,c4,c5⟩:=K.cells
  go_wp2_with fail
  refine (RI K.smy (uh HLo).wants hl (by omega)).mono ?_
  rintro e w2 ⟨v2,rfl,hu,hb⟩
  replace K:=K.next hb
  clear hb c0 c1 c2 c3 c4 c5
  generalize XW m m.desks.length=us at *
  obtain ⟨ua,uc,rfl⟩:=RecAt.shape hu
  have H0:=Z9 hu
  clear hu
  go_wp2_with fail
  go_loopw [11] (fun i wr=> ∃ j:Nat,j<=us.length/\i= .int .i64 j/\(∀ i,i<j->(fun x:YA=>WK x.2.1 x.2.2) (Z8 us i)=false)/\Bx w wr w.heap.size a0 p0 a1 p1 a2 p2 a3 p3 a4 p4 m/\Below w2.heap.size w2 wr) (fun i _=>us.length-(intOf i).toNat)
  case atStart=>exact ⟨0,Nat.zero_le _,rfl,fun i hi=>by omega,K,Below.refl _ _⟩
  case round=>
    obtain ⟨j,hj,rfl,hno,hK,hb⟩:=hrel
    clear K
    have K:=hK
    have HU:=Z9 (RecAt.later (uh H0) hb)
    have BB:=Z9 hb
    have Hno:=Z9 hno
    clear hb hK hno
    by_cases hlt:j<us.length
    · have hlt1:(j:Int)<(us.length:Int):=by omega
      obtain ⟨pq,hpq⟩:∃ q,(fun x:YA=>WK x.2.1 x.2.2) (Z8 us j)=q:=⟨_,rfl⟩
      have HY:=Z9 (fun hh:pq=true=>C0 hlt (p:=(fun x:YA=>WK x.2.1 x.2.2)) (hpq.trans hh))
      have HX:Hid (pq=false-> ∀ i,i<j+1->(fun x:YA=>WK x.2.1 x.2.2) (Z8 us i)=false):=Z9 (fun hh i hi=>by
        by_cases e:i=j
        · rw [e,hpq,hh]
        · exact uh Hno i (by omega))
      have Hpq:=Z9 hpq
      clear hpq
      obtain ⟨g,rfl,hgl,hgw,hcl,_⟩:=RecAt.view WN (by omega) (uh HU) rfl (by omega)
      have z0:=Ts hcl hlt
      clear hcl
      generalize hx:Z8 us j=x at *
      clear hx
      obtain ⟨bx,ux,fx⟩:=x
      simp only at z0
      go_upto_region 6 with fail
      go_wp2_with fail
      refine (Calls.bool_of (Ov _ _ _ _) (uh Hpq)).mono ?_
      rintro e w3 ⟨rfl,hb⟩
      replace K:=K.next hb
      replace BB:=bt BB hb
      clear hb z0
      cases pq
      · go_wp2_with fail
        go_roundw
        case rel=>exact ⟨j+1,by omega,by go_num,uh HX (by trivial),K,uh BB⟩
        case measure=>simp [intOf];omega
      · obtain rfl:q=true:=(uh Hq2).symm.trans (uh HY (by trivial))
        go_wp2_with fail
        go_ret
        exact ⟨rfl,K.bb⟩
    · obtain rfl:j=us.length:=by omega
      obtain rfl:q=false:=(uh Hq2).symm.trans (CC (uh Hno))
      go_wp2_with fail
      go_ret
      exact ⟨rfl,K.bb⟩
attribute [local go_sem] Pu Df
theorem DE {wn:Int} {us:List YA} {j:Nat} (hj:j<us.length) (h:Xg wn (Z8 us j)=true):((us.take (j+1)).filter (Xg wn)).map (·.1)=((us.take j).filter (Xg wn)).map (·.1)++[(Z8 us j).1]:=by rw [Om hj h,List.map_append];rfl
theorem DF {wn:Int} {us:List YA} {j:Nat} (hj:j<us.length) (h:Xg wn (Z8 us j)=false):((us.take (j+1)).filter (Xg wn)).map (·.1)=((us.take j).filter (Xg wn)).map (·.1):=by rw [MQ hj h]
theorem PG {w : World} {v0 v1 v2 v3 v4 : Value} {m : Z6} {who : Int} {q : List Int} (hq : Zp m who = q) (h : Smy w v0 v1 v2 v3 v4 m) : Calls Tryz.prog 26 #[.agg #[v0, v1, v2, v3, v4, .int .i64 m.now], .int .i64 who] w fun e w' => ∃ v', e = .returned v' ∧ NumsAt w.heap.size w' v' q ∧ Below w.heap.size w w' := by
  rw [← GA] at hq
  have hfl := Mc m who
  obtain ⟨wn, hwn⟩ : ∃ x, YV m who = x := ⟨_, rfl⟩
  rw [hwn] at hq
  have Hwn := Z9 hwn
  have Hq := Z9 hq
  clear hwn hq
  have Hs := Z9 h
  obtain ⟨a0, p0, a1, p1, a2, p2, a3, p3, a4, p4, rfl, rfl, rfl, rfl, rfl, K⟩ := Bx.new h
  clear h
  go_enter Tryz.func26, Tryz.ntmps26
  go_wp2_with fail
  generalize w.alloc (.cells #[.slice a0 m.rooms.length p0, .slice a1 m.guilds.length p1, .slice a2 m.smiths.length p2, .slice a3 m.desks.length p3, .slice a4 m.paces.length p4, .int .i64 m.now] 32) = W at *
  refine (UR (uh Hwn) K.smy).mono ?_
  rintro e w1 ⟨rfl, hb⟩
  replace K := K.next hb
  clear hb Hwn
  obtain ⟨c0, c1, c2, c3, c4, c5⟩ := K.cells
  have hsz := K.blk.lt
  go_wp2_with fail
  clear c0 c1 c2 c3 c4 c5
  have HL : Hid (NumsAt (w.heap.size + 1) (w1.alloc (.cells #[] 2)) (.slice (some ⟨w1.heap.size, 0, none⟩) 0 0) []) := Z9 (YZ rfl (by omega))
  replace K := K.alloc (.cells #[] 2)
  generalize w1.alloc (.cells #[] 2) = W1 at *
  generalize w1.heap.size = lb at *
  refine (Sz (who := who) K.smy).mono ?_
  rintro e w2 ⟨v2, rfl, hu, hb⟩
  have hsp : ∀ i, v2.ownBlock = some i → (Value.slice (some ⟨lb, 0, none⟩) 0 0).ownBlock ≠ some i := fun i e e2 => by have := (RecAt.lt hu e).1; have := (RecAt.lt (uh HL) e2).2; omega
  have hu2 : YD W1.heap.size w2 v2 (RR m who) := hu
  replace K := K.next hb
  replace HL := Z9 (RecAt.later (uh HL) hb)
  clear hb hu
  generalize RR m who = us at *
  obtain ⟨ua, uc, rfl⟩ := RecAt.shape hu2
  have HU := Z9 hu2
  have Hsp := Z9 hsp
  clear hu2 hsp
  go_wp2_with fail
  go_loopw [6, 17] (fun l i wr => ∃ j : Nat, j ≤ us.length ∧ i = .int .i64 j ∧ NumsAt (w.heap.size + 1) wr l (((us.take j).filter (Xg wn)).map (·.1)) ∧ YD W1.heap.size wr (.slice ua us.length uc) us ∧ (∀ i, (Value.slice ua us.length uc).ownBlock = some i → l.ownBlock ≠ some i) ∧ Bx w wr w.heap.size a0 p0 a1 p1 a2 p2 a3 p3 a4 p4 m) (fun _ i _ => us.length - (intOf i).toNat)
  case atStart => exact ⟨0, Nat.zero_le _, rfl, uh HL, uh HU, uh Hsp, K⟩
  case round =>
    obtain ⟨j, hj, rfl, hln, hun, hsp, hK⟩ := hrel
    clear K HL HU Hsp
    have K := hK
    clear hK
    obtain ⟨la, lc, rfl⟩ := RecAt.shape hln
    have HL := Z9 hln
    have HU := Z9 hun
    have Hsp := Z9 hsp
    have hgl9 : (((us.take j).filter (Xg wn)).map (·.1)).length ≤ 8 := by have e1 := List.length_filter_le (Xg wn) (us.take j); have e2 : (us.take j).length ≤ us.length := (by simp; omega); simp only [List.length_map]; omega
    clear hln hun hsp
    by_cases hlt : j < us.length
    · have hlt1 : (j : Int) < (us.length : Int) := by omega
      have HY := Z9 (fun hh => DE (wn := wn) hlt hh)
      have HN := Z9 (fun hh => DF (wn := wn) hlt hh)
      obtain ⟨tq, htq⟩ : ∃ q, Xg wn (Z8 us j) = q := ⟨_, rfl⟩
      rw [htq] at HY HN
      have Htq := Z9 htq
      clear htq
      generalize ((us.take j).filter (Xg wn)).map (·.1) = ls at *
      obtain ⟨g, rfl, hgl, hgw, hcl, _⟩ := RecAt.view WN (by omega) (uh HU) rfl (by omega)
      have z0 := Ts hcl hlt
      clear hcl
      generalize hx : Z8 us j = x at *
      clear hx
      obtain ⟨bx, ux, fx⟩ := x
      simp only at z0
      go_upto_region 6 with fail
      go_wp2_with fail
      refine (Calls.bool_of (Gb wn bx ux fx _) (uh Htq)).mono ?_
      rintro e w3 ⟨rfl, hb⟩
      replace K := K.next hb
      replace HL := Z9 (RecAt.later (uh HL) hb)
      replace HU := Z9 (RecAt.later (uh HU) hb)
      clear hb z0
      cases tq
      · go_wp2_with fail
        go_roundw
        case rel => exact ⟨j + 1, by omega, by go_num, by rw [uh HN (by trivial)]; exact uh HL, uh HU, uh Hsp, K⟩
        case measure => simp [intOf]; omega
      · go_wp2_with fail
        refine (Su _ _ _ _).mono ?_
        rintro e w4 ⟨rfl, hb⟩
        replace K := K.next hb
        replace HL := Z9 (RecAt.later (uh HL) hb)
        replace HU := Z9 (RecAt.later (uh HU) hb)
        clear hb
        have hsx := K.blk.lt
        go_wp2_with (at_builtin; refine ZH tyN rfl (.tmp 24) (.tmp 27) 30 Tryz.underlying30 rfl (w.heap.size + 1) _ _ ls [bx] rfl rfl (RecAt.later (uh HL) ((Below.refl _ _).alloc (Nat.le_refl _) _)) (Xd bx rfl (Nat.le_refl _) (by omega)) (by simp; omega) (by simp; omega) ?_; intro u9 w9 hp9 hg9 hat9; have HP9 := Z9 hp9; have HG9 := Z9 hg9; have HA9 := Z9 hat9; clear hp9 hg9 hat9)
        have hgo : ∀ i, (Value.slice la ls.length lc).ownBlock = some i → w.heap.size ≤ i ∧ i ≠ w.heap.size := fun i e => by have := (RecAt.lt (uh HL) e).1; omega
        replace K := (K.alloc _).grown (uh Hs) (uh HG9) hgo
        have hul := fun i e => (RecAt.lt (uh HU) (i := i) e).2
        have hsp9 : ∀ i, (Value.slice (some ⟨g, 0, none⟩) us.length uc).ownBlock = some i → u9.ownBlock ≠ some i := by
          intro i e e2
          rcases uh HA9 with h9 | h9
          · rw [h9] at e2; exact uh Hsp i e e2
          · rw [h9] at e2
            have := hul i e
            simp at e2
            omega
        replace HU := Z9 (RecAt.grown (RecAt.later (uh HU) ((Below.refl _ _).alloc (Nat.le_refl _) _)) (uh HG9) (uh Hsp))
        go_wp2_with fail
        go_roundw
        case rel => exact ⟨j + 1, by omega, by go_num, by rw [uh HY (by trivial)]; exact uh HP9, uh HU, hsp9, K⟩
        case measure => simp [intOf]; omega
    · obtain rfl : j = us.length := by omega
      have e9 : ((us.take us.length).filter (Xg wn)).map (·.1) = q := by rw [List.take_length]; exact uh Hq
      have E9 := Z9 e9
      clear e9
      go_wp2_with fail
      go_ret
      exact ⟨_, rfl, by rw [← uh E9]; exact RecAt.mono (uh HL) (Nat.le_succ _), K.bb⟩
theorem Ow {w : World} {v0 v1 v2 v3 v4 : Value} {m : Z6} {who q : Int} (hq : Yk m who = q) (h : Smy w v0 v1 v2 v3 v4 m) : Calls Tryz.prog 37 #[.agg #[v0, v1, v2, v3, v4, .int .i64 m.now], .int .i64 who] w fun e w' => e = .returned (.int .i64 q) ∧ Below w.heap.size w w' := by
  rw [E8] at hq
  have Hq := Z9 hq
  clear hq
  obtain ⟨fs, hfs⟩ : ∃ q, Zp m who = q := ⟨_, rfl⟩
  have Hfs := Z9 hfs
  have hfl : fs.length ≤ 1000 := by rw [← hfs]; exact Gz m who
  rw [hfs] at Hq
  obtain ⟨cr, hcr⟩ : ∃ q, Yo m = q := ⟨_, rfl⟩
  have Hcr := Z9 hcr
  rw [hcr] at Hq
  clear hfs hcr
  have hul := Mc m who
  obtain ⟨a0, p0, a1, p1, a2, p2, a3, p3, a4, p4, rfl, rfl, rfl, rfl, rfl, K⟩ := Bx.new h
  clear h
  go_enter Tryz.func37, Tryz.ntmps37
  go_wp2_with fail
  generalize w.alloc (.cells #[.slice a0 m.rooms.length p0, .slice a1 m.guilds.length p1, .slice a2 m.smiths.length p2, .slice a3 m.desks.length p3, .slice a4 m.paces.length p4, .int .i64 m.now] 32) = W at *
  refine (PG (uh Hfs) K.smy).mono ?_
  rintro e w1 ⟨v1, rfl, hn, hb⟩
  replace K := K.next hb
  clear hb
  obtain ⟨na, nc, rfl⟩ := RecAt.shape hn
  have HN := Z9 hn
  clear hn
  obtain ⟨c0, c1, c2, c3, c4, c5⟩ := K.cells
  go_wp2_with fail
  refine (Te (uh Hcr) K.smy).mono ?_
  rintro e w2 ⟨rfl, hb⟩
  replace K := K.next hb
  replace HN := Z9 (RecAt.later (uh HN) hb)
  clear hb c0 c1 c2 c3 c4 c5 Hcr
  obtain ⟨c0, c1, c2, c3, c4, c5⟩ := K.cells
  by_cases hcond : (cr || decide (fs.length = 0)) = true
  · rw [hcond, if_pos rfl] at Hq
    obtain rfl := (uh Hq).symm
    have hrun : cr = true ∨ (cr = false ∧ fs.length = 0) := by
      cases cr
      · right; exact ⟨rfl, by simpa using hcond⟩
      · exact .inl rfl
    clear hcond Hq
    rcases hrun with rfl | ⟨rfl, h0⟩
    all_goals
      try (obtain rfl := List.eq_nil_of_length_eq_zero h0; clear h0)
      go_wp2_with fail
      refine (Sz (who := who) K.smy).mono ?_
      rintro e w3 ⟨v3, rfl, hu, hb⟩
      replace K := K.next hb
      have HU := Z9 hu
      clear hb hu c0 c1 c2 c3 c4 c5
      go_wp2_with fail
      refine (O2 (uh HU) (by omega)).mono ?_
      rintro e w4 ⟨rfl, hb⟩
      replace K := K.next hb
      clear hb
      go_wp2_with fail
      go_ret
      exact ⟨rfl, K.bb⟩
  · obtain rfl : cr = false := by cases cr; · rfl
                                  · simp at hcond
    have h0 : ¬ fs.length = 0 := by simpa using hcond
    rw [Bool.false_or, decide_eq_false h0, if_neg (by simp)] at Hq
    obtain rfl := (uh Hq).symm
    clear hcond Hq
    obtain ⟨k, rfl, hk⟩ := C7 (uh Hfs) h0
    have HO : Hid (∀ x ∈ fs, Zi m (k : Int) x = ZX m (k : Int) x) := Z9 (fun x hx => On (by rw [uh Hfs]; exact hx))
    have h0i : ¬ ((fs.length : Int) = 0) := by omega
    have h0b : ((fs.length : Int) == 0) = false := beq_eq_false_iff_ne.mpr h0i
    clear h0
    go_wp2_with fail
    refine (PC K.smy hk (uh HN) hfl (uh HO)).mono ?_
    rintro e w3 ⟨rfl, hb⟩
    replace K := K.next hb
    clear hb c0 c1 c2 c3 c4 c5
    go_wp2_with fail
    go_ret
    exact ⟨rfl, K.bb⟩
end Go.Proofs.YtaegckehjlkaaaaGreat
namespace Go.Proofs.YtaegckehjlkaaaaGreat
open Go.ChangeShapes Go.WideShapes Go.ChangeAt Go.RowKit Go.Sort
set_option linter.unusedVariables false
theorem Wy {w:World} {v:Value} {rs:List Z3} (n:Int) (h:IsRooms w v rs) (h1:YX rs n=true) :
  Calls Tryz.prog 85 #[.agg #[v],.int .i64 n] w fun e w'=>e= .returned (.int .i64 (V1 (ZU rs (XJ rs n)).2))/\Below w.heap.size w w':=by
 have Hv:=Z9 h
 obtain ⟨a,cap,rfl,hc,hm⟩:∃ a cap,v= .slice a rs.length cap/\rs.length<=cap/\cap<=9223372036854775807:=by obtain ⟨a,cap,rfl,hc,hm,_⟩:=h;exact ⟨a,cap,rfl,hc,hm⟩
 clear h
 have hlt:=RZ h1
 have Hh:=Z9 (Xv h1).1
 have H1:=Z9 h1
 have hl3:rs.length<=3:=(Zs (Xv h1).1).2.1
 clear h1
 have hw1:=(uh Hv).alloc (.cells #[.slice a rs.length cap] 26)
 have Hw1:=Z9 hw1
 obtain ⟨b,off,a',cap',rfl,hbw,d1,p1,p4,sp,hbw',d2⟩:=G7 hw1 hlt (uh Hh)
 obtain ⟨b',off',sp'⟩:=a'
 simp only at sp hbw' d2
 subst sp
 clear hw1
 have k0:=cell_regrown (w:=w.alloc (.cells #[.slice (some ⟨b,off,none⟩) rs.length cap] 26)) (a:=⟨w.heap.size,0,none⟩) (v:= .slice (some ⟨b,off,none⟩) rs.length cap) (by simp)
 have k1:=cell_regrown d1
 have k2:=cell_regrown d2
 clear d1 d2
 go_enter Tryz.func85,Tryz.ntmps85
 go_wp2_with fail
 refine wp_region_quiet_below (by kernel_rfl) (by kernel_rfl) ?_
 repeat (go_big_quiet_step (exact Calls.regrown_of (RV n ((uh Hw1).below (below_regrown _ _ _)) (uh H1))))
 refine wpQuiet_nil ?_
 intro _ hw'
 obtain ⟨⟨dq,osq⟩,hw''⟩:=hw'
 subst hw''
 generalize hr1:XJ rs n=r at *
 generalize hr2:V1 (ZU rs r).2=fo at *
 generalize (ZU rs r).2.length=m at *
 have Hr1:=Z9 hr1
 have Hr2:=Z9 hr2
 clear hr1 hr2
 go_wp2_with fail
 go_ret
 exact ⟨ZJ (by rw [uh Hr1,uh Hr2]),((Below.refl _ _).alloc (Nat.le_refl _) _).trans ((below_regrown _ _ _).mono (by simp))⟩
theorem Tl {w:World} {v:Value} {rs:List Z3} (n:Int) (h:IsRooms w v rs) :
  Calls Tryz.prog 35 #[.agg #[v],.int .i64 n] w fun e w'=>e= .returned (.int .i64 (Zx rs n))/\Below w.heap.size w w':=by
 have Hv:=Z9 h
 obtain ⟨a,cap,rfl,hc,hm⟩:∃ a cap,v= .slice a rs.length cap/\rs.length<=cap/\cap<=9223372036854775807:=by obtain ⟨a,cap,rfl,hc,hm,_⟩:=h;exact ⟨a,cap,rfl,hc,hm⟩
 clear h
 cases h1:YX rs n
 ·have H2:=Z9 (Kc h1)
  go_enter Tryz.func35,Tryz.ntmps35
  go_wp2_with fail
  refine (Ky n ((uh Hv).alloc _)).mono ?_
  rintro e w1 ⟨rfl,hb⟩
  have Hb:=Z9 hb
  clear hb
  go_wp2_with fail
  go_ret
  exact ⟨ZJ (uh H2).symm,((Below.refl _ _).alloc (Nat.le_refl _) _).trans ((uh Hb).mono (by simp))⟩
 ·have H2:=Z9 (UQ h1)
  have H1:=Z9 h1
  go_enter Tryz.func35,Tryz.ntmps35
  go_wp2_with fail
  refine (Ky n ((uh Hv).alloc _)).mono ?_
  rintro e w1 ⟨rfl,hb⟩
  have hz:w.heap.size+1<=w1.heap.size:=by have:=hb.size;simpa using this
  have hbox:w1.cell? ⟨w.heap.size,0,none⟩=some (.slice a rs.length cap):=by rw [hb.cell (p:=⟨w.heap.size,0,none⟩) (by simp)];simp
  have hw1:=Z9 (((uh Hv).alloc _).below hb)
  have Hb:=Z9 hb
  clear hb
  go_wp2_with fail
  refine (Wy n (uh hw1) (uh H1)).mono ?_
  rintro e w2 ⟨rfl,hb2⟩
  have Hb2:=Z9 hb2
  clear hb2
  go_wp2_with fail
  go_ret
  exact ⟨ZJ (uh H2).symm,((Below.refl _ _).alloc (Nat.le_refl _) _).trans (((uh Hb).trans ((uh Hb2).mono (uh Hb).size)).mono (by simp))⟩
theorem Gh {m:Z6} {room:Int} {k:Nat} (h:¬ (XJ m.rooms k:Int)=room):Y1 m room (k+1)=Y1 m room k:=by show (if _ then _ else _)=_;rw [if_neg h]
theorem Ju {m:Z6} {room:Int} {k:Nat} (h:(XJ m.rooms k:Int)=room):Y1 m room (k+1)=((if (Z8 m.desks k).1 then max (Y1 m room k).1 (ZA m k (-1)) else (Y1 m room k).1),(Y1 m room k).2+ZA m k (-1)):=by show (if _ then _ else _)=_;rw [if_pos h]
theorem P7 {w:World} {v0 v1 v2 v3 v4:Value} {m:Z6} (room:Int) (h:Smy w v0 v1 v2 v3 v4 m) (hS:Sane m) :
  Calls Tryz.prog 238 #[.agg #[v0,v1,v2,v3,v4,.int .i64 m.now],.int .i64 room] w fun e w'=>e= .returned (.tuple #[.int .i64 (Y1 m room m.desks.length).1,.int .i64 (Y1 m room m.desks.length).2])/\Below w.heap.size w w':=by
 have Hv:=Z9 (h.alloc (.cells #[v0,v1,v2,v3,v4,.int .i64 m.now] 32))
 obtain ⟨a0,p0,a1,p1,a2,p2,a3,p3,a4,p4,rfl,rfl,rfl,rfl,rfl,_,_,_,_,_,_,_,_,_,_⟩:=h.five
 clear h
 have HS:=Z9 hS
 obtain ⟨BB0,kb0⟩:=WL w 32 (S6 a0 p0 a1 p1 a2 p2 a3 p3 a4 p4 m)
 have h8:=hS.eight
 have hbd:=Q4 m room hS.few
 have Hbd:=Z9 hbd
 clear hS hbd
 go_enter Tryz.func238,Tryz.ntmps238
 go_wp2_with fail
 go_loopw [6,7,8] (fun mo al i wr=> ∃ k:Nat,k<=m.desks.length/\i= .int .i64 k/\mo= .int .i64 (Y1 m room k).1/\al= .int .i64 (Y1 m room k).2/\Blk wr w.heap.size 32 #[.slice a0 m.rooms.length p0,.slice a1 m.guilds.length p1,.slice a2 m.smiths.length p2,.slice a3 m.desks.length p3,.slice a4 m.paces.length p4,.int .i64 m.now]/\Smy wr (.slice a0 m.rooms.length p0) (.slice a1 m.guilds.length p1) (.slice a2 m.smiths.length p2) (.slice a3 m.desks.length p3) (.slice a4 m.paces.length p4) m/\Below w.heap.size w wr) (fun _ _ i _=>m.desks.length-(intOf i).toNat)
 case atStart=>exact ⟨0,Nat.zero_le _,rfl,rfl,rfl,uh kb0,uh Hv,uh BB0⟩
 case round=>
  obtain ⟨k,hk,rfl,rfl,rfl,hkb,hv,hb0⟩:=hrel
  obtain ⟨⟨u0,u1⟩,u2,u3⟩:=uh Hbd k
  have kb:=Z9 hkb
  have Hv1:=Z9 hv
  have BB:=Z9 hb0
  clear hkb hv hb0 kb0 BB0 Hv
  obtain ⟨c0,c1,c2,c3,c4,c5⟩:=(uh kb).c6
  by_cases hlt:k<m.desks.length
  ·have hlt1:(k:Int)<(m.desks.length:Int):=by omega
   have Hno:=Z9 (fun hh=>Gh (m:=m) (room:=room) (k:=k) hh)
   have Hyes:=Z9 (fun hh=>Ju (m:=m) (room:=room) (k:=k) hh)
   obtain ⟨⟨mo,al⟩,hmo⟩:∃ x,Y1 m room k=x:=⟨_,rfl⟩
   rw [hmo] at u0 u1 u2 u3 Hno Hyes ⊢
   simp only at u0 u1 u2 u3 Hyes ⊢
   clear hmo
   go_wp2_with fail
   refine (RV (k:Int) (uh Hv1).rooms ((uh HS).bench hlt)).mono ?_
   rintro e w1 ⟨rfl,hb⟩
   replace kb:=bl kb hb
   replace Hv1:=Z9 ((uh Hv1).below hb)
   replace BB:=bt BB hb
   clear hb c0 c1 c2 c3 c4 c5
   obtain ⟨rn,hrn⟩:∃ r:Int,(XJ m.rooms k:Int)=r:=⟨_,rfl⟩
   rw [hrn] at Hno Hyes ⊢
   clear hrn
   by_cases hr:rn=room
   rotate_left
   ·have hrb:(rn ==room)=false:=by simpa using hr
    go_wp2_with fail
    go_roundw
    case rel=>exact ⟨k+1,by omega,by go_num,by rw [uh Hno hr],by rw [uh Hno hr],uh kb,uh Hv1,uh BB⟩
    case measure=>simp [intOf];omega
   have hrb:(rn ==room)=true:=by simpa using hr
   obtain ⟨c0,c1,c2,c3,c4,c5⟩:=(uh kb).c6
   go_wp2_with fail
   refine (VI (k:Int) (-1) (uh Hv1) (uh HS).guilded (by have:=(uh HS).few;omega)).mono ?_
   rintro e w2 ⟨rfl,hb⟩
   replace kb:=bl kb hb
   replace Hv1:=Z9 ((uh Hv1).below hb)
   replace BB:=bt BB hb
   clear hb c0 c1 c2 c3 c4 c5
   have hub:=Va m (k:Int) (-1)
   have hfew:=(uh HS).few
   have hy:=uh Hyes hr
   generalize ZA m (k:Int) (-1)=us at *
   obtain ⟨_,_,hde,_,_,r3⟩:=(uh Hv1).desks
   cases hde
   rcases r3 with e0 | ⟨db,off,rfl,hbw,hcl⟩
   ·rw [e0] at hlt;simp at hlt
   obtain ⟨d0,_,_⟩:=Zf hcl hlt
   clear hcl
   obtain ⟨op,hop⟩:∃ o,(Z8 m.desks k).1=o:=⟨_,rfl⟩
   rw [hop] at d0 hy
   have Hy:=Z9 hy
   clear hop hy Hno Hyes
   have c3:=(uh kb).cell (i:=3) (v:= .slice (some ⟨db,off,none⟩) m.desks.length p3) rfl
   cases op
   ·go_wp2_with fail
    go_roundw
    case rel=>exact ⟨k+1,by omega,by go_num,by rw [uh Hy];rfl,by rw [uh Hy],uh kb,uh Hv1,uh BB⟩
    case measure=>simp [intOf];omega
   ·go_wp2_with (go_at_call 118;refine (Ua _ _ _).mono ?_;rintro e w' ⟨rfl,h9⟩;subst w')
    go_roundw
    case rel=>exact ⟨k+1,by omega,by go_num,by rw [uh Hy];rfl,by rw [uh Hy],uh kb,uh Hv1,uh BB⟩
    case measure=>simp [intOf];omega
  ·obtain rfl:k=m.desks.length:=by omega
   go_wp2_with fail
   go_ret2
   exact ⟨rfl,uh BB⟩
theorem Kw {w:World} {v0 v1 v2 v3 v4:Value} {m:Z6} {r:Nat} (h:Smy w v0 v1 v2 v3 v4 m) (hS:Sane m) (hr:r<m.rooms.length) :
  Calls Tryz.prog 202 #[.agg #[v0,v1,v2,v3,v4,.int .i64 m.now],.int .i64 (r:Int)] w fun e w'=>e= .returned (.int .i64 (Ur m r))/\Below w.heap.size w w':=by
 have Hv:=Z9 (h.alloc (.cells #[v0,v1,v2,v3,v4,.int .i64 m.now] 32))
 obtain ⟨a0,p0,a1,p1,a2,p2,a3,p3,a4,p4,rfl,rfl,rfl,rfl,rfl,_,_,_,_,_,_,_,_,_,_⟩:=h.five
 clear h
 have HS:=Z9 hS
 obtain ⟨BB0,kb0⟩:=WL w 32 (S6 a0 p0 a1 p1 a2 p2 a3 p3 a4 p4 m)
 have hr1:(r:Int)<(m.rooms.length:Int):=by omega
 have Hc:Hid (Ur m r=QC (ZU m.rooms r) (Y1 m (r:Int) m.desks.length).1 (Y1 m (r:Int) m.desks.length).2):=Z9 rfl
 rw [uh Hc]
 clear Hc hS
 obtain ⟨⟨n,ps⟩,hrm⟩:∃ x,ZU m.rooms r=x:=⟨_,rfl⟩
 obtain ⟨mo,hmo⟩:∃ x,(Y1 m (r:Int) m.desks.length).1=x:=⟨_,rfl⟩
 obtain ⟨al,hal⟩:∃ x,(Y1 m (r:Int) m.desks.length).2=x:=⟨_,rfl⟩
 rw [hrm,hmo,hal]
 have Hrm:=Z9 hrm
 have Hmo:=Z9 hmo
 have Hal:=Z9 hal
 clear hrm hmo hal
 go_enter Tryz.func202,Tryz.ntmps202
 go_wp2_with fail
 have hu:=P7 (r:Int) (uh Hv) (uh HS)
 rw [uh Hmo,uh Hal] at hu
 refine hu.mono ?_
 clear hu
 rintro e w1 ⟨rfl,hb⟩
 have kb:=Z9 ((uh kb0).below hb (uh kb0).lt)
 replace Hv:=Z9 ((uh Hv).below hb)
 have BB:=Z9 ((uh BB0).trans (hb.mono (uh BB0).size))
 clear hb kb0 BB0
 obtain ⟨_,_,hre,_,_,r0⟩:=(uh Hv).rooms
 cases hre
 rcases r0 with e0 | ⟨rb,off,rfl,hbw,hcl⟩
 ·rw [e0] at hr;simp at hr
 obtain ⟨d0,pv,d1,hpv⟩:=hcl r hr
 rw [uh Hrm] at d0 hpv
 simp only at d0 hpv
 have Hpv:=Z9 hpv
 obtain ⟨pa,pc,rfl,_,_,_⟩:=hpv
 have c0:=(uh kb).cell (i:=0) (v:= .slice (some ⟨rb,off,none⟩) m.rooms.length p0) rfl
 clear hcl
 go_wp2_with fail
 refine (RD n mo al (uh Hpv)).mono ?_
 rintro e w2 ⟨rfl,hb⟩
 replace BB:=bt BB hb
 clear hb
 go_wp2_with fail
 go_ret
 exact ⟨rfl,uh BB⟩
theorem IK {w:World} {v0 v1 v2 v3 v4:Value} {m:Z6} (h:Smy w v0 v1 v2 v3 v4 m) (hS:Sane m) :
  Calls Tryz.prog 146 #[.agg #[v0,v1,v2,v3,v4,.int .i64 m.now]] w fun e w'=>e= .returned (.int .i64 (Ri m))/\Below w.heap.size w w':=by
 have Hv:=Z9 (h.alloc (.cells #[v0,v1,v2,v3,v4,.int .i64 m.now] 32))
 obtain ⟨a0,p0,a1,p1,a2,p2,a3,p3,a4,p4,rfl,rfl,rfl,rfl,rfl,_,_,_,_,_,_,_,_,_,_⟩:=h.five
 clear h
 have HS:=Z9 hS
 obtain ⟨BB0,kb0⟩:=WL w 32 (S6 a0 p0 a1 p1 a2 p2 a3 p3 a4 p4 m)
 have h3:=(Zs hS.hall).2.1
 have Hbd:=Z9 (Qp m)
 clear hS
 go_enter Tryz.func146,Tryz.ntmps146
 go_wp2_with fail
 go_loopw [3,4] (fun n i wr=> ∃ k:Nat,k<=m.rooms.length/\i= .int .i64 k/\n= .int .i64 (V9 m k)/\Blk wr w.heap.size 32 #[.slice a0 m.rooms.length p0,.slice a1 m.guilds.length p1,.slice a2 m.smiths.length p2,.slice a3 m.desks.length p3,.slice a4 m.paces.length p4,.int .i64 m.now]/\Smy wr (.slice a0 m.rooms.length p0) (.slice a1 m.guilds.length p1) (.slice a2 m.smiths.length p2) (.slice a3 m.desks.length p3) (.slice a4 m.paces.length p4) m/\Below w.heap.size w wr) (fun _ i _=>m.rooms.length-(intOf i).toNat)
 case atStart=>exact ⟨0,Nat.zero_le _,rfl,rfl,uh kb0,uh Hv,uh BB0⟩
 case round=>
  obtain ⟨k,hk,rfl,rfl,hkb,hv,hb0⟩:=hrel
  obtain ⟨u0,u1⟩:=uh Hbd k
  obtain ⟨u2,u3⟩:=uh Hbd (k+1)
  have hst:V9 m (k+1)=V9 m k+Ur m k:=rfl
  have kb:=Z9 hkb
  have Hv1:=Z9 hv
  have BB:=Z9 hb0
  clear hkb hv hb0 kb0 BB0 Hv
  obtain ⟨c0,c1,c2,c3,c4,c5⟩:=(uh kb).c6
  by_cases hlt:k<m.rooms.length
  ·have hlt1:(k:Int)<(m.rooms.length:Int):=by omega
   go_wp2_with fail
   refine (Kw (uh Hv1) (uh HS) hlt).mono ?_
   rintro e w1 ⟨rfl,hb⟩
   replace kb:=bl kb hb
   replace Hv1:=Z9 ((uh Hv1).below hb)
   replace BB:=bt BB hb
   rw [hst] at u2 u3
   have Hst:=Z9 hst
   clear hb c0 c1 c2 c3 c4 c5 hst
   generalize Ur m k=ci at *
   generalize V9 m k=ct at *
   go_wp2_with fail
   go_roundw
   case rel=>exact ⟨k+1,by omega,by go_num,by rw [uh Hst],uh kb,uh Hv1,uh BB⟩
   case measure=>simp [intOf];omega
  ·obtain rfl:k=m.rooms.length:=by omega
   go_wp2_with fail
   go_ret
   exact ⟨rfl,uh BB⟩
structure Two (p q:Option Nat) (w w':World):Prop where
 os:w'.os=w.os
 tape:w'.tape=w.tape
 output:w'.output=w.output
 size:w.heap.size<=w'.heap.size
 block:∀ k,k<w.heap.size->p ≠ some k->q ≠ some k->w'.heap[k]?=w.heap[k]?
section
variable {p q : Option Nat} {w w' w'' : World}
theorem Two.refl (p q:Option Nat) (w:World):Two p q w w:=⟨rfl,rfl,rfl,Nat.le_refl _,fun _ _ _ _=>rfl⟩
theorem Two.trans (h:Two p q w w') (k:Two p q w' w''):Two p q w w'':=
 ⟨k.os.trans h.os,k.tape.trans h.tape,k.output.trans h.output,Nat.le_trans h.size k.size,fun i hi hp hq=>(k.block i (Nat.lt_of_lt_of_le hi h.size) hp hq).trans (h.block i hi hp hq)⟩
theorem Two.of_below (h:Below w.heap.size w w'):Two p q w w':=⟨h.os,h.tape,h.output,h.size,fun i hi _ _=>h.block i hi⟩
theorem Two.of_set (w:World) {g:Nat} (hg:p=some g\/q=some g) (o:Nat) (u:Value):Two p q w (w.setCell ⟨g,o,none⟩ u):=
 ⟨rfl,rfl,rfl,by simp,fun i hi hp hq=>heap_setCell_other w _ i u (fun e=>by
  have e:i=g:=e
  subst e
  rcases hg with h | h
  ·exact hp h
  ·exact hq h)⟩
theorem Two.below {B:Nat} (h:Two p q w w') (hB:B<=w.heap.size) (hp:∀ k,p=some k->B<=k) (hq:∀ k,q=some k->B<=k):Below B w w':=
 ⟨h.os,h.tape,h.output,h.size,fun i hi=>h.block i (Nat.lt_of_lt_of_le hi hB) (fun e=>by have:=hp i e;omega) (fun e=>by have:=hq i e;omega)⟩
theorem Blk.two {R:Nat} {t:TypeId} {cs:Array Value} (h:Blk w R t cs) (ht:Two p q w w') (hp:p ≠ some R) (hq:q ≠ some R):Blk w' R t cs:=h.same (ht.block R h.lt hp hq)
end
theorem OwnHall.same2 {n₀:Nat} {w w':World} {v:Value} {qs:List (Z3 × Value)} (h:OwnHall n₀ w v qs) (hs:∀ k,(v.ownBlock=some k\/ ∃ q ∈ qs,q.2.ownBlock=some k)->w'.heap[k]?=w.heap[k]?):OwnHall n₀ w' v qs:=
 ⟨XH h.row (fun k e=>hs k (.inl e)),fun q hq=>XH (h.paces q hq) (fun k e=>hs k (.inr ⟨q,hq,e⟩)),h.off,h.apart⟩
section
variable {n₀ n cap g : Nat} {w : World} {v0 v1 v2 v3 v4 : Value} {m : Z6} {qs : List (Z3 × Value)}
theorem FullSmy.putS (hf:FullSmy n₀ w v0 v1 (.slice (some ⟨g,0,none⟩) n cap) v3 v4 m qs) (hn:n=m.smiths.length) {j i:Nat} (hj:j<m.smiths.length) (hi:i<11) (u:Value) (x:Z5) (hx:ZR x=(ZR (Z8 m.smiths j)).set i u) :
  FullSmy n₀ (w.setCell ⟨g,j*11+i,none⟩ u) v0 v1 (.slice (some ⟨g,0,none⟩) n cap) v3 v4 { m with smiths:=m.smiths.set j x } qs:=by
 have hb:(Value.slice (some ⟨g,0,none⟩) n cap).ownBlock=some g:=rfl
 have hne:∀ k,k ≠ g->(w.setCell ⟨g,j*11+i,none⟩ u).heap[k]?=w.heap[k]?:=fun k hk=>heap_setCell_other w _ k u hk
 refine ⟨hf.hall.same2 fun k e=>hne k fun e'=> ?_,hf.rooms,RecAt.same hf.guilds fun k e=>hne k fun e'=> ?_,(RecAt.put1 ZT (by omega) hf.smiths hn hj hi u x hx).1,RecAt.same hf.desks fun k e=>hne k fun e'=> ?_,RecAt.same hf.paces fun k e=>hne k fun e'=> ?_,hf.h1,hf.h2,hf.h3,hf.h4,hf.a12,hf.a13,hf.a14,hf.a23,hf.a24,hf.a34⟩
 ·subst e'
  rcases e with e | ⟨q,hq,e⟩
  ·exact hf.h2.1 _ hb e
  ·exact hf.h2.2 q hq _ hb e
 ·subst e';exact hf.a12 _ e hb
 ·subst e';exact hf.a23 _ hb e
 ·subst e';exact hf.a24 _ hb e
theorem FullSmy.putD (hf:FullSmy n₀ w v0 v1 v2 (.slice (some ⟨g,0,none⟩) n cap) v4 m qs) (hn:n=m.desks.length) {j i:Nat} (hj:j<m.desks.length) (hi:i<3) (u:Value) (x:XZ) (hx:Xj x=(Xj (Z8 m.desks j)).set i u) :
  FullSmy n₀ (w.setCell ⟨g,j*3+i,none⟩ u) v0 v1 v2 (.slice (some ⟨g,0,none⟩) n cap) v4 { m with desks:=m.desks.set j x } qs:=by
 have hb:(Value.slice (some ⟨g,0,none⟩) n cap).ownBlock=some g:=rfl
 have hne:∀ k,k ≠ g->(w.setCell ⟨g,j*3+i,none⟩ u).heap[k]?=w.heap[k]?:=fun k hk=>heap_setCell_other w _ k u hk
 refine ⟨hf.hall.same2 fun k e=>hne k fun e'=> ?_,hf.rooms,RecAt.same hf.guilds fun k e=>hne k fun e'=> ?_,RecAt.same hf.smiths fun k e=>hne k fun e'=> ?_,(RecAt.put1 Zm (by omega) hf.desks hn hj hi u x hx).1,RecAt.same hf.paces fun k e=>hne k fun e'=> ?_,hf.h1,hf.h2,hf.h3,hf.h4,hf.a12,hf.a13,hf.a14,hf.a23,hf.a24,hf.a34⟩
 ·subst e'
  rcases e with e | ⟨q,hq,e⟩
  ·exact hf.h3.1 _ hb e
  ·exact hf.h3.2 q hq _ hb e
 ·subst e';exact hf.a13 _ e hb
 ·subst e';exact hf.a23 _ e hb
 ·subst e';exact hf.a34 _ hb e
theorem FullSmy.putP (hf:FullSmy n₀ w v0 v1 v2 v3 (.slice (some ⟨g,0,none⟩) n cap) m qs) (hn:n=m.paces.length) {j:Nat} (hj:j<m.paces.length) (x:Int) :
  FullSmy n₀ (w.setCell ⟨g,j,none⟩ (.int .i64 x)) v0 v1 v2 v3 (.slice (some ⟨g,0,none⟩) n cap) { m with paces:=m.paces.set j x } qs:=by
 have hb:(Value.slice (some ⟨g,0,none⟩) n cap).ownBlock=some g:=rfl
 have hne:∀ k,k ≠ g->(w.setCell ⟨g,j,none⟩ (.int .i64 x)).heap[k]?=w.heap[k]?:=fun k hk=>heap_setCell_other w _ k _ hk
 have hput:=(RecAt.put1 (i:=0) YK (by omega) hf.paces hn hj (by omega) (.int .i64 x) x (by simp [Us])).1
 simp only [Nat.mul_one,Nat.add_zero] at hput
 refine ⟨hf.hall.same2 fun k e=>hne k fun e'=> ?_,hf.rooms,RecAt.same hf.guilds fun k e=>hne k fun e'=> ?_,RecAt.same hf.smiths fun k e=>hne k fun e'=> ?_,RecAt.same hf.desks fun k e=>hne k fun e'=> ?_,hput,hf.h1,hf.h2,hf.h3,hf.h4,hf.a12,hf.a13,hf.a14,hf.a23,hf.a24,hf.a34⟩
 ·subst e'
  rcases e with e | ⟨q,hq,e⟩
  ·exact hf.h4.1 _ hb e
  ·exact hf.h4.2 q hq _ hb e
 ·subst e';exact hf.a14 _ e hb
 ·subst e';exact hf.a24 _ e hb
 ·subst e';exact hf.a34 _ e hb
end
end Go.Proofs.YtaegckehjlkaaaaGreat
namespace Go.Proofs.YtaegckehjlkaaaaGreat
open Go.ChangeShapes Go.WideShapes Go.ChangeAt Go.RowKit Go.Sort
set_option linter.unusedVariables false
theorem FullSmy.putW {n₀ n cap g:Nat} {w:World} {v0 v1 v3 v4:Value} {m:Z6} {qs:List (Z3 × Value)} (hf:FullSmy n₀ w v0 v1 (.slice (some ⟨g,0,none⟩) n cap) v3 v4 m qs) (hn:n=m.smiths.length) {j:Nat} (hj:j<m.smiths.length) (x:Z5) :
  FullSmy n₀ (Mt w g (j*11) (ZR x)) v0 v1 (.slice (some ⟨g,0,none⟩) n cap) v3 v4 { m with smiths:=m.smiths.set j x } qs:=by
 have hb:(Value.slice (some ⟨g,0,none⟩) n cap).ownBlock=some g:=rfl
 obtain ⟨hput,hg⟩:=RecAt.put ZT (by omega) hf.smiths hn hj x
 have hne:∀ k,k<w.heap.size->k ≠ g->(Mt w g (j*11) (ZR x)).heap[k]?=w.heap[k]?:=fun k hk hkg=>hg.block k hk (fun e=>hkg (by cases e;rfl))
 refine ⟨hf.hall.same2 fun k e=>hne k (hf.hall.lt e).2 fun e'=> ?_,hf.rooms,RecAt.same hf.guilds fun k e=>hne k (RecAt.lt hf.guilds e).2 fun e'=> ?_,hput,RecAt.same hf.desks fun k e=>hne k (RecAt.lt hf.desks e).2 fun e'=> ?_,RecAt.same hf.paces fun k e=>hne k (RecAt.lt hf.paces e).2 fun e'=> ?_,hf.h1,hf.h2,hf.h3,hf.h4,hf.a12,hf.a13,hf.a14,hf.a23,hf.a24,hf.a34⟩
 ·subst e'
  rcases e with e | ⟨q,hq,e⟩
  ·exact hf.h2.1 _ hb e
  ·exact hf.h2.2 q hq _ hb e
 ·subst e';exact hf.a12 _ e hb
 ·subst e';exact hf.a23 _ hb e
 ·subst e';exact hf.a24 _ hb e
theorem QU (w:World) (g o:Nat) (c0 c1 c2 c3 c4 c5 c6 c7 c8 c9 c10:Value):Mt w g o [c0,c1,c2,c3,c4,c5,c6,c7,c8,c9,c10]=((((((((((w.setCell ⟨g,o,none⟩ c0).setCell ⟨g,o+1,none⟩ c1).setCell ⟨g,o+2,none⟩ c2).setCell ⟨g,o+3,none⟩ c3).setCell ⟨g,o+4,none⟩ c4).setCell ⟨g,o+5,none⟩ c5).setCell ⟨g,o+6,none⟩ c6).setCell ⟨g,o+7,none⟩ c7).setCell ⟨g,o+8,none⟩ c8).setCell ⟨g,o+9,none⟩ c9).setCell ⟨g,o+10,none⟩ c10:=rfl
end Go.Proofs.YtaegckehjlkaaaaGreat
