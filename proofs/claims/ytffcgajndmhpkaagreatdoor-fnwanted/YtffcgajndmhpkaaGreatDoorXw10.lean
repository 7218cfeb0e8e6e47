/- Part 10 of what the proof rests on. No condition but those that a theorem names. -/
import Derived.Test.YtffcgajndmhpkaaGreatDoorXw09
import Derived.Deep.RegionHeld3
set_option maxHeartbeats 8000000
set_option maxRecDepth 100000
namespace Go.Proofs.YtffcgajndmhpkaaGreatDoor
open Go.ChangeShapes Go.WideShapes Go.ChangeAt Go.RowKit Go.Sort
set_option linter.unusedVariables false
variable {w w' w0 w1 w2 w3 w₀ wr W W' X A B C : World} {v v0 v1 v2 v3 v4 u u0 u1 u2 u3 u4 : Value} {m : Z4}
theorem MF {ss : List Z3} {b : Int} {k : Nat} (h : Yc ss b k = none) : ∀ n, k ≤ n → Yc ss b n = none
  | 0, hn => by obtain rfl : k = 0 := by omega
                exact h
  | n + 1, hn => by
    by_cases e : k = n + 1
    · rw [← e]; exact h
    · have := MF h n (by omega)
      unfold Yc; rw [this]
theorem Ff {ss:List Z3} {b wk:Int} {wt:Bool} {k:Nat} (h:Yc ss b k=some (wk,wt)) (hs:¬ ((Z8 ss k).2.1=b/\ZR (Z8 ss k)=true)):Yc ss b (k+1)=some (wk,wt):=by
  unfold Yc;rw [h];simp only [if_neg hs]
theorem Fg {ss:List Z3} {b wk:Int} {wt:Bool} {k:Nat} (h:Yc ss b k=some (wk,wt)) (h1:(Z8 ss k).2.1=b) (h2:ZR (Z8 ss k)=true) (h3:(Z8 ss k).1=2):Yc ss b (k+1)=some (wk,true):=by
  unfold Yc;rw [h];simp only [if_pos (And.intro h1 h2),if_pos h3]
theorem DU {ss:List Z3} {b wk:Int} {wt:Bool} {k:Nat} (h:Yc ss b k=some (wk,wt)) (h1:(Z8 ss k).2.1=b) (h2:ZR (Z8 ss k)=true) (h3:¬ (Z8 ss k).1=2) (h4:0<=wk):Yc ss b (k+1)=none:=by
  unfold Yc;rw [h];simp only [if_pos (And.intro h1 h2),if_neg h3,if_pos h4]
theorem Fh {ss:List Z3} {b wk:Int} {wt:Bool} {k:Nat} (h:Yc ss b k=some (wk,wt)) (h1:(Z8 ss k).2.1=b) (h2:ZR (Z8 ss k)=true) (h3:¬ (Z8 ss k).1=2) (h4:¬ 0<=wk):Yc ss b (k+1)=some ((k:Int),wt):=by
  unfold Yc;rw [h];simp only [if_pos (And.intro h1 h2),if_neg h3,if_neg h4]
theorem Iw (h:Y0 m=false):ZP m=false:=by unfold ZP;rw [h];rfl
theorem OP {k:Nat} (hk:k<m.desks.length) (h:YC m k=false):ZP m=false:=by unfold ZP;rw [RL hk h];simp
theorem D2 (h:Y0 m=true) (h2:(List.range m.desks.length).all (YC m)=true):ZP m=true:=by unfold ZP;rw [h,h2];rfl
theorem M6 {k:Nat} (h:Yc m.smiths k m.smiths.length=none):YC m k=false:=by unfold YC;rw [h]
theorem M7 {k:Nat} {wk:Int} {wt:Bool} (h:Yc m.smiths k m.smiths.length=some (wk,wt)):YC m k=((Z8 m.desks k).2.1 ==wk && !(wt && decide (wk<0))):=by unfold YC;rw [h]
theorem GS  {q : Bool} (hq : Y0 m = q) (h : Smy w v0 v1 v2 v3 v4 m) :
    Calls Tryz.prog 43 #[.agg #[v0, v1, v2, v3, v4, .int .i64 m.now]] w fun e w' => e = .returned (.bool q) ∧ Below w.heap.size w w' := by
  have := VC h; rw [hq] at this; exact this
theorem Uz  (h : Smy w v0 v1 v2 v3 v4 m) :
    Calls Tryz.prog 12 #[.agg #[v0, v1, v2, v3, v4, .int .i64 m.now]] w fun e w' => e = .returned (.bool (ZP m)) ∧ Below w.heap.size w w' := by
  have Hv := Z9 (h.alloc (.cells #[v0, v1, v2, v3, v4, .int .i64 m.now] 32))
  obtain ⟨h0, h1, h2, h3, h4⟩ := h
  obtain ⟨a0, p0, rfl, hc0, hm0, _⟩ := h0
  obtain ⟨a1, p1, rfl, hc1, hm1, _⟩ := h1
  obtain ⟨a2, p2, rfl, hc2, hm2, r2⟩ := h2
  obtain ⟨a3, p3, rfl, hc3, hm3, r3⟩ := h3
  obtain ⟨a4, p4, rfl, hc4, hm4, _⟩ := h4
  have R2 := Z9 r2
  have R3 := Z9 r3
  clear r2 r3
  obtain ⟨ql, hql⟩ : ∃ q, Y0 m = q := ⟨_, rfl⟩
  have QL := Z9 hql
  clear hql
  go_enter Tryz.func12, Tryz.ntmps12
  go_wp2_with fail
  refine ck (GS (uh QL) (uh Hv)) fun w1 hb => ?_
  have kb : Hid (Blk w1 w.heap.size 32 (S6 a0 p0 a1 p1 a2 p2 a3 p3 a4 p4 m)) := Z9 ((Blk.new w _ _).below hb (by simp))
  have BB : Hid (Below w.heap.size w w1) := Z9 (((ba _ _)).trans (hb.mono (by simp)))
  clear hb Hv
  have c3 := (uh kb).cell (i := 3) (v := .slice a3 m.desks.length p3) rfl
  cases ql
  · go_wp2_with fail
    go_ret
    exact ⟨Z5 (Iw (uh QL)).symm, uh BB⟩
  go_wp2_with fail
  clear c3
  go_loopw [3] (fun b wr => ∃ k : Nat, k ≤ m.desks.length ∧ b = .int .i64 k ∧ (List.range k).all (YC m) = true ∧ Blk wr w.heap.size 32 (S6 a0 p0 a1 p1 a2 p2 a3 p3 a4 p4 m) ∧ Below w.heap.size w wr) (fun b _ => m.desks.length - (intOf b).toNat)
  case atStart => exact ⟨0, Nat.zero_le _, rfl, rfl, uh kb, uh BB⟩
  case round =>
    obtain ⟨j, hj, rfl, hup, kb1, hb1⟩ := hrel
    clear kb BB
    have kb := Z9 kb1
    have BB := Z9 hb1
    have Hup := Z9 hup
    clear kb1 hb1 hup
    have c3 := (uh kb).cell (i := 3) (v := .slice a3 m.desks.length p3) rfl
    by_cases hlt : j < m.desks.length
    · have c2 := (uh kb).cell (i := 2) (v := .slice a2 m.smiths.length p2) rfl
      go_wp2_with fail
      clear c2 c3
      obtain ⟨wo, rfl⟩ : ∃ wo, wo = wr := ⟨wr, rfl⟩
      go_loopw [4, 5, 6] (fun x y i wr => ∃ (k : Nat) (wk : Int) (wt : Bool), k ≤ m.smiths.length ∧ x = .int .i64 wk ∧ y = .bool wt ∧ i = .int .i64 k ∧ -1 ≤ wk ∧ wk ≤ (k : Int) ∧ Yc m.smiths j k = some (wk, wt) ∧ Blk wr w.heap.size 32 (S6 a0 p0 a1 p1 a2 p2 a3 p3 a4 p4 m) ∧ Below w.heap.size w wr) (fun _ _ i _ => m.smiths.length - (intOf i).toNat)
      case atStart => exact ⟨0, -1, false, Nat.zero_le _, rfl, rfl, rfl, by omega, by omega, rfl, uh kb, uh BB⟩
      case round =>
        obtain ⟨k, wkk, wt, hk, rfl, rfl, rfl, wk0, wk1, hsc, kb1, hb1⟩ := hrel
        clear kb BB
        have kb := Z9 kb1
        have BB := Z9 hb1
        have Hsc := Z9 hsc
        clear kb1 hb1 hsc
        have c2 := (uh kb).cell (i := 2) (v := .slice a2 m.smiths.length p2) rfl
        by_cases hls : k < m.smiths.length
        · rcases uh R2 with e0 | ⟨b, off, rfl, hbw, hcl⟩
          · rw [e0] at hls; simp at hls
          obtain ⟨d0, d1, d2, d3, d4, d5, d6, d7, d8, d9, d10⟩ := ZC hcl hls
          rw [← (uh BB).cell (p := ⟨b, off + k * 11, none⟩) hbw] at d0
          rw [← (uh BB).cell (p := ⟨b, off + k * 11 + 1, none⟩) hbw] at d1
          rw [← (uh BB).cell (p := ⟨b, off + k * 11 + 2, none⟩) hbw] at d2
          rw [← (uh BB).cell (p := ⟨b, off + k * 11 + 3, none⟩) hbw] at d3
          rw [← (uh BB).cell (p := ⟨b, off + k * 11 + 4, none⟩) hbw] at d4
          rw [← (uh BB).cell (p := ⟨b, off + k * 11 + 5, none⟩) hbw] at d5
          rw [← (uh BB).cell (p := ⟨b, off + k * 11 + 6, none⟩) hbw] at d6
          rw [← (uh BB).cell (p := ⟨b, off + k * 11 + 7, none⟩) hbw] at d7
          rw [← (uh BB).cell (p := ⟨b, off + k * 11 + 8, none⟩) hbw] at d8
          rw [← (uh BB).cell (p := ⟨b, off + k * 11 + 9, none⟩) hbw] at d9
          rw [← (uh BB).cell (p := ⟨b, off + k * 11 + 10, none⟩) hbw] at d10
          clear hcl
          have S1 := Z9 (fun hs => Ff (uh Hsc) hs)
          have S2 := Z9 (fun h1 h2 h3 => Fg (uh Hsc) h1 h2 h3)
          have S3 := Z9 (fun h1 h2 h3 h4 => DU (uh Hsc) h1 h2 h3 h4)
          have S4 := Z9 (fun h1 h2 h3 h4 => Fh (uh Hsc) h1 h2 h3 h4)
          generalize Z8 m.smiths k = ss at *
          obtain ⟨st, be, rk, my, gu, lo, hi, hd, ca, ut, wk⟩ := ss
          simp only at d0 d1 d2 d3 d4 d5 d6 d7 d8 d9 d10
          have hl0 : w.heap.size < wr.heap.size := (uh kb).lt
          by_cases hbe : be = (j : Int)
          rotate_left
          · have hbn : (be != (j : Int)) = true := by simpa using hbe
            go_wp2_with fail
            go_roundw
            case rel => exact ⟨k + 1, wkk, wt, by omega, rfl, rfl, by go_num, by omega, by omega, uh S1 (fun h9 => hbe h9.1), (uh kb).alloc _, (uh BB).alloc (uh BB).size _⟩
            case measure => exact ms
          subst hbe
          have hbn : ((j : Int) != (j : Int)) = false := by simp
          obtain ⟨ps, hps⟩ : ∃ q, ZR (st, (j : Int), rk, my, gu, lo, hi, hd, ca, ut, wk) = q := ⟨_, rfl⟩
          have Hps := Z9 hps
          clear hps
          go_wp2_with fail
          clear c2 d0 d1 d2 d3 d4 d5 d6 d7 d8 d9 d10
          refine ck (YV (uh Hps) _) fun w2 hb => ?_
          have ks : Hid (Blk w2 wr.heap.size 39 (I11 st (j : Int) rk my gu lo hi hd ca ut wk)) := Z9 ((Blk.new wr _ _).below hb (by simp))
          replace kb := Z9 (((uh kb).alloc (.cells (I11 st (j : Int) rk my gu lo hi hd ca ut wk) 39)).below hb (by simp; omega))
          replace BB := Z9 ((((uh BB).alloc (uh BB).size (.cells (I11 st (j : Int) rk my gu lo hi hd ca ut wk) 39))).trans (hb.mono (by simp; have := (uh BB).size; omega)))
          clear hb hl0
          have d0 := (uh ks).cell (i := 0) (v := .int .i64 st) rfl
          cases ps
          · go_wp2_with fail
            go_roundw
            case rel => exact ⟨k + 1, wkk, wt, by omega, rfl, rfl, by go_num, by omega, by omega, uh S1 (fun h9 => by have h8 := h9.2; rw [uh Hps] at h8; cases h8), uh kb, uh BB⟩
            case measure => exact ms
          by_cases hst : st = 2
          · subst hst
            go_wp2_with fail
            go_roundw
            case rel => exact ⟨k + 1, wkk, true, by omega, rfl, rfl, by go_num, by omega, by omega, uh S2 (by first | rfl | trivial) (uh Hps) (by first | rfl | trivial), uh kb, uh BB⟩
            case measure => exact ms
          have hsn : (st == 2) = false := by simpa using hst
          by_cases hw0 : 0 ≤ wkk
          · go_wp2_with fail
            go_ret
            exact ⟨Z5 (OP hlt (M6 (MF (uh S3 (by first | rfl | trivial) (uh Hps) hst hw0) _ (by omega)))).symm, uh BB⟩
          go_wp2_with fail
          go_roundw
          case rel => exact ⟨k + 1, (k : Int), wt, by omega, rfl, rfl, by go_num, by omega, by omega, uh S4 (by first | rfl | trivial) (uh Hps) hst hw0, uh kb, uh BB⟩
          case measure => exact ms
        · obtain rfl : k = m.smiths.length := by omega
          have c3 := (uh kb).cell (i := 3) (v := .slice a3 m.desks.length p3) rfl
          rcases uh R3 with e0 | ⟨b', off', rfl, hbw', hcl'⟩
          · rw [e0] at hlt; simp at hlt
          obtain ⟨_, t1, _⟩ := Zp hcl' hlt
          rw [← (uh BB).cell (p := ⟨b', off' + j * 3 + 1, none⟩) hbw'] at t1
          clear hcl'
          have HB := Z9 (M7 (uh Hsc))
          have HL := Z9 (OP (m := m) hlt)
          have HU := Z9 (show (List.range (j + 1)).all (YC m) = ((List.range j).all (YC m) && YC m j) from UF j)
          generalize Z8 m.desks j = dd at *
          obtain ⟨op, who, mk⟩ := dd
          simp only at t1
          by_cases hwho : who = wkk
          rotate_left
          · have hwn : (who != wkk) = true := by simpa using hwho
            go_wp2_with fail
            go_ret
            exact ⟨Z5 (uh HL (by rw [uh HB]; simp [hwho])).symm, uh BB⟩
          have hwn : (who != wkk) = false := by simpa using hwho
          have Hwho := Z9 hwho
          clear hwho
          cases wt
          · go_wp2_with fail
            go_roundw
            case rel => exact ⟨j + 1, by omega, by go_num, by rw [uh HU, uh Hup, uh HB, uh Hwho]; simp, uh kb, uh BB⟩
            case measure => exact ms
          by_cases hw0 : wkk < 0
          · go_wp2_with fail
            go_ret
            exact ⟨Z5 (uh HL (by rw [uh HB]; simp [hw0])).symm, uh BB⟩
          go_wp2_with fail
          go_roundw
          case rel => exact ⟨j + 1, by omega, by go_num, by rw [uh HU, uh Hup, uh HB, uh Hwho]; simp; omega, uh kb, uh BB⟩
          case measure => exact ms
    · obtain rfl : j = m.desks.length := by omega
      go_wp2_with fail
      go_ret
      exact ⟨Z5 (D2 (uh QL) (uh Hup)).symm, uh BB⟩
theorem KK (h:Loose m) (k:Nat) (hk:k<=m.desks.length):Loose (Zs m k):=by
 obtain ⟨e1,e2,e3,e4,e5,e6⟩:=ZQ m k
 have hd:=fun j=>Vr m j k hk
 have hopen:∀ j,(Z8 (Zs m k).desks j).1=(Z8 m.desks j).1:=by
  intro j
  rw [hd j]
  split
  ·unfold Xh;split<;>rfl
  ·rfl
 have hmark:∀ j,j<m.desks.length->(-900000000000<=(Z8 (Zs m k).desks j).2.2/\(Z8 (Zs m k).desks j).2.2<=900000000000)/\(Z8 m.desks j).2.2<=(Z8 (Zs m k).desks j).2.2/\((Z8 (Zs m k).desks j).2.2<=(Z8 m.desks j).2.2\/ ∀ i,i<m.smiths.length->(Z8 m.smiths i).2.1=(j:Int)->ZR (Z8 m.smiths i)=true->(Z8 (Zs m k).desks j).2.2<=XG (Z8 m.smiths i)):=by
  intro j hj
  obtain ⟨k0,k1⟩:=SI (h.desk j hj)
  rw [hd j]
  split
  ·unfold Xh
   split
   ·exact ⟨⟨k0,k1⟩,Int.le_refl _,.inl (Int.le_refl _)⟩
   ·rename_i e t hq
    obtain ⟨_,i,hi,hib,hip,rfl⟩:=TG hq
    obtain ⟨_,_,_,_,hband⟩:=h.at hi hip
    obtain ⟨a0,a1,_⟩:=U1 hband
    have hm:=Mw (m:=(Z8 m.desks j).2.2) (f:=XG (Z8 m.smiths i)) (by omega) (by omega) a0 a1
    show (-900000000000<=ZL _ _/\ZL _ _<=900000000000)/\_<=ZL _ _/\(ZL _ _<=_\/_)
    rw [hm]
    refine ⟨by omega,by omega,?_⟩
    by_cases hc:XG (Z8 m.smiths i)<=(Z8 m.desks j).2.2
    ·left;omega
    ·right
     intro i' hi' hb' hp'
     have:=PS hq hi' hb' hp'
     simp only at this
     show min (max (Z8 m.desks j).2.2 (XG (Z8 m.smiths i))) 900000000000<=_
     omega
  ·exact ⟨⟨k0,k1⟩,Int.le_refl _,.inl (Int.le_refl _)⟩
 refine ⟨?_,?_,?_,?_,?_,?_⟩
 ·have:=h.head
  unfold Y2 at this ⊢
  rw [e1,e2,e3,e4,e5,e6]
  exact this
 ·intro j hj
  have hj':j<m.desks.length:=by omega
  exact Zv (hmark j hj').1.1 (hmark j hj').1.2
 ·intro j hj
  have hj':j<m.paces.length:=by rw [e3] at hj;exact hj
  have:=h.pace j hj'
  unfold WS at this ⊢
  rw [e1,e3]
  exact this
 ·intro i hi
  have hi':i<m.smiths.length:=by omega
  rw [Xm (m:=m) (by rw [e2]) (by rw [e6])]
  rw [Xt m hi']
  split
  ·rename_i hp
   exact N9 (h.here i hi') hp.2 (by split<;>omega) (by split<;>omega)
  ·exact h.here i hi'
 ·intro i hi
  have hi':i<m.smiths.length:=by omega
  have ha:=Xs m k i hi'
  unfold Yj
  show (!ZR (Z8 (Zs m k).smiths i) || _)=true
  rw [ha.2.1]
  cases hp:ZR (Z8 m.smiths i)
  ·rfl
  ·obtain ⟨b0,b1,ho,hm,hband⟩:=h.at hi' hp
   obtain ⟨a0,a1,a2,a3,a4,a5⟩:=U1 hband
   obtain ⟨⟨q0,q1⟩,q2,q3⟩:=hmark (Z8 m.smiths i).2.1.toNat (by omega)
   have hmay:(Z8 (Zs m k).smiths i).2.2.2.1=(Z8 m.smiths i).2.2.2.1:=by
    rw [Xt m hi'];split<;>rfl
   show (!true || ((Z8 (Zs m k).desks (Z8 (Zs m k).smiths i).2.1.toNat).1 && (We (Z8 (Zs m k).smiths i).2.2.2.1 (Z8 (Zs m k).smiths i).2.1 && Xw (XG (Z8 (Zs m k).smiths i)) (Z8 (Zs m k).desks (Z8 (Zs m k).smiths i).2.1.toNat).2.2)))=true
   rw [ha.1,ha.2.2,hmay,hopen,ho,hm]
   rw [Pj a0 a1 (by omega) (by omega) ?_ (by omega)]
   ·rfl
   ·rcases q3 with q3 | q3
    ·omega
    ·have:=q3 i hi' (by omega) hp
     omega
 ·obtain ⟨j,hj,ho⟩:=h.openD
  exact ⟨j,by omega,by rw [hopen];exact ho⟩
theorem DM {α:Type} [Inhabited α] {xs ys:List α} (hl:xs.length=ys.length) (h:∀ i,i<xs.length->Z8 xs i=Z8 ys i):xs=ys:=by
 apply List.ext_getElem hl
 intro i h1 h2
 have:=h i h1
 unfold Z8 at this
 rwa [List.getD_eq_getElem?_getD,List.getD_eq_getElem?_getD,List.getElem?_eq_getElem h1,List.getElem?_eq_getElem h2] at this
theorem Eh {ss:List Z3} {b:Int} {e:Z6} {t:List Z6} (h:atV ss b ss.length=e::t):(ZM ss (e::t)).set e.2.toNat (stS (Z8 (ZM ss (e::t)) e.2.toNat) 3)=ZM (ss.set e.2.toNat (stS (Z8 ss e.2.toNat) 3)) t:=by
 have hmem:∀ x ∈ e::t,0<=x.2/\x.2<ss.length:=fun x hx=>by
  rw [<-h] at hx
  obtain ⟨i,hi,_,_,rfl⟩:=(Yt ss b x ss.length).1 hx
  exact ⟨by show (0:Int)<=(i:Int);omega,by show (i:Int)<_;omega⟩
 have hw:=Ue ss b ss.length
 rw [h,List.pairwise_cons] at hw
 obtain ⟨he0,he1⟩:=hmem e (List.mem_cons_self ..)
 have hel:e.2.toNat<ss.length:=by omega
 have hse:∀ x ∈ t,0<=x.2/\x.2<(ss.set e.2.toNat (stS (Z8 ss e.2.toNat) 3)).length:=fun x hx=>by rw [List.length_set];exact hmem x (List.mem_cons_of_mem _ hx)
 refine DM (by rw [List.length_set,Ye,Ye,List.length_set]) fun i hi=> ?_
 rw [List.length_set,Ye] at hi
 rw [ZK (by rw [Ye];exact hel)]
 obtain ⟨p1,p2⟩:=R1 (e::t) ss i hmem
 obtain ⟨r1,r2⟩:=R1 t (ss.set e.2.toNat (stS (Z8 ss e.2.toNat) 3)) i hse
 by_cases hie:i=e.2.toNat
 ·subst hie
  have hn:∀ x ∈ t,x.2 ≠ ((e.2.toNat:Nat):Int):=fun x hx e9=>hw.1 x hx (by omega)
  rw [if_pos rfl,r2 hn,ZK hel,if_pos rfl,p1 ⟨e,List.mem_cons_self ..,by omega⟩]
  rfl
 ·rw [if_neg hie]
  by_cases hx:∃ x ∈ t,x.2=(i:Int)
  ·obtain ⟨x,hx,hxi⟩:=hx
   rw [p1 ⟨x,List.mem_cons_of_mem _ hx,hxi⟩,r1 ⟨x,hx,hxi⟩,ZK hel,if_neg hie]
  ·have hn:∀ x ∈ t,x.2 ≠ (i:Int):=fun x hx' e9=>hx ⟨x,hx',e9⟩
   rw [p2 (fun x hx'=>by
    rcases List.mem_cons.1 hx' with rfl | hx'
    ·omega
    ·exact hn x hx'),r2 hn,ZK hel,if_neg hie]
def Zz (m:Z4):Z4:=if Y0 m then ZX m else YJ
theorem Wk:(Tryz.prog.info? 151).map (fun i=>(i.zero,i.size,i.bytes))=some (some (.agg #[.int .i64 0,.int .i64 0]),2,16):=by kernel_rfl
theorem TV (ps:List Z6):(Zj ps).length=ps.length*2:=by unfold Zj;exact My ps
theorem Se (ps qs:List Z6):Zj (ps++qs)=Zj ps++Zj qs:=by unfold Zj;rw [List.flatMap_append]
theorem P6:∀ (ps:List Z6) (n:Nat),Zj (ps.take n)=(Zj ps).take (n*2)
 | [],n=>by simp [Zj]
 | p::ps,0=>by simp [Zj]
 | p::ps,n+1=>by
  have ih:=P6 ps n
  unfold Zj at ih ⊢
  rw [show (n+1)*2=n*2+2 by omega]
  simpa using ih
def EntsAt (n₀:Nat) (w:World) (v:Value) (ps:List Z6):Prop:=w.ownsRow n₀ 151 2 v ps.length (Zj ps)
theorem EntsAt.lt {n₀:Nat}  {ps:List Z6} (h:EntsAt n₀ w v ps) {k:Nat} (hk:v.ownBlock=some k):n₀<=k/\k<w.heap.size:=World.ownsRow.lt h k hk
theorem EntsAt.mono {n₀ n₁:Nat}  {ps:List Z6} (h:EntsAt n₀ w v ps) (hn:n₁<=n₀):EntsAt n₁ w v ps:=Up h hn
theorem EntsAt.same {n₀:Nat}  {ps:List Z6} (h:EntsAt n₀ w v ps) (hs:∀ k,v.ownBlock=some k->w'.heap[k]?=w.heap[k]?):EntsAt n₀ w' v ps:=XS h hs
theorem EntsAt.later {n₀:Nat}  {ps:List Z6} (h:EntsAt n₀ w v ps) (hb:Below w.heap.size w w'):EntsAt n₀ w' v ps:=h.same fun k hk=>hb.block k (h.lt hk).2
theorem EntsAt.paces {n₀:Nat}  {ps:List Z6} (h:EntsAt n₀ w v ps):IsPaces w v ps:=by
 have h':=h
 rcases h.2 with ⟨rfl,hz⟩ | ⟨g,cap,cur,rfl,hb,hg,hnc,hcm,r⟩
 ·exact ⟨none,0,by rw [hz],by omega,by omega,.inl (List.eq_nil_of_length_eq_zero hz)⟩
 ·refine ⟨_,cap,rfl,hnc,by unfold maxLen at hcm;omega,.inr ⟨g,0,rfl,(Array.getElem?_eq_some_iff.1 hg).1,fun k hk=> ?_⟩⟩
  have hp:=Vv (f:=fun p:Z6=>Value.int .i64 p.1) (g:=fun p:Z6=>Value.int .i64 p.2) ps k hk
  have hat:Z7 ps k=ps[k]:=by unfold Z7;simp [List.getD,hk]
  rw [Nat.zero_add,hat]
  exact ⟨(World.ownsRow.cellAt h' (k*2) (by omega)).trans hp.1,(World.ownsRow.cellAt h' (k*2+1) (by omega)).trans hp.2⟩
theorem EntsAt.shape {n₀:Nat}  {ps:List Z6} (h:EntsAt n₀ w v ps):∃ a cap,v= .slice a ps.length cap:=by
 rcases h.2 with ⟨rfl,hz⟩ | ⟨g,cap,cur,rfl,_⟩
 ·exact ⟨none,0,by rw [hz]⟩
 ·exact ⟨_,cap,rfl⟩
theorem EntsAt.cut {n₀:Nat} {a:Option Addr} {len cap:Nat} {ps:List Z6} (h:EntsAt n₀ w (.slice a len cap) ps) {n:Nat} (hn:n<=ps.length) (ha:a ≠ none):EntsAt n₀ w (.slice a n cap) (ps.take n):=by
 have hl:(ps.take n).length=n:=by simp;omega
 unfold EntsAt
 rw [hl,P6]
 rcases h.2 with ⟨hv,hz⟩ | ⟨g,cap',cur,hv,hb,hg,hnc,hcm,hs,ht⟩
 ·cases hv;exact absurd rfl ha
 ·cases hv
  refine ⟨by rw [List.length_take,TV];omega,.inr ⟨g,cap,cur,rfl,hb,hg,by omega,hcm,hs,?_⟩⟩
  rw [<-ht,List.take_take];congr 1;omega
theorem IsPaces.cut {a:Option Addr} {len cap:Nat} {ps:List Z6} (h:IsPaces w (.slice a len cap) ps) {n:Nat} (hn:n<=ps.length):IsPaces w (.slice a n cap) (ps.take n):=by
 obtain ⟨a',cap',he,hc,hm,hr⟩:=h
 cases he
 have hl:(ps.take n).length=n:=by simp;omega
 refine ⟨a,cap,by rw [hl],by omega,hm,?_⟩
 rcases hr with hr | ⟨b,off,rfl,hlt,hcl⟩
 ·exact .inl (by rw [hr];simp)
 ·refine .inr ⟨b,off,rfl,hlt,fun k hk=> ?_⟩
  rw [V4 (by omega)]
  exact hcl k (by omega)
theorem F5 {a b c d:Int} (h:a ≠ c):ltB (a,b) (c,d)=decide (a<c):=by unfold ltB;simp;omega
theorem F6 {a b d:Int} : ltB (a,b) (a,d)=decide (b<d):=by unfold ltB;simp
theorem Ua (a b c d:Int) (w:World):Calls Tryz.prog 234 #[.agg #[.int .i64 a,.int .i64 b],.agg #[.int .i64 c,.int .i64 d]] w fun e w'=>e= .returned (.bool (ltB (a,b) (c,d)))/\Below w.heap.size w w':=by
 by_cases h:a=c
 ·subst h
  rw [F6]
  go_enter Tryz.func234,Tryz.ntmps234
  go_wp2_with fail
  go_ret
  exact ⟨rfl,((ba _ _)).alloc (by simp) _⟩
 ·rw [F5 h]
  have h':(a ==c)=false:=by simpa using h
  have h2:(a !=c)=true:=by simpa using h
  clear h
  go_enter Tryz.func234,Tryz.ntmps234
  go_wp2_with fail
  go_ret
  exact ⟨rfl,((ba _ _)).alloc (by simp) _⟩
theorem Xe (a b c d:Int) (w:World):Calls Tryz.prog 290 #[.agg #[.int .i64 a,.int .i64 b],.agg #[.int .i64 c,.int .i64 d]] w fun e w'=>e= .returned (.bool (ltB (a,b) (c,d)))/\Below w.heap.size w w':=by
 by_cases h:a=c
 ·subst h
  rw [F6]
  go_enter Tryz.func290,Tryz.ntmps290
  go_wp2_with fail
  go_ret
  exact ⟨rfl,((ba _ _)).alloc (by simp) _⟩
 ·rw [F5 h]
  have h':(a ==c)=false:=by simpa using h
  have h2:(a !=c)=true:=by simpa using h
  clear h
  go_enter Tryz.func290,Tryz.ntmps290
  go_wp2_with fail
  go_ret
  exact ⟨rfl,((ba _ _)).alloc (by simp) _⟩
theorem Mn (n:Int) (w:World):Calls Tryz.prog 310 #[.int .i64 n] w fun e w'=>e= .returned (.bool (inB n (-1000000000000) 1000000000000))/\w'=w:=by
 go_enter Tryz.func310,Tryz.ntmps310
 go_wp2_with (go_at_call 117;refine (ZD _ _ _ _).mono ?_;rintro e w' ⟨rfl,rfl⟩)
 go_ret
 exact ⟨rfl,rfl⟩
theorem V1 (f c:Int) (w:World):Calls Tryz.prog 289 #[.agg #[.int .i64 f,.int .i64 c]] w fun e w'=>e= .returned (.bool (NV (f,c)))/\Below w.heap.size w w':=by
 cases h1:inB f (-1000000000000) 1000000000000
 ·go_enter Tryz.func289,Tryz.ntmps289
  go_wp2_with fail
  refine (Mn _ _).mono ?_
  rintro e w' ⟨rfl,rfl⟩
  go_wp2_with fail
  go_ret
  exact ⟨Z5 (by unfold NV;simp [h1]),(ba _ _)⟩
 ·go_enter Tryz.func289,Tryz.ntmps289
  go_wp2_with fail
  refine (Mn _ _).mono ?_
  rintro e w' ⟨rfl,rfl⟩
  go_wp2_with fail
  refine (ZD _ _ _ _).mono ?_
  rintro e w' ⟨rfl,rfl⟩
  go_wp2_with fail
  go_ret
  exact ⟨Z5 (by unfold NV;simp [h1]),(ba _ _)⟩
theorem Mp (f c who:Int) (B:Nat) (w:World) (hc:w.cell? ⟨B,0,none⟩=some (.int .i64 who)) (hB:B<w.heap.size) :
  Calls Tryz.prog 312 #[.agg #[.int .i64 f,.int .i64 c],.pointer (some ⟨B,0,none⟩)] w fun e w'=>e= .returned (.bool (c ==who))/\Below w.heap.size w w':=by
 have hne:B ≠ w.heap.size:=Nat.ne_of_lt hB
 go_enter Tryz.func312,Tryz.ntmps312
 go_wp2_with fail
 go_ret
 exact ⟨rfl,(ba _ _)⟩
theorem JI  {ps:List Z6} (who:Int) (B:Nat) (h:IsPaces w v ps) (hc:w.cell? ⟨B,0,none⟩=some (.int .i64 who)) (hB:B<w.heap.size) :
  Calls Tryz.prog 311 #[v,.func (Fn.func 312) #[] #[.pointer (some ⟨B,0,none⟩)]] w fun e w'=>e= .returned (.int .i64 (Ww ps who))/\Below w.heap.size w w':=by
 obtain ⟨a,cap,rfl,hcc,hm,hr⟩:=h
 have Hr:=Z9 hr
 have Hc:=Z9 hc
 clear hr hc
 go_enter Tryz.func311,Tryz.ntmps311
 go_wp2_with fail
 go_loopw [5,8] (fun _ i wr=> ∃ k:Nat,k<=ps.length/\i= .int .i64 k/\Hid (∀ j,j<k->(Z7 ps j).2 ≠ who)/\Below w.heap.size w wr) (fun _ i _=>ps.length-(intOf i).toNat)
 case atStart=>exact ⟨0,Nat.zero_le _,rfl,Z9 (fun j hj=>by omega),Below.refl _ _⟩
 case round=>
  obtain ⟨k,hk,rfl,hno,hb⟩:=hrel
  have Hb:=Z9 hb
  by_cases hlt:k<ps.length
  ·rcases uh Hr with h0 | ⟨b,off,rfl,hbw,hcl⟩
   ·rw [h0] at hlt;simp at hlt
   obtain ⟨c0,c1⟩:=hcl k hlt
   rw [<-hb.cell (p:=⟨b,off+k*2,none⟩) hbw] at c0
   rw [<-hb.cell (p:=⟨b,off+k*2+1,none⟩) hbw] at c1
   generalize hz:Z7 ps k=p at *
   obtain ⟨f,z⟩:=p
   simp only at c0 c1
   have hcb:=(hb.cell (p:=⟨B,0,none⟩) hB).trans (uh Hc)
   have hBr:B<wr.heap.size:=Nat.lt_of_lt_of_le hB hb.size
   have Hz:=Z9 hz
   have Hcb:=Z9 hcb
   clear hz hcl hb hcb
   by_cases hx:z=who
   ·subst hx
    go_wp2_with fail
    refine ck (Mp _ _ _ _ _ (uh Hcb) hBr) fun w1 hb1=> ?_
    have Hb1:=Z9 hb1
    clear hb1
    go_wp2_with fail
    go_ret
    exact ⟨ZI (GC hlt (by rw [uh Hz]) (uh hno)).symm,(uh Hb).trans ((uh Hb1).mono (uh Hb).size)⟩
   ·have hx':(z ==who)=false:=by simpa using hx
    have Hx:=Z9 hx
    clear hx
    go_wp2_with fail
    refine (Mp _ _ _ _ _ (uh Hcb) hBr).mono ?_
    rw [hx']
    rintro e w1 ⟨rfl,hb1⟩
    have Hb1:=Z9 hb1
    clear hb1
    go_wp2_with fail
    go_roundw
    case rel=>exact ⟨k+1,by omega,by go_num,Z9 (YF (uh hno) (by rw [uh Hz];exact uh Hx)),(uh Hb).trans ((uh Hb1).mono (uh Hb).size)⟩
    case measure=>exact ms
  ·obtain rfl:k=ps.length:=by omega
   go_wp2_with fail
   go_ret
   exact ⟨ZI (NX (uh hno)).symm,hb⟩
theorem Kj  {ps:List Z6} (who:Int) (h:IsPaces w v ps) :
  Calls Tryz.prog 291 #[v,.int .i64 who] w fun e w'=>e= .returned (.int .i64 (Ww ps who))/\Below w.heap.size w w':=by
 have Hv:=Z9 h
 obtain ⟨a,cap,rfl,hcc,hm,hr⟩:=h
 clear hr
 go_enter Tryz.func291,Tryz.ntmps291
 go_wp2_with fail
 refine ck (JI who w.heap.size ((uh Hv).below ((ba _ _))) (by simp) (by simp)) fun w1 hb=> ?_
 have Hb:=Z9 hb
 clear hb
 go_wp2_with fail
 go_ret
 exact ⟨rfl,((ba _ _)).trans ((uh Hb).mono (by simp))⟩
structure Fr (bx:Nat) (r:Option Nat) (w w':World):Prop where
 os:w'.os=w.os
 tape:w'.tape=w.tape
 output:w'.output=w.output
 size:w.heap.size<=w'.heap.size
 block:∀ k,k<w.heap.size->k ≠ bx->r ≠ some k->w'.heap[k]?=w.heap[k]?
theorem Fr.refl (bx:Nat) (r:Option Nat) (w:World):Fr bx r w w:=⟨rfl,rfl,rfl,Nat.le_refl _,fun _ _ _ _=>rfl⟩
theorem Fr.trans {bx:Nat} {r:Option Nat} {a b c:World} (h:Fr bx r a b) (k:Fr bx r b c):Fr bx r a c:=
 ⟨k.os.trans h.os,k.tape.trans h.tape,k.output.trans h.output,Nat.le_trans h.size k.size,fun i hi hn hr=>(k.block i (Nat.lt_of_lt_of_le hi h.size) hn hr).trans (h.block i hi hn hr)⟩
theorem Fr.of_below {bx:Nat} {r:Option Nat} (h:Below w.heap.size w w'):Fr bx r w w':=⟨h.os,h.tape,h.output,h.size,fun k hk _ _=>h.block k hk⟩
theorem Fr.of_grown {bx:Nat} {r:Option Nat} (h:w.grownBy w' r):Fr bx r w w':=⟨h.os,h.tape,h.output,h.size,fun k hk _ hr=>h.block k hk (fun e=>hr e.symm)⟩
theorem Fr.box {bx:Nat} {r:Option Nat} (w:World) (v:Value):Fr bx r w (w.setCell ⟨bx,0,none⟩ v):=⟨rfl,rfl,rfl,by simp,fun k hk hn _=>Below.heap_setCell w ⟨bx,0,none⟩ v k hn⟩
theorem Fr.below {bx B:Nat} {r:Option Nat} (h:Fr bx r w w') (hx:B<=bx) (hr:∀ k,r=some k->B<=k) (hs:B<=w.heap.size):Below B w w':=
 ⟨h.os,h.tape,h.output,h.size,fun k hk=>h.block k (by omega) (by omega) (fun e=>by have:=hr k e;omega)⟩
theorem EntsAt.fr {n₀ bx:Nat} {r:Option Nat}  {ps:List Z6} (h:EntsAt n₀ w v ps) (hf:Fr bx r w w') (h1:v.ownBlock ≠ some bx) (h2:∀ k,v.ownBlock=some k->r ≠ some k):EntsAt n₀ w' v ps:=
 h.same fun k hk=>hf.block k (h.lt hk).2 (fun e=>h1 (by rw [hk,e])) (h2 k hk)
structure HeapIs (n₀ bx:Nat) (v:Value) (w:World) (ps:List Z6):Prop where
 cell:w.cell? ⟨bx,0,none⟩=some v
 free:w.frozen? ⟨bx,0,none⟩=false
 lt:bx<w.heap.size
 row:EntsAt n₀ w v ps
 off:v.ownBlock ≠ some bx
theorem HeapIs.later {n₀ bx:Nat}  {ps:List Z6} (h:HeapIs n₀ bx v w ps) (hb:Below w.heap.size w w'):HeapIs n₀ bx v w' ps:=
 ⟨(hb.cell (p:=⟨bx,0,none⟩) h.lt).trans h.cell,(hb.frozen (p:=⟨bx,0,none⟩) h.lt).trans h.free,Nat.lt_of_lt_of_le h.lt hb.size,h.row.later hb,h.off⟩
theorem HeapIs.view {n₀ bx:Nat}  {ps:List Z6} (h:HeapIs n₀ bx v w ps) (hl:0<ps.length):∃ g cap,v= .slice (some ⟨g,0,none⟩) ps.length cap/\g ≠ bx/\g<w.heap.size/\n₀<=g/\ps.length<=cap/\cap<=9223372036854775807/\
  (∀ k,k<ps.length->w.cell? ⟨g,k*2,none⟩=some (.int .i64 (Z7 ps k).1)/\w.cell? ⟨g,k*2+1,none⟩=some (.int .i64 (Z7 ps k).2))/\(∀ k,w.frozen? ⟨g,k,none⟩=false):=by
 have hr:=h.row
 rcases h.row.2 with ⟨hv,hz⟩ | ⟨g,cap,cur,rfl,hb,hg,hnc,hcm,r⟩
 ·omega
 ·obtain ⟨a,cap',he,_,_,hrr⟩:=hr.paces
  cases he
  refine ⟨g,cap,rfl,fun e=>h.off (by rw [e];rfl),(Array.getElem?_eq_some_iff.1 hg).1,hb,hnc,by unfold maxLen at hcm;omega,?_,fun k=>World.ownsRow.frozenAt hr k⟩
  rcases hrr with h0 | ⟨b,off,he,_,hcl⟩
  ·rw [h0] at hl;simp at hl
  ·cases he
   intro k hk
   have:=hcl k hk
   simpa using this
theorem Ri {n₀ bx:Nat}  {ps:List Z6} (h:HeapIs n₀ bx v w ps):Calls Tryz.prog 308 #[.pointer (some ⟨bx,0,none⟩)] w fun e w'=>e= .returned (.int .i64 ps.length)/\w'=w:=by
 have hc:=h.cell
 obtain ⟨a,cap,rfl⟩:=h.row.shape
 go_enter Tryz.func308,Tryz.ntmps308
 go_wp2_with fail
 go_ret
 exact ⟨rfl,rfl⟩
theorem S5 {n₀ bx:Nat}  {ps:List Z6} (h:HeapIs n₀ bx v w ps) {i j:Nat} (hi:i<ps.length) (hj:j<ps.length) :
  Calls Tryz.prog 373 #[.pointer (some ⟨bx,0,none⟩),.int .i64 i,.int .i64 j] w fun e w'=>e= .returned (.bool (ltB (Z7 ps i) (Z7 ps j)))/\Below w.heap.size w w':=by
 obtain ⟨g,cap,rfl,hne,hlt,_,hnc,hcm,hcl,_⟩:=h.view (by omega)
 have hc:=h.cell
 obtain ⟨a0,a1⟩:=hcl i hi
 obtain ⟨b0,b1⟩:=hcl j hj
 generalize Z7 ps i=p at *
 generalize Z7 ps j=q at *
 obtain ⟨f,z⟩:=p
 obtain ⟨f',z'⟩:=q
 simp only at a0 a1 b0 b1
 have hi0:(0:Int)<=(i:Int):=by omega
 have hj0:(0:Int)<=(j:Int):=by omega
 have hi1:(i:Int)<(ps.length:Int):=by omega
 have hj1:(j:Int)<(ps.length:Int):=by omega
 have k0:=cell_regrown a0
 have k1:=cell_regrown a1
 have k2:=cell_regrown b0
 have k3:=cell_regrown b1
 have k4:=cell_regrown hc
 clear hcl h hc a0 a1 b0 b1
 go_enter Tryz.func373,Tryz.ntmps373
 go_wp2_with fail
 refine wq ?_
 repeat (go_big_quiet_step (exact Calls.regrown_of (Xe _ _ _ _ _)))
 refine wpQuiet_nil ?_
 intro _ hw'
 obtain ⟨⟨dq,osq⟩,hw''⟩:=hw'
 subst hw''
 go_wp2_with fail
 go_ret
 exact ⟨rfl,below_regrown _ _ _⟩
theorem Th {a p:Addr} (h:w.cell? p=some v):∃ c,(w.setCell a u).cell? p=some c:=by
 by_cases e:p=a
 ·subst e;exact ⟨_,World.cell?_setCell_same _ _ _ h⟩
 ·exact ⟨v,by rw [World.cell?_setCell_other _ _ _ _ (fun e2=>e e2.symm)];exact h⟩
theorem HeapIs.swapped {n₀ bx g cap n:Nat} {ps:List Z6} (h:HeapIs n₀ bx (.slice (some ⟨g,0,none⟩) n cap) w ps) (hn:n=ps.length) (hne:g ≠ bx) {i j:Nat} (hi:i<ps.length) (hj:j<ps.length) (f z f' z':Int) (W:World) (hW:W=((((w.setCell ⟨g,i*2,none⟩ (.int .i64 f')).setCell ⟨g,i*2+1,none⟩ (.int .i64 z')).setCell ⟨g,j*2,none⟩ (.int .i64 f)).setCell ⟨g,j*2+1,none⟩ (.int .i64 z))) :
  HeapIs n₀ bx (.slice (some ⟨g,0,none⟩) n cap) W ((ps.set i (f',z')).set j (f,z))/\Fr bx (some g) w W:=by
 subst hn
 have r1:=J6 h.row (i*2) (.int .i64 f') (.int .i64 z')
 rw [BO _ _ _ _ hi] at r1
 have r2:=J6 r1.1 (j*2) (.int .i64 f) (.int .i64 z)
 rw [BO _ _ _ _ (by simpa using hj),<-hW] at r2
 have hg:=SM r1.2 r2.2
 clear r1 hW
 have hlt:=h.lt
 have hb:=hg.block bx hlt (by simpa using Ne.symm hne)
 refine ⟨⟨?_,?_,Nat.lt_of_lt_of_le hlt hg.size,?_,h.off⟩,Fr.of_grown hg⟩
 ·exact (World.cell?_of_block (w:=w) (a:=⟨bx,0,none⟩) hb).trans h.cell
 ·exact (World.frozen?_of_block (w:=w) (a:=⟨bx,0,none⟩) hb).trans h.free
 ·unfold EntsAt
  rw [List.length_set,List.length_set]
  exact r2.1
theorem Ti {n₀ bx:Nat}  {ps:List Z6} (h:HeapIs n₀ bx v w ps) {i j:Nat} (hi:i<ps.length) (hj:j<ps.length) :
  Calls Tryz.prog 376 #[.pointer (some ⟨bx,0,none⟩),.int .i64 i,.int .i64 j] w fun e w'=>e= .returned (.tuple #[])/\HeapIs n₀ bx v w' (swp ps i j)/\Fr bx v.ownBlock w w':=by
 have H:=Z9 h
 obtain ⟨g,cap,rfl,hne,hlt,hn0,hnc,hcm,hcl,hfz⟩:=h.view (by omega)
 have hc:=h.cell
 obtain ⟨a0,a1⟩:=hcl i hi
 obtain ⟨b0,b1⟩:=hcl j hj
 have z0:=hfz (i*2)
 have z1:=hfz (i*2+1)
 have z2:=hfz (j*2)
 have z3:=hfz (j*2+1)
 have HX:Hid (swp ps i j=(ps.set i (Z7 ps j)).set j (Z7 ps i)):=Z9 rfl
 generalize Z7 ps i=p at *
 generalize Z7 ps j=q at *
 obtain ⟨f,z⟩:=p
 obtain ⟨f',z'⟩:=q
 simp only at a0 a1 b0 b1
 have hi0:(0:Int)<=(i:Int):=by omega
 have hj0:(0:Int)<=(j:Int):=by omega
 have hi1:(i:Int)<(ps.length:Int):=by omega
 have hj1:(j:Int)<(ps.length:Int):=by omega
 obtain ⟨c1,y1⟩:∃ c,(w.setCell ⟨g,i*2,none⟩ (.int .i64 f')).cell? ⟨g,j*2,none⟩=some c:=Th b0
 obtain ⟨c2,y2⟩:∃ c,((w.setCell ⟨g,i*2,none⟩ (.int .i64 f')).setCell ⟨g,i*2+1,none⟩ (.int .i64 z')).cell? ⟨g,j*2+1,none⟩=some c:=by
  obtain ⟨c,hc9⟩:=Th (a:=⟨g,i*2,none⟩) (u:= .int .i64 f') b1
  exact Th hc9
 obtain ⟨c3,y3⟩:∃ c,((w.setCell ⟨g,i*2,none⟩ (.int .i64 f')).setCell ⟨g,i*2+1,none⟩ (.int .i64 z')).cell? ⟨g,j*2,none⟩=some c:=by
  obtain ⟨c,hc9⟩:=Th (a:=⟨g,i*2,none⟩) (u:= .int .i64 f') b0
  exact Th hc9
 clear hcl h hfz
 go_enter Tryz.func376,Tryz.ntmps376
 go_wp2_with fail
 go_region
 go_end0
 generalize hW:((((w.setCell ⟨g,i*2,none⟩ (.int .i64 f')).setCell ⟨g,i*2+1,none⟩ (.int .i64 z')).setCell ⟨g,j*2,none⟩ (.int .i64 f)).setCell ⟨g,j*2+1,none⟩ (.int .i64 z))=W
 obtain ⟨h1,h2⟩:=(uh H).swapped rfl hne hi hj f z f' z' W hW.symm
 exact ⟨rfl,by rw [uh HX];exact h1.later ((Below.refl _ _).drew),h2.trans (Fr.of_below ((Below.refl _ _).drew))⟩
end Go.Proofs.YtffcgajndmhpkaaGreatDoor
