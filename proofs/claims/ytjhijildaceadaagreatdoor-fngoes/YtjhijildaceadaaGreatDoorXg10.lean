/- Part 10 of what the proof rests on. No condition but those that a theorem names. -/
import Derived.Test.YtjhijildaceadaaGreatDoorXg09
import Derived.Deep.RegionHeld3
set_option maxHeartbeats 8000000
set_option maxRecDepth 100000
namespace Go.Proofs.YtjhijildaceadaaGreatDoor
open Go.ChangeShapes Go.WideShapes Go.ChangeAt Go.RowKit Go.Sort
set_option linter.unusedVariables false
variable {w w' w0 w1 w2 w3 w₀ wr W W' X A B C : World} {v v0 v1 v2 v3 v4 u u0 u1 u2 u3 u4 : Value} {m : Z4}
theorem Nw {ss : List Z3} {b : Int} {k : Nat} (h : Yn ss b k = none) : ∀ n, k ≤ n → Yn ss b n = none
  | 0, hn => by obtain rfl : k = 0 := by omega
                exact h
  | n + 1, hn => by
    by_cases e : k = n + 1
    · rw [← e]; exact h
    · have := Nw h n (by omega)
      unfold Yn; rw [this]
theorem Gn {ss:List Z3} {b wk:Int} {wt:Bool} {k:Nat} (h:Yn ss b k=some (wk,wt)) (hs:¬ ((Z8 ss k).2.1=b/\ZT (Z8 ss k)=true)):Yn ss b (k+1)=some (wk,wt):=by
  unfold Yn;rw [h];simp only [if_neg hs]
theorem Gp {ss:List Z3} {b wk:Int} {wt:Bool} {k:Nat} (h:Yn ss b k=some (wk,wt)) (h1:(Z8 ss k).2.1=b) (h2:ZT (Z8 ss k)=true) (h3:(Z8 ss k).1=2):Yn ss b (k+1)=some (wk,true):=by
  unfold Yn;rw [h];simp only [if_pos (And.intro h1 h2),if_pos h3]
theorem EX {ss:List Z3} {b wk:Int} {wt:Bool} {k:Nat} (h:Yn ss b k=some (wk,wt)) (h1:(Z8 ss k).2.1=b) (h2:ZT (Z8 ss k)=true) (h3:¬ (Z8 ss k).1=2) (h4:0<=wk):Yn ss b (k+1)=none:=by
  unfold Yn;rw [h];simp only [if_pos (And.intro h1 h2),if_neg h3,if_pos h4]
theorem Gq {ss:List Z3} {b wk:Int} {wt:Bool} {k:Nat} (h:Yn ss b k=some (wk,wt)) (h1:(Z8 ss k).2.1=b) (h2:ZT (Z8 ss k)=true) (h3:¬ (Z8 ss k).1=2) (h4:¬ 0<=wk):Yn ss b (k+1)=some ((k:Int),wt):=by
  unfold Yn;rw [h];simp only [if_pos (And.intro h1 h2),if_neg h3,if_neg h4]
theorem Jn (h:YY m=false):ZP m=false:=by unfold ZP;rw [h];rfl
theorem Pv {k:Nat} (hk:k<m.desks.length) (h:YH m k=false):ZP m=false:=by unfold ZP;rw [Sl hk h];simp
theorem E8 (h:YY m=true) (h2:(List.range m.desks.length).all (YH m)=true):ZP m=true:=by unfold ZP;rw [h,h2];rfl
theorem NN {k:Nat} (h:Yn m.smiths k m.smiths.length=none):YH m k=false:=by unfold YH;rw [h]
theorem NO {k:Nat} {wk:Int} {wt:Bool} (h:Yn m.smiths k m.smiths.length=some (wk,wt)):YH m k=((Z8 m.desks k).2.1 ==wk && !(wt && decide (wk<0))):=by unfold YH;rw [h]
theorem IJ  {q : Bool} (hq : YY m = q) (h : Smy w v0 v1 v2 v3 v4 m) :
    Calls Tryz.prog 84 #[.agg #[v0, v1, v2, v3, v4, .int .i64 m.now]] w fun e w' => e = .returned (.bool q) ∧ Below w.heap.size w w' := by
  have := Ue h; rw [hq] at this; exact this
theorem Rr  (h : Smy w v0 v1 v2 v3 v4 m) :
    Calls Tryz.prog 25 #[.agg #[v0, v1, v2, v3, v4, .int .i64 m.now]] w fun e w' => e = .returned (.bool (ZP m)) ∧ Below w.heap.size w w' := by
  have Hv := Z9 (h.alloc (.cells #[v0, v1, v2, v3, v4, .int .i64 m.now] 32))
  obtain ⟨h0, h1, h2, h3, h4⟩ := h
  obtain ⟨a0, p0, rfl, hc0, hm0, _⟩ := h0
  obtain ⟨a1, p1, rfl, hc1, hm1, _⟩ := h1
  obtain ⟨a2, p2, rfl, hc2, hm2, r2⟩ := h2
  obtain ⟨a3, p3, rfl, hc3, hm3, r3⟩ := h3
  obtain ⟨a4, p4, rfl, hc4, hm4, _⟩ := h4
  have R2 := Z9 r2
  have R3 := Z9 r3
  clear r2 r3
  obtain ⟨ql, hql⟩ : ∃ q, YY m = q := ⟨_, rfl⟩
  have QL := Z9 hql
  clear hql
  go_enter Tryz.func25, Tryz.ntmps25
  go_wp2_with fail
  refine (IJ (uh QL) (uh Hv)).mono ?_
  rintro e w1 ⟨rfl, hb⟩
  have kb : Hid (Blk w1 w.heap.size 32 (S6 a0 p0 a1 p1 a2 p2 a3 p3 a4 p4 m)) := Z9 ((Blk.new w _ _).below hb (by simp))
  have BB : Hid (Below w.heap.size w w1) := Z9 (((Below.refl _ _).alloc (Nat.le_refl _) _).trans (hb.mono (by simp)))
  clear hb Hv
  have c3 := (uh kb).cell (i := 3) (v := .slice a3 m.desks.length p3) rfl
  cases ql
  · go_wp2_with fail
    go_ret
    exact ⟨Z5 (Jn (uh QL)).symm, uh BB⟩
  go_wp2_with fail
  clear c3
  go_loopw [3] (fun b wr => ∃ k : Nat, k ≤ m.desks.length ∧ b = .int .i64 k ∧ (List.range k).all (YH m) = true ∧ Blk wr w.heap.size 32 (S6 a0 p0 a1 p1 a2 p2 a3 p3 a4 p4 m) ∧ Below w.heap.size w wr) (fun b _ => m.desks.length - (intOf b).toNat)
  case atStart => exact ⟨0, Nat.zero_le _, rfl, rfl, uh kb, uh BB⟩
  case round =>
    obtain ⟨j, hj, rfl, hup, kb1, hb1⟩ := hrel
    clear kb BB
    have kb := Z9 kb1
    have BB := Z9 hb1
    have Hup := Z9 hup
    clear kb1 hb1 hup
    have c3 := (uh kb).cell (i := 3) (v := .slice a3 m.desks.length p3) rfl
    by_cases hlt : j < m.desks.length
    · have c2 := (uh kb).cell (i := 2) (v := .slice a2 m.smiths.length p2) rfl
      go_wp2_with fail
      clear c2 c3
      obtain ⟨wo, rfl⟩ : ∃ wo, wo = wr := ⟨wr, rfl⟩
      go_loopw [4, 5, 6] (fun x y i wr => ∃ (k : Nat) (wk : Int) (wt : Bool), k ≤ m.smiths.length ∧ x = .int .i64 wk ∧ y = .bool wt ∧ i = .int .i64 k ∧ -1 ≤ wk ∧ wk ≤ (k : Int) ∧ Yn m.smiths j k = some (wk, wt) ∧ Blk wr w.heap.size 32 (S6 a0 p0 a1 p1 a2 p2 a3 p3 a4 p4 m) ∧ Below w.heap.size w wr) (fun _ _ i _ => m.smiths.length - (intOf i).toNat)
      case atStart => exact ⟨0, -1, false, Nat.zero_le _, rfl, rfl, rfl, by omega, by omega, rfl, uh kb, uh BB⟩
      case round =>
        obtain ⟨k, wkk, wt, hk, rfl, rfl, rfl, wk0, wk1, hsc, kb1, hb1⟩ := hrel
        clear kb BB
        have kb := Z9 kb1
        have BB := Z9 hb1
        have Hsc := Z9 hsc
        clear kb1 hb1 hsc
        have c2 := (uh kb).cell (i := 2) (v := .slice a2 m.smiths.length p2) rfl
        by_cases hls : k < m.smiths.length
        · rcases uh R2 with e0 | ⟨b, off, rfl, hbw, hcl⟩
          · rw [e0] at hls; simp at hls
          obtain ⟨d0, d1, d2, d3, d4, d5, d6, d7, d8, d9, d10⟩ := ZK hcl hls
          rw [← (uh BB).cell (p := ⟨b, off + k * 11, none⟩) hbw] at d0
          rw [← (uh BB).cell (p := ⟨b, off + k * 11 + 1, none⟩) hbw] at d1
          rw [← (uh BB).cell (p := ⟨b, off + k * 11 + 2, none⟩) hbw] at d2
          rw [← (uh BB).cell (p := ⟨b, off + k * 11 + 3, none⟩) hbw] at d3
          rw [← (uh BB).cell (p := ⟨b, off + k * 11 + 4, none⟩) hbw] at d4
          rw [← (uh BB).cell (p := ⟨b, off + k * 11 + 5, none⟩) hbw] at d5
          rw [← (uh BB).cell (p := ⟨b, off + k * 11 + 6, none⟩) hbw] at d6
          rw [← (uh BB).cell (p := ⟨b, off + k * 11 + 7, none⟩) hbw] at d7
          rw [← (uh BB).cell (p := ⟨b, off + k * 11 + 8, none⟩) hbw] at d8
          rw [← (uh BB).cell (p := ⟨b, off + k * 11 + 9, none⟩) hbw] at d9
          rw [← (uh BB).cell (p := ⟨b, off + k * 11 + 10, none⟩) hbw] at d10
          clear hcl
          have S1 := Z9 (fun hs => Gn (uh Hsc) hs)
          have S2 := Z9 (fun h1 h2 h3 => Gp (uh Hsc) h1 h2 h3)
          have S3 := Z9 (fun h1 h2 h3 h4 => EX (uh Hsc) h1 h2 h3 h4)
          have S4 := Z9 (fun h1 h2 h3 h4 => Gq (uh Hsc) h1 h2 h3 h4)
          generalize Z8 m.smiths k = ss at *
          obtain ⟨st, be, rk, my, gu, lo, hi, hd, ca, ut, wk⟩ := ss
          simp only at d0 d1 d2 d3 d4 d5 d6 d7 d8 d9 d10
          have hl0 : w.heap.size < wr.heap.size := (uh kb).lt
          by_cases hbe : be = (j : Int)
          rotate_left
          · have hbn : (be != (j : Int)) = true := by simpa using hbe
            go_wp2_with fail
            go_roundw
            case rel => exact ⟨k + 1, wkk, wt, by omega, rfl, rfl, by go_num, by omega, by omega, uh S1 (fun h9 => hbe h9.1), (uh kb).alloc _, (uh BB).alloc (uh BB).size _⟩
            case measure => simp [intOf]; omega
          subst hbe
          have hbn : ((j : Int) != (j : Int)) = false := by simp
          obtain ⟨ps, hps⟩ : ∃ q, ZT (st, (j : Int), rk, my, gu, lo, hi, hd, ca, ut, wk) = q := ⟨_, rfl⟩
          have Hps := Z9 hps
          clear hps
          go_wp2_with fail
          clear c2 d0 d1 d2 d3 d4 d5 d6 d7 d8 d9 d10
          refine (YX (uh Hps) _).mono ?_
          rintro e w2 ⟨rfl, hb⟩
          have ks : Hid (Blk w2 wr.heap.size 43 (I11 st (j : Int) rk my gu lo hi hd ca ut wk)) := Z9 ((Blk.new wr _ _).below hb (by simp))
          replace kb := Z9 (((uh kb).alloc (.cells (I11 st (j : Int) rk my gu lo hi hd ca ut wk) 43)).below hb (by simp; omega))
          replace BB := Z9 ((((uh BB).alloc (uh BB).size (.cells (I11 st (j : Int) rk my gu lo hi hd ca ut wk) 43))).trans (hb.mono (by simp; have := (uh BB).size; omega)))
          clear hb hl0
          have d0 := (uh ks).cell (i := 0) (v := .int .i64 st) rfl
          cases ps
          · go_wp2_with fail
            go_roundw
            case rel => exact ⟨k + 1, wkk, wt, by omega, rfl, rfl, by go_num, by omega, by omega, uh S1 (fun h9 => by have h8 := h9.2; rw [uh Hps] at h8; cases h8), uh kb, uh BB⟩
            case measure => simp [intOf]; omega
          by_cases hst : st = 2
          · subst hst
            go_wp2_with fail
            go_roundw
            case rel => exact ⟨k + 1, wkk, true, by omega, rfl, rfl, by go_num, by omega, by omega, uh S2 (by first | rfl | trivial) (uh Hps) (by first | rfl | trivial), uh kb, uh BB⟩
            case measure => simp [intOf]; omega
          have hsn : (st == 2) = false := by simpa using hst
          by_cases hw0 : 0 ≤ wkk
          · go_wp2_with fail
            go_ret
            exact ⟨Z5 (Pv hlt (NN (Nw (uh S3 (by first | rfl | trivial) (uh Hps) hst hw0) _ (by omega)))).symm, uh BB⟩
          go_wp2_with fail
          go_roundw
          case rel => exact ⟨k + 1, (k : Int), wt, by omega, rfl, rfl, by go_num, by omega, by omega, uh S4 (by first | rfl | trivial) (uh Hps) hst hw0, uh kb, uh BB⟩
          case measure => simp [intOf]; omega
        · obtain rfl : k = m.smiths.length := by omega
          have c3 := (uh kb).cell (i := 3) (v := .slice a3 m.desks.length p3) rfl
          rcases uh R3 with e0 | ⟨b', off', rfl, hbw', hcl'⟩
          · rw [e0] at hlt; simp at hlt
          obtain ⟨_, t1, _⟩ := Zp hcl' hlt
          rw [← (uh BB).cell (p := ⟨b', off' + j * 3 + 1, none⟩) hbw'] at t1
          clear hcl'
          have HB := Z9 (NO (uh Hsc))
          have HL := Z9 (Pv (m := m) hlt)
          have HU := Z9 (show (List.range (j + 1)).all (YH m) = ((List.range j).all (YH m) && YH m j) from UX j)
          generalize Z8 m.desks j = dd at *
          obtain ⟨op, who, mk⟩ := dd
          simp only at t1
          by_cases hwho : who = wkk
          rotate_left
          · have hwn : (who != wkk) = true := by simpa using hwho
            go_wp2_with fail
            go_ret
            exact ⟨Z5 (uh HL (by rw [uh HB]; simp [hwho])).symm, uh BB⟩
          have hwn : (who != wkk) = false := by simpa using hwho
          have Hwho := Z9 hwho
          clear hwho
          cases wt
          · go_wp2_with fail
            go_roundw
            case rel => exact ⟨j + 1, by omega, by go_num, by rw [uh HU, uh Hup, uh HB, uh Hwho]; simp, uh kb, uh BB⟩
            case measure => simp [intOf]; omega
          by_cases hw0 : wkk < 0
          · go_wp2_with fail
            go_ret
            exact ⟨Z5 (uh HL (by rw [uh HB]; simp [hw0])).symm, uh BB⟩
          go_wp2_with fail
          go_roundw
          case rel => exact ⟨j + 1, by omega, by go_num, by rw [uh HU, uh Hup, uh HB, uh Hwho]; simp; omega, uh kb, uh BB⟩
          case measure => simp [intOf]; omega
    · obtain rfl : j = m.desks.length := by omega
      go_wp2_with fail
      go_ret
      exact ⟨Z5 (E8 (uh QL) (uh Hup)).symm, uh BB⟩
theorem Ws:(Tryz.prog.info? 94).map (fun i=>(i.zero,i.size,i.bytes))=some (some (.agg #[.int .i64 0,.int .i64 0]),2,16):=by kernel_rfl
theorem Un (ps:List Z6):(Zq ps).length=ps.length*2:=by unfold Zq;exact Nr ps
theorem SL (ps qs:List Z6):Zq (ps++qs)=Zq ps++Zq qs:=by unfold Zq;rw [List.flatMap_append]
theorem QG:∀ (ps:List Z6) (n:Nat),Zq (ps.take n)=(Zq ps).take (n*2)
 | [],n=>by simp [Zq]
 | p::ps,0=>by simp [Zq]
 | p::ps,n+1=>by
  have ih:=QG ps n
  unfold Zq at ih ⊢
  rw [show (n+1)*2=n*2+2 by omega]
  simpa using ih
def EntsAt (n₀:Nat) (w:World) (v:Value) (ps:List Z6):Prop:=w.ownsRow n₀ 94 2 v ps.length (Zq ps)
theorem EntsAt.lt {n₀:Nat}  {ps:List Z6} (h:EntsAt n₀ w v ps) {k:Nat} (hk:v.ownBlock=some k):n₀<=k/\k<w.heap.size:=World.ownsRow.lt h k hk
theorem EntsAt.mono {n₀ n₁:Nat}  {ps:List Z6} (h:EntsAt n₀ w v ps) (hn:n₁<=n₀):EntsAt n₁ w v ps:=UK h hn
theorem EntsAt.same {n₀:Nat}  {ps:List Z6} (h:EntsAt n₀ w v ps) (hs:∀ k,v.ownBlock=some k->w'.heap[k]?=w.heap[k]?):EntsAt n₀ w' v ps:=X8 h hs
theorem EntsAt.later {n₀:Nat}  {ps:List Z6} (h:EntsAt n₀ w v ps) (hb:Below w.heap.size w w'):EntsAt n₀ w' v ps:=h.same fun k hk=>hb.block k (h.lt hk).2
theorem EntsAt.paces {n₀:Nat}  {ps:List Z6} (h:EntsAt n₀ w v ps):IsPaces w v ps:=by
 have h':=h
 rcases h.2 with ⟨rfl,hz⟩ | ⟨g,cap,cur,rfl,hb,hg,hnc,hcm,r⟩
 ·exact ⟨none,0,by rw [hz],by omega,by omega,.inl (List.eq_nil_of_length_eq_zero hz)⟩
 ·refine ⟨_,cap,rfl,hnc,by unfold maxLen at hcm;omega,.inr ⟨g,0,rfl,(Array.getElem?_eq_some_iff.1 hg).1,fun k hk=> ?_⟩⟩
  have hp:=VM (f:=fun p:Z6=>Value.int .i64 p.1) (g:=fun p:Z6=>Value.int .i64 p.2) ps k hk
  have hat:Z7 ps k=ps[k]:=by unfold Z7;simp [List.getD,hk]
  rw [Nat.zero_add,hat]
  exact ⟨(World.ownsRow.cellAt h' (k*2) (by omega)).trans hp.1,(World.ownsRow.cellAt h' (k*2+1) (by omega)).trans hp.2⟩
theorem EntsAt.shape {n₀:Nat}  {ps:List Z6} (h:EntsAt n₀ w v ps):∃ a cap,v= .slice a ps.length cap:=by
 rcases h.2 with ⟨rfl,hz⟩ | ⟨g,cap,cur,rfl,_⟩
 ·exact ⟨none,0,by rw [hz]⟩
 ·exact ⟨_,cap,rfl⟩
theorem EntsAt.cut {n₀:Nat} {a:Option Addr} {len cap:Nat} {ps:List Z6} (h:EntsAt n₀ w (.slice a len cap) ps) {n:Nat} (hn:n<=ps.length) (ha:a ≠ none):EntsAt n₀ w (.slice a n cap) (ps.take n):=by
 have hl:(ps.take n).length=n:=by simp;omega
 unfold EntsAt
 rw [hl,QG]
 rcases h.2 with ⟨hv,hz⟩ | ⟨g,cap',cur,hv,hb,hg,hnc,hcm,hs,ht⟩
 ·cases hv;exact absurd rfl ha
 ·cases hv
  refine ⟨by rw [List.length_take,Un];omega,.inr ⟨g,cap,cur,rfl,hb,hg,by omega,hcm,hs,?_⟩⟩
  rw [<-ht,List.take_take];congr 1;omega
theorem IsPaces.cut {a:Option Addr} {len cap:Nat} {ps:List Z6} (h:IsPaces w (.slice a len cap) ps) {n:Nat} (hn:n<=ps.length):IsPaces w (.slice a n cap) (ps.take n):=by
 obtain ⟨a',cap',he,hc,hm,hr⟩:=h
 cases he
 have hl:(ps.take n).length=n:=by simp;omega
 refine ⟨a,cap,by rw [hl],by omega,hm,?_⟩
 rcases hr with hr | ⟨b,off,rfl,hlt,hcl⟩
 ·exact .inl (by rw [hr];simp)
 ·refine .inr ⟨b,off,rfl,hlt,fun k hk=> ?_⟩
  rw [Wc (by omega)]
  exact hcl k (by omega)
theorem G9 {a b c d:Int} (h:a ≠ c):ltB (a,b) (c,d)=decide (a<c):=by unfold ltB;simp;omega
theorem Hj {a b d:Int} : ltB (a,b) (a,d)=decide (b<d):=by unfold ltB;simp
theorem Uu (a b c d:Int) (w:World):Calls Tryz.prog 242 #[.agg #[.int .i64 a,.int .i64 b],.agg #[.int .i64 c,.int .i64 d]] w fun e w'=>e= .returned (.bool (ltB (a,b) (c,d)))/\Below w.heap.size w w':=by
 by_cases h:a=c
 ·subst h
  rw [Hj]
  go_enter Tryz.func242,Tryz.ntmps242
  go_wp2_with fail
  go_ret
  exact ⟨rfl,((Below.refl _ _).alloc (Nat.le_refl _) _).alloc (by simp) _⟩
 ·rw [G9 h]
  have h':(a ==c)=false:=by simpa using h
  have h2:(a !=c)=true:=by simpa using h
  clear h
  go_enter Tryz.func242,Tryz.ntmps242
  go_wp2_with fail
  go_ret
  exact ⟨rfl,((Below.refl _ _).alloc (Nat.le_refl _) _).alloc (by simp) _⟩
theorem Xp (a b c d:Int) (w:World):Calls Tryz.prog 335 #[.agg #[.int .i64 a,.int .i64 b],.agg #[.int .i64 c,.int .i64 d]] w fun e w'=>e= .returned (.bool (ltB (a,b) (c,d)))/\Below w.heap.size w w':=by
 by_cases h:a=c
 ·subst h
  rw [Hj]
  go_enter Tryz.func335,Tryz.ntmps335
  go_wp2_with fail
  go_ret
  exact ⟨rfl,((Below.refl _ _).alloc (Nat.le_refl _) _).alloc (by simp) _⟩
 ·rw [G9 h]
  have h':(a ==c)=false:=by simpa using h
  have h2:(a !=c)=true:=by simpa using h
  clear h
  go_enter Tryz.func335,Tryz.ntmps335
  go_wp2_with fail
  go_ret
  exact ⟨rfl,((Below.refl _ _).alloc (Nat.le_refl _) _).alloc (by simp) _⟩
theorem Nd (n:Int) (w:World):Calls Tryz.prog 340 #[.int .i64 n] w fun e w'=>e= .returned (.bool (inB n (-1000000000000) 1000000000000))/\w'=w:=by
 go_enter Tryz.func340,Tryz.ntmps340
 go_wp2_with (go_at_call 234;refine (ZD _ _ _ _).mono ?_;rintro e w' ⟨rfl,rfl⟩)
 go_ret
 exact ⟨rfl,rfl⟩
theorem Wa (f c:Int) (w:World):Calls Tryz.prog 334 #[.agg #[.int .i64 f,.int .i64 c]] w fun e w'=>e= .returned (.bool (OE (f,c)))/\Below w.heap.size w w':=by
 cases h1:inB f (-1000000000000) 1000000000000
 ·go_enter Tryz.func334,Tryz.ntmps334
  go_wp2_with fail
  refine (Nd _ _).mono ?_
  rintro e w' ⟨rfl,rfl⟩
  go_wp2_with fail
  go_ret
  exact ⟨Z5 (by unfold OE;simp [h1]),(Below.refl _ _).alloc (Nat.le_refl _) _⟩
 ·go_enter Tryz.func334,Tryz.ntmps334
  go_wp2_with fail
  refine (Nd _ _).mono ?_
  rintro e w' ⟨rfl,rfl⟩
  go_wp2_with fail
  refine (ZD _ _ _ _).mono ?_
  rintro e w' ⟨rfl,rfl⟩
  go_wp2_with fail
  go_ret
  exact ⟨Z5 (by unfold OE;simp [h1]),(Below.refl _ _).alloc (Nat.le_refl _) _⟩
theorem Nf (f c who:Int) (B:Nat) (w:World) (hc:w.cell? ⟨B,0,none⟩=some (.int .i64 who)) (hB:B<w.heap.size) :
  Calls Tryz.prog 365 #[.agg #[.int .i64 f,.int .i64 c],.pointer (some ⟨B,0,none⟩)] w fun e w'=>e= .returned (.bool (c ==who))/\Below w.heap.size w w':=by
 have hne:B ≠ w.heap.size:=Nat.ne_of_lt hB
 go_enter Tryz.func365,Tryz.ntmps365
 go_wp2_with fail
 go_ret
 exact ⟨rfl,(Below.refl _ _).alloc (Nat.le_refl _) _⟩
theorem KC  {ps:List Z6} (who:Int) (B:Nat) (h:IsPaces w v ps) (hc:w.cell? ⟨B,0,none⟩=some (.int .i64 who)) (hB:B<w.heap.size) :
  Calls Tryz.prog 364 #[v,.func (Fn.func 365) #[] #[.pointer (some ⟨B,0,none⟩)]] w fun e w'=>e= .returned (.int .i64 (WD ps who))/\Below w.heap.size w w':=by
 obtain ⟨a,cap,rfl,hcc,hm,hr⟩:=h
 have Hr:=Z9 hr
 have Hc:=Z9 hc
 clear hr hc
 go_enter Tryz.func364,Tryz.ntmps364
 go_wp2_with fail
 go_loopw [5,8] (fun _ i wr=> ∃ k:Nat,k<=ps.length/\i= .int .i64 k/\Hid (∀ j,j<k->(Z7 ps j).2 ≠ who)/\Below w.heap.size w wr) (fun _ i _=>ps.length-(intOf i).toNat)
 case atStart=>exact ⟨0,Nat.zero_le _,rfl,Z9 (fun j hj=>by omega),Below.refl _ _⟩
 case round=>
  obtain ⟨k,hk,rfl,hno,hb⟩:=hrel
  have Hb:=Z9 hb
  by_cases hlt:k<ps.length
  ·rcases uh Hr with h0 | ⟨b,off,rfl,hbw,hcl⟩
   ·rw [h0] at hlt;simp at hlt
   obtain ⟨c0,c1⟩:=hcl k hlt
   rw [<-hb.cell (p:=⟨b,off+k*2,none⟩) hbw] at c0
   rw [<-hb.cell (p:=⟨b,off+k*2+1,none⟩) hbw] at c1
   generalize hz:Z7 ps k=p at *
   obtain ⟨f,z⟩:=p
   simp only at c0 c1
   have hcb:=(hb.cell (p:=⟨B,0,none⟩) hB).trans (uh Hc)
   have hBr:B<wr.heap.size:=Nat.lt_of_lt_of_le hB hb.size
   have Hz:=Z9 hz
   have Hcb:=Z9 hcb
   clear hz hcl hb hcb
   by_cases hx:z=who
   ·subst hx
    go_wp2_with fail
    refine (Nf _ _ _ _ _ (uh Hcb) hBr).mono ?_
    rintro e w1 ⟨rfl,hb1⟩
    have Hb1:=Z9 hb1
    clear hb1
    go_wp2_with fail
    go_ret
    exact ⟨Zy (Iz hlt (by rw [uh Hz]) (uh hno)).symm,(uh Hb).trans ((uh Hb1).mono (uh Hb).size)⟩
   ·have hx':(z ==who)=false:=by simpa using hx
    have Hx:=Z9 hx
    clear hx
    go_wp2_with fail
    refine (Nf _ _ _ _ _ (uh Hcb) hBr).mono ?_
    rw [hx']
    rintro e w1 ⟨rfl,hb1⟩
    have Hb1:=Z9 hb1
    clear hb1
    go_wp2_with fail
    go_roundw
    case rel=>exact ⟨k+1,by omega,by go_num,Z9 (Ys (uh hno) (by rw [uh Hz];exact uh Hx)),(uh Hb).trans ((uh Hb1).mono (uh Hb).size)⟩
    case measure=>simp [intOf];omega
  ·obtain rfl:k=ps.length:=by omega
   go_wp2_with fail
   go_ret
   exact ⟨Zy (OG (uh hno)).symm,hb⟩
theorem Lk  {ps:List Z6} (who:Int) (h:IsPaces w v ps) :
  Calls Tryz.prog 336 #[v,.int .i64 who] w fun e w'=>e= .returned (.int .i64 (WD ps who))/\Below w.heap.size w w':=by
 have Hv:=Z9 h
 obtain ⟨a,cap,rfl,hcc,hm,hr⟩:=h
 clear hr
 go_enter Tryz.func336,Tryz.ntmps336
 go_wp2_with fail
 refine (KC who w.heap.size ((uh Hv).below ((Below.refl _ _).alloc (Nat.le_refl _) _)) (by simp) (by simp)).mono ?_
 rintro e w1 ⟨rfl,hb⟩
 have Hb:=Z9 hb
 clear hb
 go_wp2_with fail
 go_ret
 exact ⟨rfl,((Below.refl _ _).alloc (Nat.le_refl _) _).trans ((uh Hb).mono (by simp))⟩
structure Fr (bx:Nat) (r:Option Nat) (w w':World):Prop where
 os:w'.os=w.os
 tape:w'.tape=w.tape
 output:w'.output=w.output
 size:w.heap.size<=w'.heap.size
 block:∀ k,k<w.heap.size->k ≠ bx->r ≠ some k->w'.heap[k]?=w.heap[k]?
theorem Fr.refl (bx:Nat) (r:Option Nat) (w:World):Fr bx r w w:=⟨rfl,rfl,rfl,Nat.le_refl _,fun _ _ _ _=>rfl⟩
theorem Fr.trans {bx:Nat} {r:Option Nat} {a b c:World} (h:Fr bx r a b) (k:Fr bx r b c):Fr bx r a c:=
 ⟨k.os.trans h.os,k.tape.trans h.tape,k.output.trans h.output,Nat.le_trans h.size k.size,fun i hi hn hr=>(k.block i (Nat.lt_of_lt_of_le hi h.size) hn hr).trans (h.block i hi hn hr)⟩
theorem Fr.of_below {bx:Nat} {r:Option Nat} (h:Below w.heap.size w w'):Fr bx r w w':=⟨h.os,h.tape,h.output,h.size,fun k hk _ _=>h.block k hk⟩
theorem Fr.of_grown {bx:Nat} {r:Option Nat} (h:w.grownBy w' r):Fr bx r w w':=⟨h.os,h.tape,h.output,h.size,fun k hk _ hr=>h.block k hk (fun e=>hr e.symm)⟩
theorem Fr.box {bx:Nat} {r:Option Nat} (w:World) (v:Value):Fr bx r w (w.setCell ⟨bx,0,none⟩ v):=⟨rfl,rfl,rfl,by simp,fun k hk hn _=>Below.heap_setCell w ⟨bx,0,none⟩ v k hn⟩
theorem Fr.below {bx B:Nat} {r:Option Nat} (h:Fr bx r w w') (hx:B<=bx) (hr:∀ k,r=some k->B<=k) (hs:B<=w.heap.size):Below B w w':=
 ⟨h.os,h.tape,h.output,h.size,fun k hk=>h.block k (by omega) (by omega) (fun e=>by have:=hr k e;omega)⟩
theorem EntsAt.fr {n₀ bx:Nat} {r:Option Nat}  {ps:List Z6} (h:EntsAt n₀ w v ps) (hf:Fr bx r w w') (h1:v.ownBlock ≠ some bx) (h2:∀ k,v.ownBlock=some k->r ≠ some k):EntsAt n₀ w' v ps:=
 h.same fun k hk=>hf.block k (h.lt hk).2 (fun e=>h1 (by rw [hk,e])) (h2 k hk)
structure HeapIs (n₀ bx:Nat) (v:Value) (w:World) (ps:List Z6):Prop where
 cell:w.cell? ⟨bx,0,none⟩=some v
 free:w.frozen? ⟨bx,0,none⟩=false
 lt:bx<w.heap.size
 row:EntsAt n₀ w v ps
 off:v.ownBlock ≠ some bx
theorem HeapIs.later {n₀ bx:Nat}  {ps:List Z6} (h:HeapIs n₀ bx v w ps) (hb:Below w.heap.size w w'):HeapIs n₀ bx v w' ps:=
 ⟨(hb.cell (p:=⟨bx,0,none⟩) h.lt).trans h.cell,(hb.frozen (p:=⟨bx,0,none⟩) h.lt).trans h.free,Nat.lt_of_lt_of_le h.lt hb.size,h.row.later hb,h.off⟩
theorem HeapIs.view {n₀ bx:Nat}  {ps:List Z6} (h:HeapIs n₀ bx v w ps) (hl:0<ps.length):∃ g cap,v= .slice (some ⟨g,0,none⟩) ps.length cap/\g ≠ bx/\g<w.heap.size/\n₀<=g/\ps.length<=cap/\cap<=9223372036854775807/\
  (∀ k,k<ps.length->w.cell? ⟨g,k*2,none⟩=some (.int .i64 (Z7 ps k).1)/\w.cell? ⟨g,k*2+1,none⟩=some (.int .i64 (Z7 ps k).2))/\(∀ k,w.frozen? ⟨g,k,none⟩=false):=by
 have hr:=h.row
 rcases h.row.2 with ⟨hv,hz⟩ | ⟨g,cap,cur,rfl,hb,hg,hnc,hcm,r⟩
 ·omega
 ·obtain ⟨a,cap',he,_,_,hrr⟩:=hr.paces
  cases he
  refine ⟨g,cap,rfl,fun e=>h.off (by rw [e];rfl),(Array.getElem?_eq_some_iff.1 hg).1,hb,hnc,by unfold maxLen at hcm;omega,?_,fun k=>World.ownsRow.frozenAt hr k⟩
  rcases hrr with h0 | ⟨b,off,he,_,hcl⟩
  ·rw [h0] at hl;simp at hl
  ·cases he
   intro k hk
   have:=hcl k hk
   simpa using this
theorem RQ {n₀ bx:Nat}  {ps:List Z6} (h:HeapIs n₀ bx v w ps):Calls Tryz.prog 338 #[.pointer (some ⟨bx,0,none⟩)] w fun e w'=>e= .returned (.int .i64 ps.length)/\w'=w:=by
 have hc:=h.cell
 obtain ⟨a,cap,rfl⟩:=h.row.shape
 go_enter Tryz.func338,Tryz.ntmps338
 go_wp2_with fail
 go_ret
 exact ⟨rfl,rfl⟩
theorem TB {n₀ bx:Nat}  {ps:List Z6} (h:HeapIs n₀ bx v w ps) {i j:Nat} (hi:i<ps.length) (hj:j<ps.length) :
  Calls Tryz.prog 415 #[.pointer (some ⟨bx,0,none⟩),.int .i64 i,.int .i64 j] w fun e w'=>e= .returned (.bool (ltB (Z7 ps i) (Z7 ps j)))/\Below w.heap.size w w':=by
 obtain ⟨g,cap,rfl,hne,hlt,_,hnc,hcm,hcl,_⟩:=h.view (by omega)
 have hc:=h.cell
 obtain ⟨a0,a1⟩:=hcl i hi
 obtain ⟨b0,b1⟩:=hcl j hj
 generalize Z7 ps i=p at *
 generalize Z7 ps j=q at *
 obtain ⟨f,z⟩:=p
 obtain ⟨f',z'⟩:=q
 simp only at a0 a1 b0 b1
 have hi0:(0:Int)<=(i:Int):=by omega
 have hj0:(0:Int)<=(j:Int):=by omega
 have hi1:(i:Int)<(ps.length:Int):=by omega
 have hj1:(j:Int)<(ps.length:Int):=by omega
 have k0:=cell_regrown a0
 have k1:=cell_regrown a1
 have k2:=cell_regrown b0
 have k3:=cell_regrown b1
 have k4:=cell_regrown hc
 clear hcl h hc a0 a1 b0 b1
 go_enter Tryz.func415,Tryz.ntmps415
 go_wp2_with fail
 refine wp_region_quiet_below (by kernel_rfl) (by kernel_rfl) ?_
 repeat (go_big_quiet_step (exact Calls.regrown_of (Xp _ _ _ _ _)))
 refine wpQuiet_nil ?_
 intro _ hw'
 obtain ⟨⟨dq,osq⟩,hw''⟩:=hw'
 subst hw''
 go_wp2_with fail
 go_ret
 exact ⟨rfl,below_regrown _ _ _⟩
theorem TH {a p:Addr} (h:w.cell? p=some v):∃ c,(w.setCell a u).cell? p=some c:=by
 by_cases e:p=a
 ·subst e;exact ⟨_,World.cell?_setCell_same _ _ _ h⟩
 ·exact ⟨v,by rw [World.cell?_setCell_other _ _ _ _ (fun e2=>e e2.symm)];exact h⟩
theorem HeapIs.swapped {n₀ bx g cap n:Nat} {ps:List Z6} (h:HeapIs n₀ bx (.slice (some ⟨g,0,none⟩) n cap) w ps) (hn:n=ps.length) (hne:g ≠ bx) {i j:Nat} (hi:i<ps.length) (hj:j<ps.length) (f z f' z':Int) (W:World) (hW:W=((((w.setCell ⟨g,i*2,none⟩ (.int .i64 f')).setCell ⟨g,i*2+1,none⟩ (.int .i64 z')).setCell ⟨g,j*2,none⟩ (.int .i64 f)).setCell ⟨g,j*2+1,none⟩ (.int .i64 z))) :
  HeapIs n₀ bx (.slice (some ⟨g,0,none⟩) n cap) W ((ps.set i (f',z')).set j (f,z))/\Fr bx (some g) w W:=by
 subst hn
 have r1:=K8 h.row (i*2) (.int .i64 f') (.int .i64 z')
 rw [CW _ _ _ _ hi] at r1
 have r2:=K8 r1.1 (j*2) (.int .i64 f) (.int .i64 z)
 rw [CW _ _ _ _ (by simpa using hj),<-hW] at r2
 have hg:=Tn r1.2 r2.2
 clear r1 hW
 have hlt:=h.lt
 have hb:=hg.block bx hlt (by simpa using Ne.symm hne)
 refine ⟨⟨?_,?_,Nat.lt_of_lt_of_le hlt hg.size,?_,h.off⟩,Fr.of_grown hg⟩
 ·exact (World.cell?_of_block (w:=w) (a:=⟨bx,0,none⟩) hb).trans h.cell
 ·exact (World.frozen?_of_block (w:=w) (a:=⟨bx,0,none⟩) hb).trans h.free
 ·unfold EntsAt
  rw [List.length_set,List.length_set]
  exact r2.1
theorem TI {n₀ bx:Nat}  {ps:List Z6} (h:HeapIs n₀ bx v w ps) {i j:Nat} (hi:i<ps.length) (hj:j<ps.length) :
  Calls Tryz.prog 418 #[.pointer (some ⟨bx,0,none⟩),.int .i64 i,.int .i64 j] w fun e w'=>e= .returned (.tuple #[])/\HeapIs n₀ bx v w' (swp ps i j)/\Fr bx v.ownBlock w w':=by
 have H:=Z9 h
 obtain ⟨g,cap,rfl,hne,hlt,hn0,hnc,hcm,hcl,hfz⟩:=h.view (by omega)
 have hc:=h.cell
 obtain ⟨a0,a1⟩:=hcl i hi
 obtain ⟨b0,b1⟩:=hcl j hj
 have z0:=hfz (i*2)
 have z1:=hfz (i*2+1)
 have z2:=hfz (j*2)
 have z3:=hfz (j*2+1)
 have HX:Hid (swp ps i j=(ps.set i (Z7 ps j)).set j (Z7 ps i)):=Z9 rfl
 generalize Z7 ps i=p at *
 generalize Z7 ps j=q at *
 obtain ⟨f,z⟩:=p
 obtain ⟨f',z'⟩:=q
 simp only at a0 a1 b0 b1
 have hi0:(0:Int)<=(i:Int):=by omega
 have hj0:(0:Int)<=(j:Int):=by omega
 have hi1:(i:Int)<(ps.length:Int):=by omega
 have hj1:(j:Int)<(ps.length:Int):=by omega
 obtain ⟨c1,y1⟩:∃ c,(w.setCell ⟨g,i*2,none⟩ (.int .i64 f')).cell? ⟨g,j*2,none⟩=some c:=TH b0
 obtain ⟨c2,y2⟩:∃ c,((w.setCell ⟨g,i*2,none⟩ (.int .i64 f')).setCell ⟨g,i*2+1,none⟩ (.int .i64 z')).cell? ⟨g,j*2+1,none⟩=some c:=by
  obtain ⟨c,hc9⟩:=TH (a:=⟨g,i*2,none⟩) (u:= .int .i64 f') b1
  exact TH hc9
 obtain ⟨c3,y3⟩:∃ c,((w.setCell ⟨g,i*2,none⟩ (.int .i64 f')).setCell ⟨g,i*2+1,none⟩ (.int .i64 z')).cell? ⟨g,j*2,none⟩=some c:=by
  obtain ⟨c,hc9⟩:=TH (a:=⟨g,i*2,none⟩) (u:= .int .i64 f') b0
  exact TH hc9
 clear hcl h hfz
 go_enter Tryz.func418,Tryz.ntmps418
 go_wp2_with fail
 go_region
 go_end0
 generalize hW:((((w.setCell ⟨g,i*2,none⟩ (.int .i64 f')).setCell ⟨g,i*2+1,none⟩ (.int .i64 z')).setCell ⟨g,j*2,none⟩ (.int .i64 f)).setCell ⟨g,j*2+1,none⟩ (.int .i64 z))=W
 obtain ⟨h1,h2⟩:=(uh H).swapped rfl hne hi hj f z f' z' W hW.symm
 exact ⟨rfl,by rw [uh HX];exact h1.later ((Below.refl _ _).drew),h2.trans (Fr.of_below ((Below.refl _ _).drew))⟩
theorem EY {n₀ bx:Nat} {v v':Value} {ps qs:List Z6} (h:HeapIs n₀ bx v w ps) (hb:Fr bx v.ownBlock w W) (hc:W.cell? ⟨bx,0,none⟩=some v) (hf:W.frozen? ⟨bx,0,none⟩=false) (hr:EntsAt n₀ W v' qs) (ho:v'.ownBlock ≠ some bx) :
  HeapIs n₀ bx v' (W.setCell ⟨bx,0,none⟩ v') qs/\Fr bx v.ownBlock w (W.setCell ⟨bx,0,none⟩ v'):=by
 refine ⟨⟨World.cell?_setCell_same _ _ _ hc,by rw [World.frozen?_setCell];exact hf,by simpa using Nat.lt_of_lt_of_le h.lt hb.size,hr.same fun k hk=>Below.heap_setCell W ⟨bx,0,none⟩ v' k (fun e=>ho (by rw [hk];exact congrArg some e)),ho⟩,hb.trans (Fr.box W v')⟩
theorem EH {n₀ bx:Nat}  {ps:List Z6} {m:Nat} (h:HeapIs n₀ bx v w ps) (hm:ps.length=m+1) :
  Calls Tryz.prog 416 #[.pointer (some ⟨bx,0,none⟩)] w fun e w'=>e= .returned (.iface 94 (.agg #[.int .i64 (Z7 ps m).1,.int .i64 (Z7 ps m).2]))/\ ∃ v',HeapIs n₀ bx v' w' (ps.take m)/\v'.ownBlock=v.ownBlock/\Fr bx v.ownBlock w w':=by
 have H:=Z9 h
 obtain ⟨g,cap,rfl,hne,hlt,hn0,hnc,hcm,hcl,hfz⟩:=h.view (by omega)
 have hc:=h.cell
 have hbf:=h.free
 have hbx:=h.lt
 obtain ⟨a0,a1⟩:=hcl m (by omega)
 have HL:=Z9 (RQ h)
 clear hcl h hfz
 rw [hm] at hnc hc
 generalize Z7 ps m=p at *
 obtain ⟨f,z⟩:=p
 simp only at a0 a1
 have hn1:g ≠ w.heap.size:=Nat.ne_of_lt hlt
 have hn2:bx ≠ w.heap.size:=Nat.ne_of_lt hbx
 go_enter Tryz.func416,Tryz.ntmps416
 go_wp2_with fail
 refine (uh HL).mono ?_
 rw [hm]
 rintro e w' ⟨rfl,h1⟩
 subst w'
 go_wp2_with fail
 go_ret
 have hcut:=(uh H).row.cut (n:=m) (by omega) (by simp)
 obtain ⟨r1,r2⟩:=EY (uh H) (Fr.refl _ _ _) (uh H).cell (uh H).free hcut (by simpa [Value.ownBlock] using hne)
 exact ⟨rfl,.slice (some ⟨g,0,none⟩) m cap,r1.later ((Below.refl _ _).alloc (Nat.le_refl _) _),rfl,r2.trans (Fr.of_below ((Below.refl _ _).alloc (Nat.le_refl _) _))⟩
theorem Qh {ops:Array Oper} {o:Oper} {a:Act} {K:Act->World->Prop} {Q:Exit->Act->World->Prop} {E:Prop} (hgd:o.guard=none) (s x:Operand) (t:TypeId) (ht:Tryz.prog.underlying t=some (.slice 94))
  (ho:o.op= .call { callee:= .builtin .append,args:=#[s,x],argTypes:=#[t,t] }) (base:Nat)
  (v:Value) (ps:List Z6) (hs:a.eval s=v) (hown:EntsAt base w v ps)
  (ad:Addr) (c:Nat) (f z:Int) (hx:a.eval x= .slice (some ad) 1 c) (hnews:∀ (j:Nat) (u:Value),([.int .i64 f,.int .i64 z]:List Value)[j]?=some u->w.cell? (ad.add j)=some u)
  (hb:ps.length<=4000) (hbase:base<=w.heap.size)
  (h:∀ v' w',EntsAt base w' v' (ps++[(f,z)])->w.grownBy w' v.ownBlock->(v'.ownBlock=v.ownBlock\/v'.ownBlock=some w.heap.size)->K (a.put o.dst v') w') :
  if Region.wanted o (yielded ops a.tmps)=true then Oper.wp Tryz.prog o a w K Q else E:=by
 have hw:Region.wanted o (yielded ops a.tmps)=true:=by simp [Region.wanted,hgd]
 rw [if_pos hw]
 obtain ⟨i0,hi,hz0,hz1,hz2⟩:=info_parts Ws
 obtain ⟨v',w',hr,h2,h3,_,h5⟩:=run_append_own_at (P:=Tryz.prog) w base t o.type 94 i0 (.agg #[.int .i64 0,.int .i64 0]) 2 16 ht hi hz0 hz1 hz2 rfl (by decide) v ps.length _ hown ad 1 c [.int .i64 f,.int .i64 z] rfl
  hnews (by simp [Value.oneCell']) (by simp only [maxLen];omega) (by omega) hbase
 unfold Oper.wp execOp
 simp only [ho,resolve,invoke,builtin,Sem.run_bind,Sem.run_pure,Result.andThen_ok,List.map_toArray,List.map_cons,List.map_nil,hs,hx,hr]
 refine h v' w' ?_ h3 h5
 unfold EntsAt
 rw [SL,List.length_append]
 exact h2
theorem DQ (w:World) (u u':Value) (t:TypeId) (b:Nat) (hb:b=w.heap.size):∀ (j:Nat) (x:Value),([u,u']:List Value)[j]?=some x->(w.alloc (.cells #[u,u'] t)).cell? ((⟨b,0,none⟩:Addr).add j)=some x:=by
 subst hb
 intro j x hj
 match j,hj with
 | 0,hj=>simp at hj;subst hj;simp [Addr.add]
 | 1,hj=>simp at hj;subst hj;simp [Addr.add]
theorem On (f z:Int) (w:World):(Instr.typeAssert (.iface 94 (.agg #[.int .i64 f,.int .i64 z])) 20 94 false).run Tryz.prog w= .ok (.agg #[.int .i64 f,.int .i64 z]) w:=by kernel_rfl
theorem HeapIs.after {n₀ bx:Nat} {w W W1:World} {ps:List Z6} (h:HeapIs n₀ bx v w ps) (hb:Below w.heap.size w W) (hg:W.grownBy W1 v.ownBlock) :
  W1.cell? ⟨bx,0,none⟩=some v/\W1.frozen? ⟨bx,0,none⟩=false/\Fr bx v.ownBlock w W1:=by
 have hk:=hg.block bx (Nat.lt_of_lt_of_le h.lt hb.size) (fun e=>h.off e.symm)
 exact ⟨(World.cell?_of_block (w:=W) (a:=⟨bx,0,none⟩) hk).trans ((hb.cell (p:=⟨bx,0,none⟩) h.lt).trans h.cell),(World.frozen?_of_block (w:=W) (a:=⟨bx,0,none⟩) hk).trans ((hb.frozen (p:=⟨bx,0,none⟩) h.lt).trans h.free),(Fr.of_below hb).trans (Fr.of_grown hg)⟩
theorem Gh {n₀ bx:Nat}  {ps:List Z6} (f z:Int) (h:HeapIs n₀ bx v w ps) (hl:ps.length<=1000) (hn:n₀<=w.heap.size) :
  Calls Tryz.prog 417 #[.pointer (some ⟨bx,0,none⟩),.iface 94 (.agg #[.int .i64 f,.int .i64 z])] w fun e w'=>e= .returned (.tuple #[])/\ ∃ v',HeapIs n₀ bx v' w' (ps++[(f,z)])/\(v'.ownBlock=v.ownBlock\/ ∃ k,v'.ownBlock=some k/\w.heap.size<=k)/\Fr bx v.ownBlock w w':=by
 have H:=Z9 h
 obtain ⟨a,cap,rfl⟩:=h.row.shape
 have hc:=h.cell
 have hbf:=h.free
 have hbx:=h.lt
 clear h
 have hn2:bx ≠ w.heap.size:=Nat.ne_of_lt hbx
 have hta:=On f z
 go_enter Tryz.func417,Tryz.ntmps417
 go_wp2_with fail
 go_region_law (refine Qh rfl (.tmp 7) (.tmp 10) 306 Tryz.underlying306 rfl n₀ _ ps rfl ((uh H).row.later (((Below.refl _ _).alloc (Nat.le_refl _) _).drew)) ⟨w.heap.size,0,none⟩ _ f z rfl (DQ _ _ _ _ _ rfl) (by omega) (by simp;omega) ?_;intro v' w1 hown hgrow hat;obtain ⟨hc1,hf1,hfr⟩:=(uh H).after (((Below.refl _ _).alloc (Nat.le_refl _) _).drew) hgrow;obtain ⟨a1,cap1,rfl⟩:=hown.shape)
 all_goals
  go_end0
  have hoff:(Value.slice a1 (ps++[(f,z)]).length cap1).ownBlock ≠ some bx:=by
   rcases hat with e | e
   ·rw [e];exact (uh H).off
   ·rw [e];simp;omega
  obtain ⟨r1,r2⟩:=EY (uh H) hfr hc1 hf1 hown hoff
  have hle:(ps++[(f,z)]).length=ps.length+1:=by simp
  rw [hle] at r1 r2 hat
  refine ⟨rfl,_,r1,?_,r2⟩
  rcases hat with e | e
  ·exact .inl e
  ·exact .inr ⟨_,e,by simp⟩
theorem De (a : Addr) (w : World) : (method 484 263 (.pointer (some a)) "Len").run Tryz.prog w = .ok (338, .pointer (some a)) w := by kernel_rfl
theorem Ex (a : Addr) (w : World) : (method 484 263 (.pointer (some a)) "Less").run Tryz.prog w = .ok (415, .pointer (some a)) w := by kernel_rfl
theorem I0 (a : Addr) (w : World) : (method 484 263 (.pointer (some a)) "Swap").run Tryz.prog w = .ok (418, .pointer (some a)) w := by kernel_rfl
theorem CQ (a : Addr) (w : World) : (method 484 263 (.pointer (some a)) "Push").run Tryz.prog w = .ok (417, .pointer (some a)) w := by kernel_rfl
theorem Cu (a : Addr) (w : World) : (method 484 263 (.pointer (some a)) "Pop").run Tryz.prog w = .ok (416, .pointer (some a)) w := by kernel_rfl
theorem C0 {n₀ bx:Nat}  {ps:List Z6} {n j0:Nat} (h:HeapIs n₀ bx v w ps) (hu:UpTo ps n j0) (hj0:j0<n) (hn:n<=ps.length) (hl:ps.length<=1000) :
  Calls Tryz.prog 337 #[.iface 263 (.pointer (some ⟨bx,0,none⟩)),.int .i64 j0] w fun e w'=>e= .returned (.tuple #[])/\ ∃ qs,HeapIs n₀ bx v w' qs/\HeapTo qs n/\qs.Perm ps/\(∀ k,n<=k->Z7 qs k=Z7 ps k)/\Fr bx v.ownBlock w w':=by
 have H:=Z9 h
 have HU:=Z9 hu
 clear h hu
 go_enter Tryz.func337,Tryz.ntmps337
 go_wp2_with fail
 go_loopw [1,4] (fun q _ wr=> ∃ (j:Nat) (qs:List Z6),j<n/\q= .int .i64 j/\HeapIs n₀ bx v wr qs/\UpTo qs n j/\qs.Perm ps/\(∀ k,n<=k->Z7 qs k=Z7 ps k)/\Fr bx v.ownBlock w wr) (fun q _ _=>(intOf q).toNat)
 case atStart=>exact ⟨j0,ps,hj0,rfl,uh H,uh HU,List.Perm.refl _,fun _ _=>rfl,Fr.refl _ _ _⟩
 case round=>
  obtain ⟨j,qs,hj,rfl,hh,hup,hperm,hsame,hfr⟩:=hrel
  have hql:qs.length=ps.length:=hperm.length_eq
  have Hh:=Z9 hh
  have Hup:=Z9 hup
  have Hpe:=Z9 hperm
  have Hsa:=Z9 hsame
  have Hfr:=Z9 hfr
  clear hh hup hperm hsame hfr
  by_cases hz:j=0
  ·subst hz
   go_wp2_with fail
   go_end0
   exact ⟨rfl,qs,uh Hh,(uh Hup).done (.inl rfl),uh Hpe,uh Hsa,uh Hfr⟩
  ·obtain ⟨i,hi⟩:∃ i,i=(j-1) / 2:=⟨_,rfl⟩
   have hj1:(0:Int)<=(j:Int)-1:=by omega
   have hpar:((j:Int)-1) / 2=(i:Int):=by omega
   have hij:((i:Int) ==(j:Int))=false:=beq_eq_false_iff_ne.2 (by omega)
   have hm1:=Ex ⟨bx,0,none⟩
   have hm2:=I0 ⟨bx,0,none⟩
   have hjl:j<qs.length:=by omega
   have hil:i<qs.length:=by omega
   have Hless:=Z9 (TB (uh Hh) hjl hil)
   have Hi:=Z9 hi
   clear hi
   cases hlt:ltB (Z7 qs j) (Z7 qs i)
   ·go_wp2_with fail
    refine (uh Hless).mono ?_
    rw [hlt]
    rintro e w1 ⟨rfl,hb1⟩
    have H1:=Z9 ((uh Hh).later hb1)
    have F1:=Z9 ((uh Hfr).trans (Fr.of_below hb1))
    clear hb1
    go_wp2_with fail
    go_end0
    exact ⟨rfl,qs,uh H1,(uh Hup).done (.inr (by rw [<-uh Hi];exact hlt)),uh Hpe,uh Hsa,uh F1⟩
   ·go_wp2_with fail
    refine (uh Hless).mono ?_
    rw [hlt]
    rintro e w1 ⟨rfl,hb1⟩
    have H1:=Z9 ((uh Hh).later hb1)
    have F1:=Z9 ((uh Hfr).trans (Fr.of_below hb1))
    clear hb1
    go_wp2_with fail
    refine (TI (uh H1) hil hjl).mono ?_
    rintro e w2 ⟨rfl,hh2,hf2⟩
    have H2:=Z9 hh2
    have F2:=Z9 ((uh F1).trans hf2)
    clear hh2 hf2
    have HS:Hid (UpTo (swp qs i j) n i):=Z9 (by rw [uh Hi];exact (uh Hup).step (by omega) hj (by omega) (by rw [<-uh Hi];exact hlt))
    have HA:Hid (∀ k,n<=k->Z7 (swp qs i j) k=Z7 ps k):=Z9 (fun k hk=>by rw [TJ hil hjl,if_neg (by omega),if_neg (by omega)];exact uh Hsa k hk)
    go_wp2_with fail
    go_roundw
    case rel=>exact ⟨i,swp qs i j,by omega,rfl,uh H2,uh HS,(TK hil hjl).trans (uh Hpe),uh HA,uh F2⟩
    case measure=>simp [intOf];omega
end Go.Proofs.YtjhijildaceadaaGreatDoor
