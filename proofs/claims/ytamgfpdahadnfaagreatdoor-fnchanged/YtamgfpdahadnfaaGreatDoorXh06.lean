/- Part 6 of what the proof rests on. No condition but those that a theorem names. -/
import Derived.Test.YtamgfpdahadnfaaGreatDoorXh05
import Derived.Deep.RegionHeld3
set_option maxHeartbeats 8000000
set_option maxRecDepth 100000
namespace Go.Proofs.YtamgfpdahadnfaaGreatDoor
open Go.ChangeShapes Go.WideShapes Go.ChangeAt Go.RowKit Go.Sort
set_option linter.unusedVariables false
variable {w w' w0 w1 w2 w3 w₀ wr W W' X A B C : World} {v v0 v1 v2 v3 v4 u u0 u1 u2 u3 u4 : Value} {m : Z6}
theorem Kf {ss : List Z3} {b : Int} {k : Nat} (h : Xz ss b k = none) : ∀ n, k ≤ n → Xz ss b n = none
  | 0, hn => by obtain rfl : k = 0 := by omega
                exact h
  | n + 1, hn => by
    by_cases e : k = n + 1
    · rw [← e]; exact h
    · have := Kf h n (by omega)
      unfold Xz; rw [this]
theorem Ct {ss:List Z3} {b wk:Int} {wt:Bool} {k:Nat} (h:Xz ss b k=some (wk,wt)) (hs:¬ ((Z8 ss k).2.1=b/\ZL (Z8 ss k)=true)):Xz ss b (k+1)=some (wk,wt):=by
  unfold Xz;rw [h];simp only [if_neg hs]
theorem Cu {ss:List Z3} {b wk:Int} {wt:Bool} {k:Nat} (h:Xz ss b k=some (wk,wt)) (h1:(Z8 ss k).2.1=b) (h2:ZL (Z8 ss k)=true) (h3:(Z8 ss k).1=2):Xz ss b (k+1)=some (wk,true):=by
  unfold Xz;rw [h];simp only [if_pos (And.intro h1 h2),if_pos h3]
theorem AU {ss:List Z3} {b wk:Int} {wt:Bool} {k:Nat} (h:Xz ss b k=some (wk,wt)) (h1:(Z8 ss k).2.1=b) (h2:ZL (Z8 ss k)=true) (h3:¬ (Z8 ss k).1=2) (h4:0<=wk):Xz ss b (k+1)=none:=by
  unfold Xz;rw [h];simp only [if_pos (And.intro h1 h2),if_neg h3,if_pos h4]
theorem Cv {ss:List Z3} {b wk:Int} {wt:Bool} {k:Nat} (h:Xz ss b k=some (wk,wt)) (h1:(Z8 ss k).2.1=b) (h2:ZL (Z8 ss k)=true) (h3:¬ (Z8 ss k).1=2) (h4:¬ 0<=wk):Xz ss b (k+1)=some ((k:Int),wt):=by
  unfold Xz;rw [h];simp only [if_pos (And.intro h1 h2),if_neg h3,if_neg h4]
theorem E5 (h:Yv m=false):ZI m=false:=by unfold ZI;rw [h];rfl
theorem MF {k:Nat} (hk:k<m.dk.length) (h:Ya m k=false):ZI m=false:=by unfold ZI;rw [P2 hk h];simp
theorem A1 (h:Yv m=true) (h2:(List.range m.dk.length).all (Ya m)=true):ZI m=true:=by unfold ZI;rw [h,h2];rfl
theorem Ky {k:Nat} (h:Xz m.sm k m.sm.length=none):Ya m k=false:=by unfold Ya;rw [h]
theorem Kz {k:Nat} {wk:Int} {wt:Bool} (h:Xz m.sm k m.sm.length=some (wk,wt)):Ya m k=((Z8 m.dk k).2.1 ==wk && !(wt && decide (wk<0))):=by unfold Ya;rw [h]
theorem Ek  {q : Bool} (hq : Yv m = q) (h : Smy w v0 v1 v2 v3 v4 m) :
    Calls Tryz.prog 54 #[.agg #[v0, v1, v2, v3, v4, .int .i64 m.now]] w fun e w' => e = .returned (.bool q) ∧ Below w.heap.size w w' := by
  have := Sx h; rw [hq] at this; exact this
theorem O6  (h : Smy w v0 v1 v2 v3 v4 m) :
    Calls Tryz.prog 12 #[.agg #[v0, v1, v2, v3, v4, .int .i64 m.now]] w fun e w' => e = .returned (.bool (ZI m)) ∧ Below w.heap.size w w' := by
  have Hv := Z9 (h.alloc (.cells #[v0, v1, v2, v3, v4, .int .i64 m.now] 32));obtain ⟨h0, h1, h2, h3, h4⟩ := h;obtain ⟨a0, p0, rfl, hc0, hm0, _⟩ := h0;obtain ⟨a1, p1, rfl, hc1, hm1, _⟩ := h1;obtain ⟨a2, p2, rfl, hc2, hm2, r2⟩ := h2;obtain ⟨a3, p3, rfl, hc3, hm3, r3⟩ := h3;obtain ⟨a4, p4, rfl, hc4, hm4, _⟩ := h4;have R2 := Z9 r2;have R3 := Z9 r3;clear r2 r3;obtain ⟨ql, hql⟩ : ∃ q, Yv m = q := ⟨_, rfl⟩
  have QL := Z9 hql;clear hql;go_enter Tryz.func12, Tryz.ntmps12;go_wp2_with fail;refine ck (Ek (uh QL) (uh Hv)) fun w1 hb => ?_;have kb : Hid (Blk w1 w.heap.size 32 (S6 a0 p0 a1 p1 a2 p2 a3 p3 a4 p4 m)) := Z9 ((Blk.new w _ _).below hb (by simp));have BB : Hid (Below w.heap.size w w1) := Z9 (((ba _ _)).trans (hb.mono (by simp)));clear hb Hv;have c3 := (uh kb).cell (i := 3) (v := .slice a3 m.dk.length p3) rfl;cases ql
  · go_wp2_with fail
    go_ret;exact ⟨Z5 (E5 (uh QL)).symm, uh BB⟩
  go_wp2_with fail;clear c3
  go_loopw [3] (fun b wr => ∃ k : Nat, k ≤ m.dk.length ∧ b = .int .i64 k ∧ (List.range k).all (Ya m) = true ∧ Blk wr w.heap.size 32 (S6 a0 p0 a1 p1 a2 p2 a3 p3 a4 p4 m) ∧ Below w.heap.size w wr) (fun b _ => m.dk.length - (intOf b).toNat)
  case atStart => exact ⟨0, ZA _, rfl, rfl, uh kb, uh BB⟩
  case round =>
    obtain ⟨j, hj, rfl, hup, kb1, hb1⟩ := hrel;clear kb BB;have kb := Z9 kb1;have BB := Z9 hb1;have Hup := Z9 hup;clear kb1 hb1 hup;have c3 := (uh kb).cell (i := 3) (v := .slice a3 m.dk.length p3) rfl;by_cases hlt : j < m.dk.length
    · have c2 := (uh kb).cell (i := 2) (v := .slice a2 m.sm.length p2) rfl
      go_wp2_with fail;clear c2 c3;obtain ⟨wo, rfl⟩ : ∃ wo, wo = wr := ⟨wr, rfl⟩
      go_loopw [4, 5, 6] (fun x y i wr => ∃ (k : Nat) (wk : Int) (wt : Bool), k ≤ m.sm.length ∧ x = .int .i64 wk ∧ y = .bool wt ∧ i = .int .i64 k ∧ -1 ≤ wk ∧ wk ≤ (k : Int) ∧ Xz m.sm j k = some (wk, wt) ∧ Blk wr w.heap.size 32 (S6 a0 p0 a1 p1 a2 p2 a3 p3 a4 p4 m) ∧ Below w.heap.size w wr) (fun _ _ i _ => m.sm.length - (intOf i).toNat)
      case atStart => exact ⟨0, -1, false, ZA _, rfl, rfl, rfl, by omega, by omega, rfl, uh kb, uh BB⟩
      case round =>
        obtain ⟨k, wkk, wt, hk, rfl, rfl, rfl, wk0, wk1, hsc, kb1, hb1⟩ := hrel;clear kb BB;have kb := Z9 kb1;have BB := Z9 hb1;have Hsc := Z9 hsc;clear kb1 hb1 hsc;have c2 := (uh kb).cell (i := 2) (v := .slice a2 m.sm.length p2) rfl;by_cases hls : k < m.sm.length
        · rcases uh R2 with e0 | ⟨b, off, rfl, hbw, hcl⟩
          · rw [e0] at hls; simp at hls
          obtain ⟨d0, d1, d2, d3, d4, d5, d6, d7, d8, d9, d10⟩ := Zw hcl hls;rw [← (uh BB).cell (p := ⟨b, off + k * 11, none⟩) hbw] at d0;rw [← (uh BB).cell (p := ⟨b, off + k * 11 + 1, none⟩) hbw] at d1;rw [← (uh BB).cell (p := ⟨b, off + k * 11 + 2, none⟩) hbw] at d2;rw [← (uh BB).cell (p := ⟨b, off + k * 11 + 3, none⟩) hbw] at d3;rw [← (uh BB).cell (p := ⟨b, off + k * 11 + 4, none⟩) hbw] at d4;rw [← (uh BB).cell (p := ⟨b, off + k * 11 + 5, none⟩) hbw] at d5;rw [← (uh BB).cell (p := ⟨b, off + k * 11 + 6, none⟩) hbw] at d6;rw [← (uh BB).cell (p := ⟨b, off + k * 11 + 7, none⟩) hbw] at d7;rw [← (uh BB).cell (p := ⟨b, off + k * 11 + 8, none⟩) hbw] at d8;rw [← (uh BB).cell (p := ⟨b, off + k * 11 + 9, none⟩) hbw] at d9;rw [← (uh BB).cell (p := ⟨b, off + k * 11 + 10, none⟩) hbw] at d10;clear hcl;have S1 := Z9 (fun hs => Ct (uh Hsc) hs);have S2 := Z9 (fun h1 h2 h3 => Cu (uh Hsc) h1 h2 h3);have S3 := Z9 (fun h1 h2 h3 h4 => AU (uh Hsc) h1 h2 h3 h4);have S4 := Z9 (fun h1 h2 h3 h4 => Cv (uh Hsc) h1 h2 h3 h4);generalize Z8 m.sm k = ss at *;obtain ⟨st, be, rk, my, gu, lo, hi, hd, ca, ut, wk⟩ := ss;simp only at d0 d1 d2 d3 d4 d5 d6 d7 d8 d9 d10;have hl0 : w.heap.size < wr.heap.size := (uh kb).lt;by_cases hbe : be = (j : Int)
          rotate_left
          · have hbn : (be != (j : Int)) = true := by simpa using hbe
            go_wp2_with fail;go_roundw
            case rel => exact ⟨k + 1, wkk, wt, by omega, rfl, rfl, by go_num, by omega, by omega, uh S1 (fun h9 => hbe h9.1), (uh kb).alloc _, (uh BB).alloc (uh BB).size _⟩
            case measure => exact ms
          subst hbe;have hbn : ((j : Int) != (j : Int)) = false := by simp
          obtain ⟨ps, hps⟩ : ∃ q, ZL (st, (j : Int), rk, my, gu, lo, hi, hd, ca, ut, wk) = q := ⟨_, rfl⟩
          have Hps := Z9 hps;clear hps;go_wp2_with fail;clear c2 d0 d1 d2 d3 d4 d5 d6 d7 d8 d9 d10;refine ck (Yu (uh Hps) _) fun w2 hb => ?_;have ks : Hid (Blk w2 wr.heap.size 40 (I11 st (j : Int) rk my gu lo hi hd ca ut wk)) := Z9 ((Blk.new wr _ _).below hb (by simp));replace kb := Z9 (((uh kb).alloc (.cells (I11 st (j : Int) rk my gu lo hi hd ca ut wk) 40)).below hb (by simp; omega));replace BB := Z9 ((((uh BB).alloc (uh BB).size (.cells (I11 st (j : Int) rk my gu lo hi hd ca ut wk) 40))).trans (hb.mono (by simp; have := (uh BB).size; omega)));clear hb hl0;have d0 := (uh ks).cell (i := 0) (v := .int .i64 st) rfl;cases ps
          · go_wp2_with fail
            go_roundw
            case rel => exact ⟨k + 1, wkk, wt, by omega, rfl, rfl, by go_num, by omega, by omega, uh S1 (fun h9 => by have h8 := h9.2; rw [uh Hps] at h8; cases h8), uh kb, uh BB⟩
            case measure => exact ms
          by_cases hst : st = 2
          · subst hst
            go_wp2_with fail;go_roundw
            case rel => exact ⟨k + 1, wkk, true, by omega, rfl, rfl, by go_num, by omega, by omega, uh S2 (by first | rfl | trivial) (uh Hps) (by first | rfl | trivial), uh kb, uh BB⟩
            case measure => exact ms
          have hsn : (st == 2) = false := by simpa using hst
          by_cases hw0 : 0 ≤ wkk
          · go_wp2_with fail
            go_ret;exact ⟨Z5 (MF hlt (Ky (Kf (uh S3 (by first | rfl | trivial) (uh Hps) hst hw0) _ (by omega)))).symm, uh BB⟩
          go_wp2_with fail;go_roundw
          case rel => exact ⟨k + 1, (k : Int), wt, by omega, rfl, rfl, by go_num, by omega, by omega, uh S4 (by first | rfl | trivial) (uh Hps) hst hw0, uh kb, uh BB⟩
          case measure => exact ms
        · obtain rfl : k = m.sm.length := by omega
          have c3 := (uh kb).cell (i := 3) (v := .slice a3 m.dk.length p3) rfl
          rcases uh R3 with e0 | ⟨b', off', rfl, hbw', hcl'⟩
          · rw [e0] at hlt; simp at hlt
          obtain ⟨_, t1, _⟩ := Y4 hcl' hlt;rw [← (uh BB).cell (p := ⟨b', off' + j * 3 + 1, none⟩) hbw'] at t1;clear hcl';have HB := Z9 (Kz (uh Hsc));have HL := Z9 (MF (m := m) hlt);have HU := Z9 (show (List.range (j + 1)).all (Ya m) = ((List.range j).all (Ya m) && Ya m j) from Tz j);generalize Z8 m.dk j = dd at *;obtain ⟨op, who, mk⟩ := dd;simp only at t1;by_cases hwho : who = wkk;rotate_left
          · have hwn : (who != wkk) = true := by simpa using hwho
            go_wp2_with fail;go_ret;exact ⟨Z5 (uh HL (by rw [uh HB]; simp [hwho])).symm, uh BB⟩
          have hwn : (who != wkk) = false := by simpa using hwho
          have Hwho := Z9 hwho;clear hwho;cases wt
          · go_wp2_with fail
            go_roundw
            case rel => exact ⟨j + 1, by omega, by go_num, by rw [uh HU, uh Hup, uh HB, uh Hwho]; simp, uh kb, uh BB⟩
            case measure => exact ms
          by_cases hw0 : wkk < 0
          · go_wp2_with fail
            go_ret;exact ⟨Z5 (uh HL (by rw [uh HB]; simp [hw0])).symm, uh BB⟩
          go_wp2_with fail;go_roundw
          case rel => exact ⟨j + 1, by omega, by go_num, by rw [uh HU, uh Hup, uh HB, uh Hwho]; simp; omega, uh kb, uh BB⟩
          case measure => exact ms
    · obtain rfl : j = m.dk.length := by omega
      go_wp2_with fail;go_ret;exact ⟨Z5 (A1 (uh QL) (uh Hup)).symm, uh BB⟩
theorem Vq:(Tryz.prog.info? 91).map (fun i=>(i.zero,i.size,i.bytes))=some (some (.agg #[.int .i64 0,.int .i64 0]),2,16):=by kernel_rfl
theorem SK (ps:List Z4):(YY ps).length=ps.length*2:=by unfold YY;exact J7 ps
theorem QB (ps qs:List Z4):YY (ps++qs)=YY ps++YY qs:=by unfold YY;rw [List.flatMap_append]
theorem Od:∀ (ps:List Z4) (n:Nat),YY (ps.take n)=(YY ps).take (n*2)
 | [],n=>by simp [YY]
 | p::ps,0=>by simp [YY]
 | p::ps,n+1=>by
  have ih:=Od ps n;unfold YY at ih ⊢;rw [show (n+1)*2=n*2+2 by omega];simpa using ih
def EntsAt (n₀:Nat) (w:World) (v:Value) (ps:List Z4):Prop:=w.ownsRow n₀ 91 2 v ps.length (YY ps)
theorem EntsAt.lt {n₀:Nat}  {ps:List Z4} (h:EntsAt n₀ w v ps) {k:Nat} (hk:v.ownBlock=some k):n₀<=k/\k<w.heap.size:=World.ownsRow.lt h k hk
theorem EntsAt.mono {n₀ n₁:Nat}  {ps:List Z4} (h:EntsAt n₀ w v ps) (hn:n₁<=n₀):EntsAt n₁ w v ps:=Tl h hn
theorem EntsAt.same {n₀:Nat}  {ps:List Z4} (h:EntsAt n₀ w v ps) (hs:∀ k,v.ownBlock=some k->w'.heap[k]?=w.heap[k]?):EntsAt n₀ w' v ps:=Xm h hs
theorem EntsAt.later {n₀:Nat}  {ps:List Z4} (h:EntsAt n₀ w v ps) (hb:Below w.heap.size w w'):EntsAt n₀ w' v ps:=h.same fun k hk=>hb.block k (h.lt hk).2
theorem EntsAt.pc {n₀:Nat}  {ps:List Z4} (h:EntsAt n₀ w v ps):IsPaces w v ps:=by
 have h':=h
 rcases h.2 with ⟨rfl,hz⟩ | ⟨g,cap,cur,rfl,hb,hg,hnc,hcm,r⟩
 ·exact ⟨none,0,by rw [hz],by omega,by omega,.inl (List.eq_nil_of_length_eq_zero hz)⟩
 ·refine ⟨_,cap,rfl,hnc,by unfold maxLen at hcm;omega,.inr ⟨g,0,rfl,(Array.getElem?_eq_some_iff.1 hg).1,fun k hk=> ?_⟩⟩
  have hp:=UB (f:=fun p:Z4=>Value.int .i64 p.1) (g:=fun p:Z4=>Value.int .i64 p.2) ps k hk;have hat:Z7 ps k=ps[k]:=by unfold Z7;simp [List.getD,hk]
  rw [Nat.zero_add,hat];exact ⟨(World.ownsRow.cellAt h' (k*2) (by omega)).trans hp.1,(World.ownsRow.cellAt h' (k*2+1) (by omega)).trans hp.2⟩
theorem EntsAt.shape {n₀:Nat}  {ps:List Z4} (h:EntsAt n₀ w v ps):∃ a cap,v= .slice a ps.length cap:=by
 rcases h.2 with ⟨rfl,hz⟩ | ⟨g,cap,cur,rfl,_⟩
 ·exact ⟨none,0,by rw [hz]⟩
 ·exact ⟨_,cap,rfl⟩
theorem EntsAt.cut {n₀:Nat} {a:Option Addr} {len cap:Nat} {ps:List Z4} (h:EntsAt n₀ w (.slice a len cap) ps) {n:Nat} (hn:n<=ps.length) (ha:a ≠ none):EntsAt n₀ w (.slice a n cap) (ps.take n):=by
 have hl:(ps.take n).length=n:=by simp;omega
 unfold EntsAt;rw [hl,Od]
 rcases h.2 with ⟨hv,hz⟩ | ⟨g,cap',cur,hv,hb,hg,hnc,hcm,hs,ht⟩
 ·cases hv;exact absurd rfl ha
 ·cases hv
  refine ⟨by rw [List.length_take,SK];omega,.inr ⟨g,cap,cur,rfl,hb,hg,by omega,hcm,hs,?_⟩⟩;rw [<-ht,List.take_take];congr 1;omega
theorem IsPaces.cut {a:Option Addr} {len cap:Nat} {ps:List Z4} (h:IsPaces w (.slice a len cap) ps) {n:Nat} (hn:n<=ps.length):IsPaces w (.slice a n cap) (ps.take n):=by
 obtain ⟨a',cap',he,hc,hm,hr⟩:=h;cases he;have hl:(ps.take n).length=n:=by simp;omega
 refine ⟨a,cap,by rw [hl],by omega,hm,?_⟩
 rcases hr with hr | ⟨b,off,rfl,hlt,hcl⟩
 ·exact .inl (by rw [hr];simp)
 ·refine .inr ⟨b,off,rfl,hlt,fun k hk=> ?_⟩
  rw [Va (by omega)];exact hcl k (by omega)
theorem Dm {a b c d:Int} (h:a ≠ c):ltB (a,b) (c,d)=decide (a<c):=by unfold ltB;simp;omega
theorem Dn {a b d:Int} : ltB (a,b) (a,d)=decide (b<d):=by unfold ltB;simp
theorem SU (a b c d:Int) (w:World):Calls Tryz.prog 203 #[.agg #[.int .i64 a,.int .i64 b],.agg #[.int .i64 c,.int .i64 d]] w fun e w'=>e= .returned (.bool (ltB (a,b) (c,d)))/\Below w.heap.size w w':=by
 by_cases h:a=c
 ·subst h
  rw [Dn];go_enter Tryz.func203,Tryz.ntmps203;go_wp2_with fail;go_ret;exact ⟨rfl,((ba _ _)).alloc (by simp) _⟩
 ·rw [Dm h]
  have h':(a ==c)=false:=by simpa using h
  have h2:(a !=c)=true:=by simpa using h
  clear h;go_enter Tryz.func203,Tryz.ntmps203;go_wp2_with fail;go_ret;exact ⟨rfl,((ba _ _)).alloc (by simp) _⟩
theorem Wj (a b c d:Int) (w:World):Calls Tryz.prog 274 #[.agg #[.int .i64 a,.int .i64 b],.agg #[.int .i64 c,.int .i64 d]] w fun e w'=>e= .returned (.bool (ltB (a,b) (c,d)))/\Below w.heap.size w w':=by
 by_cases h:a=c
 ·subst h
  rw [Dn];go_enter Tryz.func274,Tryz.ntmps274;go_wp2_with fail;go_ret;exact ⟨rfl,((ba _ _)).alloc (by simp) _⟩
 ·rw [Dm h]
  have h':(a ==c)=false:=by simpa using h
  have h2:(a !=c)=true:=by simpa using h
  clear h;go_enter Tryz.func274,Tryz.ntmps274;go_wp2_with fail;go_ret;exact ⟨rfl,((ba _ _)).alloc (by simp) _⟩
theorem JR (n:Int) (w:World):Calls Tryz.prog 260 #[.int .i64 n] w fun e w'=>e= .returned (.bool (inB n (-1000000000000) 1000000000000))/\w'=w:=by
 go_enter Tryz.func260,Tryz.ntmps260;go_wp2_with (go_at_call 181;refine (Zy _ _ _ _).mono ?_;rintro e w' ⟨rfl,rfl⟩)
 go_ret;exact ⟨rfl,rfl⟩
theorem U7 (f c:Int) (w:World):Calls Tryz.prog 273 #[.agg #[.int .i64 f,.int .i64 c]] w fun e w'=>e= .returned (.bool (LA (f,c)))/\Below w.heap.size w w':=by
 cases h1:inB f (-1000000000000) 1000000000000
 ·go_enter Tryz.func273,Tryz.ntmps273
  go_wp2_with fail;refine (JR _ _).mono ?_;rintro e w' ⟨rfl,rfl⟩;go_wp2_with fail;go_ret;exact ⟨Z5 (by unfold LA;simp [h1]),(ba _ _)⟩
 ·go_enter Tryz.func273,Tryz.ntmps273
  go_wp2_with fail;refine (JR _ _).mono ?_;rintro e w' ⟨rfl,rfl⟩;go_wp2_with fail;refine (Zy _ _ _ _).mono ?_;rintro e w' ⟨rfl,rfl⟩;go_wp2_with fail;go_ret;exact ⟨Z5 (by unfold LA;simp [h1]),(ba _ _)⟩
theorem JU (f c who:Int) (B:Nat) (w:World) (hc:w.cell? ⟨B,0,none⟩=some (.int .i64 who)) (hB:B<w.heap.size) :
  Calls Tryz.prog 299 #[.agg #[.int .i64 f,.int .i64 c],.pointer (some ⟨B,0,none⟩)] w fun e w'=>e= .returned (.bool (c ==who))/\Below w.heap.size w w':=by
 have hne:B ≠ w.heap.size:=U5 hB;go_enter Tryz.func299,Tryz.ntmps299;go_wp2_with fail;go_ret;exact ⟨rfl,(ba _ _)⟩
theorem Gm  {ps:List Z4} (who:Int) (B:Nat) (h:IsPaces w v ps) (hc:w.cell? ⟨B,0,none⟩=some (.int .i64 who)) (hB:B<w.heap.size) :
  Calls Tryz.prog 298 #[v,.func (Fn.func 299) #[] #[.pointer (some ⟨B,0,none⟩)]] w fun e w'=>e= .returned (.int .i64 (VD ps who))/\Below w.heap.size w w':=by
 obtain ⟨a,cap,rfl,hcc,hm,hr⟩:=h;have Hr:=Z9 hr;have Hc:=Z9 hc;clear hr hc;go_enter Tryz.func298,Tryz.ntmps298;go_wp2_with fail
 go_loopw [5,8] (fun _ i wr=> ∃ k:Nat,k<=ps.length/\i= .int .i64 k/\Hid (∀ j,j<k->(Z7 ps j).2 ≠ who)/\Below w.heap.size w wr) (fun _ i _=>ps.length-(intOf i).toNat)
 case atStart=>exact ⟨0,ZA _,rfl,Z9 (fun j hj=>by omega),Z1 _ _⟩
 case round=>
  obtain ⟨k,hk,rfl,hno,hb⟩:=hrel;have Hb:=Z9 hb;by_cases hlt:k<ps.length
  ·rcases uh Hr with h0 | ⟨b,off,rfl,hbw,hcl⟩
   ·rw [h0] at hlt;simp at hlt
   obtain ⟨c0,c1⟩:=hcl k hlt;rw [<-hb.cell (p:=⟨b,off+k*2,none⟩) hbw] at c0;rw [<-hb.cell (p:=⟨b,off+k*2+1,none⟩) hbw] at c1;generalize hz:Z7 ps k=p at *;obtain ⟨f,z⟩:=p;simp only at c0 c1;have hcb:=(hb.cell (p:=⟨B,0,none⟩) hB).trans (uh Hc);have hBr:B<wr.heap.size:=Zf hB hb.size;have Hz:=Z9 hz;have Hcb:=Z9 hcb;clear hz hcl hb hcb;by_cases hx:z=who
   ·subst hx
    go_wp2_with fail;refine ck (JU _ _ _ _ _ (uh Hcb) hBr) fun w1 hb1=> ?_;have Hb1:=Z9 hb1;clear hb1;go_wp2_with fail;go_ret;exact ⟨ZC (D8 hlt (by rw [uh Hz]) (uh hno)).symm,(uh Hb).trans ((uh Hb1).mono (uh Hb).size)⟩
   ·have hx':(z ==who)=false:=by simpa using hx
    have Hx:=Z9 hx;clear hx;go_wp2_with fail;refine (JU _ _ _ _ _ (uh Hcb) hBr).mono ?_;rw [hx'];rintro e w1 ⟨rfl,hb1⟩;have Hb1:=Z9 hb1;clear hb1;go_wp2_with fail;go_roundw
    case rel=>exact ⟨k+1,by omega,by go_num,Z9 (Yh (uh hno) (by rw [uh Hz];exact uh Hx)),(uh Hb).trans ((uh Hb1).mono (uh Hb).size)⟩
    case measure=>exact ms
  ·obtain rfl:k=ps.length:=by omega
   go_wp2_with fail;go_ret;exact ⟨ZC (LD (uh hno)).symm,hb⟩
theorem G5  {ps:List Z4} (who:Int) (h:IsPaces w v ps) :
  Calls Tryz.prog 275 #[v,.int .i64 who] w fun e w'=>e= .returned (.int .i64 (VD ps who))/\Below w.heap.size w w':=by
 have Hv:=Z9 h;obtain ⟨a,cap,rfl,hcc,hm,hr⟩:=h;clear hr;go_enter Tryz.func275,Tryz.ntmps275;go_wp2_with fail;refine ck (Gm who w.heap.size ((uh Hv).below ((ba _ _))) (by simp) (by simp)) fun w1 hb=> ?_;have Hb:=Z9 hb;clear hb;go_wp2_with fail;go_ret;exact ⟨rfl,((ba _ _)).trans ((uh Hb).mono (by simp))⟩
structure Fr (bx:Nat) (r:Option Nat) (w w':World):Prop where
 os:w'.os=w.os
 tape:w'.tape=w.tape
 output:w'.output=w.output
 size:w.heap.size<=w'.heap.size
 block:∀ k,k<w.heap.size->k ≠ bx->r ≠ some k->w'.heap[k]?=w.heap[k]?
theorem Fr.refl (bx:Nat) (r:Option Nat) (w:World):Fr bx r w w:=⟨rfl,rfl,rfl,Z2 _,fun _ _ _ _=>rfl⟩
theorem Fr.trans {bx:Nat} {r:Option Nat} {a b c:World} (h:Fr bx r a b) (k:Fr bx r b c):Fr bx r a c:=
 ⟨k.os.trans h.os,k.tape.trans h.tape,k.output.trans h.output,XH h.size k.size,fun i hi hn hr=>(k.block i (Zf hi h.size) hn hr).trans (h.block i hi hn hr)⟩
theorem Fr.of_below {bx:Nat} {r:Option Nat} (h:Below w.heap.size w w'):Fr bx r w w':=⟨h.os,h.tape,h.output,h.size,fun k hk _ _=>h.block k hk⟩
theorem Fr.of_grown {bx:Nat} {r:Option Nat} (h:w.grownBy w' r):Fr bx r w w':=⟨h.os,h.tape,h.output,h.size,fun k hk _ hr=>h.block k hk (fun e=>hr e.symm)⟩
theorem Fr.box {bx:Nat} {r:Option Nat} (w:World) (v:Value):Fr bx r w (w.setCell ⟨bx,0,none⟩ v):=⟨rfl,rfl,rfl,by simp,fun k hk hn _=>Below.heap_setCell w ⟨bx,0,none⟩ v k hn⟩
theorem Fr.below {bx B:Nat} {r:Option Nat} (h:Fr bx r w w') (hx:B<=bx) (hr:∀ k,r=some k->B<=k) (hs:B<=w.heap.size):Below B w w':=
 ⟨h.os,h.tape,h.output,h.size,fun k hk=>h.block k (by omega) (by omega) (fun e=>by have:=hr k e;omega)⟩
theorem EntsAt.fr {n₀ bx:Nat} {r:Option Nat}  {ps:List Z4} (h:EntsAt n₀ w v ps) (hf:Fr bx r w w') (h1:v.ownBlock ≠ some bx) (h2:∀ k,v.ownBlock=some k->r ≠ some k):EntsAt n₀ w' v ps:=
 h.same fun k hk=>hf.block k (h.lt hk).2 (fun e=>h1 (by rw [hk,e])) (h2 k hk)
structure HeapIs (n₀ bx:Nat) (v:Value) (w:World) (ps:List Z4):Prop where
 cell:w.cell? ⟨bx,0,none⟩=some v
 free:w.frozen? ⟨bx,0,none⟩=false
 lt:bx<w.heap.size
 row:EntsAt n₀ w v ps
 off:v.ownBlock ≠ some bx
theorem HeapIs.later {n₀ bx:Nat}  {ps:List Z4} (h:HeapIs n₀ bx v w ps) (hb:Below w.heap.size w w'):HeapIs n₀ bx v w' ps:=
 ⟨(hb.cell (p:=⟨bx,0,none⟩) h.lt).trans h.cell,(hb.frozen (p:=⟨bx,0,none⟩) h.lt).trans h.free,Zf h.lt hb.size,h.row.later hb,h.off⟩
theorem HeapIs.view {n₀ bx:Nat}  {ps:List Z4} (h:HeapIs n₀ bx v w ps) (hl:0<ps.length):∃ g cap,v= .slice (some ⟨g,0,none⟩) ps.length cap/\g ≠ bx/\g<w.heap.size/\n₀<=g/\ps.length<=cap/\cap<=9223372036854775807/\
  (∀ k,k<ps.length->w.cell? ⟨g,k*2,none⟩=some (.int .i64 (Z7 ps k).1)/\w.cell? ⟨g,k*2+1,none⟩=some (.int .i64 (Z7 ps k).2))/\(∀ k,w.frozen? ⟨g,k,none⟩=false):=by
 have hr:=h.row
 rcases h.row.2 with ⟨hv,hz⟩ | ⟨g,cap,cur,rfl,hb,hg,hnc,hcm,r⟩
 ·omega
 ·obtain ⟨a,cap',he,_,_,hrr⟩:=hr.pc
  cases he;refine ⟨g,cap,rfl,fun e=>h.off (by rw [e];rfl),(Array.getElem?_eq_some_iff.1 hg).1,hb,hnc,by unfold maxLen at hcm;omega,?_,fun k=>World.ownsRow.frozenAt hr k⟩
  rcases hrr with h0 | ⟨b,off,he,_,hcl⟩
  ·rw [h0] at hl;simp at hl
  ·cases he
   intro k hk;have:=hcl k hk;simpa using this
theorem Px {n₀ bx:Nat}  {ps:List Z4} (h:HeapIs n₀ bx v w ps):Calls Tryz.prog 277 #[.pointer (some ⟨bx,0,none⟩)] w fun e w'=>e= .returned (.int .i64 ps.length)/\w'=w:=by
 have hc:=h.cell;obtain ⟨a,cap,rfl⟩:=h.row.shape;go_enter Tryz.func277,Tryz.ntmps277;go_wp2_with fail;go_ret;exact ⟨rfl,rfl⟩
theorem RC {n₀ bx:Nat}  {ps:List Z4} (h:HeapIs n₀ bx v w ps) {i j:Nat} (hi:i<ps.length) (hj:j<ps.length) :
  Calls Tryz.prog 362 #[.pointer (some ⟨bx,0,none⟩),.int .i64 i,.int .i64 j] w fun e w'=>e= .returned (.bool (ltB (Z7 ps i) (Z7 ps j)))/\Below w.heap.size w w':=by
 obtain ⟨g,cap,rfl,hne,hlt,_,hnc,hcm,hcl,_⟩:=h.view (by omega);have hc:=h.cell;obtain ⟨a0,a1⟩:=hcl i hi;obtain ⟨b0,b1⟩:=hcl j hj;generalize Z7 ps i=p at *;generalize Z7 ps j=q at *;obtain ⟨f,z⟩:=p;obtain ⟨f',z'⟩:=q;simp only at a0 a1 b0 b1;have hi0:(0:Int)<=(i:Int):=by omega
 have hj0:(0:Int)<=(j:Int):=by omega
 have hi1:(i:Int)<(ps.length:Int):=by omega
 have hj1:(j:Int)<(ps.length:Int):=by omega
 have k0:=ZW a0;have k1:=ZW a1;have k2:=ZW b0;have k3:=ZW b1;have k4:=ZW hc;clear hcl h hc a0 a1 b0 b1;go_enter Tryz.func362,Tryz.ntmps362;go_wp2_with fail;refine wq ?_
 repeat (go_big_quiet_step (exact ZY (Wj _ _ _ _ _)))
 refine wpQuiet_nil ?_;intro _ hw';obtain ⟨⟨dq,osq⟩,hw''⟩:=hw';subst hw'';go_wp2_with fail;go_ret;exact ⟨rfl,Z0 _ _ _⟩
theorem RO {a p:Addr} (h:w.cell? p=some v):∃ c,(w.setCell a u).cell? p=some c:=by
 by_cases e:p=a
 ·subst e;exact ⟨_,World.cell?_setCell_same _ _ _ h⟩
 ·exact ⟨v,by rw [World.cell?_setCell_other _ _ _ _ (fun e2=>e e2.symm)];exact h⟩
theorem HeapIs.swapped {n₀ bx g cap n:Nat} {ps:List Z4} (h:HeapIs n₀ bx (.slice (some ⟨g,0,none⟩) n cap) w ps) (hn:n=ps.length) (hne:g ≠ bx) {i j:Nat} (hi:i<ps.length) (hj:j<ps.length) (f z f' z':Int) (W:World) (hW:W=((((w.setCell ⟨g,i*2,none⟩ (.int .i64 f')).setCell ⟨g,i*2+1,none⟩ (.int .i64 z')).setCell ⟨g,j*2,none⟩ (.int .i64 f)).setCell ⟨g,j*2+1,none⟩ (.int .i64 z))) :
  HeapIs n₀ bx (.slice (some ⟨g,0,none⟩) n cap) W ((ps.set i (f',z')).set j (f,z))/\Fr bx (some g) w W:=by
 subst hn;have r1:=GR h.row (i*2) (.int .i64 f') (.int .i64 z');rw [yq _ _ _ _ hi] at r1;have r2:=GR r1.1 (j*2) (.int .i64 f) (.int .i64 z);rw [yq _ _ _ _ (by simpa using hj),<-hW] at r2;have hg:=Ro r1.2 r2.2;clear r1 hW;have hlt:=h.lt;have hb:=hg.block bx hlt (by simpa using Ne.symm hne);refine ⟨⟨?_,?_,Zf hlt hg.size,?_,h.off⟩,Fr.of_grown hg⟩
 ·exact (World.cell?_of_block (w:=w) (a:=⟨bx,0,none⟩) hb).trans h.cell
 ·exact (World.frozen?_of_block (w:=w) (a:=⟨bx,0,none⟩) hb).trans h.free
 ·unfold EntsAt
  rw [V7,V7];exact r2.1
theorem RR {n₀ bx:Nat}  {ps:List Z4} (h:HeapIs n₀ bx v w ps) {i j:Nat} (hi:i<ps.length) (hj:j<ps.length) :
  Calls Tryz.prog 365 #[.pointer (some ⟨bx,0,none⟩),.int .i64 i,.int .i64 j] w fun e w'=>e= .returned (.tuple #[])/\HeapIs n₀ bx v w' (swp ps i j)/\Fr bx v.ownBlock w w':=by
 have H:=Z9 h;obtain ⟨g,cap,rfl,hne,hlt,hn0,hnc,hcm,hcl,hfz⟩:=h.view (by omega);have hc:=h.cell;obtain ⟨a0,a1⟩:=hcl i hi;obtain ⟨b0,b1⟩:=hcl j hj;have z0:=hfz (i*2);have z1:=hfz (i*2+1);have z2:=hfz (j*2);have z3:=hfz (j*2+1);have HX:Hid (swp ps i j=(ps.set i (Z7 ps j)).set j (Z7 ps i)):=Z9 rfl;generalize Z7 ps i=p at *;generalize Z7 ps j=q at *;obtain ⟨f,z⟩:=p;obtain ⟨f',z'⟩:=q;simp only at a0 a1 b0 b1;have hi0:(0:Int)<=(i:Int):=by omega
 have hj0:(0:Int)<=(j:Int):=by omega
 have hi1:(i:Int)<(ps.length:Int):=by omega
 have hj1:(j:Int)<(ps.length:Int):=by omega
 obtain ⟨c1,y1⟩:∃ c,(w.setCell ⟨g,i*2,none⟩ (.int .i64 f')).cell? ⟨g,j*2,none⟩=some c:=RO b0
 obtain ⟨c2,y2⟩:∃ c,((w.setCell ⟨g,i*2,none⟩ (.int .i64 f')).setCell ⟨g,i*2+1,none⟩ (.int .i64 z')).cell? ⟨g,j*2+1,none⟩=some c:=by
  obtain ⟨c,hc9⟩:=RO (a:=⟨g,i*2,none⟩) (u:= .int .i64 f') b1;exact RO hc9
 obtain ⟨c3,y3⟩:∃ c,((w.setCell ⟨g,i*2,none⟩ (.int .i64 f')).setCell ⟨g,i*2+1,none⟩ (.int .i64 z')).cell? ⟨g,j*2,none⟩=some c:=by
  obtain ⟨c,hc9⟩:=RO (a:=⟨g,i*2,none⟩) (u:= .int .i64 f') b0;exact RO hc9
 clear hcl h hfz;go_enter Tryz.func365,Tryz.ntmps365;go_wp2_with fail
 go_region
 go_end0
 generalize hW:((((w.setCell ⟨g,i*2,none⟩ (.int .i64 f')).setCell ⟨g,i*2+1,none⟩ (.int .i64 z')).setCell ⟨g,j*2,none⟩ (.int .i64 f)).setCell ⟨g,j*2+1,none⟩ (.int .i64 z))=W;obtain ⟨h1,h2⟩:=(uh H).swapped rfl hne hi hj f z f' z' W hW.symm;exact ⟨rfl,by rw [uh HX];exact h1.later ((Z1 _ _).drew),h2.trans (Fr.of_below ((Z1 _ _).drew))⟩
theorem AV {n₀ bx:Nat} {v v':Value} {ps qs:List Z4} (h:HeapIs n₀ bx v w ps) (hb:Fr bx v.ownBlock w W) (hc:W.cell? ⟨bx,0,none⟩=some v) (hf:W.frozen? ⟨bx,0,none⟩=false) (hr:EntsAt n₀ W v' qs) (ho:v'.ownBlock ≠ some bx) :
  HeapIs n₀ bx v' (W.setCell ⟨bx,0,none⟩ v') qs/\Fr bx v.ownBlock w (W.setCell ⟨bx,0,none⟩ v'):=by
 refine ⟨⟨World.cell?_setCell_same _ _ _ hc,by rw [World.frozen?_setCell];exact hf,by simpa using Zf h.lt hb.size,hr.same fun k hk=>Below.heap_setCell W ⟨bx,0,none⟩ v' k (fun e=>ho (by rw [hk];exact congrArg some e)),ho⟩,hb.trans (Fr.box W v')⟩
theorem AG {n₀ bx:Nat}  {ps:List Z4} {m:Nat} (h:HeapIs n₀ bx v w ps) (hm:ps.length=m+1) :
  Calls Tryz.prog 363 #[.pointer (some ⟨bx,0,none⟩)] w fun e w'=>e= .returned (.iface 91 (.agg #[.int .i64 (Z7 ps m).1,.int .i64 (Z7 ps m).2]))/\ ∃ v',HeapIs n₀ bx v' w' (ps.take m)/\v'.ownBlock=v.ownBlock/\Fr bx v.ownBlock w w':=by
 have H:=Z9 h;obtain ⟨g,cap,rfl,hne,hlt,hn0,hnc,hcm,hcl,hfz⟩:=h.view (by omega);have hc:=h.cell;have hbf:=h.free;have hbx:=h.lt;obtain ⟨a0,a1⟩:=hcl m (by omega);have HL:=Z9 (Px h);clear hcl h hfz;rw [hm] at hnc hc;generalize Z7 ps m=p at *;obtain ⟨f,z⟩:=p;simp only at a0 a1;have hn1:g ≠ w.heap.size:=U5 hlt;have hn2:bx ≠ w.heap.size:=U5 hbx;go_enter Tryz.func363,Tryz.ntmps363;go_wp2_with fail;refine (uh HL).mono ?_;rw [hm];rintro e w' ⟨rfl,h1⟩;subst w';go_wp2_with fail;go_ret;have hcut:=(uh H).row.cut (n:=m) (by omega) (by simp);obtain ⟨r1,r2⟩:=AV (uh H) (Fr.refl _ _ _) (uh H).cell (uh H).free hcut (by simpa [Value.ownBlock] using hne);exact ⟨rfl,.slice (some ⟨g,0,none⟩) m cap,r1.later ((ba _ _)),rfl,r2.trans (Fr.of_below ((ba _ _)))⟩
theorem NJ {ops:Array Oper} {o:Oper} {a:Act} {K:Act->World->Prop} {Q:Exit->Act->World->Prop} {E:Prop} (hgd:o.guard=none) (s x:Operand) (t:TypeId) (ht:Tryz.prog.underlying t=some (.slice 91))
  (ho:o.op= .call { callee:= .builtin .append,args:=#[s,x],argTypes:=#[t,t] }) (base:Nat)
  (v:Value) (ps:List Z4) (hs:a.eval s=v) (hown:EntsAt base w v ps)
  (ad:Addr) (c:Nat) (f z:Int) (hx:a.eval x= .slice (some ad) 1 c) (hnews:∀ (j:Nat) (u:Value),([.int .i64 f,.int .i64 z]:List Value)[j]?=some u->w.cell? (ad.add j)=some u)
  (hb:ps.length<=4000) (hbase:base<=w.heap.size)
  (h:∀ v' w',EntsAt base w' v' (ps++[(f,z)])->w.grownBy w' v.ownBlock->(v'.ownBlock=v.ownBlock\/v'.ownBlock=some w.heap.size)->K (a.put o.dst v') w') :
  if Region.wanted o (yielded ops a.tmps)=true then Oper.wp Tryz.prog o a w K Q else E:=by
 have hw:Region.wanted o (yielded ops a.tmps)=true:=by simp [Region.wanted,hgd]
 rw [if_pos hw];obtain ⟨i0,hi,hz0,hz1,hz2⟩:=info_parts Vq
 obtain ⟨v',w',hr,h2,h3,_,h5⟩:=run_append_own_at (P:=Tryz.prog) w base t o.type 91 i0 (.agg #[.int .i64 0,.int .i64 0]) 2 16 ht hi hz0 hz1 hz2 rfl (by decide) v ps.length _ hown ad 1 c [.int .i64 f,.int .i64 z] rfl
  hnews (by simp [Value.oneCell']) (by simp only [maxLen];omega) (by omega) hbase
 unfold Oper.wp execOp;simp only [ho,resolve,invoke,builtin,Sem.run_bind,Sem.run_pure,Result.andThen_ok,List.map_toArray,List.map_cons,List.map_nil,hs,hx,hr];refine h v' w' ?_ h3 h5;unfold EntsAt;rw [QB,List.length_append];exact h2
theorem zB (w:World) (u u':Value) (t:TypeId) (b:Nat) (hb:b=w.heap.size):∀ (j:Nat) (x:Value),([u,u']:List Value)[j]?=some x->(w.alloc (.cells #[u,u'] t)).cell? ((⟨b,0,none⟩:Addr).add j)=some x:=by
 subst hb;intro j x hj
 match j,hj with
 | 0,hj=>simp at hj;subst hj;simp [Addr.add]
 | 1,hj=>simp at hj;subst hj;simp [Addr.add]
theorem Ll (f z:Int) (w:World):(Instr.typeAssert (.iface 91 (.agg #[.int .i64 f,.int .i64 z])) 20 91 false).run Tryz.prog w= .ok (.agg #[.int .i64 f,.int .i64 z]) w:=by kernel_rfl
theorem HeapIs.after {n₀ bx:Nat} {w W W1:World} {ps:List Z4} (h:HeapIs n₀ bx v w ps) (hb:Below w.heap.size w W) (hg:W.grownBy W1 v.ownBlock) :
  W1.cell? ⟨bx,0,none⟩=some v/\W1.frozen? ⟨bx,0,none⟩=false/\Fr bx v.ownBlock w W1:=by
 have hk:=hg.block bx (Zf h.lt hb.size) (fun e=>h.off e.symm);exact ⟨(World.cell?_of_block (w:=W) (a:=⟨bx,0,none⟩) hk).trans ((hb.cell (p:=⟨bx,0,none⟩) h.lt).trans h.cell),(World.frozen?_of_block (w:=W) (a:=⟨bx,0,none⟩) hk).trans ((hb.frozen (p:=⟨bx,0,none⟩) h.lt).trans h.free),(Fr.of_below hb).trans (Fr.of_grown hg)⟩
theorem Cn {n₀ bx:Nat}  {ps:List Z4} (f z:Int) (h:HeapIs n₀ bx v w ps) (hl:ps.length<=1000) (hn:n₀<=w.heap.size) :
  Calls Tryz.prog 364 #[.pointer (some ⟨bx,0,none⟩),.iface 91 (.agg #[.int .i64 f,.int .i64 z])] w fun e w'=>e= .returned (.tuple #[])/\ ∃ v',HeapIs n₀ bx v' w' (ps++[(f,z)])/\(v'.ownBlock=v.ownBlock\/ ∃ k,v'.ownBlock=some k/\w.heap.size<=k)/\Fr bx v.ownBlock w w':=by
 have H:=Z9 h;obtain ⟨a,cap,rfl⟩:=h.row.shape;have hc:=h.cell;have hbf:=h.free;have hbx:=h.lt;clear h;have hn2:bx ≠ w.heap.size:=U5 hbx;have hta:=Ll f z;go_enter Tryz.func364,Tryz.ntmps364;go_wp2_with fail
 go_region_law (refine NJ rfl (.tmp 7) (.tmp 10) 256 Tryz.underlying256 rfl n₀ _ ps rfl ((uh H).row.later (((ba _ _)).drew)) ⟨w.heap.size,0,none⟩ _ f z rfl (zB _ _ _ _ _ rfl) (by omega) (by simp;omega) ?_;intro v' w1 hown hgrow hat;obtain ⟨hc1,hf1,hfr⟩:=(uh H).after (((ba _ _)).drew) hgrow;obtain ⟨a1,cap1,rfl⟩:=hown.shape)
 all_goals
  go_end0
  have hoff:(Value.slice a1 (ps++[(f,z)]).length cap1).ownBlock ≠ some bx:=by
   rcases hat with e | e
   ·rw [e];exact (uh H).off
   ·rw [e];simp;omega
  obtain ⟨r1,r2⟩:=AV (uh H) hfr hc1 hf1 hown hoff;have hle:(ps++[(f,z)]).length=ps.length+1:=by simp
  rw [hle] at r1 r2 hat;refine ⟨rfl,_,r1,?_,r2⟩
  rcases hat with e | e
  ·exact .inl e
  ·exact .inr ⟨_,e,by simp⟩
theorem yL (a : Addr) (w : World) : (method 428 231 (.pointer (some a)) "Len").run Tryz.prog w = .ok (277, .pointer (some a)) w := by kernel_rfl
theorem As (a : Addr) (w : World) : (method 428 231 (.pointer (some a)) "Less").run Tryz.prog w = .ok (362, .pointer (some a)) w := by kernel_rfl
theorem Ey (a : Addr) (w : World) : (method 428 231 (.pointer (some a)) "Swap").run Tryz.prog w = .ok (365, .pointer (some a)) w := by kernel_rfl
theorem yj (a : Addr) (w : World) : (method 428 231 (.pointer (some a)) "Push").run Tryz.prog w = .ok (364, .pointer (some a)) w := by kernel_rfl
theorem xG (a : Addr) (w : World) : (method 428 231 (.pointer (some a)) "Pop").run Tryz.prog w = .ok (363, .pointer (some a)) w := by kernel_rfl
theorem yv {n₀ bx:Nat}  {ps:List Z4} {n j0:Nat} (h:HeapIs n₀ bx v w ps) (hu:UpTo ps n j0) (hj0:j0<n) (hn:n<=ps.length) (hl:ps.length<=1000) :
  Calls Tryz.prog 276 #[.iface 231 (.pointer (some ⟨bx,0,none⟩)),.int .i64 j0] w fun e w'=>e= .returned (.tuple #[])/\ ∃ qs,HeapIs n₀ bx v w' qs/\HeapTo qs n/\qs.Perm ps/\(∀ k,n<=k->Z7 qs k=Z7 ps k)/\Fr bx v.ownBlock w w':=by
 have H:=Z9 h;have HU:=Z9 hu;clear h hu;go_enter Tryz.func276,Tryz.ntmps276;go_wp2_with fail
 go_loopw [1,4] (fun q _ wr=> ∃ (j:Nat) (qs:List Z4),j<n/\q= .int .i64 j/\HeapIs n₀ bx v wr qs/\UpTo qs n j/\qs.Perm ps/\(∀ k,n<=k->Z7 qs k=Z7 ps k)/\Fr bx v.ownBlock w wr) (fun q _ _=>(intOf q).toNat)
 case atStart=>exact ⟨j0,ps,hj0,rfl,uh H,uh HU,List.Perm.refl _,fun _ _=>rfl,Fr.refl _ _ _⟩
 case round=>
  obtain ⟨j,qs,hj,rfl,hh,hup,hperm,hsame,hfr⟩:=hrel;have hql:qs.length=ps.length:=hperm.length_eq;have Hh:=Z9 hh;have Hup:=Z9 hup;have Hpe:=Z9 hperm;have Hsa:=Z9 hsame;have Hfr:=Z9 hfr;clear hh hup hperm hsame hfr;by_cases hz:j=0
  ·subst hz
   go_wp2_with fail
   go_end0
   exact ⟨rfl,qs,uh Hh,(uh Hup).done (.inl rfl),uh Hpe,uh Hsa,uh Hfr⟩
  ·obtain ⟨i,hi⟩:∃ i,i=(j-1) / 2:=⟨_,rfl⟩
   have hj1:(0:Int)<=(j:Int)-1:=by omega
   have hpar:((j:Int)-1) / 2=(i:Int):=by omega
   have hij:((i:Int) ==(j:Int))=false:=beq_eq_false_iff_ne.2 (by omega);have hm1:=As ⟨bx,0,none⟩;have hm2:=Ey ⟨bx,0,none⟩;have hjl:j<qs.length:=by omega
   have hil:i<qs.length:=by omega
   have Hless:=Z9 (RC (uh Hh) hjl hil);have Hi:=Z9 hi;clear hi;cases hlt:ltB (Z7 qs j) (Z7 qs i)
   ·go_wp2_with fail
    refine (uh Hless).mono ?_;rw [hlt];rintro e w1 ⟨rfl,hb1⟩;have H1:=Z9 ((uh Hh).later hb1);have F1:=Z9 ((uh Hfr).trans (Fr.of_below hb1));clear hb1;go_wp2_with fail
    go_end0
    exact ⟨rfl,qs,uh H1,(uh Hup).done (.inr (by rw [<-uh Hi];exact hlt)),uh Hpe,uh Hsa,uh F1⟩
   ·go_wp2_with fail
    refine (uh Hless).mono ?_;rw [hlt];rintro e w1 ⟨rfl,hb1⟩;have H1:=Z9 ((uh Hh).later hb1);have F1:=Z9 ((uh Hfr).trans (Fr.of_below hb1));clear hb1;go_wp2_with fail;refine (RR (uh H1) hil hjl).mono ?_;rintro e w2 ⟨rfl,hh2,hf2⟩;have H2:=Z9 hh2;have F2:=Z9 ((uh F1).trans hf2);clear hh2 hf2;have HS:Hid (UpTo (swp qs i j) n i):=Z9 (by rw [uh Hi];exact (uh Hup).step (by omega) hj (by omega) (by rw [<-uh Hi];exact hlt));have HA:Hid (∀ k,n<=k->Z7 (swp qs i j) k=Z7 ps k):=Z9 (fun k hk=>by rw [RS hil hjl,if_neg (by omega),if_neg (by omega)];exact uh Hsa k hk);go_wp2_with fail;go_roundw
    case rel=>exact ⟨i,swp qs i j,by omega,rfl,uh H2,uh HS,(RT hil hjl).trans (uh Hpe),uh HA,uh F2⟩
    case measure=>exact ms
def DownPost (n₀ bx:Nat) (v:Value) (w:World) (ps:List Z4) (n i0:Nat) (e:Ending) (w':World):Prop:=
 ∃ (b:Bool) (qs:List Z4),e= .returned (.bool b)/\HeapIs n₀ bx v w' qs/\qs.Perm ps/\(∀ k,n<=k->Z7 qs k=Z7 ps k)/\Fr bx v.ownBlock w w'/\(b=true->HeapTo qs n)/\(b=false->UpTo qs n i0)
theorem Pr {n₀ bx:Nat}  {ps qs:List Z4} {n i0 i:Nat} (hi:i0<=i) (hh:HeapIs n₀ bx v wr qs) (hdn:DnTo qs n i0 i) (hp:qs.Perm ps) (hs:∀ k,n<=k->Z7 qs k=Z7 ps k) (hf:Fr bx v.ownBlock w wr)
  (hd:∀ k,0<k->k<n->(k-1) / 2=i->ltB (Z7 qs k) (Z7 qs i)=false):DownPost n₀ bx v w ps n i0 (.returned (.bool (decide (i0<i)))) wr:=by
 refine ⟨_,qs,rfl,hh,hp,hs,hf,fun h=> ?_,fun h=> ?_⟩
 ·have:=of_decide_eq_true h
  exact hdn.moved (by omega) hd
 ·have:=of_decide_eq_false h
  obtain rfl:i=i0:=by omega
  exact hdn.still hd
theorem kid {k i:Nat} (h0:0<k) (h:(k-1) / 2=i):k=2*i+1\/k=2*i+2:=by omega
theorem zU {n₀ bx:Nat}  {ps:List Z4} {n i0:Nat} (h:HeapIs n₀ bx v w ps) (hu:DnTo ps n i0 i0) (hi0:i0<=n) (hn:n<=ps.length) (hl:ps.length<=1000) :
  Calls Tryz.prog 300 #[.iface 231 (.pointer (some ⟨bx,0,none⟩)),.int .i64 i0,.int .i64 n] w (DownPost n₀ bx v w ps n i0):=by
 have H:=Z9 h;have HU:=Z9 hu;have hm1:=As ⟨bx,0,none⟩;have hm2:=Ey ⟨bx,0,none⟩;clear h hu;go_enter Tryz.func300,Tryz.ntmps300;go_wp2_with fail
 go_loopw [7] (fun q wr=> ∃ (i:Nat) (qs:List Z4),i0<=i/\i<=n/\q= .int .i64 i/\HeapIs n₀ bx v wr qs/\DnTo qs n i0 i/\qs.Perm ps/\(∀ k,n<=k->Z7 qs k=Z7 ps k)/\Fr bx v.ownBlock w wr) (fun q _=>n-(intOf q).toNat)
 case atStart=>exact ⟨i0,ps,Z2 _,hi0,rfl,uh H,uh HU,List.Perm.refl _,fun _ _=>rfl,Fr.refl _ _ _⟩
 case round=>
  obtain ⟨i,qs,hii,hin,rfl,hh,hdn,hperm,hsame,hfr⟩:=hrel;have hql:qs.length=ps.length:=hperm.length_eq;have Hh:=Z9 hh;have Hdn:=Z9 hdn;have Hpe:=Z9 hperm;have Hsa:=Z9 hsame;have Hfr:=Z9 hfr;clear hh hdn hperm hsame hfr;obtain ⟨j1,hj1⟩:∃ j1,j1=2*i+1:=⟨_,rfl⟩
  obtain ⟨j2,hj2⟩:∃ j2,j2=2*i+2:=⟨_,rfl⟩
  have e1:2*(i:Int)+1=(j1:Int):=by omega
  have e2:(j1:Int)+1=(j2:Int):=by omega
  have Hj1:=Z9 hj1;have Hj2:=Z9 hj2;by_cases hn1:n<=j1
  ·have hg1:(n:Int)<=(j1:Int):=by omega
   clear hj1 hj2;go_wp2_with fail;go_ret;exact Pr hii (uh Hh) (uh Hdn) (uh Hpe) (uh Hsa) (uh Hfr) (fun k k0 kn kp=>by have:=kid k0 kp;have:=uh Hj1;omega)
  ·have hg1:¬ (n:Int)<=(j1:Int):=by omega
   have hg2:¬ (j1:Int)<0:=by omega
   have hil:i<qs.length:=by omega
   have hjl:j1<qs.length:=by omega
   have hij1:i<j1:=by omega
   by_cases hn2:j2<n
   ·have hg3:(j2:Int)<(n:Int):=by omega
    have hkl:j2<qs.length:=by omega
    have hij2:i<j2:=by omega
    clear hj1 hj2;have HL:=Z9 (RC (uh Hh) hkl hjl);cases hlt:ltB (Z7 qs j2) (Z7 qs j1)
    ·have HM:Hid (∀ k,0<k->k<n->(k-1) / 2=i->ltB (Z7 qs k) (Z7 qs j1)=false):=Z9 (fun k k0 kn kp=>by
      have e3:=uh Hj1;have e4:=uh Hj2
      rcases kid k0 kp with e | e
      ·rw [show k=j1 by omega];exact PA _
      ·rw [show k=j2 by omega];exact hlt)
     have HP:Hid ((j1-1) / 2=i):=Z9 (by have:=uh Hj1;omega);go_wp2_with fail;refine (uh HL).mono ?_;rw [hlt];rintro e w1 ⟨rfl,hb1⟩;have H1:=Z9 ((uh Hh).later hb1);have F1:=Z9 ((uh Hfr).trans (Fr.of_below hb1));clear hb1 hlt HL Hh Hfr;have HL2:=Z9 (RC (uh H1) hjl hil);cases hlt2:ltB (Z7 qs j1) (Z7 qs i)
     ·go_wp2_with fail
      refine (uh HL2).mono ?_;rw [hlt2];rintro e w2 ⟨rfl,hb2⟩;have H2:=Z9 ((uh H1).later hb2);have F2:=Z9 ((uh F1).trans (Fr.of_below hb2));clear hb2 HL2;go_wp2_with fail;go_ret;exact Pr hii (uh H2) (uh Hdn) (uh Hpe) (uh Hsa) (uh F2) (fun k k0 kn kp=>SC hlt2 (uh HM k k0 kn kp))
     ·go_wp2_with fail
      refine (uh HL2).mono ?_;rw [hlt2];rintro e w2 ⟨rfl,hb2⟩;have H2:=Z9 ((uh H1).later hb2);have F2:=Z9 ((uh F1).trans (Fr.of_below hb2));clear hb2 HL2;go_wp2_with fail;refine (RR (uh H2) hil hjl).mono ?_;rintro e w3 ⟨rfl,hh3,hf3⟩;have H3:=Z9 hh3;have F3:=Z9 ((uh F2).trans hf3);clear hh3 hf3;have HS:Hid (DnTo (swp qs i j1) n i0 j1):=Z9 ((uh Hdn).step hii (by omega) (uh HP) (by omega) (by omega) hlt2 (uh HM));have HA:Hid (∀ k,n<=k->Z7 (swp qs i j1) k=Z7 ps k):=Z9 (fun k hk=>by rw [RS hil hjl,if_neg (by omega),if_neg (by omega)];exact uh Hsa k hk);go_wp2_with fail;go_roundw
      case rel=>exact ⟨j1,swp qs i j1,by omega,by omega,rfl,uh H3,uh HS,(RT hil hjl).trans (uh Hpe),uh HA,uh F3⟩
      case measure=>exact ms
    ·have HM:Hid (∀ k,0<k->k<n->(k-1) / 2=i->ltB (Z7 qs k) (Z7 qs j2)=false):=Z9 (fun k k0 kn kp=>by
      have e3:=uh Hj1;have e4:=uh Hj2
      rcases kid k0 kp with e | e
      ·rw [show k=j1 by omega];exact QW hlt
      ·rw [show k=j2 by omega];exact PA _)
     have HP:Hid ((j2-1) / 2=i):=Z9 (by have:=uh Hj2;omega);go_wp2_with fail;refine (uh HL).mono ?_;rw [hlt];rintro e w1 ⟨rfl,hb1⟩;have H1:=Z9 ((uh Hh).later hb1);have F1:=Z9 ((uh Hfr).trans (Fr.of_below hb1));clear hb1 hlt HL Hh Hfr;have HL2:=Z9 (RC (uh H1) hkl hil);cases hlt2:ltB (Z7 qs j2) (Z7 qs i)
     ·go_wp2_with fail
      refine (uh HL2).mono ?_;rw [hlt2];rintro e w2 ⟨rfl,hb2⟩;have H2:=Z9 ((uh H1).later hb2);have F2:=Z9 ((uh F1).trans (Fr.of_below hb2));clear hb2 HL2;go_wp2_with fail;go_ret;exact Pr hii (uh H2) (uh Hdn) (uh Hpe) (uh Hsa) (uh F2) (fun k k0 kn kp=>SC hlt2 (uh HM k k0 kn kp))
     ·go_wp2_with fail
      refine (uh HL2).mono ?_;rw [hlt2];rintro e w2 ⟨rfl,hb2⟩;have H2:=Z9 ((uh H1).later hb2);have F2:=Z9 ((uh F1).trans (Fr.of_below hb2));clear hb2 HL2;go_wp2_with fail;refine (RR (uh H2) hil hkl).mono ?_;rintro e w3 ⟨rfl,hh3,hf3⟩;have H3:=Z9 hh3;have F3:=Z9 ((uh F2).trans hf3);clear hh3 hf3;have HS:Hid (DnTo (swp qs i j2) n i0 j2):=Z9 ((uh Hdn).step hii (by omega) (uh HP) (by omega) (by omega) hlt2 (uh HM));have HA:Hid (∀ k,n<=k->Z7 (swp qs i j2) k=Z7 ps k):=Z9 (fun k hk=>by rw [RS hil hkl,if_neg (by omega),if_neg (by omega)];exact uh Hsa k hk);go_wp2_with fail;go_roundw
      case rel=>exact ⟨j2,swp qs i j2,by omega,by omega,rfl,uh H3,uh HS,(RT hil hkl).trans (uh Hpe),uh HA,uh F3⟩
      case measure=>exact ms
   ·have hg3:¬ (j2:Int)<(n:Int):=by omega
    have HM:Hid (∀ k,0<k->k<n->(k-1) / 2=i->ltB (Z7 qs k) (Z7 qs j1)=false):=Z9 (fun k k0 kn kp=>by
      have e3:=uh Hj1;have e4:=uh Hj2
      rcases kid k0 kp with e | e
      ·rw [show k=j1 by omega];exact PA _
      ·omega)
    have HP:Hid ((j1-1) / 2=i):=Z9 (by have:=uh Hj1;omega);clear hj1 hj2;have HL2:=Z9 (RC (uh Hh) hjl hil);cases hlt2:ltB (Z7 qs j1) (Z7 qs i)
    ·go_wp2_with fail
     refine (uh HL2).mono ?_;rw [hlt2];rintro e w2 ⟨rfl,hb2⟩;have H2:=Z9 ((uh Hh).later hb2);have F2:=Z9 ((uh Hfr).trans (Fr.of_below hb2));clear hb2 HL2;go_wp2_with fail;go_ret;exact Pr hii (uh H2) (uh Hdn) (uh Hpe) (uh Hsa) (uh F2) (fun k k0 kn kp=>SC hlt2 (uh HM k k0 kn kp))
    ·go_wp2_with fail
     refine (uh HL2).mono ?_;rw [hlt2];rintro e w2 ⟨rfl,hb2⟩;have H2:=Z9 ((uh Hh).later hb2);have F2:=Z9 ((uh Hfr).trans (Fr.of_below hb2));clear hb2 HL2;go_wp2_with fail;refine (RR (uh H2) hil hjl).mono ?_;rintro e w3 ⟨rfl,hh3,hf3⟩;have H3:=Z9 hh3;have F3:=Z9 ((uh F2).trans hf3);clear hh3 hf3;have HS:Hid (DnTo (swp qs i j1) n i0 j1):=Z9 ((uh Hdn).step hii (by omega) (uh HP) (by omega) (by omega) hlt2 (uh HM));have HA:Hid (∀ k,n<=k->Z7 (swp qs i j1) k=Z7 ps k):=Z9 (fun k hk=>by rw [RS hil hjl,if_neg (by omega),if_neg (by omega)];exact uh Hsa k hk);go_wp2_with fail;go_roundw
     case rel=>exact ⟨j1,swp qs i j1,by omega,by omega,rfl,uh H3,uh HS,(RT hil hjl).trans (uh Hpe),uh HA,uh F3⟩
     case measure=>exact ms
theorem HeapTo.take {ps:List Z4} {n m:Nat} (h:HeapTo ps n) (hm:n<=m):HeapTo (ps.take m) n:=fun k k0 kn=>by
 rw [Va (by omega),Va (by omega)];exact h k k0 kn
theorem HeapIs.below {n₀ bx:Nat} {v v':Value} {ps qs:List Z4} (h:HeapIs n₀ bx v w ps) (hf:Fr bx v.ownBlock w w') (hx:n₀<=bx) (hn:n₀<=w.heap.size):Below n₀ w w':=
 hf.below hx (fun k e=>(h.row.lt e).1) hn
theorem Je {n₀ bx:Nat}  {ps:List Z4} (f z:Int) (h:HeapIs n₀ bx v w ps) (hp:HeapTo ps ps.length) (hl:ps.length<=900) (hx:n₀<=bx) (hn:n₀<=w.heap.size) :
  Calls Tryz.prog 245 #[.iface 231 (.pointer (some ⟨bx,0,none⟩)),.iface 91 (.agg #[.int .i64 f,.int .i64 z])] w fun e w'=>e= .returned (.tuple #[])/\ ∃ v' qs,HeapIs n₀ bx v' w' qs/\HeapTo qs qs.length/\qs.Perm (ps++[(f,z)])/\Below n₀ w w':=by
 have H:=Z9 h;have HP:=Z9 hp;have hm1:=yj ⟨bx,0,none⟩;have hm2:=yL ⟨bx,0,none⟩;clear h hp;go_enter Tryz.func245,Tryz.ntmps245;go_wp2_with fail;refine (Cn f z (uh H) (by omega) hn).mono ?_;rintro e w1 ⟨rfl,v1,hh1,hat,hf1⟩;have H1:=Z9 hh1;have B1:=Z9 ((uh H).below (v':=v1) (qs:=ps) hf1 hx hn);have hz1:=hf1.size;clear hh1 hat hf1;go_wp2_with fail;refine (Px (uh H1)).mono ?_;rintro e w' ⟨rfl,h2⟩;subst w';have hlen:(ps++[(f,z)]).length=ps.length+1:=by simp
 rw [hlen];go_wp2_with fail;refine (yv (j0:=ps.length) (n:=ps.length+1) (uh H1) ((uh HP).push (f,z)) (by omega) (by rw [hlen];exact Z2 _) (by rw [hlen];omega)).mono ?_;rintro e w2 ⟨rfl,qs,hh2,hq,hpe,_,hf2⟩;have hql:qs.length=ps.length+1:=by rw [hpe.length_eq,hlen]
 have H2:=Z9 hh2;have HQ:=Z9 hq;have HE:=Z9 hpe;have B2:=Z9 ((uh B1).trans ((uh H1).below (v':=v1) (qs:=ps) hf2 hx (by omega)));clear hh2 hq hpe hf2;go_wp2_with fail
 go_end0
 exact ⟨rfl,v1,qs,uh H2,by rw [hql];exact uh HQ,uh HE,uh B2⟩
theorem DnTo.none {ps:List Z4} {i0 i:Nat} : DnTo ps 0 i0 i:=⟨fun k k0 kn=>by omega,fun k k0 kn=>by omega⟩
theorem DownPost.zero {n₀ bx:Nat}  {ps:List Z4} {n:Nat} {e:Ending} (h:DownPost n₀ bx v w ps n 0 e w') :
  ∃ (b:Bool) (qs:List Z4),e= .returned (.bool b)/\HeapIs n₀ bx v w' qs/\qs.Perm ps/\(∀ k,n<=k->Z7 qs k=Z7 ps k)/\Fr bx v.ownBlock w w'/\HeapTo qs n:=by
 obtain ⟨b,qs,he,hh,hp,hs,hf,h1,h2⟩:=h;refine ⟨b,qs,he,hh,hp,hs,hf,?_⟩;cases b
 ·exact (h2 rfl).done (.inl rfl)
 ·exact h1 rfl
theorem Gi {n₀ bx:Nat}  {ps:List Z4} {m:Nat} (h:HeapIs n₀ bx v w ps) (hp:HeapTo ps ps.length) (hm:ps.length=m+1) (hl:ps.length<=900) :
  Calls Tryz.prog 278 #[.iface 231 (.pointer (some ⟨bx,0,none⟩))] w fun e w'=>e= .returned (.iface 91 (.agg #[.int .i64 (Z7 ps 0).1,.int .i64 (Z7 ps 0).2]))/\ ∃ v' qs,HeapIs n₀ bx v' w' qs/\HeapTo qs qs.length/\(qs++[Z7 ps 0]).Perm ps/\v'.ownBlock=v.ownBlock/\Fr bx v.ownBlock w w':=by
 have H:=Z9 h;rw [hm] at hp;have HP:=Z9 hp;have hm1:=xG ⟨bx,0,none⟩;have hm2:=yL ⟨bx,0,none⟩;have hm3:=Ey ⟨bx,0,none⟩;clear h hp;go_enter Tryz.func278,Tryz.ntmps278;go_wp2_with fail;refine (Px (uh H)).mono ?_;rw [hm];rintro e w' ⟨rfl,h2⟩;subst w';go_wp2_with fail;refine (RR (i:=0) (j:=m) (uh H) (by omega) (by omega)).mono ?_;rintro e w1 ⟨rfl,hh1,hf1⟩;have H1:=Z9 hh1;have F1:=Z9 hf1;have hl1:(swp ps 0 m).length=m+1:=by rw [zA];exact hm
 have HD:Hid (DnTo (swp ps 0 m) m 0 0):=Z9 (by
  by_cases e:m=0
  ·subst e;exact DnTo.none
  ·exact (uh HP).swap hm (by omega))
 have HA:Hid (Z7 (swp ps 0 m) m=Z7 ps 0):=Z9 (by rw [RS (by omega) (by omega),if_pos rfl]);have HPm:Hid ((swp ps 0 m).Perm ps):=Z9 (RT (by omega) (by omega));clear hh1 hf1;go_wp2_with fail;refine (zU (n:=m) (i0:=0) (uh H1) (uh HD) (by omega) (by omega) (by omega)).mono ?_;intro e w2 hpost;obtain ⟨b,qs,rfl,hh2,hp2,hs2,hf2,hq2⟩:=hpost.zero;have hql:qs.length=m+1:=by rw [hp2.length_eq,hl1]
 have H2:=Z9 hh2;have HE:Hid ((qs.take m++[Z7 ps 0]).Perm ps):=Z9 (by rw [<-uh HA,<-hs2 m (Nat.le_refl _),MS hql];exact hp2.trans (uh HPm));have HV:Hid (Z7 qs m=Z7 ps 0):=Z9 ((hs2 m (Z2 _)).trans (uh HA));have HQ:Hid (HeapTo (qs.take m) (qs.take m).length):=Z9 (by rw [List.length_take,Nat.min_eq_left (by omega)];exact hq2.take (Z2 _));have F2:=Z9 ((uh F1).trans hf2);clear hpost hh2 hp2 hs2 hf2 hq2;go_wp2_with fail;refine (AG (uh H2) hql).mono ?_;rw [uh HV];rintro e w3 ⟨rfl,v3,hh3,ho3,hf3⟩;have H3:=Z9 hh3;have F3:=Z9 ((uh F2).trans hf3);clear hh3 hf3;go_wp2_with fail;go_ret;exact ⟨rfl,v3,qs.take m,uh H3,uh HQ,uh HE,ho3,uh F3⟩
theorem IM (g o i:Nat):(⟨g,o,none⟩:Addr).add i=⟨g,o+i,none⟩:=by unfold Addr.add;split<;>simp_all
theorem NC {base t ty e size n:Nat} {i:TypeInfo} (ht:Tryz.prog.underlying t=some (.slice e)) (hi:Tryz.prog.info? e=some i) {xs:List Value} (hown:w.ownsRow base e size v n xs) (a:Option Addr) (c:Nat) :
  (Builtin.append_ #[t,t] ty #[v,.slice a 0 c]).run Tryz.prog w= .ok v w:=by
 rcases hown.2 with ⟨rfl,rfl⟩ | ⟨g,cap,cur,rfl,_,_,hnc,_⟩
 ·cases a<;>simp [Builtin.append_,run_underlying ht,sizeOf,typeInfo,hi,Builtin.lenOf,Builtin.firstCells,loadCells,loadCellsFrom]
 ·cases a<;>simp [Builtin.append_,run_underlying ht,sizeOf,typeInfo,hi,Builtin.lenOf,Builtin.firstCells,hnc,storeCells,loadCells,loadCellsFrom]
theorem zP {b off:Nat} {qs:List Z4} (h:∀ k,k<qs.length->w.cell? ⟨b,off+k*2,none⟩=some (.int .i64 (Z7 qs k).1)/\w.cell? ⟨b,off+k*2+1,none⟩=some (.int .i64 (Z7 qs k).2)) :
  ∀ (j:Nat) (u:Value),(YY qs)[j]?=some u->w.cell? ((⟨b,off,none⟩:Addr).add j)=some u:=fun j u hj=>by
 have hlt:j<qs.length*2:=by
  rcases Nat.lt_or_ge j (qs.length*2) with h | h
  ·exact h
  ·rw [List.getElem?_eq_none (by rw [SK];exact h)] at hj;cases hj
 rw [IM];have hp:=UB (f:=fun p:Z4=>Value.int .i64 p.1) (g:=fun p:Z4=>Value.int .i64 p.2) qs (j / 2) (by omega);have e:Z7 qs (j / 2)=qs[j / 2]'(by omega):=by unfold Z7;simp [List.getD,(by omega:j / 2<qs.length)]
 obtain ⟨h1,h2⟩:=h (j / 2) (by omega);rw [e] at h1 h2
 rcases Nat.mod_two_eq_zero_or_one j with e2 | e2
 ·rw [show off+j=off+j / 2*2 by omega,h1,<-hj]
  conv=>rhs;rw [show j=j / 2*2 by omega]
  exact hp.1.symm
 ·rw [show off+j=off+j / 2*2+1 by omega,h2,<-hj]
  conv=>rhs;rw [show j=j / 2*2+1 by omega]
  exact hp.2.symm
theorem Ci (qs:List Z4):∀ u ∈ YY qs,u.oneCell'=true:=fun u hu=>by
 unfold YY at hu;obtain ⟨p,_,hp⟩:=List.mem_flatMap.1 hu;simp only [List.mem_cons,List.not_mem_nil,or_false] at hp
 rcases hp with rfl | rfl<;>rfl
theorem R7 {base t ty:Nat} (ht:Tryz.prog.underlying t=some (.slice 91)) {v x:Value} {ps qs:List Z4} (hown:EntsAt base w v ps) (hx:IsPaces w x qs) (hb:ps.length+qs.length<=4000) (hbase:base<=w.heap.size) :
  ∃ v' w',(Builtin.append_ #[t,t] ty #[v,x]).run Tryz.prog w= .ok v' w'/\EntsAt base w' v' (ps++qs)/\w.grownBy w' v.ownBlock/\(v'.ownBlock=v.ownBlock\/v'.ownBlock=some w.heap.size):=by
 obtain ⟨i0,hi,hz0,hz1,hz2⟩:=info_parts Vq;obtain ⟨a,c,rfl,hc,hm,hr⟩:=hx;by_cases h0:qs=[]
 ·subst h0
  refine ⟨v,w,NC ht hi hown a c,by simpa using hown,Ss _ _,.inl rfl⟩
 ·rcases hr with hr | ⟨b,off,rfl,hlt,hcl⟩
  ·exact absurd hr h0
  ·obtain ⟨v',w',hr,h2,h3,_,h5⟩:=run_append_own_at (P:=Tryz.prog) w base t ty 91 i0 (.agg #[.int .i64 0,.int .i64 0]) 2 16 ht hi hz0 hz1 hz2 rfl (by decide) v ps.length _ hown ⟨b,off,none⟩ qs.length c (YY qs) (SK qs)
    (zP hcl) (Ci qs) (by simp only [maxLen];omega) (by omega) hbase
   refine ⟨v',w',hr,?_,h3,h5⟩;unfold EntsAt;rw [QB,List.length_append];exact h2
theorem V2 {ops:Array Oper} {rest:List Oper} {o:Oper} {a:Act} {Q:Exit->Act->World->Prop} (hgd:o.guard=none) (s x:Operand) (t:TypeId) (ht:Tryz.prog.underlying t=some (.slice 91))
  (ho:o.op= .call { callee:= .builtin .append,args:=#[s,x],argTypes:=#[t,t] }) (base:Nat) (v u:Value) (ps qs:List Z4) (hs:a.eval s=v) (hx:a.eval x=u) (hown:EntsAt base w v ps) (hr:IsPaces w u qs)
  (hb:ps.length+qs.length<=4000) (hbase:base<=w.heap.size)
  (h:∀ v' w',EntsAt base w' v' (ps++qs)->w.grownBy w' v.ownBlock->(v'.ownBlock=v.ownBlock\/v'.ownBlock=some w.heap.size)->wpList Tryz.prog ops Q rest (a.put o.dst v') w') :
  wpList Tryz.prog ops Q (o::rest) a w:=by
 refine wpList_plain hgd fun K hK=> ?_;obtain ⟨v',w',hrun,h2,h3,h5⟩:=R7 (ty:=o.type) ht hown hr hb hbase;unfold Oper.wp execOp;simp only [ho,resolve,invoke,builtin,Sem.run_bind,Sem.run_pure,Result.andThen_ok,List.map_toArray,List.map_cons,List.map_nil,hs,hx,hrun];exact hK _ _ (h v' w' h2 h3 h5)
theorem XP {ops:Array Oper} {o:Oper} {a:Act} {K:Act->World->Prop} {Q:Exit->Act->World->Prop} {E:Prop} (hgd:o.guard=none) (s x:Operand) (t:TypeId) (ht:Tryz.prog.underlying t=some (.slice 91))
  (ho:o.op= .call { callee:= .builtin .append,args:=#[s,x],argTypes:=#[t,t] }) (base:Nat) (v u:Value) (ps qs:List Z4) (hs:a.eval s=v) (hx:a.eval x=u) (hown:EntsAt base w v ps) (hr:IsPaces w u qs)
  (hb:ps.length+qs.length<=4000) (hbase:base<=w.heap.size)
  (h:∀ v' w',EntsAt base w' v' (ps++qs)->w.grownBy w' v.ownBlock->(v'.ownBlock=v.ownBlock\/v'.ownBlock=some w.heap.size)->K (a.put o.dst v') w') :
  if Region.wanted o (yielded ops a.tmps)=true then Oper.wp Tryz.prog o a w K Q else E:=by
 have hw:Region.wanted o (yielded ops a.tmps)=true:=by simp [Region.wanted,hgd]
 rw [if_pos hw];obtain ⟨v',w',hrun,h2,h3,h5⟩:=R7 (ty:=o.type) ht hown hr hb hbase;unfold Oper.wp execOp;simp only [ho,resolve,invoke,builtin,Sem.run_bind,Sem.run_pure,Result.andThen_ok,List.map_toArray,List.map_cons,List.map_nil,hs,hx,hrun];exact h v' w' h2 h3 h5
theorem Vn {B g:Nat} (hg:g=w.heap.size) (hB:B<=g):EntsAt B (w.alloc (.cells #[] 91)) (.slice (some ⟨g,0,none⟩) 0 0) []:=by
 subst hg;exact ⟨by simp [YY],.inr ⟨_,0,#[],rfl,hB,heap_alloc_new w _,Z2 _,ZA _,by simp,by simp [YY]⟩⟩
theorem Rm {f z:Int} {g c:Nat} (hg:g=w.heap.size) (hc:1<=c) (hc2:c<=4000):IsPaces (w.alloc (.cells #[.int .i64 f,.int .i64 z] 91)) (.slice (some ⟨g,0,none⟩) 1 c) [(f,z)]:=by
 subst hg;refine ⟨_,c,rfl,hc,by omega,.inr ⟨_,0,rfl,by simp,fun k hk=> ?_⟩⟩;obtain rfl:k=0:=by simpa using hk
 simp [Z7]
theorem Lw  {ps:List Z4} (h:IsPaces w v ps) (hl:ps.length<=1000) :
  Calls Tryz.prog 247 #[v] w fun e w'=> ∃ v',e= .returned v'/\EntsAt w.heap.size w' v' ps/\Below w.heap.size w w':=by
 have Hv:=Z9 h;obtain ⟨a,cap,rfl,hc,hm,hr⟩:=h;clear hr;go_enter Tryz.func247,Tryz.ntmps247;go_wp2_with (at_builtin;refine V2 rfl (.tmp 3) (.tmp 4) 52 Tryz.underlying52 rfl w.heap.size _ _ [] ps rfl rfl (Vn rfl (Z2 _)) ((uh Hv).below ((ba _ _))) (by simp;omega) (by simp) ?_;intro v' w1 hown hgrow hat)
 go_ret;refine ⟨v',rfl,by simpa using hown,((ba _ _)).trans ((Z1 _ _).grown hgrow (by simp) (fun k e=> ?_))⟩;cases e;exact Z2 _
theorem Sz  {ps:List Z4} (h:IsPaces w v ps) (hl:ps.length<=1000) :
  Calls Tryz.prog 204 #[v] w fun e w'=> ∃ v',e= .returned v'/\EntsAt w.heap.size w' v' ps/\Below w.heap.size w w':=by
 have Hv:=Z9 h;obtain ⟨a,cap,rfl,hc,hm,hr⟩:=h;clear hr;go_enter Tryz.func204,Tryz.ntmps204;go_wp2_with (at_builtin;refine V2 rfl (.tmp 3) (.tmp 4) 52 Tryz.underlying52 rfl w.heap.size _ _ [] ps rfl rfl (Vn rfl (Z2 _)) ((uh Hv).below ((ba _ _))) (by simp;omega) (by simp) ?_;intro v' w1 hown hgrow hat)
 go_ret;refine ⟨v',rfl,by simpa using hown,((ba _ _)).trans ((Z1 _ _).grown hgrow (by simp) (fun k e=> ?_))⟩;cases e;exact Z2 _
theorem Ed  {ps:List Z4} (h:IsPaces w v ps) (hl:ps.length<=1000) :
  Calls Tryz.prog 244 #[v] w fun e w'=> ∃ bx v',e= .returned (.pointer (some ⟨bx,0,none⟩))/\w.heap.size<=bx/\HeapIs w.heap.size bx v' w' ps/\Below w.heap.size w w':=by
 have Hv:=Z9 h;obtain ⟨a,cap,rfl,hc,hm,hr⟩:=h;clear hr;go_enter Tryz.func244,Tryz.ntmps244;go_wp2_with fail;refine (Lw (uh Hv) hl).mono ?_;rintro e w1 ⟨v1,rfl,hi1,hb1⟩;obtain ⟨a1,cap1,rfl⟩:=hi1.shape;have H1:=Z9 hi1;have B1:=Z9 hb1;have hz1:=hb1.size;clear hi1 hb1;go_wp2_with fail;go_ret;refine ⟨w1.heap.size,.slice a1 ps.length cap1,rfl,hz1,⟨by simp,by simp,by simp,(uh H1).later ((ba _ _)),fun e=> ?_⟩,(uh B1).alloc hz1 _⟩;have:=(uh H1).lt e;omega
theorem A0 (a:Option Addr) (n cap k:Nat) (hk:k<=cap) (W:World):(Instr.slice 52 (.slice a n cap) none (some (.int .i64 k)) none).run Tryz.prog W= .ok (.slice a k cap) W:=by
 obtain ⟨i0,hi,hz0,hz1,hz2⟩:=info_parts Vq;have hs:∀ W,(sizeOf 91).run Tryz.prog W= .ok 2 W:=fun W=>by simp [sizeOf,typeInfo,hi,hz1]
 have hb:∀ W,(Instr.sliceBounds true n cap none (some (.int .i64 k)) none).run Tryz.prog W= .ok (0,k,cap) W:=fun W=>by
  simp [Instr.sliceBounds,Instr.sliceBound,asIntOf];intro h;omega
 simp only [Instr.slice,Sem.run_bind,run_underlying Tryz.underlying52,Result.andThen,hb,hs,Sem.run_pure];simp;cases a<;>simp [Addr.add]
def C5 (a:Option Addr) (n cap k:Nat):Value:= .slice (if cap=k then a else a.map (·.add (k*2))) (n-k) (cap-k)
theorem EZ (a:Option Addr) (n cap k:Nat) (hk:k<=n) (W:World):(Instr.slice 52 (.slice a n cap) (some (.int .i64 k)) none none).run Tryz.prog W= .ok (C5 a n cap k) W:=by
 obtain ⟨i0,hi,hz0,hz1,hz2⟩:=info_parts Vq;have hs:∀ W,(sizeOf 91).run Tryz.prog W= .ok 2 W:=fun W=>by simp [sizeOf,typeInfo,hi,hz1]
 have hb:∀ W,(Instr.sliceBounds true n cap (some (.int .i64 k)) none none).run Tryz.prog W= .ok (k,n,cap) W:=fun W=>by
  simp [Instr.sliceBounds,Instr.sliceBound,asIntOf];intro h;omega
 simp only [Instr.slice,Sem.run_bind,run_underlying Tryz.underlying52,Result.andThen,hb,hs,Sem.run_pure];rfl
theorem GV (ps:List Z4) (n k:Nat):Z7 (ps.drop n) k=Z7 ps (n+k):=by unfold Z7;simp [List.getD]
theorem IsPaces.from {a:Option Addr} {n cap:Nat} {ps:List Z4} (h:IsPaces w (.slice a n cap) ps) {k:Nat} (hk:k<=ps.length):IsPaces w (C5 a n cap k) (ps.drop k):=by
 obtain ⟨a',cap',he,hc,hm,hr⟩:=h;cases he;refine ⟨_,cap-k,by unfold C5;rw [List.length_drop],by rw [List.length_drop];omega,by omega,?_⟩
 rcases hr with hr | ⟨b,off,rfl,hlt,hcl⟩
 ·exact .inl (by rw [hr];simp)
 ·by_cases hz:ps.length=k
  ·exact .inl (by rw [List.drop_eq_nil_iff];omega)
  ·rw [if_neg (by omega)]
   refine .inr ⟨b,off+k*2,by simp [IM],hlt,fun j hj=> ?_⟩;rw [List.length_drop] at hj;rw [GV];have:=hcl (k+j) (by omega);rw [show off+(k+j)*2=off+k*2+j*2 by omega] at this;exact this
theorem F6 (a:Option Addr) (n cap k:Nat):∃ a',C5 a n cap k= .slice a' (n-k) (cap-k):=⟨_,rfl⟩
theorem BY  {ps:List Z4} (f z:Int) (h:IsPaces w v ps) (hl:ps.length<=900) :
  Calls Tryz.prog 146 #[v,.agg #[.int .i64 f,.int .i64 z]] w fun e w'=> ∃ v',e= .returned v'/\EntsAt w.heap.size w' v' (Vb ps (f,z))/\Below w.heap.size w w':=by
 have Hv:=Z9 h;obtain ⟨a,cap,rfl,hc,hm,hr⟩:=h;have Hr:=Z9 hr;clear hr;go_enter Tryz.func146,Tryz.ntmps146;go_wp2_with fail;generalize hW:w.alloc (.cells #[.int .i64 f,.int .i64 z] 91)=W0;have hs0:W0.heap.size=w.heap.size+1:=by rw [<-hW];simp
 have d0:W0.cell? ⟨w.heap.size,0,none⟩=some (.int .i64 f):=by rw [<-hW];simp
 have d1:W0.cell? ⟨w.heap.size,1,none⟩=some (.int .i64 z):=by rw [<-hW];simp
 have HB0:Hid (Below w.heap.size w W0):=Z9 (by rw [<-hW];exact (ba _ _));have D0:=Z9 d0;have D1:=Z9 d1;clear hW d0 d1
 go_loopw [5] (fun i wr=> ∃ k:Nat,k<=ps.length/\i= .int .i64 k/\(∀ j,j<k->ltB (Z7 ps j) (f,z)=true)/\Below W0.heap.size W0 wr) (fun i _=>ps.length-(intOf i).toNat)
 case atStart=>exact ⟨0,ZA _,rfl,fun j hj=>by omega,Z1 _ _⟩
 case round=>
  obtain ⟨k,hk,rfl,hst,hb⟩:=hrel;have Hst:=Z9 hst;have Hb:=Z9 hb;have hszr:=hb.size;have hlt0:w.heap.size<W0.heap.size:=by omega
  have g0:=(hb.cell (p:=⟨w.heap.size,0,none⟩) hlt0).trans (uh D0);have g1:=(hb.cell (p:=⟨w.heap.size,1,none⟩) hlt0).trans (uh D1);have k0:=ZW g0;have k1:=ZW g1;clear hst;by_cases hgo:k<ps.length/\ltB (Z7 ps k) (f,z)=true
  ·obtain ⟨hlt,hab⟩:=hgo
   rcases uh Hr with h0 | ⟨b,off,rfl,hbw,hcl⟩
   ·rw [h0] at hlt;simp at hlt
   obtain ⟨c0,c1⟩:=hcl k hlt;have hbB:=(uh HB0).trans (hb.mono (by omega));rw [<-hbB.cell (p:=⟨b,off+k*2,none⟩) hbw] at c0;rw [<-hbB.cell (p:=⟨b,off+k*2+1,none⟩) hbw] at c1;generalize hp:Z7 ps k=p at *;obtain ⟨f',z'⟩:=p;simp only at c0 c1;have Hp:=Z9 hp;have m0:=ZW c0;have m1:=ZW c1;have hd:decide (k<ps.length)=true:=Vx hlt;clear hp hcl hb hbB g0 g1 c0 c1;go_wp2_with fail;refine wq ?_
   repeat (go_big_quiet_step (exact ZY (SU _ _ _ _ _)))
   refine wpQuiet_nil ?_;intro _ hw';obtain ⟨⟨dq,osq⟩,hw''⟩:=hw';subst hw'';go_wp2_with fail;go_roundw
   case rel=>exact ⟨k+1,by omega,by go_num,Yh (uh Hst) (by rw [uh Hp];exact hab),(uh Hb).trans ((Z0 _ _ _).mono (uh Hb).size)⟩
   case measure=>exact ms
  ·have HK:Hid (XJ (f,z) ps=k):=Z9 (Ao hk (uh Hst) (by
    by_cases e:k=ps.length
    ·exact .inl e
    ·right
     cases hq:ltB (Z7 ps k) (f,z)
     ·rfl
     ·exact absurd ⟨by omega,hq⟩ hgo))
   have HQ:Hid (ps.take k++[(f,z)]++ps.drop k=Vb ps (f,z)):=Z9 (by unfold Vb;rw [uh HK];simp);have hto:=A0 a ps.length cap k (by omega);have hfr:=EZ a ps.length cap k hk;obtain ⟨ra,hra⟩:=F6 a ps.length cap k;rw [hra] at hfr;have Hfrom:Hid (IsPaces w (.slice ra (ps.length-k) (cap-k)) (ps.drop k)):=Z9 (by rw [<-hra];exact (uh Hv).from hk);have Hcut:Hid (IsPaces w (.slice a k cap) (ps.take k)):=Z9 ((uh Hv).cut hk);clear hra;by_cases hlt:k<ps.length
   ·have hab:ltB (Z7 ps k) (f,z)=false:=by
     cases hq:ltB (Z7 ps k) (f,z)
     ·rfl
     ·exact absurd ⟨hlt,hq⟩ hgo
    rcases uh Hr with h0 | ⟨b,off,rfl,hbw,hcl⟩
    ·rw [h0] at hlt;simp at hlt
    obtain ⟨c0,c1⟩:=hcl k hlt;have hbB:=(uh HB0).trans (hb.mono (by omega));rw [<-hbB.cell (p:=⟨b,off+k*2,none⟩) hbw] at c0;rw [<-hbB.cell (p:=⟨b,off+k*2+1,none⟩) hbw] at c1;generalize hp:Z7 ps k=p at *;obtain ⟨f',z'⟩:=p;simp only at c0 c1;have m0:=ZW c0;have m1:=ZW c1;have hd:decide (k<ps.length)=true:=Vx hlt;clear hp hcl hb hbB g0 g1 c0 c1 hgo;go_wp2_with fail;refine wq ?_
    repeat (go_big_quiet_step (exact ZY (SU _ _ _ _ _)))
    refine wpQuiet_nil ?_;intro w1 hw';have Hb1:Hid (Below W0.heap.size W0 w1):=Z9 (by obtain ⟨q,rfl⟩:=hw';exact (uh Hb).trans ((Z0 _ _ _).mono (uh Hb).size));clear k0 k1 m0 m1;go_wp2_with fail;have B1:Hid (Below w.heap.size w w1):=Z9 ((uh HB0).trans ((uh Hb1).mono (by omega)));refine (Sz ((uh Hfrom).below (uh B1)) (by simp;omega)).mono ?_;rintro e w2 ⟨v2,rfl,hi2,hb2⟩;obtain ⟨a2,cap2,hv2⟩:=hi2.shape;rw [List.length_drop] at hv2;subst hv2;have hz1:=(uh Hb1).size;have hz2:=hb2.size;have Hb2:Hid (Below W0.heap.size W0 w2):=Z9 ((uh Hb1).trans (hb2.mono hz1));have e0:=((uh Hb2).cell (p:=⟨w.heap.size,0,none⟩) hlt0).trans (uh D0);have e1:=((uh Hb2).cell (p:=⟨w.heap.size,1,none⟩) hlt0).trans (uh D1);have B2:Hid (Below w.heap.size w w2):=Z9 ((uh HB0).trans ((uh Hb2).mono (by omega)));have Hi2:=Z9 hi2;have HC:=Z9 ((uh Hcut).below (uh B2));clear hi2 hb2;have hlt2:w.heap.size<w2.heap.size:=by omega
    have hkl:(ps.take k).length=k:=by simp;omega
    go_wp2_with fail
    go_region_law (first
     | (refine XP rfl (.tmp 28) (.tmp 30) 52 Tryz.underlying52 rfl w2.heap.size _ _ (ps.take k) [(f,z)] rfl rfl (E3.later ((ba _ _))) (Rm rfl (Z2 _) (by omega)) (by simp;omega) (by simp;omega) ?_;intro v4 w4 hown4 hg4 hat4;have X4:Below w2.heap.size w2 w4:=(X3.alloc X3.size _).trans ((Z1 _ _).grown hg4 (by simp;omega) (fun i e=>(E3.lt e).1)))
     | (refine XP rfl (.tmp 28) (.tmp 30) 52 Tryz.underlying52 rfl w2.heap.size _ _ (ps.take k) [(f,z)] rfl rfl E3 ((Rm (w:=w2) rfl (Z2 _) (by omega)).below (((Z1 _ _).drew).trans hb3)) (by simp;omega) (by omega) ?_;intro v4 w4 hown4 hg4 hat4;have X4:Below w2.heap.size w2 w4:=X3.trans ((Z1 _ _).grown hg4 (by omega) (fun i e=>(E3.lt e).1)))
     | (refine XP rfl (.tmp 31) (.tmp 32) 52 Tryz.underlying52 rfl w2.heap.size _ _ (ps.take k++[(f,z)]) (ps.drop k) rfl rfl hown4 ((uh Hi2).pc.below X4) (by simp;omega) (by have:=X4.size;omega) ?_;intro v5 w5 hown5 hg5 hat5)
     | (go_simp;go_at_call 204;refine (Sz (ps:=ps.take k) ?_ (by simp;omega)).mono ?_;(exact (uh HC).below (by first | exact (Z1 _ _).drew | exact ((ba _ _)).drew));rintro e w3 ⟨v3,rfl,hi3,hb3⟩;obtain ⟨a3,cap3,hv3⟩:=hi3.shape;rw [hkl] at hv3;subst hv3;have E3:=hi3.mono (n₁:=w2.heap.size) (by simp);have X3:Below w2.heap.size w2 w3:=(by first | exact ((Z1 _ _).drew).trans (hb3.mono (by simp)) | exact (((ba _ _)).drew).trans (hb3.mono (by simp)));have hz3:=X3.size;have q0:=(X3.cell (p:=⟨w.heap.size,0,none⟩) hlt2).trans e0;have q1:=(X3.cell (p:=⟨w.heap.size,1,none⟩) hlt2).trans e1))
    all_goals
     have X5:Below w2.heap.size w2 w5:=X4.trans ((Z1 _ _).grown hg5 X4.size (fun i e=>(hown4.lt e).1));rw [uh HQ] at hown5;have HX5:=Z9 X5;have HO5:=Z9 hown5;clear hown5 hg5 hat5 X4 X5 hown4 hg4 hat4 X3 E3 hi3 hb3 q0 q1;go_wp2_with fail;go_ret;exact ⟨_,rfl,(uh HO5).mono (uh B2).size,(uh B2).trans ((uh HX5).mono (uh B2).size)⟩
   ·have hd:decide (k<ps.length)=false:=Xr hlt
    clear hb g0 g1 hgo;go_wp2_with fail;refine wq ?_
    repeat (go_big_quiet_step (exact ZY (SU _ _ _ _ _)))
    refine wpQuiet_nil ?_;intro w1 hw';have Hb1:Hid (Below W0.heap.size W0 w1):=Z9 (by obtain ⟨q,rfl⟩:=hw';exact (uh Hb).trans ((Z0 _ _ _).mono (uh Hb).size));clear k0 k1;go_wp2_with fail;have B1:Hid (Below w.heap.size w w1):=Z9 ((uh HB0).trans ((uh Hb1).mono (by omega)));refine (Sz ((uh Hfrom).below (uh B1)) (by simp;omega)).mono ?_;rintro e w2 ⟨v2,rfl,hi2,hb2⟩;obtain ⟨a2,cap2,hv2⟩:=hi2.shape;rw [List.length_drop] at hv2;subst hv2;have hz1:=(uh Hb1).size;have hz2:=hb2.size;have Hb2:Hid (Below W0.heap.size W0 w2):=Z9 ((uh Hb1).trans (hb2.mono hz1));have e0:=((uh Hb2).cell (p:=⟨w.heap.size,0,none⟩) hlt0).trans (uh D0);have e1:=((uh Hb2).cell (p:=⟨w.heap.size,1,none⟩) hlt0).trans (uh D1);have B2:Hid (Below w.heap.size w w2):=Z9 ((uh HB0).trans ((uh Hb2).mono (by omega)));have Hi2:=Z9 hi2;have HC:=Z9 ((uh Hcut).below (uh B2));clear hi2 hb2;have hlt2:w.heap.size<w2.heap.size:=by omega
    have hkl:(ps.take k).length=k:=by simp;omega
    go_wp2_with fail
    go_region_law (first
     | (refine XP rfl (.tmp 28) (.tmp 30) 52 Tryz.underlying52 rfl w2.heap.size _ _ (ps.take k) [(f,z)] rfl rfl (E3.later ((ba _ _))) (Rm rfl (Z2 _) (by omega)) (by simp;omega) (by simp;omega) ?_;intro v4 w4 hown4 hg4 hat4;have X4:Below w2.heap.size w2 w4:=(X3.alloc X3.size _).trans ((Z1 _ _).grown hg4 (by simp;omega) (fun i e=>(E3.lt e).1)))
     | (refine XP rfl (.tmp 28) (.tmp 30) 52 Tryz.underlying52 rfl w2.heap.size _ _ (ps.take k) [(f,z)] rfl rfl E3 ((Rm (w:=w2) rfl (Z2 _) (by omega)).below (((Z1 _ _).drew).trans hb3)) (by simp;omega) (by omega) ?_;intro v4 w4 hown4 hg4 hat4;have X4:Below w2.heap.size w2 w4:=X3.trans ((Z1 _ _).grown hg4 (by omega) (fun i e=>(E3.lt e).1)))
     | (refine XP rfl (.tmp 31) (.tmp 32) 52 Tryz.underlying52 rfl w2.heap.size _ _ (ps.take k++[(f,z)]) (ps.drop k) rfl rfl hown4 ((uh Hi2).pc.below X4) (by simp;omega) (by have:=X4.size;omega) ?_;intro v5 w5 hown5 hg5 hat5)
     | (go_simp;go_at_call 204;refine (Sz (ps:=ps.take k) ?_ (by simp;omega)).mono ?_;(exact (uh HC).below (by first | exact (Z1 _ _).drew | exact ((ba _ _)).drew));rintro e w3 ⟨v3,rfl,hi3,hb3⟩;obtain ⟨a3,cap3,hv3⟩:=hi3.shape;rw [hkl] at hv3;subst hv3;have E3:=hi3.mono (n₁:=w2.heap.size) (by simp);have X3:Below w2.heap.size w2 w3:=(by first | exact ((Z1 _ _).drew).trans (hb3.mono (by simp)) | exact (((ba _ _)).drew).trans (hb3.mono (by simp)));have hz3:=X3.size;have q0:=(X3.cell (p:=⟨w.heap.size,0,none⟩) hlt2).trans e0;have q1:=(X3.cell (p:=⟨w.heap.size,1,none⟩) hlt2).trans e1))
    all_goals
     have X5:Below w2.heap.size w2 w5:=X4.trans ((Z1 _ _).grown hg5 X4.size (fun i e=>(hown4.lt e).1));rw [uh HQ] at hown5;have HX5:=Z9 X5;have HO5:=Z9 hown5;clear hown5 hg5 hat5 X4 X5 hown4 hg4 hat4 X3 E3 hi3 hb3 q0 q1;go_wp2_with fail;go_ret;exact ⟨_,rfl,(uh HO5).mono (uh B2).size,(uh B2).trans ((uh HX5).mono (uh B2).size)⟩
theorem QU  (b:Int) (h:Smy w v0 v1 v2 v3 v4 m) (hl:m.sm.length<=800) :
  Calls Tryz.prog 86 #[.agg #[v0,v1,v2,v3,v4,.int .i64 m.now],.int .i64 b] w fun e w'=> ∃ v',e= .returned v'/\EntsAt w.heap.size w' v' (atV m.sm b m.sm.length)/\Below w.heap.size w w':=by
 obtain ⟨h0,h1,h2,h3,h4⟩:=h;obtain ⟨a0,p0,rfl,hc0,hm0,_⟩:=h0;obtain ⟨a1,p1,rfl,hc1,hm1,_⟩:=h1;obtain ⟨a2,p2,rfl,hc2,hm2,r2⟩:=h2;obtain ⟨a3,p3,rfl,hc3,hm3,_⟩:=h3;obtain ⟨a4,p4,rfl,hc4,hm4,_⟩:=h4;have R2:=Z9 r2;clear r2;have kb0:Hid (Blk ((w.alloc (.cells (S6 a0 p0 a1 p1 a2 p2 a3 p3 a4 p4 m) 32)).alloc (.cells #[] 91)) w.heap.size 32 (S6 a0 p0 a1 p1 a2 p2 a3 p3 a4 p4 m)):=Z9 ((Blk.new w _ _).alloc _);have BB0:Hid (Below w.heap.size w ((w.alloc (.cells (S6 a0 p0 a1 p1 a2 p2 a3 p3 a4 p4 m) 32)).alloc (.cells #[] 91))):=Z9 (((ba _ _)).alloc (by simp) _);have E0:Hid (EntsAt w.heap.size ((w.alloc (.cells (S6 a0 p0 a1 p1 a2 p2 a3 p3 a4 p4 m) 32)).alloc (.cells #[] 91)) (.slice (some ⟨w.heap.size+1,0,none⟩) 0 0) []):=Z9 (Vn (by simp) (by omega));go_enter Tryz.func86,Tryz.ntmps86;go_wp2_with fail
 go_loopw [5,6] (fun q i wr=> ∃ k:Nat,k<=m.sm.length/\i= .int .i64 k/\EntsAt w.heap.size wr q (atV m.sm b k)/\Blk wr w.heap.size 32 (S6 a0 p0 a1 p1 a2 p2 a3 p3 a4 p4 m)/\Below w.heap.size w wr) (fun _ i _=>m.sm.length-(intOf i).toNat)
 case atStart=>exact ⟨0,ZA _,rfl,uh E0,uh kb0,uh BB0⟩
 case round=>
  obtain ⟨k,hk,rfl,he,kb1,hb1⟩:=hrel;obtain ⟨qa,qcap,rfl⟩:=EntsAt.shape he;have kb:=Z9 kb1;have BB:=Z9 hb1;have He:=Z9 he;clear kb1 hb1 he kb0 BB0 E0;have hal:=Si m.sm b k;have c2:=(uh kb).cell (i:=2) (v:= .slice a2 m.sm.length p2) rfl;by_cases hls:k<m.sm.length
  ·rcases uh R2 with e0 | ⟨sb,off,rfl,hbw,hcl⟩
   ·rw [e0] at hls;simp at hls
   obtain ⟨d0,d1,d2,d3,d4,d5,d6,d7,d8,d9,d10⟩:=Zw hcl hls;rw [<-(uh BB).cell (p:=⟨sb,off+k*11,none⟩) hbw] at d0;rw [<-(uh BB).cell (p:=⟨sb,off+k*11+1,none⟩) hbw] at d1;rw [<-(uh BB).cell (p:=⟨sb,off+k*11+2,none⟩) hbw] at d2;rw [<-(uh BB).cell (p:=⟨sb,off+k*11+3,none⟩) hbw] at d3;rw [<-(uh BB).cell (p:=⟨sb,off+k*11+4,none⟩) hbw] at d4;rw [<-(uh BB).cell (p:=⟨sb,off+k*11+5,none⟩) hbw] at d5;rw [<-(uh BB).cell (p:=⟨sb,off+k*11+6,none⟩) hbw] at d6;rw [<-(uh BB).cell (p:=⟨sb,off+k*11+7,none⟩) hbw] at d7;rw [<-(uh BB).cell (p:=⟨sb,off+k*11+8,none⟩) hbw] at d8;rw [<-(uh BB).cell (p:=⟨sb,off+k*11+9,none⟩) hbw] at d9;rw [<-(uh BB).cell (p:=⟨sb,off+k*11+10,none⟩) hbw] at d10;clear hcl;have S1:=Z9 (fun hs=>TA (ss:=m.sm) (b:=b) (k:=k) hs);have S2:=Z9 (fun h1 h2=>UH (ss:=m.sm) (b:=b) (k:=k) h1 h2);generalize Z8 m.sm k=ss at *;obtain ⟨st,be,rk,my,gu,lo,hi,hd,ca,ut,wk⟩:=ss;simp only at d0 d1 d2 d3 d4 d5 d6 d7 d8 d9 d10;have hl0:w.heap.size<wr.heap.size:=(uh kb).lt;by_cases hbe:be=b;rotate_left
   ·have hbn:(be ==b)=false:=by simpa using hbe
    go_wp2_with fail;go_roundw
    case rel=>exact ⟨k+1,by omega,by go_num,by rw [uh S1 (fun h9=>hbe h9.1)];exact EntsAt.later (uh He) ((ba _ _)),(uh kb).alloc _,(uh BB).alloc (uh BB).size _⟩
    case measure=>exact ms
   subst hbe;have hbn:(be ==be)=true:=by simp
   obtain ⟨ps,hps⟩:∃ q,ZL (st,be,rk,my,gu,lo,hi,hd,ca,ut,wk)=q:=⟨_,rfl⟩
   have Hps:=Z9 hps;clear hps;go_wp2_with fail;clear c2 d0 d1 d2 d3 d4 d5 d6 d7 d8 d9 d10;refine ck (Yu (uh Hps) _) fun w2 hb=> ?_;have ks:Hid (Blk w2 wr.heap.size 40 (I11 st be rk my gu lo hi hd ca ut wk)):=Z9 ((Blk.new wr _ _).below hb (by simp));replace kb:=Z9 (((uh kb).alloc (.cells (I11 st be rk my gu lo hi hd ca ut wk) 40)).below hb (by simp;omega));have hba:=((Z1 wr.heap.size wr).alloc (Z2 _) (.cells (I11 st be rk my gu lo hi hd ca ut wk) 40)).trans (hb.mono (by simp));replace He:=Z9 (EntsAt.later (uh He) hba);replace BB:=bt BB hba;clear hb hl0 hba;have d7:=(uh ks).cell (i:=7) (v:= .int .i64 hd) rfl;cases ps
   ·go_wp2_with fail
    go_roundw
    case rel=>exact ⟨k+1,by omega,by go_num,by rw [uh S1 (fun h9=>by have h8:=h9.2;rw [uh Hps] at h8;cases h8)];exact uh He,uh kb,uh BB⟩
    case measure=>exact ms
   go_wp2_with fail;refine (BY hd (k:Int) (EntsAt.pc (uh He)) (by omega)).mono ?_;rintro e w3 ⟨v3,rfl,he3,hb⟩;have hsz:=(uh BB).size;have he4:=EntsAt.mono he3 hsz;replace kb:=bl kb hb;replace BB:=Z9 ((uh BB).trans (hb.mono hsz));obtain ⟨qa3,qcap3,rfl⟩:=EntsAt.shape he4;have He4:=Z9 he4;clear hb he3 he4 d7;go_wp2_with fail;go_roundw
   case rel=>exact ⟨k+1,by omega,by go_num,by rw [uh S2 (by first | rfl | trivial) (uh Hps)];exact uh He4,uh kb,uh BB⟩
   case measure=>exact ms
  ·obtain rfl:k=m.sm.length:=by omega
   go_wp2_with fail;go_ret;exact ⟨_,rfl,uh He,uh BB⟩
end Go.Proofs.YtamgfpdahadnfaaGreatDoor
