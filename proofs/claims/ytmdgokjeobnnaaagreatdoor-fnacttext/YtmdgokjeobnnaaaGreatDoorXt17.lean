/- Part 17 of what the proof rests on. No condition but those that a theorem names. -/
import Derived.Test.YtmdgokjeobnnaaaGreatDoorXt08
import Derived.Test.YtmdgokjeobnnaaaGreatDoorXt12
import Derived.Test.YtmdgokjeobnnaaaGreatDoorXt13
set_option maxHeartbeats 8000000
set_option maxRecDepth 100000
namespace Go.Proofs.YtmdgokjeobnnaaaGreatDoor
open Go.ChangeShapes Go.WideShapes Go.ChangeAt Go.RowKit Go.Sort Go.Proofs.Tryz
set_option linter.unusedVariables false
variable {w w' w0 w1 w2 w3 w₀ wr W W' X A B C : World} {v v0 v1 v2 v3 v4 u u0 u1 u2 u3 u4 : Value} {m : Z7}
theorem PB {ss : List Z6} {b : Int} {k : Nat} (h : Yk ss b k = none) : ∀ n, k ≤ n → Yk ss b n = none
  | 0, hn => by obtain rfl : k = 0 := by omega
                exact h
  | n + 1, hn => by
    by_cases e : k = n + 1
    · rw [← e]; exact h
    · have := PB h n (by omega)
      unfold Yk; rw [this]
theorem Kn {ss:List Z6} {b wk:Int} {wt:Bool} {k:Nat} (h:Yk ss b k=some (wk,wt)) (hs:¬ ((Z8 ss k).2.1=b/\ZP (Z8 ss k)=true)):Yk ss b (k+1)=some (wk,wt):=by
  unfold Yk;rw [h];simp only [if_neg hs]
theorem Kp {ss:List Z6} {b wk:Int} {wt:Bool} {k:Nat} (h:Yk ss b k=some (wk,wt)) (h1:(Z8 ss k).2.1=b) (h2:ZP (Z8 ss k)=true) (h3:(Z8 ss k).1=2):Yk ss b (k+1)=some (wk,true):=by
  unfold Yk;rw [h];simp only [if_pos (And.intro h1 h2),if_pos h3]
theorem Ja {ss:List Z6} {b wk:Int} {wt:Bool} {k:Nat} (h:Yk ss b k=some (wk,wt)) (h1:(Z8 ss k).2.1=b) (h2:ZP (Z8 ss k)=true) (h3:¬ (Z8 ss k).1=2) (h4:0<=wk):Yk ss b (k+1)=none:=by
  unfold Yk;rw [h];simp only [if_pos (And.intro h1 h2),if_neg h3,if_pos h4]
theorem Kq {ss:List Z6} {b wk:Int} {wt:Bool} {k:Nat} (h:Yk ss b k=some (wk,wt)) (h1:(Z8 ss k).2.1=b) (h2:ZP (Z8 ss k)=true) (h3:¬ (Z8 ss k).1=2) (h4:¬ 0<=wk):Yk ss b (k+1)=some ((k:Int),wt):=by
  unfold Yk;rw [h];simp only [if_pos (And.intro h1 h2),if_neg h3,if_neg h4]
theorem Mo (h:Yw m=false):ZJ m=false:=by unfold ZJ;rw [h];rfl
theorem QW {k:Nat} (hk:k<m.dk.length) (h:Yu m k=false):ZJ m=false:=by unfold ZJ;rw [Ov hk h];simp
theorem Jh (h:Yw m=true) (h2:(List.range m.dk.length).all (Yu m)=true):ZJ m=true:=by unfold ZJ;rw [h,h2];rfl
theorem PK {k:Nat} (h:Yk m.sm k m.sm.length=none):Yu m k=false:=by unfold Yu;rw [h]
theorem PL {k:Nat} {wk:Int} {wt:Bool} (h:Yk m.sm k m.sm.length=some (wk,wt)):Yu m k=((Z8 m.dk k).2.1 ==wk && !(wt && decide (wk<0))):=by unfold Yu;rw [h]
theorem LJ  {q : Bool} (hq : Yw m = q) (h : Smy w v0 v1 v2 v3 v4 m) :
    cB 42 #[.agg #[v0, v1, v2, v3, v4, .int .i64 m.now]] w (.bool q) := by
  have := UL h; rw [hq] at this; exact this
theorem Ve  (h : Smy w v0 v1 v2 v3 v4 m) :
    cB 30 #[.agg #[v0, v1, v2, v3, v4, .int .i64 m.now]] w (.bool (ZJ m)) := by
  have Hv := Z9 (h.alloc (.cells #[v0, v1, v2, v3, v4, .int .i64 m.now] 40));obtain ⟨h0, h1, h2, h3, h4⟩ := h;obtain ⟨a0, p0, rfl, hc0, hm0, _⟩ := h0;obtain ⟨a1, p1, rfl, hc1, hm1, _⟩ := h1;obtain ⟨a2, p2, rfl, hc2, hm2, r2⟩ := h2;obtain ⟨a3, p3, rfl, hc3, hm3, r3⟩ := h3;obtain ⟨a4, p4, rfl, hc4, hm4, _⟩ := h4;have R2 := Z9 r2;have R3 := Z9 r3;clear r2 r3;obtain ⟨ql, QL⟩ := WG (Yw m);go_enter func30, ntmps30;go_wp2_with fail;refine ck (LJ (uh QL) (uh Hv)) fun w1 hb => ?_;have kb : Hid (Blk w1 w.heap.size 40 (S6 a0 p0 a1 p1 a2 p2 a3 p3 a4 p4 m)) := Z9 ((Blk.new w _ _).below hb (by simp));have BB : Hid (Below w.heap.size w w1) := Z9 (((ba _ _)).trans (hb.mono (by simp)));clear hb Hv;have c3 := (uh kb).cell (i := 3) (v := .slice a3 m.dk.length p3) rfl;cases ql
  · go_wp2_with fail
    go_ret;exact ⟨ZU (Mo (uh QL)).symm, uh BB⟩
  go_wp2_with fail;clear c3
  go_loopw [3] (fun b wr => ∃ k : Nat, k ≤ m.dk.length ∧ b = .int .i64 k ∧ (List.range k).all (Yu m) = true ∧ Blk wr w.heap.size 40 (S6 a0 p0 a1 p1 a2 p2 a3 p3 a4 p4 m) ∧ Below w.heap.size w wr) (fun b _ => m.dk.length - (intOf b).toNat)
  case atStart => exact ⟨0, Zi _, rfl, rfl, uh kb, uh BB⟩
  case round =>
    obtain ⟨j, hj, rfl, hup, kb1, hb1⟩ := hrel;clear kb BB;have kb := Z9 kb1;have BB := Z9 hb1;have Hup := Z9 hup;clear kb1 hb1 hup;have c3 := (uh kb).cell (i := 3) (v := .slice a3 m.dk.length p3) rfl;by_cases hlt : j < m.dk.length
    · have c2 := (uh kb).cell (i := 2) (v := .slice a2 m.sm.length p2) rfl
      go_wp2_with fail;clear c2 c3;obtain ⟨wo, rfl⟩ : ∃ wo, wo = wr := ⟨wr, rfl⟩
      go_loopw [4, 5, 6] (fun x y i wr => ∃ (k : Nat) (wk : Int) (wt : Bool), k ≤ m.sm.length ∧ x = .int .i64 wk ∧ y = .bool wt ∧ i = .int .i64 k ∧ -1 ≤ wk ∧ wk ≤ (k : Int) ∧ Yk m.sm j k = some (wk, wt) ∧ Blk wr w.heap.size 40 (S6 a0 p0 a1 p1 a2 p2 a3 p3 a4 p4 m) ∧ Below w.heap.size w wr) (fun _ _ i _ => m.sm.length - (intOf i).toNat)
      case atStart => exact ⟨0, -1, false, Zi _, rfl, rfl, rfl, by omega, by omega, rfl, uh kb, uh BB⟩
      case round =>
        obtain ⟨k, wkk, wt, hk, rfl, rfl, rfl, wk0, wk1, hsc, kb1, hb1⟩ := hrel;clear kb BB;have kb := Z9 kb1;have BB := Z9 hb1;have Hsc := Z9 hsc;clear kb1 hb1 hsc;have c2 := (uh kb).cell (i := 2) (v := .slice a2 m.sm.length p2) rfl;by_cases hls : k < m.sm.length
        · rcases uh R2 with e0 | ⟨b, off, rfl, hbw, hcl⟩
          · rw [e0] at hls; simp at hls
          obtain ⟨d0, d1, d2, d3, d4, d5, d6, d7, d8, d9, d10⟩ := YM hcl hls;rw [← (uh BB).cell (p := ⟨b, off + k * 11, none⟩) hbw] at d0;rw [← (uh BB).cell (p := ⟨b, off + k * 11 + 1, none⟩) hbw] at d1;rw [← (uh BB).cell (p := ⟨b, off + k * 11 + 2, none⟩) hbw] at d2;rw [← (uh BB).cell (p := ⟨b, off + k * 11 + 3, none⟩) hbw] at d3;rw [← (uh BB).cell (p := ⟨b, off + k * 11 + 4, none⟩) hbw] at d4;rw [← (uh BB).cell (p := ⟨b, off + k * 11 + 5, none⟩) hbw] at d5;rw [← (uh BB).cell (p := ⟨b, off + k * 11 + 6, none⟩) hbw] at d6;rw [← (uh BB).cell (p := ⟨b, off + k * 11 + 7, none⟩) hbw] at d7;rw [← (uh BB).cell (p := ⟨b, off + k * 11 + 8, none⟩) hbw] at d8;rw [← (uh BB).cell (p := ⟨b, off + k * 11 + 9, none⟩) hbw] at d9;rw [← (uh BB).cell (p := ⟨b, off + k * 11 + 10, none⟩) hbw] at d10;clear hcl;have S1 := Z9 (fun hs => Kn (uh Hsc) hs);have S2 := Z9 (fun h1 h2 h3 => Kp (uh Hsc) h1 h2 h3);have S3 := Z9 (fun h1 h2 h3 h4 => Ja (uh Hsc) h1 h2 h3 h4);have S4 := Z9 (fun h1 h2 h3 h4 => Kq (uh Hsc) h1 h2 h3 h4);generalize Z8 m.sm k = ss at *;obtain ⟨st, be, rk, my, gu, lo, hi, hd, ca, ut, wk⟩ := ss;simp only at d0 d1 d2 d3 d4 d5 d6 d7 d8 d9 d10;have hl0 : w.heap.size < wr.heap.size := (uh kb).lt;by_cases hbe : be = (j : Int)
          rotate_left
          · have hbn : (be != (j : Int)) = true := by simpa using hbe
            go_wp2_with fail;go_roundw
            case rel => exact ⟨k + 1, wkk, wt, by omega, rfl, rfl, by go_num, by omega, by omega, uh S1 (fun h9 => hbe h9.1), (uh kb).alloc _, (uh BB).alloc (uh BB).size _⟩
            case measure => exact ms
          subst hbe;have hbn : ((j : Int) != (j : Int)) = false := by simp
          obtain ⟨ps, Hps⟩ := WG (ZP (st, (j : Int), rk, my, gu, lo, hi, hd, ca, ut, wk));go_wp2_with fail;clear c2 d0 d1 d2 d3 d4 d5 d6 d7 d8 d9 d10;refine ck (YQ (uh Hps) _) fun w2 hb => ?_;have ks : Hid (Blk w2 wr.heap.size 79 (I11 st (j : Int) rk my gu lo hi hd ca ut wk)) := Z9 ((Blk.new wr _ _).below hb (by simp));replace kb := Z9 (((uh kb).alloc (.cells (I11 st (j : Int) rk my gu lo hi hd ca ut wk) 79)).below hb (by simp; omega));replace BB := Z9 ((((uh BB).alloc (uh BB).size (.cells (I11 st (j : Int) rk my gu lo hi hd ca ut wk) 79))).trans (hb.mono (by simp; have := (uh BB).size; omega)));clear hb hl0;have d0 := (uh ks).cell (i := 0) (v := .int .i64 st) rfl;cases ps
          · go_wp2_with fail
            go_roundw
            case rel => exact ⟨k + 1, wkk, wt, by omega, rfl, rfl, by go_num, by omega, by omega, uh S1 (fun h9 => by have h8 := h9.2; rw [uh Hps] at h8; cases h8), uh kb, uh BB⟩
            case measure => exact ms
          by_cases hst : st = 2
          · subst hst
            go_wp2_with fail;go_roundw
            case rel => exact ⟨k + 1, wkk, true, by omega, rfl, rfl, by go_num, by omega, by omega, uh S2 (by first | rfl | trivial) (uh Hps) (by first | rfl | trivial), uh kb, uh BB⟩
            case measure => exact ms
          have hsn : (st == 2) = false := by simpa using hst
          by_cases hw0 : 0 ≤ wkk
          · go_wp2_with fail
            go_ret;exact ⟨ZU (QW hlt (PK (PB (uh S3 (by first | rfl | trivial) (uh Hps) hst hw0) _ (by omega)))).symm, uh BB⟩
          go_wp2_with fail;go_roundw
          case rel => exact ⟨k + 1, (k : Int), wt, by omega, rfl, rfl, by go_num, by omega, by omega, uh S4 (by first | rfl | trivial) (uh Hps) hst hw0, uh kb, uh BB⟩
          case measure => exact ms
        · obtain rfl : k = m.sm.length := by omega
          have c3 := (uh kb).cell (i := 3) (v := .slice a3 m.dk.length p3) rfl
          rcases uh R3 with e0 | ⟨b', off', rfl, hbw', hcl'⟩
          · rw [e0] at hlt; simp at hlt
          obtain ⟨_, t1, _⟩ := Yv hcl' hlt;rw [← (uh BB).cell (p := ⟨b', off' + j * 3 + 1, none⟩) hbw'] at t1;clear hcl';have HB := Z9 (PL (uh Hsc));have HL := Z9 (QW (m := m) hlt);have HU := Z9 (show (List.range (j + 1)).all (Yu m) = ((List.range j).all (Yu m) && Yu m j) from Ox j);generalize Z8 m.dk j = dd at *;obtain ⟨op, who, mk⟩ := dd;simp only at t1;by_cases hwho : who = wkk;rotate_left
          · have hwn : (who != wkk) = true := by simpa using hwho
            go_wp2_with fail;go_ret;exact ⟨ZU (uh HL (by rw [uh HB]; simp [hwho])).symm, uh BB⟩
          have hwn : (who != wkk) = false := by simpa using hwho
          have Hwho := Z9 hwho;clear hwho;cases wt
          · go_wp2_with fail
            go_roundw
            case rel => exact ⟨j + 1, by omega, by go_num, by rw [uh HU, uh Hup, uh HB, uh Hwho]; simp, uh kb, uh BB⟩
            case measure => exact ms
          by_cases hw0 : wkk < 0
          · go_wp2_with fail
            go_ret;exact ⟨ZU (uh HL (by rw [uh HB]; simp [hw0])).symm, uh BB⟩
          go_wp2_with fail;go_roundw
          case rel => exact ⟨j + 1, by omega, by go_num, by rw [uh HU, uh Hup, uh HB, uh Hwho]; simp; omega, uh kb, uh BB⟩
          case measure => exact ms
    · obtain rfl : j = m.dk.length := by omega
      go_wp2_with fail;go_ret;exact ⟨ZU (Jh (uh QL) (uh Hup)).symm, uh BB⟩
theorem TO  (b:Int) (h:Smy w v0 v1 v2 v3 v4 m) (hl:m.sm.length<=800) :
  Calls prog 139 #[.agg #[v0,v1,v2,v3,v4,.int .i64 m.now],.int .i64 b] w fun e w'=> ∃ v',e= .returned v'/\EntsAt w.heap.size w' v' (atV m.sm b m.sm.length)/\Below w.heap.size w w':=by
 obtain ⟨h0,h1,h2,h3,h4⟩:=h;obtain ⟨a0,p0,rfl,hc0,hm0,_⟩:=h0;obtain ⟨a1,p1,rfl,hc1,hm1,_⟩:=h1;obtain ⟨a2,p2,rfl,hc2,hm2,r2⟩:=h2;obtain ⟨a3,p3,rfl,hc3,hm3,_⟩:=h3;obtain ⟨a4,p4,rfl,hc4,hm4,_⟩:=h4;have R2:=Z9 r2;clear r2;have kb0:Hid (Blk ((w.alloc (.cells (S6 a0 p0 a1 p1 a2 p2 a3 p3 a4 p4 m) 40)).alloc (.cells #[] 183)) w.heap.size 40 (S6 a0 p0 a1 p1 a2 p2 a3 p3 a4 p4 m)):=Z9 ((Blk.new w _ _).alloc _);have BB0:Hid (Below w.heap.size w ((w.alloc (.cells (S6 a0 p0 a1 p1 a2 p2 a3 p3 a4 p4 m) 40)).alloc (.cells #[] 183))):=Z9 (((ba _ _)).alloc (by simp) _);have E0:Hid (EntsAt w.heap.size ((w.alloc (.cells (S6 a0 p0 a1 p1 a2 p2 a3 p3 a4 p4 m) 40)).alloc (.cells #[] 183)) (.slice (some ⟨w.heap.size+1,0,none⟩) 0 0) []):=Z9 (Qg (by simp) (by omega));go_enter func139,ntmps139;go_wp2_with fail
 go_loopw [5,6] (fun q i wr=> ∃ k:Nat,k<=m.sm.length/\i= .int .i64 k/\EntsAt w.heap.size wr q (atV m.sm b k)/\Blk wr w.heap.size 40 (S6 a0 p0 a1 p1 a2 p2 a3 p3 a4 p4 m)/\Below w.heap.size w wr) (fun _ i _=>m.sm.length-(intOf i).toNat)
 case atStart=>exact ⟨0,Zi _,rfl,uh E0,uh kb0,uh BB0⟩
 case round=>
  obtain ⟨k,hk,rfl,he,kb1,hb1⟩:=hrel;obtain ⟨qa,qcap,rfl⟩:=EntsAt.shape he;have kb:=Z9 kb1;have BB:=Z9 hb1;have He:=Z9 he;clear kb1 hb1 he kb0 BB0 E0;have hal:=SO m.sm b k;have c2:=(uh kb).cell (i:=2) (v:= .slice a2 m.sm.length p2) rfl;by_cases hls:k<m.sm.length
  ·rcases uh R2 with e0 | ⟨sb,off,rfl,hbw,hcl⟩
   ·rw [e0] at hls;simp at hls
   obtain ⟨d0,d1,d2,d3,d4,d5,d6,d7,d8,d9,d10⟩:=YM hcl hls;rw [<-(uh BB).cell (p:=⟨sb,off+k*11,none⟩) hbw] at d0;rw [<-(uh BB).cell (p:=⟨sb,off+k*11+1,none⟩) hbw] at d1;rw [<-(uh BB).cell (p:=⟨sb,off+k*11+2,none⟩) hbw] at d2;rw [<-(uh BB).cell (p:=⟨sb,off+k*11+3,none⟩) hbw] at d3;rw [<-(uh BB).cell (p:=⟨sb,off+k*11+4,none⟩) hbw] at d4;rw [<-(uh BB).cell (p:=⟨sb,off+k*11+5,none⟩) hbw] at d5;rw [<-(uh BB).cell (p:=⟨sb,off+k*11+6,none⟩) hbw] at d6;rw [<-(uh BB).cell (p:=⟨sb,off+k*11+7,none⟩) hbw] at d7;rw [<-(uh BB).cell (p:=⟨sb,off+k*11+8,none⟩) hbw] at d8;rw [<-(uh BB).cell (p:=⟨sb,off+k*11+9,none⟩) hbw] at d9;rw [<-(uh BB).cell (p:=⟨sb,off+k*11+10,none⟩) hbw] at d10;clear hcl;have S1:=Z9 (fun hs=>Oy (ss:=m.sm) (b:=b) (k:=k) hs);have S2:=Z9 (fun h1 h2=>Rm (ss:=m.sm) (b:=b) (k:=k) h1 h2);generalize Z8 m.sm k=ss at *;obtain ⟨st,be,rk,my,gu,lo,hi,hd,ca,ut,wk⟩:=ss;simp only at d0 d1 d2 d3 d4 d5 d6 d7 d8 d9 d10;have hl0:w.heap.size<wr.heap.size:=(uh kb).lt;by_cases hbe:be=b;rotate_left
   ·have hbn:(be ==b)=false:=by simpa using hbe
    go_wp2_with fail;go_roundw
    case rel=>exact ⟨k+1,by omega,by go_num,by rw [uh S1 (fun h9=>hbe h9.1)];exact EntsAt.later (uh He) ((ba _ _)),(uh kb).alloc _,(uh BB).alloc (uh BB).size _⟩
    case measure=>exact ms
   subst hbe;have hbn:(be ==be)=true:=by simp
   obtain ⟨ps,Hps⟩:=WG (ZP (st,be,rk,my,gu,lo,hi,hd,ca,ut,wk));go_wp2_with fail;clear c2 d0 d1 d2 d3 d4 d5 d6 d7 d8 d9 d10;refine ck (YQ (uh Hps) _) fun w2 hb=> ?_;have ks:Hid (Blk w2 wr.heap.size 79 (I11 st be rk my gu lo hi hd ca ut wk)):=Z9 ((Blk.new wr _ _).below hb (by simp));replace kb:=Z9 (((uh kb).alloc (.cells (I11 st be rk my gu lo hi hd ca ut wk) 79)).below hb (by simp;omega));have hba:=((Z2 wr.heap.size wr).alloc (Z3 _) (.cells (I11 st be rk my gu lo hi hd ca ut wk) 79)).trans (hb.mono (by simp));replace He:=Z9 (EntsAt.later (uh He) hba);replace BB:=bt BB hba;clear hb hl0 hba;have d7:=(uh ks).cell (i:=7) (v:= .int .i64 hd) rfl;cases ps
   ·go_wp2_with fail
    go_roundw
    case rel=>exact ⟨k+1,by omega,by go_num,by rw [uh S1 (fun h9=>by have h8:=h9.2;rw [uh Hps] at h8;cases h8)];exact uh He,uh kb,uh BB⟩
    case measure=>exact ms
   go_wp2_with fail;refine (JX hd (k:Int) (EntsAt.pc (uh He)) (by omega)).mono ?_;rintro e w3 ⟨v3,rfl,he3,hb⟩;have hsz:=(uh BB).size;have he4:=EntsAt.mono he3 hsz;replace kb:=bl kb hb;replace BB:=Z9 ((uh BB).trans (hb.mono hsz));obtain ⟨qa3,qcap3,rfl⟩:=EntsAt.shape he4;have He4:=Z9 he4;clear hb he3 he4 d7;go_wp2_with fail;go_roundw
   case rel=>exact ⟨k+1,by omega,by go_num,by rw [uh S2 (by first | rfl | trivial) (uh Hps)];exact uh He4,uh kb,uh BB⟩
   case measure=>exact ms
  ·obtain rfl:k=m.sm.length:=by omega
   go_wp2_with fail;go_ret;exact ⟨_,rfl,uh He,uh BB⟩
set_option linter.unusedSimpArgs false
theorem Two.ents {p q:Option Nat} {B:Nat} {ps:List Z1} (h:EntsAt B w v ps) (ht:Two p q w w') (hp:∀ k,p=some k->k<B) (hq:∀ k,q=some k->k<B):EntsAt B w' v ps:=
 EntsAt.same h fun k e=>ht.block k (h.lt e).2 (fun e'=>by have:=hp k e';have:=(h.lt e).1;omega) (fun e'=>by have:=hq k e';have:=(h.lt e).1;omega)
theorem Two.cell {p q:Option Nat} (h:Two p q w w') {a:Addr} (ha:a.block<w.heap.size) (hp:p ≠ some a.block) (hq:q ≠ some a.block):w'.cell? a=w.cell? a:=World.cell?_of_block (w:=w) (h.block a.block ha hp hq)
theorem Js {q:List Z1} {j:Nat} (hj:j<q.length):q.take (j+1)=q.take j++[ZY q j]:=by
 rw [List.take_succ_eq_append_getElem hj];unfold ZY;simp [List.getD,hj]
theorem KD {b:Nat} (h:atV m.sm b m.sm.length=[]):Xu m b={ m with dk:=m.dk.set b ((Z8 m.dk b).1,-1,(Z8 m.dk b).2.2) }:=by
 unfold Xu;rw [h]
theorem My {b:Nat} {e:Z1} {t:List Z1} (h:atV m.sm b m.sm.length=e::t):Xu m b={ m with sm:=(ZB m.sm (e::t)).set e.2.toNat (stS (Z8 (ZB m.sm (e::t)) e.2.toNat) 3),dk:=m.dk.set b ((Z8 m.dk b).1,e.2,Y4 (Z8 m.dk b).2.2 e.1) }:=by
 unfold Xu;rw [h]
theorem Ub {R n₀:Nat}  {qs:List (Z5 × Value)} (kb:Blk w R 40 #[v0,v1,v2,v3,v4,.int .i64 m.now]) (hf:FullSmy n₀ w v0 v1 v2 v3 v4 m qs) (h2:v2.ownBlock ≠ some R) (h3:v3.ownBlock ≠ some R) (hl:m.sm.length<=800) (hd:m.dk.length<=1000) :
  Calls prog 147 #[.pointer (some ⟨R,0,none⟩)] w fun e w'=>e= .returned (.tuple #[])/\FullSmy n₀ w' v0 v1 v2 v3 v4 (ZL m) qs/\Two v2.ownBlock v3.ownBlock w w':=by
 obtain ⟨a2,p2,rfl⟩:=RecAt.shape hf.sm;obtain ⟨a3,p3,rfl⟩:=RecAt.shape hf.dk;by_cases hnd:m.dk.length=0
 ·have hz:ZL m=m:=by unfold ZL;rw [hnd];rfl
  have c3:=kb.cell (i:=3) (v:= .slice a3 m.dk.length p3) rfl;have HF:=Z9 hf;rw [hz];have hz0:¬ (0:Int)<(m.dk.length:Int):=by omega
  clear hz hf kb hnd;go_enter func147,ntmps147;go_wp2_with fail
  go_loopw [2] (fun i wr=>i= .int .i64 0/\wr=w) (fun i _=>0)
  case atStart=>exact ⟨rfl,rfl⟩
  case round=>
   obtain ⟨rfl,hwr⟩:=hrel;subst hwr;go_wp2_with fail
   go_end0
   exact ⟨rfl,uh HF,Two.refl _ _ _⟩
 obtain ⟨g3,rfl,hg3,hg3w,_,_⟩:=RecAt.view Zx (by omega) hf.dk rfl (by omega);have Kb:=Z9 kb;have H2:=Z9 h2;have H3:Hid (g3 ≠ R):=Z9 (fun e=>h3 (by rw [e];rfl));have HF:=Z9 hf;have L2:Hid (∀ i,(Value.slice a2 m.sm.length p2).ownBlock=some i->i<w.heap.size):=Z9 (fun i e=>(RecAt.lt hf.sm e).2);clear kb h2 h3 hf;go_enter func147,ntmps147;go_wp2_with fail
 go_loopw [2] (fun i wr=> ∃ k:Nat,k<=m.dk.length/\i= .int .i64 k/\FullSmy n₀ wr v0 v1 (.slice a2 m.sm.length p2) (.slice (some ⟨g3,0,none⟩) m.dk.length p3) v4 (Ym m k) qs/\Two (Value.slice a2 m.sm.length p2).ownBlock (some g3) w wr) (fun i _=>m.dk.length-(intOf i).toNat)
 case atStart=>exact ⟨0,Zi _,rfl,uh HF,Two.refl _ _ _⟩
 case round=>
  obtain ⟨k,hk,rfl,hf1,htw⟩:=hrel;obtain ⟨e1,e2,e3,e4,e5,e6⟩:=Zp m k;have Tw:=Z9 htw;have hgw:g3<wr.heap.size:=YH hg3w htw.size;have hszr:=htw.size;have hkb1:=(uh Kb).two htw (uh H2) (fun e=>uh H3 (by cases e;rfl));have K1:=Z9 hkb1;clear htw hkb1;by_cases hlt:k<m.dk.length;rotate_left
  ·obtain rfl:k=m.dk.length:=by omega
   have c3:=(uh K1).cell (i:=3) (v:= .slice (some ⟨g3,0,none⟩) m.dk.length p3) rfl;have hno:¬ ((m.dk.length:Nat):Int)<(m.dk.length:Int):=by omega
   have HF1:=Z9 hf1;clear hf1;go_wp2_with fail
   go_end0
   exact ⟨rfl,uh HF1,uh Tw⟩
  have hstep:Ym m (k+1)=Xu (Ym m k) k:=rfl;generalize Ym m k=m1 at *;have Hstep:=Z9 hstep;clear hstep;obtain ⟨c0,c1,c2,c3,c4,c5⟩:=(uh K1).c6;have hat:=TO (k:Int) hf1.smy (by rw [e5];exact hl);rw [e4,e5] at hat;have Hat:=Z9 hat;have HF1:=Z9 hf1;clear hat hf1;go_wp2_with fail;refine (uh Hat).mono ?_;rintro e w1 ⟨v',rfl,he,hb⟩;clear c0 c1 c2 c3 c4 c5 Hat;have hmem:=XH m1.sm (k:Int);have hlq:=SO m1.sm (k:Int) m.sm.length;have HN:Hid (atV m1.sm (k:Int) m.sm.length=[]->Xu m1 k={ m1 with dk:=m1.dk.set k ((Z8 m1.dk k).1,-1,(Z8 m1.dk k).2.2) }):=Z9 (fun h=>KD (by rw [e5];exact h));have HC:Hid (∀ e t,atV m1.sm (k:Int) m.sm.length=e::t->Xu m1 k={ m1 with sm:=(ZB m1.sm (e::t)).set e.2.toNat (stS (Z8 (ZB m1.sm (e::t)) e.2.toNat) 3),dk:=m1.dk.set k ((Z8 m1.dk k).1,e.2,Y4 (Z8 m1.dk k).2.2 e.1) }):=Z9 (fun e t h=>My (by rw [e5];exact h))
  have hmq:∀ x ∈ atV m1.sm (k:Int) m.sm.length,∃ j:Nat,j<m.sm.length/\x.2=(j:Int):=fun x hx=>by
   obtain ⟨j,hj,_,_,rfl⟩:=(hmem x m.sm.length).1 hx;exact ⟨j,hj,rfl⟩
  have Hm:=Z9 hmq;clear hmem hmq;generalize atV m1.sm (k:Int) m.sm.length=q at *;obtain ⟨qa,qc,rfl⟩:=EntsAt.shape he;have HE:=Z9 he;replace HF1:=Z9 ((uh HF1).below hb);replace K1:=bl K1 hb;replace Tw:=Z9 ((uh Tw).trans (Two.of_below hb));have hgw1:g3<w1.heap.size:=YH hgw hb.size;have hwr1:=hb.size;clear he hb;obtain ⟨⟨o,wh,mk⟩,hrk⟩:=ZE (Z8 m1.dk k);rw [hrk] at HN HC;simp only at HN HC;have Hrk:=Z9 hrk;have hkd:k<m1.dk.length:=by omega
  have hset:∀ d,Z8 (m1.dk.set k d) k=d:=fun d=>by rw [ZC hkd,if_pos rfl]
  have Hset:=Z9 hset;clear hset;obtain ⟨_,hga,_,_,hc3,hz3⟩:=RecAt.view Zx (by omega) (uh HF1).dk e6.symm (by omega);cases hga;have d1:=hc3 k (by omega) 1 _ rfl;rw [hrk] at d1;have f1:=hz3 (k*3+1);have c3:=(uh K1).cell (i:=3) (v:= .slice (some ⟨g3,0,none⟩) m.dk.length p3) rfl;have hput:=(uh HF1).putD e6.symm (j:=k) (i:=1) (by omega) (by omega) (.int .i64 (-1)) (o,-1,mk) (by rw [hrk];rfl);have HF2:=Z9 hput;have hns:Two (Value.slice a2 m.sm.length p2).ownBlock (some g3) w1 (w1.setCell ⟨g3,k*3+1,none⟩ (.int .i64 (-1))):=Two.of_set w1 (.inr rfl) _ _;have K2:=Z9 ((uh K1).two hns (uh H2) (fun e=>uh H3 (by cases e;rfl)));have Tw2:=Z9 ((uh Tw).trans hns);have hlow2:∀ i,(Value.slice a2 m.sm.length p2).ownBlock=some i->i<wr.heap.size:=fun i e=>YH (uh L2 i e) hszr;have Low2:=Z9 hlow2;have HE2:=Z9 (Two.ents (uh HE) hns hlow2 (fun i e=>by cases e;exact hgw));clear hput hns hlow2 hc3 hz3 hrk;go_upto_region 5 with fail;clear d1 f1 c3 K1 Tw HE HF1;generalize w1.setCell ⟨g3,k*3+1,none⟩ (.int .i64 (-1))=X at *;have hsm:∀ i,i ∈ [0]->True:=fun _ _=>trivial;clear hsm;go_wp2_with fail
  go_loopw [4] (fun i wi=> ∃ j:Nat,j<=q.length/\i= .int .i64 j/\FullSmy n₀ wi v0 v1 (.slice a2 m.sm.length p2) (.slice (some ⟨g3,0,none⟩) m.dk.length p3) v4 { m1 with sm:=ZB m1.sm (q.take j),dk:=m1.dk.set k (o,-1,mk) } qs/\Two (Value.slice a2 m.sm.length p2).ownBlock (some g3) X wi) (fun i _=>q.length-(intOf i).toNat)
  case atStart=>exact ⟨0,Zi _,rfl,by simpa [ZB] using uh HF2,Two.refl _ _ _⟩
  case round=>
   obtain ⟨wi,rfl⟩:∃ x,x=wr:=⟨wr,rfl⟩
   obtain ⟨j,hj,rfl,hf3,htw3⟩:=hrel;have HF3:=Z9 hf3;have Tw3:=Z9 htw3;have K3:=Z9 ((uh K2).two htw3 (uh H2) (fun e=>uh H3 (by cases e;rfl)));have HE3:=Z9 (Two.ents (uh HE2) htw3 (uh Low2) (fun i e=>by cases e;exact hgw));clear hf3 htw3;by_cases hjl:j<q.length
   ·obtain ⟨_,_,hqe,_,_,hr⟩:=EntsAt.pc (uh HE3)
    cases hqe
    rcases hr with e0 | ⟨eb,eo,rfl,hbw,hcl⟩
    ·rw [e0] at hjl;simp at hjl
    obtain ⟨c0,c1⟩:=hcl j hjl;obtain ⟨i0,hi0,hie⟩:=uh Hm _ (VU hjl);rw [hie] at c1;have Htk:Hid (ZB m1.sm (q.take (j+1))=(ZB m1.sm (q.take j)).set i0 (stS (Z8 (ZB m1.sm (q.take j)) i0) 2)):=Z9 (by rw [Js hjl,O5,hie];simp);have hwl:(ZB m1.sm (q.take j)).length=m.sm.length:=by rw [VC,e5]
    obtain ⟨g2,rfl,hg2,hg2w,hc2,hz2⟩:=RecAt.view ZT (by omega) (uh HF3).sm hwl.symm (by show 0<(ZB m1.sm (q.take j)).length;omega);have s0:=hc2 i0 (by show i0<(ZB m1.sm (q.take j)).length;omega) 0 _ rfl;have f0:=hz2 (i0*11);have hput:=(uh HF3).putS hwl.symm (j:=i0) (i:=0) (by show i0<(ZB m1.sm (q.take j)).length;omega) (by omega) (.int .i64 2) (stS (Z8 (ZB m1.sm (q.take j)) i0) 2) rfl;simp only [Nat.add_zero] at s0 hput;have HF4:=Z9 hput;have c2:=(uh K3).cell (i:=2) (v:= .slice (some ⟨g2,0,none⟩) m.sm.length p2) rfl;clear hcl hc2 hz2 hput hie c0 hwl;have hi1:(i0:Int)<(m.sm.length:Int):=by omega
    go_wp2_with fail;refine ZN (S:=fun w'=>w'.cell? ⟨R,2,none⟩=some (.slice (some ⟨g2,0,none⟩) m.sm.length p2)/\w'.cell? ⟨eb,eo+j*2+1,none⟩=some (.int .i64 (i0:Int))) (by kernel_rfl) (WV _ _) (by kernel_rfl) ⟨c2,c1⟩ (fun hHeld=> ?_);simp only [WW,WX,Zn,Y2,Nat.zero_add,Nat.reduceAdd]
    iterate 11 refine tz ?_
    refine wpAnyH_done (by kernel_rfl) ?_ _;refine ZH rfl rfl ?_;go_simp;clear hHeld;go_wp2_with fail;go_roundw
    case rel=>exact ⟨j+1,by omega,by go_num,by rw [uh Htk];exact (uh HF4).below (Z2 _ _).drew,((uh Tw3).trans (Two.of_set _ (.inl rfl) _ _)).trans (Two.of_below (Z2 _ _).drew)⟩
    case measure=>exact ms
   ·obtain rfl:j=q.length:=by omega
    rw [List.take_length] at HF3;cases q with
    | nil=>
     clear HC;go_wp2_with fail;go_roundw
     case rel=>exact ⟨k+1,by omega,by go_num,by rw [uh Hstep,uh HN rfl];exact uh HF3,(uh Tw2).trans (uh Tw3)⟩
     case measure=>exact ms
    | cons e t=>
     obtain ⟨_,_,hqe,_,_,hr⟩:=EntsAt.pc (uh HE3);cases hqe
     rcases hr with e0 | ⟨eb,eo,rfl,hbw,hcl⟩
     ·cases e0
     obtain ⟨c0,c1⟩:=hcl 0 (by simp);obtain ⟨i0,hi0,hie⟩:=uh Hm e (by simp);have hp0:ZY (e::t) 0=e:=rfl;rw [hp0] at c0 c1;rw [hie] at c1;simp only [Nat.zero_mul,Nat.add_zero] at c0 c1;have hcons:=uh HC e t rfl;rw [hie] at hcons;simp only [show ((i0:Int)).toNat=i0 by simp] at hcons;have Hcons:=Z9 hcons;obtain ⟨hd0,hhd⟩:=ZE (e.1);rw [hhd] at c0 Hcons;clear hcons hhd hie hp0 hcl HN HC;have hwl:(ZB m1.sm (e::t)).length=m.sm.length:=by rw [VC,e5]
     obtain ⟨g2,rfl,hg2,hg2w,_,_⟩:=RecAt.view ZT (by omega) (uh HF3).sm hwl.symm (by show 0<(ZB m1.sm (e::t)).length;omega);have hD1:(m1.dk.set k (o,-1,mk)).length=m.dk.length:=by simp [e6]
     have hD2:∀ d,(m1.dk.set k d).length=m.dk.length:=fun d=>by simp [e6]
     have heb:=(EntsAt.lt (uh HE3) (k:=eb) rfl).1;have hg2r:=uh Low2 g2 rfl;have hlen:(e::t).length=t.length+1:=rfl;have hlpos:(0:Int)<((t.length+1:Nat):Int):=by omega
     rw [hlen] at *;obtain ⟨_,hga,_,_,hcd,hzd⟩:=RecAt.view Zx (by omega) (uh HF3).dk hD1.symm (by show 0<(m1.dk.set k (o,-1,mk)).length;omega);cases hga;have d1:=hcd k (by show k<(m1.dk.set k (o,-1,mk)).length;omega) 1 _ rfl;have f1:=hzd (k*3+1);have c3:=(uh K3).cell (i:=3) (v:= .slice (some ⟨g3,0,none⟩) m.dk.length p3) rfl;have hne2:(Value.slice (some ⟨g2,0,none⟩) m.sm.length p2).ownBlock ≠ some eb:=fun e9=>by have e8:g2=eb:=Option.some.inj e9;omega
     have hne3:(some g3:Option Nat) ≠ some eb:=fun e9=>by have e8:g3=eb:=Option.some.inj e9;omega
     have hput1:=(uh HF3).putD hD1.symm (j:=k) (i:=1) (by show k<(m1.dk.set k (o,-1,mk)).length;omega) (by omega) (.int .i64 (i0:Int)) (o,(i0:Int),mk) (by show XI (o,(i0:Int),mk)=(XI (Z8 (m1.dk.set k (o,-1,mk)) k)).set 1 _;rw [uh Hset];rfl);simp only [List.set_set] at hput1;have HF4:Hid (FullSmy n₀ (wi.setCell ⟨g3,k*3+1,none⟩ (.int .i64 (i0:Int))).drew v0 v1 (.slice (some ⟨g2,0,none⟩) m.sm.length p2) (.slice (some ⟨g3,0,none⟩) m.dk.length p3) v4 { m1 with sm:=ZB m1.sm (e::t),dk:=m1.dk.set k (o,(i0:Int),mk) } qs):=Z9 (hput1.below (Z2 _ _).drew);have T4:Two (Value.slice (some ⟨g2,0,none⟩) m.sm.length p2).ownBlock (some g3) wi (wi.setCell ⟨g3,k*3+1,none⟩ (.int .i64 (i0:Int))).drew:=(Two.of_set wi (.inr rfl) _ _).trans (Two.of_below (Z2 _ _).drew);have K4:=Z9 ((uh K3).two T4 (uh H2) (fun e9=>uh H3 (by cases e9;rfl)));have x0:=(T4.cell (a:=⟨eb,eo,none⟩) hbw hne2 hne3).trans c0;have x1:=(T4.cell (a:=⟨eb,eo+1,none⟩) hbw hne2 hne3).trans c1;have hbw4:eb<((wi.setCell ⟨g3,k*3+1,none⟩ (.int .i64 (i0:Int))).drew).heap.size:=YH hbw T4.size;replace Tw3:=Z9 ((uh Tw3).trans T4);clear hput1 T4 hcd hzd HE3 HF3;go_wp2_with fail;refine ZN (S:=fun w'=>w'.cell? ⟨R,3,none⟩=some (.slice (some ⟨g3,0,none⟩) m.dk.length p3)/\w'.cell? ⟨eb,eo+1,none⟩=some (.int .i64 (i0:Int))) (by kernel_rfl) (WV _ _) (by kernel_rfl) ⟨c3,c1⟩ (fun hHeld=> ?_);simp only [WW,WX,Zn,Y2,Nat.zero_add,Nat.reduceAdd]
     iterate 11 refine tz ?_
     refine wpAnyH_done (by kernel_rfl) ?_ _;refine ZH rfl rfl ?_;go_simp;clear hHeld;clear d1 f1 c3 c0 c1 hbw K3;generalize (wi.setCell ⟨g3,k*3+1,none⟩ (.int .i64 (i0:Int))).drew=Y at *;obtain ⟨_,hga,_,_,hcd,hzd⟩:=RecAt.view Zx (by omega) (uh HF4).dk (hD2 _).symm (by show 0<(m1.dk.set k _).length;rw [hD2];omega);cases hga;have d2:=hcd k (by show k<(m1.dk.set k _).length;rw [hD2];omega) 2 _ rfl
     have d2':Y.cell? ⟨g3,k*3+2,none⟩=some (.int .i64 mk):=by
      have h9:Z8 (m1.dk.set k (o,(i0:Int),mk)) k=(o,(i0:Int),mk):=uh Hset _;rw [show (({ m1 with sm:=ZB m1.sm (e::t),dk:=m1.dk.set k (o,(i0:Int),mk) } : Z7)).dk=m1.dk.set k (o,(i0:Int),mk) from rfl,h9] at d2;exact d2
     have f2:=hzd (k*3+2);have c3:=(uh K4).cell (i:=3) (v:= .slice (some ⟨g3,0,none⟩) m.dk.length p3) rfl;have hput2:=(uh HF4).putD (hD2 _).symm (j:=k) (i:=2) (by show k<(m1.dk.set k _).length;rw [hD2];omega) (by omega) (.int .i64 (Y4 mk hd0)) (o,(i0:Int),Y4 mk hd0) (by show XI (o,(i0:Int),Y4 mk hd0)=(XI (Z8 (m1.dk.set k (o,(i0:Int),mk)) k)).set 2 _;rw [uh Hset];rfl);simp only [List.set_set] at hput2;have HF5:Hid (FullSmy n₀ (Y.setCell ⟨g3,k*3+2,none⟩ (.int .i64 (Y4 mk hd0))).drew v0 v1 (.slice (some ⟨g2,0,none⟩) m.sm.length p2) (.slice (some ⟨g3,0,none⟩) m.dk.length p3) v4 { m1 with sm:=ZB m1.sm (e::t),dk:=m1.dk.set k (o,(i0:Int),Y4 mk hd0) } qs):=Z9 (hput2.below (Z2 _ _).drew);have T5:Two (Value.slice (some ⟨g2,0,none⟩) m.sm.length p2).ownBlock (some g3) Y (Y.setCell ⟨g3,k*3+2,none⟩ (.int .i64 (Y4 mk hd0))).drew:=(Two.of_set Y (.inr rfl) _ _).trans (Two.of_below (Z2 _ _).drew);have K5:=Z9 ((uh K4).two T5 (uh H2) (fun e9=>uh H3 (by cases e9;rfl)));have y1:=(T5.cell (a:=⟨eb,eo+1,none⟩) hbw4 hne2 hne3).trans x1;replace Tw3:=Z9 ((uh Tw3).trans T5);clear hput2 T5 hcd hzd HF4 d2;go_wp2_with fail;refine ZN (S:=fun w'=>w'.cell? ⟨R,3,none⟩=some (.slice (some ⟨g3,0,none⟩) m.dk.length p3)/\w'.cell? ⟨g3,k*3+2,none⟩=some (.int .i64 mk)/\w'.cell? ⟨eb,eo,none⟩=some (.int .i64 hd0)) (by kernel_rfl) (WV _ _) (by kernel_rfl) ⟨c3,d2',x0⟩ (fun hHeld=> ?_);simp only [WW,WX,Zn,Y2,Nat.zero_add,Nat.reduceAdd]
     iterate 17 refine tz ?_
     refine rd 17 rfl (fun K hK=> ?_);go_simp;refine ck (Q2 mk hd0 _) fun w9 hw9=> ?_;subst w9;refine hK.out _ _ hHeld (fun hHeld=> ?_);clear hK K
     (try simp only [Act.put,sA,sZ,sS])
     refine tp 18 ?_;refine tp 19 ?_;refine wpAnyH_done (by kernel_rfl) ?_ _;refine ZH rfl rfl ?_;go_simp;clear hHeld;clear d2' f2 c3 x0 x1 hbw4 K4;generalize (Y.setCell ⟨g3,k*3+2,none⟩ (.int .i64 (Y4 mk hd0))).drew=Z at *;obtain ⟨_,hga,_,_,hc2,hz2⟩:=RecAt.view ZT (by omega) (uh HF5).sm hwl.symm (by show 0<(ZB m1.sm (e::t)).length;omega);cases hga;have s0:=hc2 i0 (by show i0<(ZB m1.sm (e::t)).length;omega) 0 _ rfl;have f0:=hz2 (i0*11);have c2:=(uh K5).cell (i:=2) (v:= .slice (some ⟨g2,0,none⟩) m.sm.length p2) rfl;have hput3:=(uh HF5).putS hwl.symm (j:=i0) (i:=0) (by show i0<(ZB m1.sm (e::t)).length;omega) (by omega) (.int .i64 3) (stS (Z8 (ZB m1.sm (e::t)) i0) 3) rfl;simp only [Nat.add_zero] at s0 hput3;have HF6:=Z9 hput3;have hi1:(i0:Int)<(m.sm.length:Int):=by omega
     clear hput3 hc2 hz2 HF5;go_wp2_with fail;refine ZN (S:=fun w'=>w'.cell? ⟨R,2,none⟩=some (.slice (some ⟨g2,0,none⟩) m.sm.length p2)/\w'.cell? ⟨eb,eo+1,none⟩=some (.int .i64 (i0:Int))) (by kernel_rfl) (WV _ _) (by kernel_rfl) ⟨c2,y1⟩ (fun hHeld=> ?_);simp only [WW,WX,Zn,Y2,Nat.zero_add,Nat.reduceAdd]
     iterate 10 refine tz ?_
     refine wpAnyH_done (by kernel_rfl) ?_ _;refine ZH rfl rfl ?_;go_simp;clear hHeld;go_wp2_with fail;go_roundw
     case rel=>exact ⟨k+1,by omega,by go_num,by rw [uh Hstep,uh Hcons];exact (uh HF6).below (Z2 _ _).drew,((uh Tw2).trans (uh Tw3)).trans ((Two.of_set _ (.inl rfl) _ _).trans (Two.of_below (Z2 _ _).drew))⟩
     case measure=>exact ms
structure KO (m:Z7):Prop where
 gd:YD m.gd=true
 lo:∀ i,i<m.sm.length->(Z8 m.sm i).1 ≠ 0-> -1<=(Z8 m.sm i).2.2.2.2.1
 hi:∀ i,i<m.sm.length->(Z8 m.sm i).1 ≠ 0->(Z8 m.sm i).2.2.2.2.1<m.gd.length
theorem Lj {s:Z6} (h:ZP s=true):s.1 ≠ 0:=fun e=>by unfold ZP at h;rw [e] at h;cases h
theorem Ua  {k:Nat} (h:Smy w v0 v1 v2 v3 v4 m) (hg:YD m.gd=true) (hk:k<m.sm.length) (g0 : -1<=(Z8 m.sm k).2.2.2.2.1) (g1:(Z8 m.sm k).2.2.2.2.1<m.gd.length) :
  cB 165 #[.agg #[v0,v1,v2,v3,v4,.int .i64 m.now],.int .i64 (k:Int)] w (.int .i64 (Yn m (k:Int))):=by
 have hw:Yn m (k:Int)=Ri m.gd (Z8 m.sm k):=rfl;rw [hw];clear hw;have Hv:=Z9 h;obtain ⟨h0,h1,h2,h3,h4⟩:=h;obtain ⟨a0,p0,rfl,hc0,hm0⟩:=IsRooms.shape h0;obtain ⟨a1,p1,rfl,hc1,hm1⟩:=IsRec.shape h1;obtain ⟨a2,p2,rfl,hc2,hm2,r2⟩:=h2;obtain ⟨a3,p3,rfl,hc3,hm3⟩:=IsRec.shape h3;obtain ⟨a4,p4,rfl,hc4,hm4⟩:=IsRec.shape h4;clear h0 h1 h3 h4
 rcases r2 with e0 | ⟨sb,off,rfl,hbw,hcl⟩
 ·rw [e0] at hk;simp at hk
 obtain ⟨d0,d1,d2,d3,d4,d5,d6,d7,d8,d9,d10⟩:=YM hcl hk;clear hcl;generalize Z8 m.sm k=ss at *;obtain ⟨st,be,rk,my,gu,lo,hi,hd,ca,ut,wk⟩:=ss;simp only at d0 d1 d2 d3 d4 d5 d6 d7 d8 d9 d10 g0 g1;have Hg:=Z9 hg;clear hg;go_enter func165,ntmps165;go_wp2_with fail;have BB:Hid (Below w.heap.size w ((w.alloc (.cells #[.slice a0 m.rm.length p0,.slice a1 m.gd.length p1,.slice (some ⟨sb,off,none⟩) m.sm.length p2,.slice a3 m.dk.length p3,.slice a4 m.pc.length p4,.int .i64 m.now] 40)).alloc (.cells (I11 st be rk my gu lo hi hd ca ut wk) 79))):=Z9 (((ba _ _)).alloc (by simp) _);have Hv2:=Z9 ((uh Hv).below (uh BB)).gd;have ks:=Z9 (Blk.new (w.alloc (.cells #[.slice a0 m.rm.length p0,.slice a1 m.gd.length p1,.slice (some ⟨sb,off,none⟩) m.sm.length p2,.slice a3 m.dk.length p3,.slice a4 m.pc.length p4,.int .i64 m.now] 40)) 79 (I11 st be rk my gu lo hi hd ca ut wk));simp only [XX] at ks;generalize (w.alloc (.cells #[.slice a0 m.rm.length p0,.slice a1 m.gd.length p1,.slice (some ⟨sb,off,none⟩) m.sm.length p2,.slice a3 m.dk.length p3,.slice a4 m.pc.length p4,.int .i64 m.now] 40)).alloc (.cells (I11 st be rk my gu lo hi hd ca ut wk) 79)=W at *;refine ck (RZ gu lo hi (uh Hv2) (OQ (uh Hg) m.gd.length gu (uh Hv2) g0 g1 g1)) fun w1 hb=> ?_;replace ks:=bl ks hb;replace BB:=bt BB hb;have x9:=(uh ks).cell (i:=9) (v:= .int .i64 ut) rfl;clear hb d0 d1 d2 d3 d4 d5 d6 d7 d8 d9 d10;go_wp2_with (go_at_call 175;refine (UA _ _ _ _).mono ?_;rintro e w' ⟨rfl,h9⟩;subst w')
 go_ret;exact ⟨rfl,uh BB⟩
theorem MG (m:Z7) (but:Int) {q:List Z1} {k:Nat} (hk:k<q.length):VB m but (q.take (k+1))=if (ZY q k).2=but then VB m but (q.take k) else VB m but (q.take k)+Yn m (ZY q k).2:=by
 have:q.take (k+1)=q.take k++[ZY q k]:=by
  rw [List.take_succ_eq_append_getElem hk];unfold ZY;simp [List.getD,hk]
 rw [this,MF]
theorem Vs  (b but:Int) (h:Smy w v0 v1 v2 v3 v4 m) (hG:KO m) (hl:m.sm.length<=800) :
  cB 156 #[.agg #[v0,v1,v2,v3,v4,.int .i64 m.now],.int .i64 b,.int .i64 but] w (.int .i64 (XJ m b but)):=by
 have Hv:=Z9 (h.alloc (.cells #[v0,v1,v2,v3,v4,.int .i64 m.now] 40));obtain ⟨a0,p0,a1,p1,a2,p2,a3,p3,a4,p4,rfl,rfl,rfl,rfl,rfl,_,_,_,_,_,_,_,_,_,_⟩:=h.five;clear h;have HG:=Z9 hG;clear hG;go_enter func156,ntmps156;go_wp2_with fail;refine (TO b (uh Hv) hl).mono ?_;rintro e w1 ⟨v',rfl,he,hb⟩;have kb:Hid (Blk w1 w.heap.size 40 (S6 a0 p0 a1 p1 a2 p2 a3 p3 a4 p4 m)):=Z9 ((Blk.new w _ _).below hb (by simp));have BB:Hid (Below w.heap.size w w1):=Z9 (((ba _ _)).trans (hb.mono (by simp)));replace Hv:=Z9 ((uh Hv).below hb);have hq:=SO m.sm b m.sm.length;have hmem:=XH m.sm b;have Hu:Hid (XJ m b but=VB m but (atV m.sm b m.sm.length)):=Z9 rfl
 have hmq:∀ x ∈ atV m.sm b m.sm.length,∃ j:Nat,j<m.sm.length/\ZP (Z8 m.sm j)=true/\x.2=(j:Int):=fun x hx=>by
  obtain ⟨j,hj,_,hp,rfl⟩:=(hmem x m.sm.length).1 hx;exact ⟨j,hj,hp,rfl⟩
 have Hm:=Z9 hmq;clear hmem hmq hb;have hp:=EntsAt.pc he;clear he;generalize atV m.sm b m.sm.length=q at *;obtain ⟨qa,qc,rfl,hqc,hqm,hr⟩:=hp;have Hr:=Z9 hr;clear hr;go_wp2_with fail
 go_loopw [7,9] (fun n i wr=> ∃ k:Nat,k<=q.length/\i= .int .i64 k/\n= .int .i64 (VB m but (q.take k))/\Below w1.heap.size w1 wr) (fun _ i _=>q.length-(intOf i).toNat)
 case atStart=>exact ⟨0,Zi _,rfl,rfl,Z2 _ _⟩
 case round=>
  obtain ⟨k,hk,rfl,rfl,hbr⟩:=hrel;have hub:=Ok m but (q.take k);have htl:(q.take k).length<=k:=by rw [List.length_take];omega
  by_cases hlt:k<q.length
  ·rcases uh Hr with e0 | ⟨eb,eo,rfl,hbw,hcl⟩
   ·rw [e0] at hlt;simp at hlt
   obtain ⟨c0,c1⟩:=hcl k hlt;rw [<-hbr.cell (p:=⟨eb,eo+k*2,none⟩) hbw] at c0;rw [<-hbr.cell (p:=⟨eb,eo+k*2+1,none⟩) hbw] at c1;obtain ⟨j,hj,hjp,hje⟩:=uh Hm _ (VU hlt);have Hjp:=Z9 (Lj hjp);clear hjp;have hst:=MG m but hlt;have hwb:=Om m (j:Int);rw [hje] at c1 hst;clear hje hcl;generalize (ZY q k).1=hd at *;have Hst:=Z9 hst;clear hst;generalize VB m but (q.take k)=u at *;have u1:u<=1024*800:=by omega
   have kb1:=(uh kb).below hbr (uh kb).lt;have Hv1:=Z9 ((uh Hv).below hbr);have Kb1:=Z9 kb1;have Hbr:=Z9 hbr;clear hbr kb1;obtain ⟨x0,x1,x2,x3,x4,x5⟩:=(uh Kb1).c6;by_cases hbut:(j:Int)=but
   ·have hbn:((j:Int) ==but)=true:=by simpa using hbut
    go_wp2_with fail;go_roundw
    case rel=>exact ⟨k+1,by omega,by go_num,by rw [uh Hst,if_pos hbut],uh Hbr⟩
    case measure=>exact ms
   ·have hbn:((j:Int) ==but)=false:=by simpa using hbut
    have Hw:=Z9 (fun (W:World) (hW:Below wr.heap.size wr W)=>Ua ((uh Hv1).below hW) (uh HG).gd hj ((uh HG).lo j hj (uh Hjp)) ((uh HG).hi j hj (uh Hjp)));generalize Yn m (j:Int)=wa at *;have y0:=ZX x0;have y1:=ZX x1;have y2:=ZX x2;have y3:=ZX x3;have y4:=ZX x4;have y5:=ZX x5;have z0:=ZX c0;have z1:=ZX c1;go_wp2_with fail;refine wq ?_
    repeat (go_big_quiet_step (exact ZW (uh Hw _ (Z0 _ _ _))))
    refine wpQuiet_nil ?_;intro _ hw';obtain ⟨⟨dq,osq⟩,hw''⟩:=hw';subst hw'';go_wp2_with fail;go_roundw
    case rel=>exact ⟨k+1,by omega,by go_num,by rw [uh Hst,if_neg hbut],(uh Hbr).trans ((Z0 _ _ _).mono (uh Hbr).size)⟩
    case measure=>exact ms
  ·obtain rfl:k=q.length:=by omega
   rw [List.take_length];go_wp2_with fail;go_ret;exact ⟨Za (uh Hu).symm,(uh BB).trans (hbr.mono (uh BB).size)⟩
open Go.ChangeShapes Go.WideShapes Go.ChangeAt Go.RowKit Go.Sort
structure Sane (m:Z7):Prop where
 hall:YB m.rm=true
 dk:(m.dk.length:Int)=ZV m.rm
 guilded:KO m
 few:m.sm.length<=12
theorem Sane.bench (h:Sane m) {b:Nat} (hb:b<m.dk.length):Xl m.rm (b:Int)=true:=JL h.hall (by omega) (by have:=h.dk;omega)
theorem Sane.eight (h:Sane m):m.dk.length<=8:=by have:=(Zo h.hall).2.2.2;have:=h.dk;omega
theorem Loose.sane (h:Loose m):Sane m:=by
 have hd:=h.head;unfold YI at hd;simp only [ZR,YV] at hd;obtain ⟨h1,h2,h3,h4,_⟩:=hd;refine ⟨h1,h4,⟨h2,fun i hi hs=> ?_,fun i hi hs=>(h.limits hi hs).2.1⟩,h3⟩;have hp:=(h.limits hi hs).1;generalize Z8 m.sm i=s at *;obtain ⟨st,be,rk,my,gu,lo',hi',hd,ca,ut,wk⟩:=s;exact (Zj hp).2.2.2.2.1.1
theorem Sane.with (h:Sane m) {k:Nat} (hk:k<m.sm.length) (hs:(Z8 m.sm k).1 ≠ 0) (b:Int):Sane (Ut m (k:Int) b):=by
 have hset:∀ i,Z8 (Ut m (k:Int) b).sm i=if i=k then SN (Z8 m.sm k) b else Z8 m.sm i:=fun i=>by
  unfold Ut;simp only [Zl];exact ZC hk i
 refine ⟨h.hall,h.dk,⟨h.guilded.gd,fun i hi hne=> ?_,fun i hi hne=> ?_⟩,by unfold Ut;simpa using h.few⟩
 ·have hi':i<m.sm.length:=by unfold Ut at hi;simpa using hi
  rw [hset] at hne ⊢;by_cases e:i=k
  ·rw [if_pos e];exact h.guilded.lo k hk hs
  ·rw [if_neg e] at hne ⊢;exact h.guilded.lo i hi' hne
 ·have hi':i<m.sm.length:=by unfold Ut at hi;simpa using hi
  rw [hset] at hne ⊢;by_cases e:i=k
  ·rw [if_pos e];exact h.guilded.hi k hk hs
  ·rw [if_neg e] at hne ⊢;exact h.guilded.hi i hi' hne
theorem Sane.few' (h:Sane m) (hp:m.pc.length<=1000):Few m:=by
 obtain ⟨r1,r2,r3,r4⟩:=Zo h.hall;have hg:=(Xg h.guilded.gd).2;refine ⟨by omega,fun r hr=> ?_,by omega,by have:=h.few;omega,by have:=h.eight;omega,hp⟩;have hrb:=List.all_eq_true.1 r3 r hr;unfold Zc at hrb;simp only [ZR] at hrb;have:=ZS hrb.2.1;omega
theorem KI {room:Int} {k:Nat} (h:¬ (WS m.rm k:Int)=room):Zd m room (k+1)=Zd m room k:=by show (if _ then _ else _)=_;rw [if_neg h]
theorem ME {room:Int} {k:Nat} (h:(WS m.rm k:Int)=room):Zd m room (k+1)=((if (Z8 m.dk k).1 then max (Zd m room k).1 (XJ m k (-1)) else (Zd m room k).1),(Zd m room k).2+XJ m k (-1)):=by show (if _ then _ else _)=_;rw [if_pos h]
theorem RW  (room:Int) (h:Smy w v0 v1 v2 v3 v4 m) (hS:Sane m) :
  cB 162 #[.agg #[v0,v1,v2,v3,v4,.int .i64 m.now],.int .i64 room] w (.tuple #[.int .i64 (Zd m room m.dk.length).1,.int .i64 (Zd m room m.dk.length).2]):=by
 have Hv:=Z9 (h.alloc (.cells #[v0,v1,v2,v3,v4,.int .i64 m.now] 40));obtain ⟨a0,p0,a1,p1,a2,p2,a3,p3,a4,p4,rfl,rfl,rfl,rfl,rfl,_,_,_,_,_,_,_,_,_,_⟩:=h.five;clear h;have HS:=Z9 hS;obtain ⟨BB0,kb0⟩:=Xr w 40 (S6 a0 p0 a1 p1 a2 p2 a3 p3 a4 p4 m);have h8:=hS.eight;have hbd:=SI m room hS.few;have Hbd:=Z9 hbd;clear hS hbd;go_enter func162,ntmps162;go_wp2_with fail
 go_loopw [6,7,8] (fun mo al i wr=> ∃ k:Nat,k<=m.dk.length/\i= .int .i64 k/\mo= .int .i64 (Zd m room k).1/\al= .int .i64 (Zd m room k).2/\Blk wr w.heap.size 40 (S6 a0 p0 a1 p1 a2 p2 a3 p3 a4 p4 m)/\Smy wr (.slice a0 m.rm.length p0) (.slice a1 m.gd.length p1) (.slice a2 m.sm.length p2) (.slice a3 m.dk.length p3) (.slice a4 m.pc.length p4) m/\Below w.heap.size w wr) (fun _ _ i _=>m.dk.length-(intOf i).toNat)
 case atStart=>exact ⟨0,Zi _,rfl,rfl,rfl,uh kb0,uh Hv,uh BB0⟩
 case round=>
  obtain ⟨k,hk,rfl,rfl,rfl,hkb,hv,hb0⟩:=hrel;obtain ⟨⟨u0,u1⟩,u2,u3⟩:=uh Hbd k;have kb:=Z9 hkb;have Hv1:=Z9 hv;have BB:=Z9 hb0;clear hkb hv hb0 kb0 BB0 Hv;obtain ⟨c0,c1,c2,c3,c4,c5⟩:=(uh kb).c6;by_cases hlt:k<m.dk.length
  ·have hlt1:(k:Int)<(m.dk.length:Int):=by omega
   have Hno:=Z9 (fun hh=>KI (m:=m) (room:=room) (k:=k) hh);have Hyes:=Z9 (fun hh=>ME (m:=m) (room:=room) (k:=k) hh);obtain ⟨⟨mo,al⟩,hmo⟩:=ZE (Zd m room k);rw [hmo] at u0 u1 u2 u3 Hno Hyes ⊢;simp only at u0 u1 u2 u3 Hyes ⊢;clear hmo;go_wp2_with fail;refine ck (Tu (k:Int) (uh Hv1).rm ((uh HS).bench hlt)) fun w1 hb=> ?_;replace kb:=bl kb hb;replace Hv1:=Z9 ((uh Hv1).below hb);replace BB:=bt BB hb;clear hb c0 c1 c2 c3 c4 c5;obtain ⟨rn,hrn⟩:∃ r:Int,(WS m.rm k:Int)=r:=⟨_,rfl⟩
   rw [hrn] at Hno Hyes ⊢;clear hrn;by_cases hr:rn=room;rotate_left
   ·have hrb:(rn ==room)=false:=by simpa using hr
    go_wp2_with fail;go_roundw
    case rel=>exact ⟨k+1,by omega,by go_num,by rw [uh Hno hr],by rw [uh Hno hr],uh kb,uh Hv1,uh BB⟩
    case measure=>exact ms
   have hrb:(rn ==room)=true:=by simpa using hr
   obtain ⟨c0,c1,c2,c3,c4,c5⟩:=(uh kb).c6;go_wp2_with fail;refine ck (Vs (k:Int) (-1) (uh Hv1) (uh HS).guilded (by have:=(uh HS).few;omega)) fun w2 hb=> ?_;replace kb:=bl kb hb;replace Hv1:=Z9 ((uh Hv1).below hb);replace BB:=bt BB hb;clear hb c0 c1 c2 c3 c4 c5;have hub:=Ol m (k:Int) (-1);have hfew:=(uh HS).few;have hy:=uh Hyes hr;generalize XJ m (k:Int) (-1)=us at *;obtain ⟨_,_,hde,_,_,r3⟩:=(uh Hv1).dk;cases hde
   rcases r3 with e0 | ⟨db,off,rfl,hbw,hcl⟩
   ·rw [e0] at hlt;simp at hlt
   obtain ⟨d0,_,_⟩:=Yv hcl hlt;clear hcl;obtain ⟨op,hop⟩:=ZE ((Z8 m.dk k).1);rw [hop] at d0 hy;have Hy:=Z9 hy;clear hop hy Hno Hyes;have c3:=(uh kb).cell (i:=3) (v:= .slice (some ⟨db,off,none⟩) m.dk.length p3) rfl;cases op
   ·go_wp2_with fail
    go_roundw
    case rel=>exact ⟨k+1,by omega,by go_num,by rw [uh Hy];rfl,by rw [uh Hy],uh kb,uh Hv1,uh BB⟩
    case measure=>exact ms
   ·go_wp2_with (go_at_call 159;refine (TP _ _ _).mono ?_;rintro e w' ⟨rfl,h9⟩;subst w')
    go_roundw
    case rel=>exact ⟨k+1,by omega,by go_num,by rw [uh Hy];rfl,by rw [uh Hy],uh kb,uh Hv1,uh BB⟩
    case measure=>exact ms
  ·obtain rfl:k=m.dk.length:=by omega
   go_wp2_with fail
   go_ret2
   exact ⟨rfl,uh BB⟩
theorem Nv  {r:Nat} (h:Smy w v0 v1 v2 v3 v4 m) (hS:Sane m) (hr:r<m.rm.length) :
  cB 177 #[.agg #[v0,v1,v2,v3,v4,.int .i64 m.now],.int .i64 (r:Int)] w (.int .i64 (Sh m r)):=by
 have Hv:=Z9 (h.alloc (.cells #[v0,v1,v2,v3,v4,.int .i64 m.now] 40));obtain ⟨a0,p0,a1,p1,a2,p2,a3,p3,a4,p4,rfl,rfl,rfl,rfl,rfl,_,_,_,_,_,_,_,_,_,_⟩:=h.five;clear h;have HS:=Z9 hS;obtain ⟨BB0,kb0⟩:=Xr w 40 (S6 a0 p0 a1 p1 a2 p2 a3 p3 a4 p4 m);have hr1:(r:Int)<(m.rm.length:Int):=by omega
 have Hc:Hid (Sh m r=OS (ZO m.rm r) (Zd m (r:Int) m.dk.length).1 (Zd m (r:Int) m.dk.length).2):=Z9 rfl;rw [uh Hc];clear Hc hS;obtain ⟨⟨n,ps⟩,hrm⟩:=ZE (ZO m.rm r);obtain ⟨mo,hmo⟩:=ZE ((Zd m (r:Int) m.dk.length).1);obtain ⟨al,hal⟩:=ZE ((Zd m (r:Int) m.dk.length).2);rw [hrm,hmo,hal];have Hrm:=Z9 hrm;have Hmo:=Z9 hmo;have Hal:=Z9 hal;clear hrm hmo hal;go_enter func177,ntmps177;go_wp2_with fail;have hu:=RW (r:Int) (uh Hv) (uh HS);rw [uh Hmo,uh Hal] at hu;refine hu.mono ?_;clear hu;rintro e w1 ⟨rfl,hb⟩;have kb:=Z9 ((uh kb0).below hb (uh kb0).lt);replace Hv:=Z9 ((uh Hv).below hb);have BB:=Z9 ((uh BB0).trans (hb.mono (uh BB0).size));clear hb kb0 BB0;obtain ⟨_,_,hre,_,_,r0⟩:=(uh Hv).rm;cases hre
 rcases r0 with e0 | ⟨rb,off,rfl,hbw,hcl⟩
 ·rw [e0] at hr;simp at hr
 obtain ⟨d0,pv,d1,hpv⟩:=hcl r hr;rw [uh Hrm] at d0 hpv;simp only at d0 hpv;have Hpv:=Z9 hpv;obtain ⟨pa,pc,rfl,_,_,_⟩:=hpv;have c0:=(uh kb).cell (i:=0) (v:= .slice (some ⟨rb,off,none⟩) m.rm.length p0) rfl;clear hcl;go_wp2_with fail;refine ck (Tj n mo al (uh Hpv)) fun w2 hb=> ?_;replace BB:=bt BB hb;clear hb;go_wp2_with fail;go_ret;exact ⟨rfl,uh BB⟩
theorem LK  (h:Smy w v0 v1 v2 v3 v4 m) (hS:Sane m) :
  cB 169 #[.agg #[v0,v1,v2,v3,v4,.int .i64 m.now]] w (.int .i64 (OJ m)):=by
 have Hv:=Z9 (h.alloc (.cells #[v0,v1,v2,v3,v4,.int .i64 m.now] 40));obtain ⟨a0,p0,a1,p1,a2,p2,a3,p3,a4,p4,rfl,rfl,rfl,rfl,rfl,_,_,_,_,_,_,_,_,_,_⟩:=h.five;clear h;have HS:=Z9 hS;obtain ⟨BB0,kb0⟩:=Xr w 40 (S6 a0 p0 a1 p1 a2 p2 a3 p3 a4 p4 m);have h3:=(Zo hS.hall).2.1;have Hbd:=Z9 (Pc m);clear hS;go_enter func169,ntmps169;go_wp2_with fail
 go_loopw [3,4] (fun n i wr=> ∃ k:Nat,k<=m.rm.length/\i= .int .i64 k/\n= .int .i64 (Vl m k)/\Blk wr w.heap.size 40 (S6 a0 p0 a1 p1 a2 p2 a3 p3 a4 p4 m)/\Smy wr (.slice a0 m.rm.length p0) (.slice a1 m.gd.length p1) (.slice a2 m.sm.length p2) (.slice a3 m.dk.length p3) (.slice a4 m.pc.length p4) m/\Below w.heap.size w wr) (fun _ i _=>m.rm.length-(intOf i).toNat)
 case atStart=>exact ⟨0,Zi _,rfl,rfl,uh kb0,uh Hv,uh BB0⟩
 case round=>
  obtain ⟨k,hk,rfl,rfl,hkb,hv,hb0⟩:=hrel;obtain ⟨u0,u1⟩:=uh Hbd k;obtain ⟨u2,u3⟩:=uh Hbd (k+1);have hst:Vl m (k+1)=Vl m k+Sh m k:=rfl;have kb:=Z9 hkb;have Hv1:=Z9 hv;have BB:=Z9 hb0;clear hkb hv hb0 kb0 BB0 Hv;obtain ⟨c0,c1,c2,c3,c4,c5⟩:=(uh kb).c6;by_cases hlt:k<m.rm.length
  ·have hlt1:(k:Int)<(m.rm.length:Int):=by omega
   go_wp2_with fail;refine ck (Nv (uh Hv1) (uh HS) hlt) fun w1 hb=> ?_;replace kb:=bl kb hb;replace Hv1:=Z9 ((uh Hv1).below hb);replace BB:=bt BB hb;rw [hst] at u2 u3;have Hst:=Z9 hst;clear hb c0 c1 c2 c3 c4 c5 hst;generalize Sh m k=ci at *;generalize Vl m k=ct at *;go_wp2_with fail;go_roundw
   case rel=>exact ⟨k+1,by omega,by go_num,by rw [uh Hst],uh kb,uh Hv1,uh BB⟩
   case measure=>exact ms
  ·obtain rfl:k=m.rm.length:=by omega
   go_wp2_with fail;go_ret;exact ⟨rfl,uh BB⟩
theorem RX  {k:Nat} (b:Int) (h:Smy w v0 v1 v2 v3 v4 m) (hS:Sane m) (hp:m.pc.length<=1000) (hk:k<m.sm.length) (hs:(Z8 m.sm k).1 ≠ 0) :
  cB 154 #[.agg #[v0,v1,v2,v3,v4,.int .i64 m.now],.int .i64 (k:Int),.int .i64 b] w (.int .i64 (Yq m (k:Int) b)):=by
 have Hv:=Z9 (h.alloc (.cells #[v0,v1,v2,v3,v4,.int .i64 m.now] 40));obtain ⟨a0,p0,a1,p1,a2,p2,a3,p3,a4,p4,rfl,rfl,rfl,rfl,rfl,_,_,_,_,_,_,_,_,_,_⟩:=h.five;clear h;have HF:=Z9 (hS.few' hp);have HSW:=Z9 (hS.with hk hs b);have Hc:Hid (Yq m (k:Int) b=OJ (Ut m (k:Int) b)):=Z9 rfl;rw [uh Hc];have hk1:(k:Int)<(m.sm.length:Int):=by omega
 clear hS hp hs Hc;have BB0:Hid (Below w.heap.size w (w.alloc (.cells (S6 a0 p0 a1 p1 a2 p2 a3 p3 a4 p4 m) 40))):=Z9 ((ba _ _));go_enter func154,ntmps154;go_wp2_with fail;refine (XU (uh Hv) (uh HF)).mono ?_;rintro e w1 ⟨y0,y1,y2,y3,y4,oq,rfl,ho,hb⟩;have k9:=ho.smy;obtain ⟨b0,q0,b1,q1,b2,q2,b3,q3,b4,q4,rfl,rfl,rfl,rfl,rfl,_,_,_,_,_,_,_,_,_,_⟩:=k9.five;have HO:=Z9 (ho.mono (n₁:=w.heap.size) (by simp));have BB:=Z9 ((uh BB0).trans (hb.mono (uh BB0).size));clear k9 ho hb BB0 Hv;go_upto_region 2 with fail;obtain ⟨W,hW,hba,ko⟩:=YW w1 40 (S6 b0 q0 b1 q1 b2 q2 b3 q3 b4 q4 m);have LO:Hid (∀ i,WE (.slice b0 m.rm.length q0) (.slice b1 m.gd.length q1) (.slice b2 m.sm.length q2) (.slice b3 m.dk.length q3) (.slice b4 m.pc.length q4) oq i->w.heap.size<=i/\i<w1.heap.size):=Z9 (fun i e=>(uh HO).own e);replace HO:=Z9 ((uh HO).below hba);replace BB:=bt BB hba;clear hba;rw [hW];clear hW;generalize w1.heap.size=ob at *;obtain ⟨g2,hga,_,_,hc2,hz2⟩:=RecAt.view ZT (by omega) (uh HO).sm rfl (by omega);cases hga;have hg2o:=(uh LO g2 (.inr (.inr (.inr (.inl rfl)))))
 have s1:=hc2 k hk 1 _ rfl;have f1:=hz2 (k*11+1);have hp1:=(uh HO).putS rfl (j:=k) (i:=1) hk (by omega) (.int .i64 b) (((Z8 m.sm k).1,b,(Z8 m.sm k).2.2)) rfl;have hlen:(m.sm.set k (((Z8 m.sm k).1,b,(Z8 m.sm k).2.2))).length=m.sm.length:=by simp
 have hs1:Z8 (m.sm.set k (((Z8 m.sm k).1,b,(Z8 m.sm k).2.2))) k=(((Z8 m.sm k).1,b,(Z8 m.sm k).2.2)):=by rw [ZC hk,if_pos rfl]
 have hp2:=hp1.putS hlen.symm (j:=k) (i:=0) (by show k<(m.sm.set k _).length;omega) (by omega) (.int .i64 2) (SN (Z8 m.sm k) b) (by show ZZ (SN (Z8 m.sm k) b)=(ZZ (Z8 (m.sm.set k (((Z8 m.sm k).1,b,(Z8 m.sm k).2.2))) k)).set 0 _;rw [hs1];rfl);obtain ⟨_,hga,_,_,hc3,hz3⟩:=RecAt.view ZT (by omega) hp1.sm hlen.symm (by show 0<(m.sm.set k _).length;omega);cases hga;have s2:=hc3 k (by show k<(m.sm.set k _).length;omega) 0 _ rfl;have f2:=hz3 (k*11);have x2:=(uh ko).cell (i:=2) (v:= .slice (some ⟨g2,0,none⟩) m.sm.length q2) rfl;have x3:=((uh ko).other (a:=⟨g2,k*11+1,none⟩) (by show ob ≠ g2;omega) (.int .i64 b)).cell (i:=2) (v:= .slice (some ⟨g2,0,none⟩) m.sm.length q2) rfl;simp only [Nat.add_zero,List.set_set] at hp2 s2 f2;have hwm:({ m with sm:=m.sm.set k (SN (Z8 m.sm k) b) } : Z7)=Ut m (k:Int) b:=by unfold Ut;simp
 rw [hwm] at hp2;have HP:=Z9 hp2.smy;clear hc2 hz2 hc3 hz3 hp1 hp2 hwm hs1 hlen HO;go_upto_region 4 with fail;clear s1 f1 s2 f2 x2 x3;replace ko:Hid (Blk ((W.setCell ⟨g2,k*11+1,none⟩ (.int .i64 b)).setCell ⟨g2,k*11,none⟩ (.int .i64 2)) ob 40 (S6 b0 q0 b1 q1 (some ⟨g2,0,none⟩) q2 b3 q3 b4 q4 m)):=Z9 (((uh ko).other (a:=⟨g2,k*11+1,none⟩) (by show ob ≠ g2;omega) _).other (a:=⟨g2,k*11,none⟩) (by show ob ≠ g2;omega) _);replace BB:Hid (Below w.heap.size w ((W.setCell ⟨g2,k*11+1,none⟩ (.int .i64 b)).setCell ⟨g2,k*11,none⟩ (.int .i64 2))):=Z9 (((uh BB).setCell (p:=⟨g2,k*11+1,none⟩) (by show w.heap.size<=g2;omega) _).setCell (p:=⟨g2,k*11,none⟩) (by show w.heap.size<=g2;omega) _);generalize (W.setCell ⟨g2,k*11+1,none⟩ (.int .i64 b)).setCell ⟨g2,k*11,none⟩ (.int .i64 2)=W3 at *;obtain ⟨c0,c1,c2,c3,c4,c5⟩:=(uh ko).c6;go_wp2_with fail;refine ck (LK (m:=Ut m (k:Int) b) (uh HP) (uh HSW)) fun w5 hb=> ?_;replace BB:=bt BB hb;clear hb;go_wp2_with fail;go_ret;exact ⟨rfl,uh BB⟩
theorem Tv  {q:Bool} (hq:ZJ m=q) (h:Smy w v0 v1 v2 v3 v4 m):cB 30 #[.agg #[v0,v1,v2,v3,v4,.int .i64 m.now]] w (.bool q):=by
 have:=Ve h;rw [hq] at this;exact this
theorem Qp  {b:Int} {q:Bool} (hq:VM m b=q) (h:Smy w v0 v1 v2 v3 v4 m) :
  cB 138 #[.agg #[v0,v1,v2,v3,v4,.int .i64 m.now],.int .i64 b] w (.bool q):=by
 have hq2:inB b 0 ((m.dk.length:Int)-1)=q:=hq;clear hq;obtain ⟨a0,p0,rfl,_,_⟩:=IsRooms.shape h.rm;obtain ⟨a1,p1,rfl,_,_⟩:=IsRec.shape h.gd;obtain ⟨a2,p2,rfl,_,_⟩:=IsRec.shape h.sm;obtain ⟨a3,p3,rfl,hc3,hm3⟩:=IsRec.shape h.dk;obtain ⟨a4,p4,rfl,_,_⟩:=IsRec.shape h.pc;clear h;go_enter func138,ntmps138;go_wp2_with (go_at_call 27;refine (Z4 _ _ _ _).mono ?_;rw [hq2];rintro e w' ⟨rfl,h9⟩;subst w')
 go_ret;exact ⟨rfl,(ba _ _)⟩
def UF (n₀:Nat) (M:Z7) (c:Int) (e:Ending) (w':World):Prop:=
 ∃ u0 u1 u2 u3 u4 qs,e= .returned (.tuple #[.agg #[u0,u1,u2,u3,u4,.int .i64 M.now],.int .i64 c])/\FullSmy n₀ w' u0 u1 u2 u3 u4 M qs
theorem VN  {who:Int} {q:Bool} (hq:Vq m who=q) (h:Smy w v0 v1 v2 v3 v4 m) :
  cB 133 #[.agg #[v0,v1,v2,v3,v4,.int .i64 m.now],.int .i64 who] w (.bool q):=by
 subst hq;obtain ⟨a0,p0,rfl,_,_⟩:=IsRooms.shape h.rm;obtain ⟨a1,p1,rfl,_,_⟩:=IsRec.shape h.gd;obtain ⟨a2,p2,rfl,hc2,hm2,r2⟩:=h.sm;obtain ⟨a3,p3,rfl,_,_⟩:=IsRec.shape h.dk;obtain ⟨a4,p4,rfl,_,_⟩:=IsRec.shape h.pc;clear h;have Ba:Hid (Below w.heap.size w (w.alloc (.cells (S6 a0 p0 a1 p1 a2 p2 a3 p3 a4 p4 m) 40))):=Z9 ((ba _ _));cases hi:inB who 0 ((m.sm.length:Int)-1)
 ·have hw:Vq m who=false:=by unfold Vq;rw [hi];rfl
  have Hi:=Z9 hi;rw [hw];clear hi hw r2;go_enter func133,ntmps133;go_wp2_with (go_at_call 27;refine (Z4 _ _ _ _).mono ?_;rw [uh Hi];rintro e w' ⟨rfl,h9⟩;subst w')
  go_ret;exact ⟨rfl,uh Ba⟩
 ·obtain ⟨i0,i1⟩:=ZS hi
  obtain ⟨k,rfl⟩:∃ k:Nat,who=k:=⟨who.toNat,by omega⟩
  have hk:k<m.sm.length:=by omega
  have hw:Vq m (k:Int)= !((Z8 m.sm k).1 ==0):=by unfold Vq;rw [hi];simp
  rcases r2 with e0 | ⟨sb,off,rfl,hbw,hcl⟩
  ·rw [e0] at hk;simp at hk
  obtain ⟨d0,_⟩:=YM hcl hk;have Hi:=Z9 hi;rw [hw];clear hi hw hcl;have hk1:(k:Int)<(m.sm.length:Int):=by omega
  generalize (Z8 m.sm k).1=st at *;go_enter func133,ntmps133;go_wp2_with (go_at_call 27;refine (Z4 _ _ _ _).mono ?_;rw [uh Hi];rintro e w' ⟨rfl,h9⟩;subst w')
  go_ret;exact ⟨rfl,uh Ba⟩
def Ro (m:Z7) (r:Int):Bool:=inB r 0 ((m.rm.length:Int)-1)
theorem Ll {b:Int} (h:Ro m b=true):∃ k:Nat,b=(k:Int)/\k<m.rm.length:=by
 have:=ZS (show inB b 0 ((m.rm.length:Int)-1)=true from h);exact ⟨b.toNat,by omega,by omega⟩
theorem JT  {b:Int} {q:Bool} (hq:Ro m b=q) (h:Smy w v0 v1 v2 v3 v4 m) :
  cB 143 #[.agg #[v0,v1,v2,v3,v4,.int .i64 m.now],.int .i64 b] w (.bool q):=by
 have hq2:inB b 0 ((m.rm.length:Int)-1)=q:=hq;clear hq;obtain ⟨a0,p0,rfl,hc3,hm3⟩:=IsRooms.shape h.rm;obtain ⟨a1,p1,rfl,_,_⟩:=IsRec.shape h.gd;obtain ⟨a2,p2,rfl,_,_⟩:=IsRec.shape h.sm;obtain ⟨a3,p3,rfl,_,_⟩:=IsRec.shape h.dk;obtain ⟨a4,p4,rfl,_,_⟩:=IsRec.shape h.pc;clear h;go_enter func143,ntmps143;go_wp2_with (go_at_call 27;refine (Z4 _ _ _ _).mono ?_;rw [hq2];rintro e w' ⟨rfl,h9⟩;subst w')
 go_ret;exact ⟨rfl,(ba _ _)⟩
theorem Rb  {q:Bool} (hq:ZJ m=q) (h:Smy w v0 v1 v2 v3 v4 m):cB 30 #[.agg #[v0,v1,v2,v3,v4,.int .i64 m.now]] w (.bool q):=by
 have:=Ve h;rw [hq] at this;exact this
end Go.Proofs.YtmdgokjeobnnaaaGreatDoor
