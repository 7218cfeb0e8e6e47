/- Part 21 of what the proof rests on. No condition but those that a theorem names. -/
import Derived.Test.YtgdpaigcmoifbaaGreatDoorXr15
import Derived.Test.YtgdpaigcmoifbaaGreatDoorXr17
set_option maxHeartbeats 8000000
set_option maxRecDepth 100000
namespace Go.Proofs.YtgdpaigcmoifbaaGreatDoor
open Go.ChangeShapes Go.WideShapes Go.ChangeAt Go.RowKit Go.Sort Go.Proofs.Tryz
set_option linter.unusedVariables false
variable {w w' w0 w1 w2 w3 w₀ wr W W' X A B C : World} {v v0 v1 v2 v3 v4 u u0 u1 u2 u3 u4 : Value} {m : Z3}
theorem Nb {ss : List ZZ} {b : Int} {k : Nat} (h : YN ss b k = none) : ∀ n, k ≤ n → YN ss b n = none
  | 0, hn => by obtain rfl : k = 0 := by omega
                exact h
  | n + 1, hn => by
    by_cases e : k = n + 1
    · rw [← e]; exact h
    · have := Nb h n (by omega)
      unfold YN; rw [this]
theorem FW {ss:List ZZ} {b wk:Int} {wt:Bool} {k:Nat} (h:YN ss b k=some (wk,wt)) (hs:¬ ((Z8 ss k).2.1=b/\ZM (Z8 ss k)=true)):YN ss b (k+1)=some (wk,wt):=by
  unfold YN;rw [h];simp only [if_neg hs]
theorem FX {ss:List ZZ} {b wk:Int} {wt:Bool} {k:Nat} (h:YN ss b k=some (wk,wt)) (h1:(Z8 ss k).2.1=b) (h2:ZM (Z8 ss k)=true) (h3:(Z8 ss k).1=2):YN ss b (k+1)=some (wk,true):=by
  unfold YN;rw [h];simp only [if_pos (And.intro h1 h2),if_pos h3]
theorem EG {ss:List ZZ} {b wk:Int} {wt:Bool} {k:Nat} (h:YN ss b k=some (wk,wt)) (h1:(Z8 ss k).2.1=b) (h2:ZM (Z8 ss k)=true) (h3:¬ (Z8 ss k).1=2) (h4:0<=wk):YN ss b (k+1)=none:=by
  unfold YN;rw [h];simp only [if_pos (And.intro h1 h2),if_neg h3,if_pos h4]
theorem FY {ss:List ZZ} {b wk:Int} {wt:Bool} {k:Nat} (h:YN ss b k=some (wk,wt)) (h1:(Z8 ss k).2.1=b) (h2:ZM (Z8 ss k)=true) (h3:¬ (Z8 ss k).1=2) (h4:¬ 0<=wk):YN ss b (k+1)=some ((k:Int),wt):=by
  unfold YN;rw [h];simp only [if_pos (And.intro h1 h2),if_neg h3,if_neg h4]
theorem IV (h:Y2 m=false):Zl m=false:=by unfold Zl;rw [h];rfl
theorem Pe {k:Nat} (hk:k<m.dk.length) (h:Yz m k=false):Zl m=false:=by unfold Zl;rw [RK hk h];simp
theorem EL (h:Y2 m=true) (h2:(List.range m.dk.length).all (Yz m)=true):Zl m=true:=by unfold Zl;rw [h,h2];rfl
theorem Ny {k:Nat} (h:YN m.sm k m.sm.length=none):Yz m k=false:=by unfold Yz;rw [h]
theorem Nz {k:Nat} {wk:Int} {wt:Bool} (h:YN m.sm k m.sm.length=some (wk,wt)):Yz m k=((Z8 m.dk k).2.1 ==wk && !(wt && decide (wk<0))):=by unfold Yz;rw [h]
theorem Il  {q : Bool} (hq : Y2 m = q) (h : Smy w v0 v1 v2 v3 v4 m) :
    cB 61 #[.agg #[v0, v1, v2, v3, v4, .int .i64 m.now]] w (.bool q) := by
  have := Ro h; rw [hq] at this; exact this
theorem Q2  (h : Smy w v0 v1 v2 v3 v4 m) :
    cB 25 #[.agg #[v0, v1, v2, v3, v4, .int .i64 m.now]] w (.bool (Zl m)) := by
  have Hv := Z9 (h.alloc (.cells #[v0, v1, v2, v3, v4, .int .i64 m.now] 39));obtain ⟨h0, h1, h2, h3, h4⟩ := h;obtain ⟨a0, p0, rfl, hc0, hm0, _⟩ := h0;obtain ⟨a1, p1, rfl, hc1, hm1, _⟩ := h1;obtain ⟨a2, p2, rfl, hc2, hm2, r2⟩ := h2;obtain ⟨a3, p3, rfl, hc3, hm3, r3⟩ := h3;obtain ⟨a4, p4, rfl, hc4, hm4, _⟩ := h4;have R2 := Z9 r2;have R3 := Z9 r3;clear r2 r3;obtain ⟨ql, QL⟩ := WH (Y2 m);go_enter func25, ntmps25;go_wp2_with fail;refine ck (Il (uh QL) (uh Hv)) fun w1 hb => ?_;have kb : Hid (Blk w1 w.heap.size 39 (S6 a0 p0 a1 p1 a2 p2 a3 p3 a4 p4 m)) := Z9 ((Blk.new w _ _).below hb (by simp));have BB : Hid (Below w.heap.size w w1) := Z9 (((ba _ _)).trans (hb.mono (by simp)));clear hb Hv;have c3 := (uh kb).cell (i := 3) (v := .slice a3 m.dk.length p3) rfl;cases ql
  · go_wp2_with fail
    go_ret;exact ⟨Z5 (IV (uh QL)).symm, uh BB⟩
  go_wp2_with fail;clear c3
  go_loopw [3] (fun b wr => ∃ k : Nat, k ≤ m.dk.length ∧ b = .int .i64 k ∧ (List.range k).all (Yz m) = true ∧ Blk wr w.heap.size 39 (S6 a0 p0 a1 p1 a2 p2 a3 p3 a4 p4 m) ∧ Below w.heap.size w wr) (fun b _ => m.dk.length - (intOf b).toNat)
  case atStart => exact ⟨0, ZR _, rfl, rfl, uh kb, uh BB⟩
  case round =>
    obtain ⟨j, hj, rfl, hup, kb1, hb1⟩ := hrel;clear kb BB;have kb := Z9 kb1;have BB := Z9 hb1;have Hup := Z9 hup;clear kb1 hb1 hup;have c3 := (uh kb).cell (i := 3) (v := .slice a3 m.dk.length p3) rfl;by_cases hlt : j < m.dk.length
    · have c2 := (uh kb).cell (i := 2) (v := .slice a2 m.sm.length p2) rfl
      go_wp2_with fail;clear c2 c3;obtain ⟨wo, rfl⟩ : ∃ wo, wo = wr := ⟨wr, rfl⟩
      go_loopw [4, 5, 6] (fun x y i wr => ∃ (k : Nat) (wk : Int) (wt : Bool), k ≤ m.sm.length ∧ x = .int .i64 wk ∧ y = .bool wt ∧ i = .int .i64 k ∧ -1 ≤ wk ∧ wk ≤ (k : Int) ∧ YN m.sm j k = some (wk, wt) ∧ Blk wr w.heap.size 39 (S6 a0 p0 a1 p1 a2 p2 a3 p3 a4 p4 m) ∧ Below w.heap.size w wr) (fun _ _ i _ => m.sm.length - (intOf i).toNat)
      case atStart => exact ⟨0, -1, false, ZR _, rfl, rfl, rfl, by omega, by omega, rfl, uh kb, uh BB⟩
      case round =>
        obtain ⟨k, wkk, wt, hk, rfl, rfl, rfl, wk0, wk1, hsc, kb1, hb1⟩ := hrel;clear kb BB;have kb := Z9 kb1;have BB := Z9 hb1;have Hsc := Z9 hsc;clear kb1 hb1 hsc;have c2 := (uh kb).cell (i := 2) (v := .slice a2 m.sm.length p2) rfl;by_cases hls : k < m.sm.length
        · rcases uh R2 with e0 | ⟨b, off, rfl, hbw, hcl⟩
          · rw [e0] at hls; simp at hls
          obtain ⟨d0, d1, d2, d3, d4, d5, d6, d7, d8, d9, d10⟩ := ZB hcl hls;rw [← (uh BB).cell (p := ⟨b, off + k * 11, none⟩) hbw] at d0;rw [← (uh BB).cell (p := ⟨b, off + k * 11 + 1, none⟩) hbw] at d1;rw [← (uh BB).cell (p := ⟨b, off + k * 11 + 2, none⟩) hbw] at d2;rw [← (uh BB).cell (p := ⟨b, off + k * 11 + 3, none⟩) hbw] at d3;rw [← (uh BB).cell (p := ⟨b, off + k * 11 + 4, none⟩) hbw] at d4;rw [← (uh BB).cell (p := ⟨b, off + k * 11 + 5, none⟩) hbw] at d5;rw [← (uh BB).cell (p := ⟨b, off + k * 11 + 6, none⟩) hbw] at d6;rw [← (uh BB).cell (p := ⟨b, off + k * 11 + 7, none⟩) hbw] at d7;rw [← (uh BB).cell (p := ⟨b, off + k * 11 + 8, none⟩) hbw] at d8;rw [← (uh BB).cell (p := ⟨b, off + k * 11 + 9, none⟩) hbw] at d9;rw [← (uh BB).cell (p := ⟨b, off + k * 11 + 10, none⟩) hbw] at d10;clear hcl;have S1 := Z9 (fun hs => FW (uh Hsc) hs);have S2 := Z9 (fun h1 h2 h3 => FX (uh Hsc) h1 h2 h3);have S3 := Z9 (fun h1 h2 h3 h4 => EG (uh Hsc) h1 h2 h3 h4);have S4 := Z9 (fun h1 h2 h3 h4 => FY (uh Hsc) h1 h2 h3 h4);generalize Z8 m.sm k = ss at *;obtain ⟨st, be, rk, my, gu, lo, hi, hd, ca, ut, wk⟩ := ss;simp only at d0 d1 d2 d3 d4 d5 d6 d7 d8 d9 d10;have hl0 : w.heap.size < wr.heap.size := (uh kb).lt;by_cases hbe : be = (j : Int)
          rotate_left
          · have hbn : (be != (j : Int)) = true := by simpa using hbe
            go_wp2_with fail;go_roundw
            case rel => exact ⟨k + 1, wkk, wt, by omega, rfl, rfl, by go_num, by omega, by omega, uh S1 (fun h9 => hbe h9.1), (uh kb).alloc _, (uh BB).alloc (uh BB).size _⟩
            case measure => exact ms
          subst hbe;have hbn : ((j : Int) != (j : Int)) = false := by simp
          obtain ⟨ps, Hps⟩ := WH (ZM (st, (j : Int), rk, my, gu, lo, hi, hd, ca, ut, wk));go_wp2_with fail;clear c2 d0 d1 d2 d3 d4 d5 d6 d7 d8 d9 d10;refine ck (Yx (uh Hps) _) fun w2 hb => ?_;have ks : Hid (Blk w2 wr.heap.size 59 (I11 st (j : Int) rk my gu lo hi hd ca ut wk)) := Z9 ((Blk.new wr _ _).below hb (by simp));replace kb := Z9 (((uh kb).alloc (.cells (I11 st (j : Int) rk my gu lo hi hd ca ut wk) 59)).below hb (by simp; omega));replace BB := Z9 ((((uh BB).alloc (uh BB).size (.cells (I11 st (j : Int) rk my gu lo hi hd ca ut wk) 59))).trans (hb.mono (by simp; have := (uh BB).size; omega)));clear hb hl0;have d0 := (uh ks).cell (i := 0) (v := .int .i64 st) rfl;cases ps
          · go_wp2_with fail
            go_roundw
            case rel => exact ⟨k + 1, wkk, wt, by omega, rfl, rfl, by go_num, by omega, by omega, uh S1 (fun h9 => by have h8 := h9.2; rw [uh Hps] at h8; cases h8), uh kb, uh BB⟩
            case measure => exact ms
          by_cases hst : st = 2
          · subst hst
            go_wp2_with fail;go_roundw
            case rel => exact ⟨k + 1, wkk, true, by omega, rfl, rfl, by go_num, by omega, by omega, uh S2 (by first | rfl | trivial) (uh Hps) (by first | rfl | trivial), uh kb, uh BB⟩
            case measure => exact ms
          have hsn : (st == 2) = false := by simpa using hst
          by_cases hw0 : 0 ≤ wkk
          · go_wp2_with fail
            go_ret;exact ⟨Z5 (Pe hlt (Ny (Nb (uh S3 (by first | rfl | trivial) (uh Hps) hst hw0) _ (by omega)))).symm, uh BB⟩
          go_wp2_with fail;go_roundw
          case rel => exact ⟨k + 1, (k : Int), wt, by omega, rfl, rfl, by go_num, by omega, by omega, uh S4 (by first | rfl | trivial) (uh Hps) hst hw0, uh kb, uh BB⟩
          case measure => exact ms
        · obtain rfl : k = m.sm.length := by omega
          have c3 := (uh kb).cell (i := 3) (v := .slice a3 m.dk.length p3) rfl
          rcases uh R3 with e0 | ⟨b', off', rfl, hbw', hcl'⟩
          · rw [e0] at hlt; simp at hlt
          obtain ⟨_, t1, _⟩ := Zg hcl' hlt;rw [← (uh BB).cell (p := ⟨b', off' + j * 3 + 1, none⟩) hbw'] at t1;clear hcl';have HB := Z9 (Nz (uh Hsc));have HL := Z9 (Pe (m := m) hlt);have HU := Z9 (show (List.range (j + 1)).all (Yz m) = ((List.range j).all (Yz m) && Yz m j) from UN j);generalize Z8 m.dk j = dd at *;obtain ⟨op, who, mk⟩ := dd;simp only at t1;by_cases hwho : who = wkk;rotate_left
          · have hwn : (who != wkk) = true := by simpa using hwho
            go_wp2_with fail;go_ret;exact ⟨Z5 (uh HL (by rw [uh HB]; simp [hwho])).symm, uh BB⟩
          have hwn : (who != wkk) = false := by simpa using hwho
          have Hwho := Z9 hwho;clear hwho;cases wt
          · go_wp2_with fail
            go_roundw
            case rel => exact ⟨j + 1, by omega, by go_num, by rw [uh HU, uh Hup, uh HB, uh Hwho]; simp, uh kb, uh BB⟩
            case measure => exact ms
          by_cases hw0 : wkk < 0
          · go_wp2_with fail
            go_ret;exact ⟨Z5 (uh HL (by rw [uh HB]; simp [hw0])).symm, uh BB⟩
          go_wp2_with fail;go_roundw
          case rel => exact ⟨j + 1, by omega, by go_num, by rw [uh HU, uh Hup, uh HB, uh Hwho]; simp; omega, uh kb, uh BB⟩
          case measure => exact ms
    · obtain rfl : j = m.dk.length := by omega
      go_wp2_with fail;go_ret;exact ⟨Z5 (EL (uh QL) (uh Hup)).symm, uh BB⟩
theorem MT  (b:Int) (h:Smy w v0 v1 v2 v3 v4 m) (hl:m.sm.length<=800) :
  Calls prog 115 #[.agg #[v0,v1,v2,v3,v4,.int .i64 m.now],.int .i64 b] w fun e w'=> ∃ v',e= .returned v'/\EntsAt w.heap.size w' v' (atV m.sm b m.sm.length)/\Below w.heap.size w w':=by
 obtain ⟨h0,h1,h2,h3,h4⟩:=h;obtain ⟨a0,p0,rfl,hc0,hm0,_⟩:=h0;obtain ⟨a1,p1,rfl,hc1,hm1,_⟩:=h1;obtain ⟨a2,p2,rfl,hc2,hm2,r2⟩:=h2;obtain ⟨a3,p3,rfl,hc3,hm3,_⟩:=h3;obtain ⟨a4,p4,rfl,hc4,hm4,_⟩:=h4;have R2:=Z9 r2;clear r2;have kb0:Hid (Blk ((w.alloc (.cells (S6 a0 p0 a1 p1 a2 p2 a3 p3 a4 p4 m) 39)).alloc (.cells #[] 138)) w.heap.size 39 (S6 a0 p0 a1 p1 a2 p2 a3 p3 a4 p4 m)):=Z9 ((Blk.new w _ _).alloc _);have BB0:Hid (Below w.heap.size w ((w.alloc (.cells (S6 a0 p0 a1 p1 a2 p2 a3 p3 a4 p4 m) 39)).alloc (.cells #[] 138))):=Z9 (((ba _ _)).alloc (by simp) _);have E0:Hid (EntsAt w.heap.size ((w.alloc (.cells (S6 a0 p0 a1 p1 a2 p2 a3 p3 a4 p4 m) 39)).alloc (.cells #[] 138)) (.slice (some ⟨w.heap.size+1,0,none⟩) 0 0) []):=Z9 (Wl (by simp) (by omega));go_enter func115,ntmps115;go_wp2_with fail
 go_loopw [5,6] (fun q i wr=> ∃ k:Nat,k<=m.sm.length/\i= .int .i64 k/\EntsAt w.heap.size wr q (atV m.sm b k)/\Blk wr w.heap.size 39 (S6 a0 p0 a1 p1 a2 p2 a3 p3 a4 p4 m)/\Below w.heap.size w wr) (fun _ i _=>m.sm.length-(intOf i).toNat)
 case atStart=>exact ⟨0,ZR _,rfl,uh E0,uh kb0,uh BB0⟩
 case round=>
  obtain ⟨k,hk,rfl,he,kb1,hb1⟩:=hrel;obtain ⟨qa,qcap,rfl⟩:=EntsAt.shape he;have kb:=Z9 kb1;have BB:=Z9 hb1;have He:=Z9 he;clear kb1 hb1 he kb0 BB0 E0;have hal:=TU m.sm b k;have c2:=(uh kb).cell (i:=2) (v:= .slice a2 m.sm.length p2) rfl;by_cases hls:k<m.sm.length
  ·rcases uh R2 with e0 | ⟨sb,off,rfl,hbw,hcl⟩
   ·rw [e0] at hls;simp at hls
   obtain ⟨d0,d1,d2,d3,d4,d5,d6,d7,d8,d9,d10⟩:=ZB hcl hls;rw [<-(uh BB).cell (p:=⟨sb,off+k*11,none⟩) hbw] at d0;rw [<-(uh BB).cell (p:=⟨sb,off+k*11+1,none⟩) hbw] at d1;rw [<-(uh BB).cell (p:=⟨sb,off+k*11+2,none⟩) hbw] at d2;rw [<-(uh BB).cell (p:=⟨sb,off+k*11+3,none⟩) hbw] at d3;rw [<-(uh BB).cell (p:=⟨sb,off+k*11+4,none⟩) hbw] at d4;rw [<-(uh BB).cell (p:=⟨sb,off+k*11+5,none⟩) hbw] at d5;rw [<-(uh BB).cell (p:=⟨sb,off+k*11+6,none⟩) hbw] at d6;rw [<-(uh BB).cell (p:=⟨sb,off+k*11+7,none⟩) hbw] at d7;rw [<-(uh BB).cell (p:=⟨sb,off+k*11+8,none⟩) hbw] at d8;rw [<-(uh BB).cell (p:=⟨sb,off+k*11+9,none⟩) hbw] at d9;rw [<-(uh BB).cell (p:=⟨sb,off+k*11+10,none⟩) hbw] at d10;clear hcl;have S1:=Z9 (fun hs=>UP (ss:=m.sm) (b:=b) (k:=k) hs);have S2:=Z9 (fun h1 h2=>Vz (ss:=m.sm) (b:=b) (k:=k) h1 h2);generalize Z8 m.sm k=ss at *;obtain ⟨st,be,rk,my,gu,lo,hi,hd,ca,ut,wk⟩:=ss;simp only at d0 d1 d2 d3 d4 d5 d6 d7 d8 d9 d10;have hl0:w.heap.size<wr.heap.size:=(uh kb).lt;by_cases hbe:be=b;rotate_left
   ·have hbn:(be ==b)=false:=by simpa using hbe
    go_wp2_with fail;go_roundw
    case rel=>exact ⟨k+1,by omega,by go_num,by rw [uh S1 (fun h9=>hbe h9.1)];exact EntsAt.later (uh He) ((ba _ _)),(uh kb).alloc _,(uh BB).alloc (uh BB).size _⟩
    case measure=>exact ms
   subst hbe;have hbn:(be ==be)=true:=by simp
   obtain ⟨ps,Hps⟩:=WH (ZM (st,be,rk,my,gu,lo,hi,hd,ca,ut,wk));go_wp2_with fail;clear c2 d0 d1 d2 d3 d4 d5 d6 d7 d8 d9 d10;refine ck (Yx (uh Hps) _) fun w2 hb=> ?_;have ks:Hid (Blk w2 wr.heap.size 59 (I11 st be rk my gu lo hi hd ca ut wk)):=Z9 ((Blk.new wr _ _).below hb (by simp));replace kb:=Z9 (((uh kb).alloc (.cells (I11 st be rk my gu lo hi hd ca ut wk) 59)).below hb (by simp;omega));have hba:=((Z0 wr.heap.size wr).alloc (ZY _) (.cells (I11 st be rk my gu lo hi hd ca ut wk) 59)).trans (hb.mono (by simp));replace He:=Z9 (EntsAt.later (uh He) hba);replace BB:=bt BB hba;clear hb hl0 hba;have d7:=(uh ks).cell (i:=7) (v:= .int .i64 hd) rfl;cases ps
   ·go_wp2_with fail
    go_roundw
    case rel=>exact ⟨k+1,by omega,by go_num,by rw [uh S1 (fun h9=>by have h8:=h9.2;rw [uh Hps] at h8;cases h8)];exact uh He,uh kb,uh BB⟩
    case measure=>exact ms
   go_wp2_with fail;refine (FB hd (k:Int) (EntsAt.pc (uh He)) (by omega)).mono ?_;rintro e w3 ⟨v3,rfl,he3,hb⟩;have hsz:=(uh BB).size;have he4:=EntsAt.mono he3 hsz;replace kb:=bl kb hb;replace BB:=Z9 ((uh BB).trans (hb.mono hsz));obtain ⟨qa3,qcap3,rfl⟩:=EntsAt.shape he4;have He4:=Z9 he4;clear hb he3 he4 d7;go_wp2_with fail;go_roundw
   case rel=>exact ⟨k+1,by omega,by go_num,by rw [uh S2 (by first | rfl | trivial) (uh Hps)];exact uh He4,uh kb,uh BB⟩
   case measure=>exact ms
  ·obtain rfl:k=m.sm.length:=by omega
   go_wp2_with fail;go_ret;exact ⟨_,rfl,uh He,uh BB⟩
open Go.ChangeShapes Go.WideShapes Go.ChangeAt Go.RowKit Go.Sort
theorem CO  {q:Bool} (hq:Zl m=q) (h:Smy w v0 v1 v2 v3 v4 m):cB 25 #[.agg #[v0,v1,v2,v3,v4,.int .i64 m.now]] w (.bool q):=by
 have:=Q2 h;rw [hq] at this;exact this
end Go.Proofs.YtgdpaigcmoifbaaGreatDoor
