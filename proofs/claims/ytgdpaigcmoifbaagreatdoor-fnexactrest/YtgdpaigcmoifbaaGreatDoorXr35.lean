/- Part 35 of what the proof rests on. No condition but those that a theorem names. -/
import Derived.Test.YtgdpaigcmoifbaaGreatDoorXr30
import Derived.Test.YtgdpaigcmoifbaaGreatDoorXr33
import Derived.Test.YtgdpaigcmoifbaaGreatDoorXr34
set_option maxHeartbeats 8000000
set_option maxRecDepth 100000
namespace Go.Proofs.YtgdpaigcmoifbaaGreatDoor
open Go.ChangeShapes Go.WideShapes Go.ChangeAt Go.RowKit Go.Sort Go.Shelf Go.Proofs.Tryz
set_option linter.unusedVariables false
set_option linter.unusedSimpArgs false
set_option maxRecDepth 100000
attribute [local go_sem] Mc Dm
theorem Pc {w:World} {v:Value} {n0:Nat} {us:List YU} (h:YX n0 w v us) (hl:us.length<=1000):cB 178 #[v] w (.int .i64 (Tu us).1):=by
 obtain ⟨ua,uc,rfl⟩:=RecAt.shape h;have H0:=Z9 h;clear h;go_enter func178,ntmps178;go_wp2_with fail
 go_loopw [3,4,9] (fun c t i wr=> ∃ j:Nat,j<=us.length/\i= .int .i64 j/\c= .int .i64 (Tu (us.take j)).1/\t= .int .i64 (Tu (us.take j)).2/\Below w.heap.size w wr) (fun _ _ i _=>us.length-(intOf i).toNat)
 case atStart=>exact ⟨0,ZR _,rfl,rfl,rfl,Z0 _ _⟩
 case round=>
  obtain ⟨j,hj,rfl,rfl,rfl,hb⟩:=hrel;have HU:=Z9 (RecAt.later (uh H0) hb);have BB:=Z9 hb;clear hb;by_cases hlt:j<us.length
  ·have hlt1:(j:Int)<(us.length:Int):=by omega
   have HR:=Z9 (FV hlt);generalize hcm:Tu (us.take j)=cm at *;clear hcm;obtain ⟨ch,mo⟩:=cm;obtain ⟨g,rfl,hgl,hgw,hcl,_⟩:=RecAt.view Xj (by omega) (uh HU) rfl (by omega);have z0:=TX hcl hlt;clear hcl;generalize hx:Z8 us j=x at *;clear hx;obtain ⟨bx,ux,fx⟩:=x;simp only at z0;unfold Rx at HR;simp only at HR ⊢;by_cases h1:ch= -1
   ·subst h1
    rw [if_pos (.inl rfl)] at HR;go_upto_region 6 with fail;go_wp2_with (first | (go_at_call 334;refine (SJ _ _ _ _).mono ?_;rintro e w1 ⟨rfl,hb⟩;replace BB:=bt BB hb;clear hb) | (go_at_call 335;refine (Ni _ _ _ _).mono ?_;rintro e w2 ⟨rfl,hb⟩;replace BB:=bt BB hb;clear hb))
    go_roundw
    case rel=>exact ⟨j+1,by omega,by go_num,by rw [uh HR],by rw [uh HR],uh BB⟩
    case measure=>exact ms
   ·have h1b:(ch == -1)=false:=beq_eq_false_iff_ne.mpr h1
    obtain ⟨sp,hsp⟩:=ZI (Yr ux fx);have HSP:=Z9 (fun X=>Calls.int_of (Ni bx ux fx X) hsp);rw [hsp] at HR;clear hsp;go_upto_region 5 with fail;go_wp2_with fail;refine ck (uh HSP _) fun w1 hb=> ?_;replace BB:=bt BB hb;clear hb;by_cases h2:mo<sp
    ·rw [if_pos (.inr h2)] at HR
     go_upto_region 6 with fail;go_wp2_with (first | (go_at_call 334;refine (SJ _ _ _ _).mono ?_;rintro e w2 ⟨rfl,hb⟩;replace BB:=bt BB hb;clear hb) | (go_at_call 335;refine (uh HSP _).mono ?_;rintro e w3 ⟨rfl,hb⟩;replace BB:=bt BB hb;clear hb))
     go_roundw
     case rel=>exact ⟨j+1,by omega,by go_num,by rw [uh HR],by rw [uh HR],uh BB⟩
     case measure=>exact ms
    ·rw [if_neg (not_or.2 ⟨h1,h2⟩)] at HR
     go_wp2_with fail;go_roundw
     case rel=>exact ⟨j+1,by omega,by go_num,by rw [uh HR],by rw [uh HR],uh BB⟩
     case measure=>exact ms
  ·obtain rfl:j=us.length:=by omega
   rw [List.take_length];go_wp2_with fail;go_ret;exact ⟨rfl,uh BB⟩
theorem PL {w:World} {v0 v1 v2 v3 v4:Value} {m:Z3} {k n0:Nat} {v:Value} {fs:List Int} (h:Smy w v0 v1 v2 v3 v4 m) (A:Asks m k) (hf:NumsAt n0 w v fs) (hl:fs.length<=1000):cB 180 #[.agg #[v0,v1,v2,v3,v4,.int .i64 m.now],.int .i64 (k:Int),v] w (.int .i64 (VQ m (k:Int) fs).1):=by
 obtain ⟨ua,uc,rfl⟩:=RecAt.shape hf;have HA:=Z9 A;have hk:=A.hk;clear A;have H0:=Z9 (RecAt.later hf ((Z0 _ _).alloc (ZY _) (.cells #[v0,v1,v2,v3,v4,.int .i64 m.now] 39)));clear hf;obtain ⟨a0,p0,a1,p1,a2,p2,a3,p3,a4,p4,rfl,rfl,rfl,rfl,rfl,K⟩:=Bx.new h;clear h;go_enter func180,ntmps180;go_wp2_with fail;generalize w.alloc (.cells (S6 a0 p0 a1 p1 a2 p2 a3 p3 a4 p4 m) 39)=W at *
 go_loopw [7,8,14] (fun c t i wr=> ∃ j:Nat,j<=fs.length/\i= .int .i64 j/\c= .int .i64 (VQ m (k:Int) (fs.take j)).1/\t= .int .i64 (VQ m (k:Int) (fs.take j)).2/\Bx w wr w.heap.size a0 p0 a1 p1 a2 p2 a3 p3 a4 p4 m/\Below W.heap.size W wr) (fun _ _ i _=>fs.length-(intOf i).toNat)
 case atStart=>exact ⟨0,ZR _,rfl,rfl,rfl,K,Z0 _ _⟩
 case round=>
  obtain ⟨j,hj,rfl,rfl,rfl,hK,hb⟩:=hrel;clear K;have K:=hK;have HU:=Z9 (RecAt.later (uh H0) hb);have BB:=Z9 hb;clear hb hK;by_cases hlt:j<fs.length
  ·have hlt1:(j:Int)<(fs.length:Int):=by omega
   have HR:=Z9 (GX (m:=m) (who:=(k:Int)) hlt);obtain ⟨g,rfl,hgl,hgw,hcl,_⟩:=RecAt.view Yd (by omega) (uh HU) rfl (by omega);have z0:=hcl j hlt 0 _ rfl;simp only [Nat.mul_one,Nat.add_zero] at z0;clear hcl;generalize hx:Z8 fs j=bx at *;clear hx;generalize hcm:VQ m (k:Int) (fs.take j)=cm at *;clear hcm;obtain ⟨ch,mo⟩:=cm;unfold Ya at HR;rw [Zm] at HR;simp only at HR ⊢;obtain ⟨cw,hcw⟩:=ZI (Zt m (k:Int) bx);rw [hcw] at HR;have Hcw:=Z9 hcw;clear hcw;obtain ⟨c0,c1,c2,c3,c4,c5⟩:=K.cells;go_wp2_with fail;refine ck (GZ (uh Hcw) K.smy (uh HA).sane (uh HA).wants hk (uh HA).hs) fun w1 hb=> ?_;replace K:=K.next hb;replace BB:=bt BB hb;clear hb c0 c1 c2 c3 c4 c5 z0 HU Hcw;by_cases h1:ch= -1
   ·subst h1
    rw [if_pos (.inl rfl)] at HR;go_wp2_with fail;go_roundw
    case rel=>exact ⟨j+1,by omega,by go_num,by rw [uh HR],by rw [uh HR],K,uh BB⟩
    case measure=>exact ms
   have h1b:(ch == -1)=false:=beq_eq_false_iff_ne.mpr h1;by_cases h2:cw<mo
   ·rw [if_pos (.inr (.inl h2))] at HR
    go_wp2_with fail;go_roundw
    case rel=>exact ⟨j+1,by omega,by go_num,by rw [uh HR],by rw [uh HR],K,uh BB⟩
    case measure=>exact ms
   by_cases h3:cw=mo
   ·have h3b:(cw ==mo)=true:=beq_iff_eq.mpr h3
    have hk1:(k:Int)<(m.sm.length:Int):=by omega
    obtain ⟨_,_,hse,_,_,r2⟩:=K.smy.sm;cases hse
    rcases r2 with e0 | ⟨sb,off,rfl,hbw,hcs⟩
    ·rw [e0] at hk;simp at hk
    obtain ⟨d0,d1,d2,d3,d4,d5,d6,d7,d8,d9,d10⟩:=ZB hcs hk;have c2:=K.blk.cell (i:=2) (v:= .slice (some ⟨sb,off,none⟩) m.sm.length p2) rfl;clear hcs d0 d2 d3 d4 d5 d6 d7 d8 d9 d10;generalize (Z8 m.sm k).2.1=own at *;subst h3;clear h3b;by_cases h4:bx=own
    ·have h4b:(bx ==own)=true:=beq_iff_eq.mpr h4
     rw [if_pos (.inr (.inr ⟨rfl,h4⟩))] at HR;subst h4;go_wp2_with fail;go_roundw
     case rel=>exact ⟨j+1,by omega,by go_num,by rw [uh HR],by rw [uh HR],K,uh BB⟩
     case measure=>exact ms
    ·have h4b:(bx ==own)=false:=beq_eq_false_iff_ne.mpr h4
     rw [if_neg (not_or.2 ⟨h1,not_or.2 ⟨h2,fun e=>h4 e.2⟩⟩)] at HR;go_wp2_with fail;go_roundw
     case rel=>exact ⟨j+1,by omega,by go_num,by rw [uh HR],by rw [uh HR],K,uh BB⟩
     case measure=>exact ms
   ·have h3b:(cw ==mo)=false:=beq_eq_false_iff_ne.mpr h3
    rw [if_neg (not_or.2 ⟨h1,not_or.2 ⟨h2,fun e=>h3 e.1⟩⟩)] at HR;go_wp2_with fail;go_roundw
    case rel=>exact ⟨j+1,by omega,by go_num,by rw [uh HR],by rw [uh HR],K,uh BB⟩
    case measure=>exact ms
  ·obtain rfl:j=fs.length:=by omega
   rw [List.take_length];go_wp2_with fail;go_ret;exact ⟨rfl,K.bb⟩
attribute [local go_sem] Mb
theorem JZ {w:World} {v0 v1 v2 v3 v4:Value} {m:Z3} {q:Bool} (hq:XA m=q) (h:Smy w v0 v1 v2 v3 v4 m) (hS:Sane m) (hT:Wants m):cB 177 #[.agg #[v0,v1,v2,v3,v4,.int .i64 m.now]] w (.bool q):=by
 have Hq2:Hid ((Yp m m.dk.length).any (fun x=>WB x.2.1 x.2.2)=q):=Z9 ((Fp m).trans hq);clear hq;have hl:=hS.few;have h8:=hS.eight;have hfl:=Uh m m.dk.length;have HT:=Z9 hT;clear hT hS;obtain ⟨a0,p0,a1,p1,a2,p2,a3,p3,a4,p4,rfl,rfl,rfl,rfl,rfl,K⟩:=Bx.new h;clear h;go_enter func177,ntmps177;go_wp2_with fail;generalize w.alloc (.cells (S6 a0 p0 a1 p1 a2 p2 a3 p3 a4 p4 m) 39)=W at *;refine (RH K.smy (uh HT) hl (by omega)).mono ?_;rintro e w2 ⟨v2,rfl,hu,hb⟩;replace K:=K.next hb;clear hb;generalize Yp m m.dk.length=us at *;obtain ⟨ua,uc,rfl⟩:=RecAt.shape hu;have H0:=Z9 hu;clear hu;go_wp2_with fail
 go_loopw [8] (fun i wr=> ∃ j:Nat,j<=us.length/\i= .int .i64 j/\(∀ i,i<j->(fun x:YU=>WB x.2.1 x.2.2) (Z8 us i)=false)/\Bx w wr w.heap.size a0 p0 a1 p1 a2 p2 a3 p3 a4 p4 m/\Below w2.heap.size w2 wr) (fun i _=>us.length-(intOf i).toNat)
 case atStart=>exact ⟨0,ZR _,rfl,fun i hi=>by omega,K,Z0 _ _⟩
 case round=>
  obtain ⟨j,hj,rfl,hno,hK,hb⟩:=hrel;clear K;have K:=hK;have HU:=Z9 (RecAt.later (uh H0) hb);have BB:=Z9 hb;have Hno:=Z9 hno;clear hb hK hno;by_cases hlt:j<us.length
  ·have hlt1:(j:Int)<(us.length:Int):=by omega
   obtain ⟨pq,hpq⟩:=ZI ((fun x:YU=>WB x.2.1 x.2.2) (Z8 us j));have HY:=Z9 (fun hh:pq=true=>Dg hlt (p:=(fun x:YU=>WB x.2.1 x.2.2)) (hpq.trans hh))
   have HX:Hid (pq=false-> ∀ i,i<j+1->(fun x:YU=>WB x.2.1 x.2.2) (Z8 us i)=false):=Z9 (fun hh i hi=>by
    by_cases e:i=j
    ·rw [e,hpq,hh]
    ·exact uh Hno i (by omega))
   have Hpq:=Z9 hpq;clear hpq;obtain ⟨g,rfl,hgl,hgw,hcl,_⟩:=RecAt.view Xj (by omega) (uh HU) rfl (by omega);have z0:=TX hcl hlt;clear hcl;generalize hx:Z8 us j=x at *;clear hx;obtain ⟨bx,ux,fx⟩:=x;simp only at z0;go_upto_region 4 with fail;go_wp2_with fail;refine ck (Calls.bool_of (Oq _ _ _ _) (uh Hpq)) fun w3 hb=> ?_;replace K:=K.next hb;replace BB:=bt BB hb;clear hb z0;cases pq
   ·go_wp2_with fail
    go_roundw
    case rel=>exact ⟨j+1,by omega,by go_num,uh HX (by trivial),K,uh BB⟩
    case measure=>exact ms
   ·obtain rfl:q=true:=(uh Hq2).symm.trans (uh HY (by trivial))
    go_wp2_with fail;go_ret;exact ⟨rfl,K.bb⟩
  ·obtain rfl:j=us.length:=by omega
   obtain rfl:q=false:=(uh Hq2).symm.trans (Cp (uh Hno));go_wp2_with fail;go_ret;exact ⟨rfl,K.bb⟩
attribute [local go_sem] Mc Dn
theorem D4 {wn:Int} {us:List YU} {j:Nat} (hj:j<us.length) (h:XC wn (Z8 us j)=true):((us.take (j+1)).filter (XC wn)).map (·.1)=((us.take j).filter (XC wn)).map (·.1)++[(Z8 us j).1]:=by rw [Om hj h,List.map_append];rfl
theorem D5 {wn:Int} {us:List YU} {j:Nat} (hj:j<us.length) (h:XC wn (Z8 us j)=false):((us.take (j+1)).filter (XC wn)).map (·.1)=((us.take j).filter (XC wn)).map (·.1):=by rw [MJ hj h]
theorem LK {w:World} {v0 v1 v2 v3 v4:Value} {m:Z3} {k:Nat} {q:List Int} (hq:Zc m (k:Int)=q) (h:Smy w v0 v1 v2 v3 v4 m) (A:Asks m k):Calls prog 176 #[.agg #[v0,v1,v2,v3,v4,.int .i64 m.now],.int .i64 (k:Int)] w fun e w'=> ∃ v',e= .returned v'/\NumsAt w.heap.size w' v' q/\Below w.heap.size w w':=by
 have hq:((WA m (k:Int) m.dk.length).filter (XC (Zy m (k:Int)))).map (·.1)=q:=(Mi m (k:Int) m.dk.length).trans hq;have hfl:=A.few;have HA:=Z9 A;have HW9:=Z9 (fun (X:World) (hX:Smy X v0 v1 v2 v3 v4 m)=>Pv hX A.wants A.hk A.hs);clear A;obtain ⟨wn,hwn⟩:=ZI (Zy m (k:Int));rw [hwn] at hq HW9;have Hq:=Z9 hq;clear hwn hq;have Hs:=Z9 h;obtain ⟨a0,p0,a1,p1,a2,p2,a3,p3,a4,p4,rfl,rfl,rfl,rfl,rfl,K⟩:=Bx.new h;clear h;go_enter func176,ntmps176;go_wp2_with fail;generalize w.alloc (.cells (S6 a0 p0 a1 p1 a2 p2 a3 p3 a4 p4 m) 39)=W at *;refine ck (uh HW9 _ K.smy) fun w1 hb=> ?_;replace K:=K.next hb;clear hb HW9;obtain ⟨c0,c1,c2,c3,c4,c5⟩:=K.cells;have hsz:=K.blk.lt;go_wp2_with fail;clear c0 c1 c2 c3 c4 c5;have HL:Hid (NumsAt (w.heap.size+1) (w1.alloc (.cells #[] 2)) (.slice (some ⟨w1.heap.size,0,none⟩) 0 0) []):=Z9 (Zh rfl (by omega));replace K:=K.alloc (.cells #[] 2);generalize w1.alloc (.cells #[] 2)=W1 at *;generalize w1.heap.size=lb at *;refine (SU K.smy (uh HA)).mono ?_;rintro e w2 ⟨v2,rfl,hu,hb⟩;have hsp:∀ i,v2.ownBlock=some i->(Value.slice (some ⟨lb,0,none⟩) 0 0).ownBlock ≠ some i:=fun i e e2=>by have:=(RecAt.lt hu e).1;have:=(RecAt.lt (uh HL) e2).2;omega
 have hu2:YX W1.heap.size w2 v2 (WA m (k:Int) m.dk.length):=hu;replace K:=K.next hb;replace HL:=Z9 (RecAt.later (uh HL) hb);clear hb hu;generalize WA m (k:Int) m.dk.length=us at *;obtain ⟨ua,uc,rfl⟩:=RecAt.shape hu2;have HU:=Z9 hu2;have Hsp:=Z9 hsp;clear hu2 hsp;go_wp2_with fail
 go_loopw [6,17] (fun l i wr=> ∃ j:Nat,j<=us.length/\i= .int .i64 j/\NumsAt (w.heap.size+1) wr l (((us.take j).filter (XC wn)).map (·.1))/\YX W1.heap.size wr (.slice ua us.length uc) us/\(∀ i,(Value.slice ua us.length uc).ownBlock=some i->l.ownBlock ≠ some i)/\Bx w wr w.heap.size a0 p0 a1 p1 a2 p2 a3 p3 a4 p4 m) (fun _ i _=>us.length-(intOf i).toNat)
 case atStart=>exact ⟨0,ZR _,rfl,uh HL,uh HU,uh Hsp,K⟩
 case round=>
  obtain ⟨j,hj,rfl,hln,hun,hsp,hK⟩:=hrel;clear K HL HU Hsp;have K:=hK;clear hK;obtain ⟨la,lc,rfl⟩:=RecAt.shape hln;have HL:=Z9 hln;have HU:=Z9 hun;have Hsp:=Z9 hsp;have hgl9:(((us.take j).filter (XC wn)).map (·.1)).length<=8:=by have e1:=List.length_filter_le (XC wn) (us.take j);have e2:(us.take j).length<=us.length:=(by simp;omega);simp only [List.length_map];omega
  clear hln hun hsp;by_cases hlt:j<us.length
  ·have hlt1:(j:Int)<(us.length:Int):=by omega
   have HY:=Z9 (fun hh=>D4 (wn:=wn) hlt hh);have HN:=Z9 (fun hh=>D5 (wn:=wn) hlt hh);obtain ⟨tq,htq⟩:=ZI (XC wn (Z8 us j));rw [htq] at HY HN;have Htq:=Z9 htq;clear htq;generalize ((us.take j).filter (XC wn)).map (·.1)=ls at *;obtain ⟨g,rfl,hgl,hgw,hcl,_⟩:=RecAt.view Xj (by omega) (uh HU) rfl (by omega);have z0:=TX hcl hlt;clear hcl;generalize hx:Z8 us j=x at *;clear hx;obtain ⟨bx,ux,fx⟩:=x;simp only at z0;go_upto_region 6 with fail;go_wp2_with fail;refine ck (Calls.bool_of (F7 wn bx ux fx _) (uh Htq)) fun w3 hb=> ?_;replace K:=K.next hb;replace HL:=Z9 (RecAt.later (uh HL) hb);replace HU:=Z9 (RecAt.later (uh HU) hb);clear hb z0;cases tq
   ·go_wp2_with fail
    go_roundw
    case rel=>exact ⟨j+1,by omega,by go_num,by rw [uh HN (by trivial)];exact uh HL,uh HU,uh Hsp,K⟩
    case measure=>exact ms
   ·go_wp2_with fail
    refine ck (SJ _ _ _ _) fun w4 hb=> ?_;replace K:=K.next hb;replace HL:=Z9 (RecAt.later (uh HL) hb);replace HU:=Z9 (RecAt.later (uh HU) hb);clear hb;have hsx:=K.blk.lt;go_wp2_with (at_builtin;refine ZN tyN rfl (.tmp 24) (.tmp 27) 28 underlying28 rfl (w.heap.size+1) _ _ ls [bx] rfl rfl (RecAt.later (uh HL) ((ba _ _))) (Wa bx rfl (ZY _) (by omega)) (by simp;omega) (by simp;omega) ?_;intro u9 w9 hp9 hg9 hat9;have HP9:=Z9 hp9;have HG9:=Z9 hg9;have HA9:=Z9 hat9;clear hp9 hg9 hat9)
    have hgo:∀ i,(Value.slice la ls.length lc).ownBlock=some i->w.heap.size<=i/\i ≠ w.heap.size:=fun i e=>by have:=(RecAt.lt (uh HL) e).1;omega
    replace K:=(K.alloc _).grown (uh Hs) (uh HG9) hgo;have hul:=fun i e=>(RecAt.lt (uh HU) (i:=i) e).2
    have hsp9:∀ i,(Value.slice (some ⟨g,0,none⟩) us.length uc).ownBlock=some i->u9.ownBlock ≠ some i:=by
     intro i e e2
     rcases uh HA9 with h9 | h9
     ·rw [h9] at e2;exact uh Hsp i e e2
     ·rw [h9] at e2
      have:=hul i e;simp at e2;omega
    replace HU:=Z9 (RecAt.grown (RecAt.later (uh HU) ((ba _ _))) (uh HG9) (uh Hsp));go_wp2_with fail;go_roundw
    case rel=>exact ⟨j+1,by omega,by go_num,by rw [uh HY (by trivial)];exact uh HP9,uh HU,hsp9,K⟩
    case measure=>exact ms
  ·obtain rfl:j=us.length:=by omega
   have e9:((us.take us.length).filter (XC wn)).map (·.1)=q:=by rw [List.take_length];exact uh Hq
   have E9:=Z9 e9;clear e9;go_wp2_with fail;go_ret;exact ⟨_,rfl,by rw [<-uh E9];exact RecAt.mono (uh HL) (Nat.le_succ _),K.bb⟩
theorem Jw {w:World} {v0 v1 v2 v3 v4:Value} {m:Z3} {k:Nat} {q:Int} (hq:YL m (k:Int)=q) (h:Smy w v0 v1 v2 v3 v4 m) (A:Asks m k):cB 146 #[.agg #[v0,v1,v2,v3,v4,.int .i64 m.now],.int .i64 (k:Int)] w (.int .i64 q):=by
 rw [GY] at hq;have Hq:=Z9 hq;clear hq;obtain ⟨fs,hfs⟩:=ZI (Zc m (k:Int));have Hfs:=Z9 hfs
 have hfl:fs.length<=1000:=by
  rw [<-hfs,show Zc m (k:Int)=((WA m (k:Int) m.dk.length).filter (XC (Zy m (k:Int)))).map (·.1) from (Mi m (k:Int) m.dk.length).symm,List.length_map];have:=List.length_filter_le (XC (Zy m (k:Int))) (WA m (k:Int) m.dk.length);have:=A.few;omega
 rw [hfs] at Hq;obtain ⟨cr,hcr⟩:=ZI (XA m);have Hcr:=Z9 hcr;rw [hcr] at Hq;clear hfs hcr;have hul:=A.few;have HA:=Z9 A;clear A;obtain ⟨a0,p0,a1,p1,a2,p2,a3,p3,a4,p4,rfl,rfl,rfl,rfl,rfl,K⟩:=Bx.new h;clear h;go_enter func146,ntmps146;go_wp2_with fail;generalize w.alloc (.cells (S6 a0 p0 a1 p1 a2 p2 a3 p3 a4 p4 m) 39)=W at *;refine (LK (uh Hfs) K.smy (uh HA)).mono ?_;rintro e w1 ⟨v1,rfl,hn,hb⟩;replace K:=K.next hb;clear hb;obtain ⟨na,nc,rfl⟩:=RecAt.shape hn;have HN:=Z9 hn;clear hn;obtain ⟨c0,c1,c2,c3,c4,c5⟩:=K.cells;go_wp2_with fail;refine ck (JZ (uh Hcr) K.smy (uh HA).sane (uh HA).wants) fun w2 hb=> ?_;replace K:=K.next hb;replace HN:=Z9 (RecAt.later (uh HN) hb);clear hb c0 c1 c2 c3 c4 c5 Hcr;obtain ⟨c0,c1,c2,c3,c4,c5⟩:=K.cells;by_cases hcond:(cr || decide (fs.length=0))=true
 ·rw [hcond,if_pos rfl] at Hq
  obtain rfl:=(uh Hq).symm
  have hrun:cr=true\/(cr=false/\fs.length=0):=by
   cases cr
   ·right;exact ⟨rfl,by simpa using hcond⟩
   ·exact .inl rfl
  clear hcond Hq
  rcases hrun with rfl | ⟨rfl,h0⟩
  all_goals
   try (obtain rfl:=List.eq_nil_of_length_eq_zero h0;clear h0)
   go_wp2_with fail;refine (SU K.smy (uh HA)).mono ?_;rintro e w3 ⟨v3,rfl,hu,hb⟩;replace K:=K.next hb;have HU:=Z9 hu;clear hb hu c0 c1 c2 c3 c4 c5;go_wp2_with fail;refine ck (Pc (uh HU) (by omega)) fun w4 hb=> ?_;replace K:=K.next hb;clear hb;go_wp2_with fail;go_ret;exact ⟨rfl,K.bb⟩
 ·obtain rfl:cr=false:=(by cases cr<;>first | rfl | simp at hcond)
  have h0:¬ fs.length=0:=by simpa using hcond
  rw [Bool.false_or,decide_eq_false h0,if_neg (by simp)] at Hq;obtain rfl:=(uh Hq).symm;clear hcond Hq;have h0i:¬ ((fs.length:Int)=0):=by omega
  have h0b:((fs.length:Int) ==0)=false:=beq_eq_false_iff_ne.mpr h0i;clear h0;go_wp2_with fail;refine ck (PL K.smy (uh HA) (uh HN) hfl) fun w3 hb=> ?_;replace K:=K.next hb;clear hb c0 c1 c2 c3 c4 c5;go_wp2_with fail;go_ret;exact ⟨rfl,K.bb⟩
theorem NA {w:World} {v0 v1 v2 v3 v4:Value} {m:Z3} {who:Int} {q:Bool} (hq:(Zl m && Xd m who)=q) (h:Smy w v0 v1 v2 v3 v4 m):cB 145 #[.agg #[v0,v1,v2,v3,v4,.int .i64 m.now],.int .i64 who] w (.bool q):=by
 obtain ⟨wn,hwn⟩:=ZI (SN m who);have Hwn:=Z9 hwn;have hw9:=(TD m who).1
 have Hd:Hid ((wn == -1)= !q):=Z9 (by
  rw [<-hwn,<-hq];unfold SN;cases (Zl m && Xd m who)
  ·rfl
  ·simp;omega)
 clear hwn hq hw9;obtain ⟨a0,p0,a1,p1,a2,p2,a3,p3,a4,p4,rfl,rfl,rfl,rfl,rfl,K⟩:=Bx.new h;clear h;go_enter func145,ntmps145;go_wp2_with fail;generalize w.alloc (.cells (S6 a0 p0 a1 p1 a2 p2 a3 p3 a4 p4 m) 39)=W at *;refine ck (OE (uh Hwn) K.smy) fun w1 hb=> ?_;replace K:=K.next hb;clear hb Hwn;have hd:=uh Hd;cases q
 ·obtain rfl:wn= -1:=by simpa using hd
  clear hd Hd;go_wp2_with fail;go_ret;exact ⟨rfl,K.bb⟩
 ·have hne:Hid ((wn != -1)=true):=Z9 (by show (!(wn == -1))=true;rw [hd];rfl)
  clear hd Hd;go_wp2_with fail;go_ret;exact ⟨congrArg (fun x=>Ending.returned (.bool x)) (uh hne),K.bb⟩
theorem S7 {w:World} {v0 v1 v2 v3 v4:Value} {m:Z3} {who q:Int} (hq:ZA m who=q) (h:Smy w v0 v1 v2 v3 v4 m):cB 103 #[.agg #[v0,v1,v2,v3,v4,.int .i64 m.now],.int .i64 who] w (.int .i64 q):=by
 obtain ⟨ok,hok⟩:=ZI ((Zl m && Xd m who));have Hok:=Z9 hok;have Hq:=Z9 hq;clear hok hq;obtain ⟨a0,p0,a1,p1,a2,p2,a3,p3,a4,p4,rfl,rfl,rfl,rfl,rfl,K⟩:=Bx.new h;clear h;go_enter func103,ntmps103;go_wp2_with fail;generalize w.alloc (.cells (S6 a0 p0 a1 p1 a2 p2 a3 p3 a4 p4 m) 39)=W at *;refine ck (NA (uh Hok) K.smy) fun w1 hb=> ?_;replace K:=K.next hb;clear hb;cases ok
 ·obtain rfl:q= -1:=by rw [<-uh Hq];unfold ZA;rw [uh Hok];rfl
  go_wp2_with fail;go_ret;exact ⟨rfl,K.bb⟩
 have hq2:YL m who=q:=by rw [<-uh Hq];unfold ZA;rw [uh Hok];rfl
 have ho:=uh Hok;simp only [ZJ] at ho;obtain ⟨k,rfl,hk,hs⟩:=Xn ho.2;have HA:=Z9 ((Za ho.1).asks hk hs);clear ho Hok Hq;obtain ⟨c0,c1,c2,c3,c4,c5⟩:=K.cells;go_wp2_with fail;refine ck (Jw hq2 K.smy (uh HA)) fun w2 hb=> ?_;replace K:=K.next hb;clear hb c0 c1 c2 c3 c4 c5;go_wp2_with fail;go_ret;exact ⟨rfl,K.bb⟩
end Go.Proofs.YtgdpaigcmoifbaaGreatDoor
namespace Go.Proofs.YtgdpaigcmoifbaaGreatDoor
open Go.ChangeShapes Go.WideShapes Go.ChangeAt Go.RowKit Go.Sort Go.Shelf Go.Proofs.Tryz
set_option linter.unusedVariables false
set_option linter.unusedSimpArgs false
set_option maxRecDepth 100000
theorem FT {w W:World} {R:Nat} {v0 v1 v2 v3 v4:Value} {m:Z3} {qs:List (Z4 × Value)} {q:Int->Addr} (K:Nx w W R v0 v1 v2 v3 v4 m qs) (he:Errs w q) (hm:Zl m=true) (who:Int):Calls prog 39 #[.pointer (some ⟨R,0,none⟩),.int .i64 who] W fun e W'=>Chg w R q (Qo m who) (TJ m who) e W':=by
 obtain ⟨wq,Hwq⟩:=WH (Xd m who);have HM:=Z9 hm;have HE:=Z9 he;clear hm he;obtain ⟨c0,c1,c2,c3,c4,c5⟩:=K.cells;go_enter func39,ntmps39;go_wp2_with fail;refine ck (U3 (uh Hwq) K.full.smy) fun w1 hb=> ?_;replace K:=K.next hb;clear hb c0 c1 c2 c3 c4 c5;cases wq
 ·have hc0:TJ m who=1:=by unfold TJ;rw [uh Hwq];rfl
  have x1:=((uh HE).below K.bb).c1;go_wp2_with fail;go_ret
  first | exact Chg.no K.bb hc0 (by omega) | exact Chg.no K.bb rfl (by omega)
 obtain ⟨k,rfl,hk,hs⟩:=Xn (uh Hwq);have hk1:(k:Int)<(m.sm.length:Int):=by omega
 obtain ⟨a2,p2,rfl⟩:=RecAt.shape K.full.sm;obtain ⟨g2,rfl,hg2,hg2w,hc2,hz2⟩:=RecAt.view ZV (by omega) K.full.sm rfl (by omega);obtain ⟨s0,s1,s2,s3,s4,s5,s6,s7,s8,s9,s10⟩:=EF (hc2 k hk);obtain ⟨⟨st,be,rk,my,gu,lo,hi,hd,ca,ut,wk⟩,hrk⟩:=ZI (Z8 m.sm k);rw [hrk] at s0 s1 s2 s3 s4 s5 s6 s7 s8 s9 s10;simp only [Nat.add_zero] at s0 s1 s2 s3 s4 s5 s6 s7 s8 s9 s10;have Hrk:=Z9 hrk;have f0:=hz2 (k*11);obtain ⟨_,_,c2,_,_,_⟩:=K.cells;clear hc2 hz2 hrk;go_wp2_with fail;refine ck (RR st be rk my gu lo hi hd ca ut wk _) fun w2 hb=> ?_;replace K:=K.next hb;clear hb c2 f0 s0 s1 s2 s3 s4 s5 s6 s7 s8 s9 s10;by_cases hst:st=1
 ·subst hst
  have hc0:TJ m (k:Int)=2:=by unfold TJ;rw [uh Hwq,Zm,uh Hrk];rfl
  have x1:=((uh HE).below K.bb).c2;go_wp2_with fail;go_ret
  first | exact Chg.no K.bb hc0 (by omega) | exact Chg.no K.bb rfl (by omega)
 have n0:(st ==1)=false:=by simpa using hst
 rw [n0];have hc0:TJ m (k:Int)=0:=by unfold TJ;rw [uh Hwq,Zm,uh Hrk];simp [hst]
 have hx0:Qo m (k:Int)=setS m k (1,be,rk,my,gu,lo,hi,hd,ca,ut,wk):=by unfold Qo;rw [Zm,uh Hrk];rfl
 have K1:=K.putS rfl hk (i:=0) (by omega) (.int .i64 1) (1,be,rk,my,gu,lo,hi,hd,ca,ut,wk) (by rw [uh Hrk];rfl);obtain ⟨_,hga,_,_,hc2,hz2⟩:=RecAt.view ZV (by omega) K.full.sm rfl (by omega);cases hga;have s0:=hc2 k hk 0 _ rfl;have f0:=hz2 (k*11);obtain ⟨_,_,c2,_,_,_⟩:=K.cells;simp only [Nat.add_zero] at s0 K1;have HK:=Z9 K1;clear K1 hc2 hz2;go_wp2_with fail;go_ret;exact Chg.yes (uh HK) hc0 hx0
theorem Ir {w W:World} {R:Nat} {v0 v1 v2 v3 v4:Value} {m:Z3} {qs:List (Z4 × Value)} {q:Int->Addr} (K:Nx w W R v0 v1 v2 v3 v4 m qs) (he:Errs w q) (hm:Zl m=true) (who:Int):Calls prog 56 #[.pointer (some ⟨R,0,none⟩),.int .i64 who] W fun e W'=>Chg w R q (Th m who) (UT m who) e W':=by
 obtain ⟨wq,Hwq⟩:=WH (Xd m who);have HM:=Z9 hm;have HE:=Z9 he;clear hm he;obtain ⟨c0,c1,c2,c3,c4,c5⟩:=K.cells;go_enter func56,ntmps56;go_wp2_with fail;refine ck (U3 (uh Hwq) K.full.smy) fun w1 hb=> ?_;replace K:=K.next hb;clear hb c0 c1 c2 c3 c4 c5;cases wq
 ·have hc0:UT m who=1:=by unfold UT;rw [uh Hwq];rfl
  have x1:=((uh HE).below K.bb).c1;go_wp2_with fail;go_ret
  first | exact Chg.no K.bb hc0 (by omega) | exact Chg.no K.bb rfl (by omega)
 obtain ⟨k,rfl,hk,hs⟩:=Xn (uh Hwq);have hk1:(k:Int)<(m.sm.length:Int):=by omega
 obtain ⟨a2,p2,rfl⟩:=RecAt.shape K.full.sm;obtain ⟨g2,rfl,hg2,hg2w,hc2,hz2⟩:=RecAt.view ZV (by omega) K.full.sm rfl (by omega);obtain ⟨s0,s1,s2,s3,s4,s5,s6,s7,s8,s9,s10⟩:=EF (hc2 k hk);obtain ⟨⟨st,be,rk,my,gu,lo,hi,hd,ca,ut,wk⟩,hrk⟩:=ZI (Z8 m.sm k);rw [hrk] at s0 s1 s2 s3 s4 s5 s6 s7 s8 s9 s10;simp only [Nat.add_zero] at s0 s1 s2 s3 s4 s5 s6 s7 s8 s9 s10;have Hrk:=Z9 hrk;obtain ⟨f0,f1,f2,f3,f4,f5,f6,f7,f8,f9,f10⟩:=Cd hz2 (k*11);obtain ⟨_,_,c2,_,_,_⟩:=K.cells;clear hc2 hz2 hrk;have hc0:UT m (k:Int)=0:=by unfold UT;rw [uh Hwq];rfl
 have hx0:Th m (k:Int)=setS m k TF:=by unfold Th;rw [Zm]
 have K1:=K.putW rfl hk TF;rw [show Zz (TF)=[.int .i64 0,.int .i64 0,.int .i64 0,.int .i64 0,.int .i64 0,.int .i64 0,.int .i64 0,.int .i64 0,.int .i64 0,.int .i64 0,.int .i64 0] from rfl,CM] at K1;have HK:=Z9 K1;clear K1;go_wp2_with fail;go_ret;exact Chg.yes (uh HK) hc0 hx0
theorem Gg {w W:World} {R:Nat} {v0 v1 v2 v3 v4:Value} {m:Z3} {qs:List (Z4 × Value)} {q:Int->Addr} (K:Nx w W R v0 v1 v2 v3 v4 m qs) (he:Errs w q) (hm:Zl m=true) (who:Int):Calls prog 63 #[.pointer (some ⟨R,0,none⟩),.int .i64 who] W fun e W'=>Chg w R q (W7 m who.toNat (ZA m who)) (VO m who) e W':=by
 obtain ⟨wq,Hwq⟩:=WH (Xd m who);have HM:=Z9 hm;have HE:=Z9 he;clear hm he;obtain ⟨c0,c1,c2,c3,c4,c5⟩:=K.cells;go_enter func63,ntmps63;go_wp2_with fail;refine ck (U3 (uh Hwq) K.full.smy) fun w1 hb=> ?_;replace K:=K.next hb;clear hb c0 c1 c2 c3 c4 c5;cases wq
 ·have hc0:VO m who=1:=by unfold VO;rw [uh Hwq];rfl
  have x1:=((uh HE).below K.bb).c1;go_wp2_with fail;go_ret
  first | exact Chg.no K.bb hc0 (by omega) | exact Chg.no K.bb rfl (by omega)
 obtain ⟨k,rfl,hk,hs⟩:=Xn (uh Hwq);have hk1:(k:Int)<(m.sm.length:Int):=by omega
 obtain ⟨hA,bn,hbn,hbnl⟩:=RM (Za (uh HM)) hk hs;clear hA;obtain ⟨a2,p2,rfl⟩:=RecAt.shape K.full.sm;obtain ⟨g2,rfl,hg2,hg2w,hc2,hz2⟩:=RecAt.view ZV (by omega) K.full.sm rfl (by omega);obtain ⟨s0,s1,s2,s3,s4,s5,s6,s7,s8,s9,s10⟩:=EF (hc2 k hk);obtain ⟨⟨st,be,rk,my,gu,lo,hi,hd,ca,ut,wk⟩,hrk⟩:=ZI (Z8 m.sm k);rw [hrk] at s0 s1 s2 s3 s4 s5 s6 s7 s8 s9 s10;simp only [Nat.add_zero] at s0 s1 s2 s3 s4 s5 s6 s7 s8 s9 s10;have Hrk:=Z9 hrk;rw [hrk] at hbn hs;simp only at hbn hs;subst hbn;obtain ⟨_,_,c2,_,_,_⟩:=K.cells;clear hc2 hz2 hrk;go_upto_region 4 with fail;obtain ⟨W1,hW1,hba,ks⟩:=U7 w1 59 (I11 st (bn:Int) rk my gu lo hi hd ca ut wk);replace K:=K.next hba;clear hba c2 s0 s1 s2 s3 s4 s5 s6 s7 s8 s9 s10;rw [hW1];clear hW1;generalize w1.heap.size=sb at *;obtain ⟨b,Hb⟩:=WH (ZA m (k:Int));obtain ⟨c0,c1,c2,c3,c4,c5⟩:=K.cells;go_wp2_with fail;refine ck (S7 (uh Hb) K.full.smy) fun w2 hb=> ?_;replace K:=K.next hb;replace ks:=bl ks hb;clear hb c0 c1 c2 c3 c4 c5;obtain ⟨e0,e1,e2,e3,e4,e5,e6,e7,e8,e9,e10⟩:=(uh ks).c11;go_wp2_with fail;refine ck (RR st (bn:Int) rk my gu lo hi hd ca ut wk _) fun w3 hb=> ?_;replace K:=K.next hb;replace ks:=bl ks hb;clear hb e0 e1 e2 e3 e4 e5 e6 e7 e8 e9 e10;by_cases hst:st=1;rotate_left
 ·have n0:(st ==1)=false:=by simpa using hst
  rw [n0];have hc0:VO m (k:Int)=2:=by unfold VO;rw [uh Hwq,Zm,uh Hrk];simp [hst]
  have x1:=((uh HE).below K.bb).c2;go_wp2_with fail;go_ret
  first | exact Chg.no K.bb hc0 (by omega) | exact Chg.no K.bb rfl (by omega)
 subst hst;by_cases hbn1:b= -1
 ·subst hbn1
  have hc0:VO m (k:Int)=2:=by unfold VO;rw [uh Hwq,Zm,uh Hrk,uh Hb];rfl
  have x1:=((uh HE).below K.bb).c2;go_wp2_with fail;go_ret
  first | exact Chg.no K.bb hc0 (by omega) | exact Chg.no K.bb rfl (by omega)
 obtain ⟨bb,hbl,rfl⟩:∃ bb:Nat,bb<m.dk.length/\b=(bb:Int):=by
  have hcv:ZA m (k:Int)=YL m (k:Int):=by unfold ZA;rw [uh HM,uh Hwq];rfl
  have:=uh Hb;rw [hcv] at this
  rcases Wj m (k:Int) with ⟨e,_⟩ | ⟨bb,hbl,e,_⟩
  ·exact absurd (this.symm.trans e) hbn1
  ·exact ⟨bb,hbl,this.symm.trans e⟩
 have hbl1:(bb:Int)<(m.dk.length:Int):=by omega
 have hbnl1:(bn:Int)<(m.dk.length:Int):=by omega
 have hbne:decide ((bb:Int)= -1)=false:=TG hbn1;obtain ⟨a3,p3,rfl⟩:=RecAt.shape K.full.dk;obtain ⟨g3,rfl,hg3,hg3w,hc3,hz3⟩:=RecAt.view ZF (by omega) K.full.dk rfl (by omega);obtain ⟨mk,hmk⟩:=ZI ((Z8 m.dk bb).2.2);obtain ⟨mf,hmf⟩:=ZI ((Z8 m.dk bn).2.2);have d1:=hc3 bb hbl 2 (.int .i64 mk) (by rw [<-hmk];rfl);have d2:=hc3 bn hbnl 2 (.int .i64 mf) (by rw [<-hmf];rfl);obtain ⟨_,_,_,c3,_,_⟩:=K.cells;obtain ⟨_,e1,_,_,_,_,_,e7,_,_,_⟩:=(uh ks).c11;have hhad:WG m (Z8 m.sm k) (bb:Int)=Zx (Zr hd mf mk) mk:=by unfold WG XX;rw [uh Hrk];show Zx (Zr hd (Z8 m.dk ((bn:Int)).toNat).2.2 (Z8 m.dk ((bb:Int)).toNat).2.2) (Z8 m.dk ((bb:Int)).toNat).2.2=_;rw [Zm,Zm,hmf,hmk]
 have hmkb:XX m (bb:Int)=mk:=by unfold XX;rw [Zm,hmk]
 have Hhad:=Z9 hhad;have Hmkb:=Z9 hmkb;clear hc3 hz3 hmk hmf hhad hmkb;have hst2:((1:Int) ==1)=true:=rfl;rw [hst2];go_upto_region 8 with fail;have k1:=Z1 c3;have k2:=Z1 d1;have k3:=Z1 d2;have k4:=Z1 e1;have k5:=Z1 e7;refine wq ?_
 repeat (go_big_quiet_step (first | exact ZX (NJ _ _ _ _) | exact ZX (OB _ _ _)))
 refine wqn fun wq hb=> ?_;replace K:=K.next hb;clear hb c3 d1 d2 e1 e7 k1 k2 k3 k4 k5 ks;generalize Zx (Zr hd mf mk) mk=hn at *;go_wp2_with fail;refine ck (S8 hn mk _) fun w4 hb=> ?_;replace K:=K.next hb;clear hb;have hbq:WU hn mk=Yl hn mk:=by unfold WU Yl XB;cases inB hn (-1000000000000) 1000000000000<;>rfl
 rw [hbq];clear hbq;obtain ⟨qb,hqb⟩:=ZI (Yl hn mk);have Hqb:=Z9 hqb;rw [hqb];clear hqb;cases qb
 ·have hc0:VO m (k:Int)=4:=by unfold VO;rw [uh Hwq,Zm,uh Hb,uh Hhad,uh Hmkb,uh Hqb,uh Hrk];simp
  have x1:=((uh HE).below K.bb).c4;go_wp2_with fail;go_ret
  first | exact Chg.no K.bb hc0 (by omega) | exact Chg.no K.bb rfl (by omega)
 have hc0:VO m (k:Int)=0:=by unfold VO;rw [uh Hwq,Zm,uh Hb,uh Hhad,uh Hmkb,uh Hqb,uh Hrk];simp
 have hx0:W7 m ((k:Int)).toNat (ZA m (k:Int))=setS m k (R1 (Z8 m.sm k) (bb:Int) hn):=by unfold W7;rw [Zm,uh Hb,uh Hhad]
 obtain ⟨_,_,c2,_,_,_⟩:=K.cells;go_wp2_with fail;refine ck (OY K rfl hk (bb:Int) hn) fun w5 K5=> ?_;have HK:=Z9 K5;clear K5 c2;go_wp2_with fail;go_ret;exact Chg.yes (uh HK) hc0 hx0
theorem EX {n:Nat} {rank may guild:Int} (h:Zi (ZE rank may guild)=true):Xc n (ZE rank may guild)=decide (guild<(n:Int)):=by
 obtain ⟨_,_,_,_,⟨g0,_⟩,_⟩:=Xu (Tn h);unfold Xc XW;show ((1:Int) ==0 || (guild == -1 || (decide (0<=guild) && decide (guild<(n:Int)))))=_;by_cases e:guild= -1
 ·subst e
  have:decide ((-1:Int)<(n:Int))=true:=Sf (by omega);rw [this];rfl
 ·have e2:(guild == -1)=false:=by simpa using e
  rw [e2,decide_eq_true (show 0<=guild by omega)];rfl
theorem Nx.pushS {w W W9:World} {R:Nat} {v0 v1 v2 v3 v4 u:Value} {m:Z3} {qs:List (Z4 × Value)} {s:ZZ} {Y:World} (h:Nx w W R v0 v1 v2 v3 v4 m qs) (hb:Below W.heap.size W Y) (hg:Y.grownBy W9 v2.ownBlock) (hat:u.ownBlock=v2.ownBlock\/u.ownBlock=some Y.heap.size) (hr:SmithsAt w.heap.size W9 u (m.sm++[s])):Blk W9 R 39 #[v0,v1,v2,v3,v4,.int .i64 m.now]/\Nx w (W9.setCell ⟨R,2,none⟩ u) R v0 v1 u v3 v4 (pushS m s) qs:=by
 have hsz:=hb.size;have hlt:=h.blk.lt;have kb:Blk W9 R 39 #[v0,v1,v2,v3,v4,.int .i64 m.now]:=(h.blk.below hb h.blk.lt).same (hg.block R (by omega) (fun e=>h.own R (.inr (.inr (.inr (.inl e.symm)))) rfl))
 have hown:∀ k,WX v0 v1 u v3 v4 qs k->k ≠ R:=fun k e=>by
  rcases e with e | e | e | e | e | e
  ·exact h.own k (.inl e)
  ·exact h.own k (.inr (.inl e))
  ·exact h.own k (.inr (.inr (.inl e)))
  ·rcases hat with e' | e'
   ·exact h.own k (.inr (.inr (.inr (.inl (e'.symm.trans e)))))
   ·rw [e'] at e
    have e8:=Option.some.inj e;omega
  ·exact h.own k (.inr (.inr (.inr (.inr (.inl e)))))
  ·exact h.own k (.inr (.inr (.inr (.inr (.inr e)))))
 have hp:=h.full.pushS hb hg hat hr;refine ⟨kb,hp.set_off (fun k e=>hown k e) _ _,kb.set 2 u,hown,?_,h.hR⟩;refine VZ ?_ h.hR _;exact (h.bb.trans (hb.mono h.bb.size)).grown hg (by have:=h.bb.size;omega) (fun k e=>(h.full.own (k:=k) (.inr (.inr (.inr (.inl e))))).1)
theorem Fo {w W:World} {R:Nat} {v0 v1 v2 v3 v4:Value} {m:Z3} {qs:List (Z4 × Value)} {q:Int->Addr} (K:Nx w W R v0 v1 v2 v3 v4 m qs) (he:Errs w q) (hm:Zl m=true) (rank may guild:Int):Calls prog 66 #[.pointer (some ⟨R,0,none⟩),.agg (I11 0 0 rank may guild 0 1024 0 0 0 0)] W fun e W'=>Chg w R q (P9 m rank may guild) (UZ m rank may guild) e W':=by
 have h12:=Wq (Za hm);have HM:=Z9 hm;have HE:=Z9 he;clear hm he;have ks:Hid (Blk (W.alloc (.cells (I11 1 0 rank may guild 0 1024 0 0 0 0) 59)) W.heap.size 59 (I11 1 0 rank may guild 0 1024 0 0 0 0)):=Z9 (Blk.new _ _ _);have hba:Below W.heap.size W (W.alloc (.cells (I11 1 0 rank may guild 0 1024 0 0 0 0) 59)):=ba _ _;have Hown:Hid (∀ k,WX v0 v1 v2 v3 v4 qs k->k<W.heap.size):=Z9 (fun k e=>(K.full.own e).2);replace K:=K.next hba;clear hba;go_enter func66,ntmps66;go_upto_region 2 with fail;generalize W.alloc (.cells (I11 1 0 rank may guild 0 1024 0 0 0 0) 59)=W1 at *;have Hsb:Hid (W.heap.size<W1.heap.size/\ ∀ k,WX v0 v1 v2 v3 v4 qs k->k<W.heap.size):=Z9 ⟨(uh ks).lt,uh Hown⟩;clear Hown;generalize W.heap.size=sb at *;obtain ⟨sk,hsk⟩:=ZI (Zi (ZE rank may guild));have Hsk:=Z9 hsk;have HS:=Z9 (fun X=>Calls.bool_of (TI 1 0 rank may guild 0 1024 0 0 0 0 X) hsk);clear hsk;obtain ⟨a1,p1,rfl⟩:=RecAt.shape K.full.gd;obtain ⟨e0,e1,e2,e3,e4,e5,e6,e7,e8,e9,e10⟩:=(uh ks).c11;obtain ⟨c0,c1,c2,c3,c4,c5⟩:=K.cells;have ke0:=Z1 e0;have ke1:=Z1 e1;have ke2:=Z1 e2;have ke3:=Z1 e3;have ke4:=Z1 e4;have ke5:=Z1 e5;have ke6:=Z1 e6;have ke7:=Z1 e7;have ke8:=Z1 e8;have ke9:=Z1 e9;have ke10:=Z1 e10;have kc1:=Z1 c1;cases sk
 ·
  refine wq ?_
  repeat (go_big_quiet_step (exact ZX (uh HS _)))
  refine wqn fun wq hb=> ?_;replace K:=K.next hb;clear hb c0 c1 c2 c3 c4 c5 kc1 ke0 ke1 ke2 ke3 ke4 ke5 ke6 ke7 ke8 ke9 ke10 e0 e1 e2 e3 e4 e5 e6 e7 e8 e9 e10;have hc0:UZ m rank may guild=3:=by unfold UZ;rw [uh Hsk];rfl
  have x1:=((uh HE).below K.bb).c3;go_wp2_with fail;go_ret
  first | exact Chg.no K.bb hc0 (by omega) | exact Chg.no K.bb rfl (by omega)
 obtain ⟨gk,hgk⟩:=ZI (decide (guild<(m.gd.length:Int)));have Hgk:=Z9 hgk;have HG:=Z9 (fun X=>Calls.bool_of (Uy 1 0 rank may guild 0 1024 0 0 0 0 a1 m.gd.length p1 X) ((EX (uh Hsk)).trans hgk));clear hgk;have hcx:UZ m rank may guild=if gk then (if 12<=m.sm.length then 4 else (if ZA (pushS m (ZE rank may guild)) (m.sm.length:Int)= -1 then 2 else 0)) else 3:=by unfold UZ;rw [uh Hsk,uh Hgk];rfl
 have Hcx:=Z9 hcx;clear hcx;refine wq ?_
 repeat (go_big_quiet_step (first | exact ZX (uh HS _) | exact ZX (uh HG _)))
 refine wqn fun wq hb=> ?_;replace K:=K.next hb;replace ks:=bl ks hb;clear hb c0 c1 c2 c3 c4 c5 kc1 ke0 ke1 ke2 ke3 ke4 ke5 ke6 ke7 ke8 ke9 ke10 e0 e1 e2 e3 e4 e5 e6 e7 e8 e9 e10;cases gk
 ·have hc0:UZ m rank may guild=3:=uh Hcx
  have x1:=((uh HE).below K.bb).c3;go_wp2_with fail;go_ret
  first | exact Chg.no K.bb hc0 (by omega) | exact Chg.no K.bb rfl (by omega)
 obtain ⟨a2,p2,rfl⟩:=RecAt.shape K.full.sm;by_cases hl:12<=m.sm.length
 ·have hc0:UZ m rank may guild=4:=by rw [uh Hcx];simp [hl]
  have hl1:(12:Int)<=(m.sm.length:Int):=by omega
  have x1:=((uh HE).below K.bb).c4;obtain ⟨_,_,c2,_,_,_⟩:=K.cells;go_wp2_with fail;go_ret
  first | exact Chg.no K.bb hc0 (by omega) | exact Chg.no K.bb rfl (by omega)
 have hl1:¬ (12:Int)<=(m.sm.length:Int):=by omega
 have hl2:m.sm.length<12:=by omega
 have hld:decide ((12:Int)<=(m.sm.length:Int))=false:=TG hl1;obtain ⟨_,_,x2,_,_,_⟩:=K.cells;go_upto_region 7 with fail;clear hl1 hld;obtain ⟨e0,e1,e2,e3,e4,e5,e6,e7,e8,e9,e10⟩:=(uh ks).c11;refine ZH (S:=fun w'=>w'.cell? ⟨R,2,none⟩=some (.slice a2 m.sm.length p2)/\w'.cell? ⟨sb,0,none⟩=some (.int .i64 1)/\w'.cell? ⟨sb,1,none⟩=some (.int .i64 0)/\w'.cell? ⟨sb,2,none⟩=some (.int .i64 rank)/\w'.cell? ⟨sb,3,none⟩=some (.int .i64 may)/\w'.cell? ⟨sb,4,none⟩=some (.int .i64 guild)/\w'.cell? ⟨sb,5,none⟩=some (.int .i64 0)/\w'.cell? ⟨sb,6,none⟩=some (.int .i64 1024)/\w'.cell? ⟨sb,7,none⟩=some (.int .i64 0)/\w'.cell? ⟨sb,8,none⟩=some (.int .i64 0)/\w'.cell? ⟨sb,9,none⟩=some (.int .i64 0)/\w'.cell? ⟨sb,10,none⟩=some (.int .i64 0)) (by kernel_rfl) (Va _ _) (by kernel_rfl) ⟨x2,e0,e1,e2,e3,e4,e5,e6,e7,e8,e9,e10⟩ (fun hHeld=> ?_);simp only [Vb,Vc,XY,Xo,Nat.zero_add,Nat.reduceAdd]
 iterate 6 refine tz ?_
 refine wpAnyH_ready (rs:=[6]) (by kernel_rfl) (by simp) ?_;refine AllReadyH.cons rfl (fun K0 hK=> ?_) AllReadyH.nil;go_simp;have hba:Below wq.heap.size wq (wq.drew.alloc (.cells (I11 1 0 rank may guild 0 1024 0 0 0 0) 59)):=(Z0 _ _).drew.alloc (ZY _) _;have K2:=K.next hba;have ks2:=(uh ks).below hba (uh ks).lt;refine hK.out _ _ ⟨K2.blk.cell (i:=2) rfl,ks2.cell (i:=0) rfl,ks2.cell (i:=1) rfl,ks2.cell (i:=2) rfl,ks2.cell (i:=3) rfl,ks2.cell (i:=4) rfl,ks2.cell (i:=5) rfl,ks2.cell (i:=6) rfl,ks2.cell (i:=7) rfl,ks2.cell (i:=8) rfl,ks2.cell (i:=9) rfl,ks2.cell (i:=10) rfl⟩ (fun hHeld=> ?_);clear hK K0
 (try simp only [Act.put,sA,sZ,sS])
 obtain ⟨u9,w9,hrun,hown9,hg9,hat9⟩:=VX tyS (w:=wq.drew.alloc (.cells (I11 1 0 rank may guild 0 1024 0 0 0 0) 59)) (t:=36) (ty:=36) underlying36 K2.full.sm (Wa (ZE rank may guild) (g:=wq.heap.size) (c:=1) rfl (ZY _) (by omega)) (by simp;omega) (by have:=K2.bb.size;simpa using this);obtain ⟨kb9,K9⟩:=K.pushS hba hg9 hat9 hown9;have ks9:=ks2.same (hg9.block sb ks2.lt (fun e=>by have:=(uh Hsb).2 sb (.inr (.inr (.inr (.inl e.symm))));omega));have R9:=Z9 hrun;have HK:=Z9 K9;have HB:=Z9 kb9;have HS9:=Z9 ks9;obtain ⟨ua,uc,hu9⟩:=RecAt.shape hown9;obtain ⟨n9,hn9⟩:∃ x,x=(m.sm++[ZE rank may guild]).length:=⟨_,rfl⟩
 rw [<-hn9] at hu9;subst hu9;have Hn9:=Z9 hn9;clear hrun K9 kb9 ks9 hown9 hg9 hat9 hn9 K2 ks2;refine wpAnyH_ready (rs:=[7]) (by kernel_rfl) (by simp) ?_;refine AllReadyH.cons rfl (fun K0 hK=> ?_) AllReadyH.nil;refine WV rfl (.tmp 37) (.tmp 39) 36 rfl rfl rfl (uh R9) ?_;refine hK.out _ _ ⟨(uh HB).cell (i:=2) rfl,(uh HS9).cell (i:=0) rfl,(uh HS9).cell (i:=1) rfl,(uh HS9).cell (i:=2) rfl,(uh HS9).cell (i:=3) rfl,(uh HS9).cell (i:=4) rfl,(uh HS9).cell (i:=5) rfl,(uh HS9).cell (i:=6) rfl,(uh HS9).cell (i:=7) rfl,(uh HS9).cell (i:=8) rfl,(uh HS9).cell (i:=9) rfl,(uh HS9).cell (i:=10) rfl⟩ (fun hHeld=> ?_);clear hK K0
 (try simp only [Act.put,sA,sZ,sS])
 refine tp 8 ?_;refine tp 9 ?_;have y2:=(uh HB).cell (i:=2) (v:= .slice a2 m.sm.length p2) rfl;have f2:=(uh HB).free 2;clear hba;refine wpAnyH_done (by kernel_rfl) ?_ _;refine YQ rfl rfl ?_;go_simp;clear hHeld;obtain ⟨b,Hb⟩:=WH (ZA (pushS m (ZE rank may guild)) (m.sm.length:Int));clear e0 e1 e2 e3 e4 e5 e6 e7 e8 e9 e10 x2 R9 HS9;go_upto_region 8 with fail;clear y2 f2;replace K:=uh HK;clear HK HB ks;generalize w9.setCell ⟨R,2,none⟩ (.slice ua n9 uc)=W3 at *;obtain ⟨g2,hga,_,_,_,_⟩:=RecAt.view ZV (by omega) K.full.sm (uh Hn9) (by show 0<(m.sm++[ZE rank may guild]).length;simp);cases hga;obtain ⟨c0,c1,c2,c3,c4,c5⟩:=K.cells;go_wp2_with fail;refine ck (S7 (uh Hb) K.full.smy) fun w4 hb=> ?_;replace K:=K.next hb;clear hb c0 c1 c2 c3 c4 c5;by_cases hb1:b= -1
 ·subst hb1
  have hc0:UZ m rank may guild=2:=by rw [uh Hcx,if_pos trivial,if_neg hl,uh Hb,if_pos rfl]
  have x1:=((uh HE).below K.bb).c2;go_wp2_with fail;go_ret
  first | exact Chg.no K.bb hc0 (by omega) | exact Chg.no K.bb rfl (by omega)
 obtain ⟨bb,hbl,rfl⟩:∃ bb:Nat,bb<m.dk.length/\b=(bb:Int):=by
  have hcp:=(MI (uh HM) (uh Hsk) (by simpa using uh Hgk) hl2).2;have:=uh Hb;rw [hcp] at this;unfold TH at this
  rcases Wj (pushS m (ZE rank may guild)) (m.sm.length:Int) with ⟨e,_⟩ | ⟨bb,hbl,e,_⟩
  ·exact absurd (this.symm.trans e) hb1
  ·exact ⟨bb,hbl,this.symm.trans e⟩
 have hc0:UZ m rank may guild=0:=by rw [uh Hcx,if_pos trivial,if_neg hl,uh Hb,if_neg hb1]
 have hbl1:(bb:Int)<(m.dk.length:Int):=by omega
 have hbne:decide ((bb:Int)= -1)=false:=TG hb1;obtain ⟨a3,p3,rfl⟩:=RecAt.shape K.full.dk;obtain ⟨g3,rfl,hg3,hg3w,hc3,hz3⟩:=RecAt.view ZF (by omega) K.full.dk rfl (by show 0<m.dk.length;omega);obtain ⟨mk,hmk⟩:=ZI ((Z8 m.dk bb).2.2);have d1:=hc3 bb hbl 2 (.int .i64 mk) (by rw [<-hmk];rfl)
 have hat:Z8 (pushS m (ZE rank may guild)).sm m.sm.length=ZE rank may guild:=by
  show Z8 (m.sm++[ZE rank may guild]) m.sm.length=_;rw [XL,if_pos rfl]
 have hx0:P9 m rank may guild=setS (pushS m (ZE rank may guild)) m.sm.length (R1 (Z8 (pushS m (ZE rank may guild)).sm m.sm.length) (bb:Int) mk):=by
  rw [hat];unfold P9;rw [uh Hb];unfold XX;rw [Zm,hmk]
 have Hx0:=Z9 hx0;have hkl:m.sm.length<(pushS m (ZE rank may guild)).sm.length:=by show _<(m.sm++[ZE rank may guild]).length;simp
 have hn91:(m.sm.length:Int)<(n9:Int):=by have:=uh Hn9;simp at this;omega
 obtain ⟨_,_,c2,c3,_,_⟩:=K.cells;clear hc3 hz3 hmk hx0;go_wp2_with fail;refine ZH (S:=fun w'=>w'.cell? ⟨R,2,none⟩=some (.slice (some ⟨g2,0,none⟩) n9 uc)/\w'.cell? ⟨R,3,none⟩=some (.slice (some ⟨g3,0,none⟩) m.dk.length p3)/\w'.cell? ⟨g3,bb*3+2,none⟩=some (.int .i64 mk)) (by kernel_rfl) (Va _ _) (by kernel_rfl) ⟨c2,c3,d1⟩ (fun hHeld=> ?_);simp only [Vb,Vc,XY,Xo,Nat.zero_add,Nat.reduceAdd]
 iterate 15 refine tz ?_
 refine wpAnyH_done (by kernel_rfl) ?_ _;refine YQ rfl rfl ?_;go_simp;clear hHeld c2 c3 d1;have K3:=K.next (Z0 _ _).drew;refine ck (OY K3 (uh Hn9) hkl (bb:Int) mk) fun w5 K5=> ?_;have HK:=Z9 K5;clear K5 K3;go_wp2_with fail;go_ret;exact Chg.yes (uh HK) hc0 (uh Hx0)
end Go.Proofs.YtgdpaigcmoifbaaGreatDoor
