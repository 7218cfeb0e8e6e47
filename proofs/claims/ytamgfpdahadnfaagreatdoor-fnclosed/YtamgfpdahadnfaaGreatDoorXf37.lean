/- Part 37 of what the proof rests on. No condition but those that a theorem names. -/
import Derived.Test.YtamgfpdahadnfaaGreatDoorXf33
import Derived.Test.YtamgfpdahadnfaaGreatDoorXf35
set_option maxHeartbeats 8000000
set_option maxRecDepth 100000
namespace Go.Proofs.YtamgfpdahadnfaaGreatDoor
open Go.ChangeShapes Go.WideShapes Go.ChangeAt Go.RowKit Go.Sort Go.Shelf
set_option linter.unusedVariables false
set_option linter.unusedSimpArgs false
set_option maxRecDepth 100000
attribute [local go_sem] Jm yZ
theorem MP {w:World} {v:Value} {n0:Nat} {us:List Yk} (h:Yo n0 w v us) (hl:us.length<=1000):Calls Tryz.prog 198 #[v] w fun e w'=>e= .returned (.int .i64 (RJ us).1)/\Below w.heap.size w w':=by
 obtain ⟨ua,uc,rfl⟩:=RecAt.shape h;have H0:=Z9 h;clear h;go_enter Tryz.func198,Tryz.ntmps198;go_wp2_with fail
 go_loopw [3,4,9] (fun c t i wr=> ∃ j:Nat,j<=us.length/\i= .int .i64 j/\c= .int .i64 (RJ (us.take j)).1/\t= .int .i64 (RJ (us.take j)).2/\Below w.heap.size w wr) (fun _ _ i _=>us.length-(intOf i).toNat)
 case atStart=>exact ⟨0,Zz _,rfl,rfl,rfl,Z1 _ _⟩
 case round=>
  obtain ⟨j,hj,rfl,rfl,rfl,hb⟩:=hrel;have HU:=Z9 (RecAt.later (uh H0) hb);have BB:=Z9 hb;clear hb;by_cases hlt:j<us.length
  ·have hlt1:(j:Int)<(us.length:Int):=by omega
   have HR:=Z9 (Cx hlt);generalize hcm:RJ (us.take j)=cm at *;clear hcm;obtain ⟨ch,mo⟩:=cm;obtain ⟨g,rfl,hgl,hgw,hcl,_⟩:=RecAt.view Wg (by omega) (uh HU) rfl (by omega);have z0:=Sd hcl hlt;clear hcl;generalize hx:Z8 us j=x at *;clear hx;obtain ⟨bx,ux,fx⟩:=x;simp only at z0;unfold PI at HR;simp only at HR ⊢;by_cases h1:ch= -1
   ·subst h1
    rw [if_pos (.inl rfl)] at HR;go_upto_region 6 with fail;go_wp2_with (first | (go_at_call 368;refine (QX _ _ _ _).mono ?_;rintro e w1 ⟨rfl,hb⟩;replace BB:=bt BB hb;clear hb) | (go_at_call 369;refine (Kt _ _ _ _).mono ?_;rintro e w2 ⟨rfl,hb⟩;replace BB:=bt BB hb;clear hb))
    go_roundw
    case rel=>exact ⟨j+1,by omega,by go_num,by rw [uh HR],by rw [uh HR],uh BB⟩
    case measure=>exact ms
   ·have h1b:(ch == -1)=false:=beq_eq_false_iff_ne.mpr h1
    obtain ⟨sp,hsp⟩:∃ x,XE ux fx=x:=⟨_,rfl⟩
    have HSP:=Z9 (fun X=>Calls.int_of (Kt bx ux fx X) hsp);rw [hsp] at HR;clear hsp;go_upto_region 5 with fail;go_wp2_with fail;refine ck (uh HSP _) fun w1 hb=> ?_;replace BB:=bt BB hb;clear hb;by_cases h2:mo<sp
    ·rw [if_pos (.inr h2)] at HR
     go_upto_region 6 with fail;go_wp2_with (first | (go_at_call 368;refine (QX _ _ _ _).mono ?_;rintro e w2 ⟨rfl,hb⟩;replace BB:=bt BB hb;clear hb) | (go_at_call 369;refine (uh HSP _).mono ?_;rintro e w3 ⟨rfl,hb⟩;replace BB:=bt BB hb;clear hb))
     go_roundw
     case rel=>exact ⟨j+1,by omega,by go_num,by rw [uh HR],by rw [uh HR],uh BB⟩
     case measure=>exact ms
    ·rw [if_neg (not_or.2 ⟨h1,h2⟩)] at HR
     go_wp2_with fail;go_roundw
     case rel=>exact ⟨j+1,by omega,by go_num,by rw [uh HR],by rw [uh HR],uh BB⟩
     case measure=>exact ms
  ·obtain rfl:j=us.length:=by omega
   rw [List.take_length];go_wp2_with fail;go_ret;exact ⟨rfl,uh BB⟩
theorem NA {w:World} {v0 v1 v2 v3 v4:Value} {m:Z6} {k n0:Nat} {v:Value} {fs:List Int} (h:Smy w v0 v1 v2 v3 v4 m) (A:Asks m k) (hf:NumsAt n0 w v fs) (hl:fs.length<=1000):Calls Tryz.prog 200 #[.agg #[v0,v1,v2,v3,v4,.int .i64 m.now],.int .i64 (k:Int),v] w fun e w'=>e= .returned (.int .i64 (UP m (k:Int) fs).1)/\Below w.heap.size w w':=by
 obtain ⟨ua,uc,rfl⟩:=RecAt.shape hf;have HA:=Z9 A;have hk:=A.hk;clear A;have H0:=Z9 (RecAt.later hf ((Z1 _ _).alloc (Z2 _) (.cells #[v0,v1,v2,v3,v4,.int .i64 m.now] 32)));clear hf;obtain ⟨a0,p0,a1,p1,a2,p2,a3,p3,a4,p4,rfl,rfl,rfl,rfl,rfl,K⟩:=Bx.new h;clear h;go_enter Tryz.func200,Tryz.ntmps200;go_wp2_with fail;generalize w.alloc (.cells (S6 a0 p0 a1 p1 a2 p2 a3 p3 a4 p4 m) 32)=W at *
 go_loopw [7,8,14] (fun c t i wr=> ∃ j:Nat,j<=fs.length/\i= .int .i64 j/\c= .int .i64 (UP m (k:Int) (fs.take j)).1/\t= .int .i64 (UP m (k:Int) (fs.take j)).2/\Bx w wr w.heap.size a0 p0 a1 p1 a2 p2 a3 p3 a4 p4 m/\Below W.heap.size W wr) (fun _ _ i _=>fs.length-(intOf i).toNat)
 case atStart=>exact ⟨0,Zz _,rfl,rfl,rfl,K,Z1 _ _⟩
 case round=>
  obtain ⟨j,hj,rfl,rfl,rfl,hK,hb⟩:=hrel;clear K;have K:=hK;have HU:=Z9 (RecAt.later (uh H0) hb);have BB:=Z9 hb;clear hb hK;by_cases hlt:j<fs.length
  ·have hlt1:(j:Int)<(fs.length:Int):=by omega
   have HR:=Z9 (DU (m:=m) (who:=(k:Int)) hlt);obtain ⟨g,rfl,hgl,hgw,hcl,_⟩:=RecAt.view YC (by omega) (uh HU) rfl (by omega);have z0:=hcl j hlt 0 _ rfl;simp only [Nat.mul_one,Nat.add_zero] at z0;clear hcl;generalize hx:Z8 fs j=bx at *;clear hx;generalize hcm:UP m (k:Int) (fs.take j)=cm at *;clear hcm;obtain ⟨ch,mo⟩:=cm;unfold Xa at HR;rw [Zy] at HR;simp only at HR ⊢;obtain ⟨cw,hcw⟩:∃ x,Zl m (k:Int) bx=x:=⟨_,rfl⟩
   rw [hcw] at HR;have Hcw:=Z9 hcw;clear hcw;obtain ⟨c0,c1,c2,c3,c4,c5⟩:=K.cells;go_wp2_with fail;refine ck (DY (uh Hcw) K.smy (uh HA).sane (uh HA).wants hk (uh HA).hs) fun w1 hb=> ?_;replace K:=K.next hb;replace BB:=bt BB hb;clear hb c0 c1 c2 c3 c4 c5 z0 HU Hcw;by_cases h1:ch= -1
   ·subst h1
    rw [if_pos (.inl rfl)] at HR;go_wp2_with fail;go_roundw
    case rel=>exact ⟨j+1,by omega,by go_num,by rw [uh HR],by rw [uh HR],K,uh BB⟩
    case measure=>exact ms
   have h1b:(ch == -1)=false:=beq_eq_false_iff_ne.mpr h1;by_cases h2:cw<mo
   ·rw [if_pos (.inr (.inl h2))] at HR
    go_wp2_with fail;go_roundw
    case rel=>exact ⟨j+1,by omega,by go_num,by rw [uh HR],by rw [uh HR],K,uh BB⟩
    case measure=>exact ms
   by_cases h3:cw=mo
   ·have h3b:(cw ==mo)=true:=beq_iff_eq.mpr h3
    have hk1:(k:Int)<(m.sm.length:Int):=by omega
    obtain ⟨_,_,hse,_,_,r2⟩:=K.smy.sm;cases hse
    rcases r2 with e0 | ⟨sb,off,rfl,hbw,hcs⟩
    ·rw [e0] at hk;simp at hk
    obtain ⟨d0,d1,d2,d3,d4,d5,d6,d7,d8,d9,d10⟩:=Zx hcs hk;have c2:=K.blk.cell (i:=2) (v:= .slice (some ⟨sb,off,none⟩) m.sm.length p2) rfl;clear hcs d0 d2 d3 d4 d5 d6 d7 d8 d9 d10;generalize (Z8 m.sm k).2.1=own at *;subst h3;clear h3b;by_cases h4:bx=own
    ·have h4b:(bx ==own)=true:=beq_iff_eq.mpr h4
     rw [if_pos (.inr (.inr ⟨rfl,h4⟩))] at HR;subst h4;go_wp2_with fail;go_roundw
     case rel=>exact ⟨j+1,by omega,by go_num,by rw [uh HR],by rw [uh HR],K,uh BB⟩
     case measure=>exact ms
    ·have h4b:(bx ==own)=false:=beq_eq_false_iff_ne.mpr h4
     rw [if_neg (not_or.2 ⟨h1,not_or.2 ⟨h2,fun e=>h4 e.2⟩⟩)] at HR;go_wp2_with fail;go_roundw
     case rel=>exact ⟨j+1,by omega,by go_num,by rw [uh HR],by rw [uh HR],K,uh BB⟩
     case measure=>exact ms
   ·have h3b:(cw ==mo)=false:=beq_eq_false_iff_ne.mpr h3
    rw [if_neg (not_or.2 ⟨h1,not_or.2 ⟨h2,fun e=>h3 e.1⟩⟩)] at HR;go_wp2_with fail;go_roundw
    case rel=>exact ⟨j+1,by omega,by go_num,by rw [uh HR],by rw [uh HR],K,uh BB⟩
    case measure=>exact ms
  ·obtain rfl:j=fs.length:=by omega
   rw [List.take_length];go_wp2_with fail;go_ret;exact ⟨rfl,K.bb⟩
attribute [local go_sem] Jl
theorem Gr {w:World} {v0 v1 v2 v3 v4:Value} {m:Z6} {q:Bool} (hq:Xk m=q) (h:Smy w v0 v1 v2 v3 v4 m) (hS:Sane m) (hT:Wants m):Calls Tryz.prog 197 #[.agg #[v0,v1,v2,v3,v4,.int .i64 m.now]] w fun e w'=>e= .returned (.bool q)/\Below w.heap.size w w':=by
 have Hq2:Hid ((XD m m.dk.length).any (fun x=>VI x.2.1 x.2.2)=q):=Z9 ((BH m).trans hq);clear hq;have hl:=hS.few;have h8:=hS.eight;have hfl:=SC m m.dk.length;have HT:=Z9 hT;clear hT hS;obtain ⟨a0,p0,a1,p1,a2,p2,a3,p3,a4,p4,rfl,rfl,rfl,rfl,rfl,K⟩:=Bx.new h;clear h;go_enter Tryz.func197,Tryz.ntmps197;go_wp2_with fail;generalize w.alloc (.cells (S6 a0 p0 a1 p1 a2 p2 a3 p3 a4 p4 m) 32)=W at *;refine (PV K.smy (uh HT) hl (by omega)).mono ?_;rintro e w2 ⟨v2,rfl,hu,hb⟩;replace K:=K.next hb;clear hb;generalize XD m m.dk.length=us at *;obtain ⟨ua,uc,rfl⟩:=RecAt.shape hu;have H0:=Z9 hu;clear hu;go_wp2_with fail
 go_loopw [8] (fun i wr=> ∃ j:Nat,j<=us.length/\i= .int .i64 j/\(∀ i,i<j->(fun x:Yk=>VI x.2.1 x.2.2) (Z8 us i)=false)/\Bx w wr w.heap.size a0 p0 a1 p1 a2 p2 a3 p3 a4 p4 m/\Below w2.heap.size w2 wr) (fun i _=>us.length-(intOf i).toNat)
 case atStart=>exact ⟨0,Zz _,rfl,fun i hi=>by omega,K,Z1 _ _⟩
 case round=>
  obtain ⟨j,hj,rfl,hno,hK,hb⟩:=hrel;clear K;have K:=hK;have HU:=Z9 (RecAt.later (uh H0) hb);have BB:=Z9 hb;have Hno:=Z9 hno;clear hb hK hno;by_cases hlt:j<us.length
  ·have hlt1:(j:Int)<(us.length:Int):=by omega
   obtain ⟨pq,hpq⟩:∃ q,(fun x:Yk=>VI x.2.1 x.2.2) (Z8 us j)=q:=⟨_,rfl⟩
   have HY:=Z9 (fun hh:pq=true=>yO hlt (p:=(fun x:Yk=>VI x.2.1 x.2.2)) (hpq.trans hh))
   have HX:Hid (pq=false-> ∀ i,i<j+1->(fun x:Yk=>VI x.2.1 x.2.2) (Z8 us i)=false):=Z9 (fun hh i hi=>by
    by_cases e:i=j
    ·rw [e,hpq,hh]
    ·exact uh Hno i (by omega))
   have Hpq:=Z9 hpq;clear hpq;obtain ⟨g,rfl,hgl,hgw,hcl,_⟩:=RecAt.view Wg (by omega) (uh HU) rfl (by omega);have z0:=Sd hcl hlt;clear hcl;generalize hx:Z8 us j=x at *;clear hx;obtain ⟨bx,ux,fx⟩:=x;simp only at z0;go_upto_region 4 with fail;go_wp2_with fail;refine ck (Calls.bool_of (L9 _ _ _ _) (uh Hpq)) fun w3 hb=> ?_;replace K:=K.next hb;replace BB:=bt BB hb;clear hb z0;cases pq
   ·go_wp2_with fail
    go_roundw
    case rel=>exact ⟨j+1,by omega,by go_num,uh HX (by trivial),K,uh BB⟩
    case measure=>exact ms
   ·obtain rfl:q=true:=(uh Hq2).symm.trans (uh HY (by trivial))
    go_wp2_with fail;go_ret;exact ⟨rfl,K.bb⟩
  ·obtain rfl:j=us.length:=by omega
   obtain rfl:q=false:=(uh Hq2).symm.trans (xJ (uh Hno));go_wp2_with fail;go_ret;exact ⟨rfl,K.bb⟩
attribute [local go_sem] Jm za
theorem zT {wn:Int} {us:List Yk} {j:Nat} (hj:j<us.length) (h:WK wn (Z8 us j)=true):((us.take (j+1)).filter (WK wn)).map (·.1)=((us.take j).filter (WK wn)).map (·.1)++[(Z8 us j).1]:=by rw [LY hj h,List.map_append];rfl
theorem zU {wn:Int} {us:List Yk} {j:Nat} (hj:j<us.length) (h:WK wn (Z8 us j)=false):((us.take (j+1)).filter (WK wn)).map (·.1)=((us.take j).filter (WK wn)).map (·.1):=by rw [JP hj h]
theorem Ja {w:World} {v0 v1 v2 v3 v4:Value} {m:Z6} {k:Nat} {q:List Int} (hq:YT m (k:Int)=q) (h:Smy w v0 v1 v2 v3 v4 m) (A:Asks m k):Calls Tryz.prog 196 #[.agg #[v0,v1,v2,v3,v4,.int .i64 m.now],.int .i64 (k:Int)] w fun e w'=> ∃ v',e= .returned v'/\NumsAt w.heap.size w' v' q/\Below w.heap.size w w':=by
 have hq:((VH m (k:Int) m.dk.length).filter (WK (Zu m (k:Int)))).map (·.1)=q:=(Jn m (k:Int) m.dk.length).trans hq;have hfl:=A.few;have HA:=Z9 A;have HW9:=Z9 (fun (X:World) (hX:Smy X v0 v1 v2 v3 v4 m)=>ID hX A.wants A.hk A.hs);clear A;obtain ⟨wn,hwn⟩:∃ x,Zu m (k:Int)=x:=⟨_,rfl⟩
 rw [hwn] at hq HW9;have Hq:=Z9 hq;clear hwn hq;have Hs:=Z9 h;obtain ⟨a0,p0,a1,p1,a2,p2,a3,p3,a4,p4,rfl,rfl,rfl,rfl,rfl,K⟩:=Bx.new h;clear h;go_enter Tryz.func196,Tryz.ntmps196;go_wp2_with fail;generalize w.alloc (.cells (S6 a0 p0 a1 p1 a2 p2 a3 p3 a4 p4 m) 32)=W at *;refine ck (uh HW9 _ K.smy) fun w1 hb=> ?_;replace K:=K.next hb;clear hb HW9;obtain ⟨c0,c1,c2,c3,c4,c5⟩:=K.cells;have hsz:=K.blk.lt;go_wp2_with fail;clear c0 c1 c2 c3 c4 c5;have HL:Hid (NumsAt (w.heap.size+1) (w1.alloc (.cells #[] 2)) (.slice (some ⟨w1.heap.size,0,none⟩) 0 0) []):=Z9 (Y3 rfl (by omega));replace K:=K.alloc (.cells #[] 2);generalize w1.alloc (.cells #[] 2)=W1 at *;generalize w1.heap.size=lb at *;refine (Ra K.smy (uh HA)).mono ?_;rintro e w2 ⟨v2,rfl,hu,hb⟩;have hsp:∀ i,v2.ownBlock=some i->(Value.slice (some ⟨lb,0,none⟩) 0 0).ownBlock ≠ some i:=fun i e e2=>by have:=(RecAt.lt hu e).1;have:=(RecAt.lt (uh HL) e2).2;omega
 have hu2:Yo W1.heap.size w2 v2 (VH m (k:Int) m.dk.length):=hu;replace K:=K.next hb;replace HL:=Z9 (RecAt.later (uh HL) hb);clear hb hu;generalize VH m (k:Int) m.dk.length=us at *;obtain ⟨ua,uc,rfl⟩:=RecAt.shape hu2;have HU:=Z9 hu2;have Hsp:=Z9 hsp;clear hu2 hsp;go_wp2_with fail
 go_loopw [6,17] (fun l i wr=> ∃ j:Nat,j<=us.length/\i= .int .i64 j/\NumsAt (w.heap.size+1) wr l (((us.take j).filter (WK wn)).map (·.1))/\Yo W1.heap.size wr (.slice ua us.length uc) us/\(∀ i,(Value.slice ua us.length uc).ownBlock=some i->l.ownBlock ≠ some i)/\Bx w wr w.heap.size a0 p0 a1 p1 a2 p2 a3 p3 a4 p4 m) (fun _ i _=>us.length-(intOf i).toNat)
 case atStart=>exact ⟨0,Zz _,rfl,uh HL,uh HU,uh Hsp,K⟩
 case round=>
  obtain ⟨j,hj,rfl,hln,hun,hsp,hK⟩:=hrel;clear K HL HU Hsp;have K:=hK;clear hK;obtain ⟨la,lc,rfl⟩:=RecAt.shape hln;have HL:=Z9 hln;have HU:=Z9 hun;have Hsp:=Z9 hsp;have hgl9:(((us.take j).filter (WK wn)).map (·.1)).length<=8:=by have e1:=List.length_filter_le (WK wn) (us.take j);have e2:(us.take j).length<=us.length:=(by simp;omega);simp only [List.length_map];omega
  clear hln hun hsp;by_cases hlt:j<us.length
  ·have hlt1:(j:Int)<(us.length:Int):=by omega
   have HY:=Z9 (fun hh=>zT (wn:=wn) hlt hh);have HN:=Z9 (fun hh=>zU (wn:=wn) hlt hh);obtain ⟨tq,htq⟩:∃ q,WK wn (Z8 us j)=q:=⟨_,rfl⟩
   rw [htq] at HY HN;have Htq:=Z9 htq;clear htq;generalize ((us.take j).filter (WK wn)).map (·.1)=ls at *;obtain ⟨g,rfl,hgl,hgw,hcl,_⟩:=RecAt.view Wg (by omega) (uh HU) rfl (by omega);have z0:=Sd hcl hlt;clear hcl;generalize hx:Z8 us j=x at *;clear hx;obtain ⟨bx,ux,fx⟩:=x;simp only at z0;go_upto_region 6 with fail;go_wp2_with fail;refine ck (Calls.bool_of (CI wn bx ux fx _) (uh Htq)) fun w3 hb=> ?_;replace K:=K.next hb;replace HL:=Z9 (RecAt.later (uh HL) hb);replace HU:=Z9 (RecAt.later (uh HU) hb);clear hb z0;cases tq
   ·go_wp2_with fail
    go_roundw
    case rel=>exact ⟨j+1,by omega,by go_num,by rw [uh HN (by trivial)];exact uh HL,uh HU,uh Hsp,K⟩
    case measure=>exact ms
   ·go_wp2_with fail
    refine ck (QX _ _ _ _) fun w4 hb=> ?_;replace K:=K.next hb;replace HL:=Z9 (RecAt.later (uh HL) hb);replace HU:=Z9 (RecAt.later (uh HU) hb);clear hb;have hsx:=K.blk.lt;go_wp2_with (at_builtin;refine ZE tyN rfl (.tmp 24) (.tmp 27) 30 Tryz.underlying30 rfl (w.heap.size+1) _ _ ls [bx] rfl rfl (RecAt.later (uh HL) ((ba _ _))) (WB bx rfl (Z2 _) (by omega)) (by simp;omega) (by simp;omega) ?_;intro u9 w9 hp9 hg9 hat9;have HP9:=Z9 hp9;have HG9:=Z9 hg9;have HA9:=Z9 hat9;clear hp9 hg9 hat9)
    have hgo:∀ i,(Value.slice la ls.length lc).ownBlock=some i->w.heap.size<=i/\i ≠ w.heap.size:=fun i e=>by have:=(RecAt.lt (uh HL) e).1;omega
    replace K:=(K.alloc _).grown (uh Hs) (uh HG9) hgo;have hul:=fun i e=>(RecAt.lt (uh HU) (i:=i) e).2
    have hsp9:∀ i,(Value.slice (some ⟨g,0,none⟩) us.length uc).ownBlock=some i->u9.ownBlock ≠ some i:=by
     intro i e e2
     rcases uh HA9 with h9 | h9
     ·rw [h9] at e2;exact uh Hsp i e e2
     ·rw [h9] at e2
      have:=hul i e;simp at e2;omega
    replace HU:=Z9 (RecAt.grown (RecAt.later (uh HU) ((ba _ _))) (uh HG9) (uh Hsp));go_wp2_with fail;go_roundw
    case rel=>exact ⟨j+1,by omega,by go_num,by rw [uh HY (by trivial)];exact uh HP9,uh HU,hsp9,K⟩
    case measure=>exact ms
  ·obtain rfl:j=us.length:=by omega
   have e9:((us.take us.length).filter (WK wn)).map (·.1)=q:=by rw [List.take_length];exact uh Hq
   have E9:=Z9 e9;clear e9;go_wp2_with fail;go_ret;exact ⟨_,rfl,by rw [<-uh E9];exact RecAt.mono (uh HL) (Nat.le_succ _),K.bb⟩
theorem NZ {w:World} {v0 v1 v2 v3 v4:Value} {m:Z6} {k:Nat} {q:Int} (hq:Y1 m (k:Int)=q) (h:Smy w v0 v1 v2 v3 v4 m) (A:Asks m k):Calls Tryz.prog 137 #[.agg #[v0,v1,v2,v3,v4,.int .i64 m.now],.int .i64 (k:Int)] w fun e w'=>e= .returned (.int .i64 q)/\Below w.heap.size w w':=by
 rw [DV] at hq;have Hq:=Z9 hq;clear hq;obtain ⟨fs,hfs⟩:∃ q,YT m (k:Int)=q:=⟨_,rfl⟩
 have Hfs:=Z9 hfs
 have hfl:fs.length<=1000:=by
  rw [<-hfs,show YT m (k:Int)=((VH m (k:Int) m.dk.length).filter (WK (Zu m (k:Int)))).map (·.1) from (Jn m (k:Int) m.dk.length).symm,List.length_map];have:=List.length_filter_le (WK (Zu m (k:Int))) (VH m (k:Int) m.dk.length);have:=A.few;omega
 rw [hfs] at Hq;obtain ⟨cr,hcr⟩:∃ q,Xk m=q:=⟨_,rfl⟩
 have Hcr:=Z9 hcr;rw [hcr] at Hq;clear hfs hcr;have hul:=A.few;have HA:=Z9 A;clear A;obtain ⟨a0,p0,a1,p1,a2,p2,a3,p3,a4,p4,rfl,rfl,rfl,rfl,rfl,K⟩:=Bx.new h;clear h;go_enter Tryz.func137,Tryz.ntmps137;go_wp2_with fail;generalize w.alloc (.cells (S6 a0 p0 a1 p1 a2 p2 a3 p3 a4 p4 m) 32)=W at *;refine (Ja (uh Hfs) K.smy (uh HA)).mono ?_;rintro e w1 ⟨v1,rfl,hn,hb⟩;replace K:=K.next hb;clear hb;obtain ⟨na,nc,rfl⟩:=RecAt.shape hn;have HN:=Z9 hn;clear hn;obtain ⟨c0,c1,c2,c3,c4,c5⟩:=K.cells;go_wp2_with fail;refine ck (Gr (uh Hcr) K.smy (uh HA).sane (uh HA).wants) fun w2 hb=> ?_;replace K:=K.next hb;replace HN:=Z9 (RecAt.later (uh HN) hb);clear hb c0 c1 c2 c3 c4 c5 Hcr;obtain ⟨c0,c1,c2,c3,c4,c5⟩:=K.cells;by_cases hcond:(cr || decide (fs.length=0))=true
 ·rw [hcond,if_pos rfl] at Hq
  obtain rfl:=(uh Hq).symm
  have hrun:cr=true\/(cr=false/\fs.length=0):=by
   cases cr
   ·right;exact ⟨rfl,by simpa using hcond⟩
   ·exact .inl rfl
  clear hcond Hq
  rcases hrun with rfl | ⟨rfl,h0⟩
  all_goals
   try (obtain rfl:=List.eq_nil_of_length_eq_zero h0;clear h0)
   go_wp2_with fail;refine (Ra K.smy (uh HA)).mono ?_;rintro e w3 ⟨v3,rfl,hu,hb⟩;replace K:=K.next hb;have HU:=Z9 hu;clear hb hu c0 c1 c2 c3 c4 c5;go_wp2_with fail;refine ck (MP (uh HU) (by omega)) fun w4 hb=> ?_;replace K:=K.next hb;clear hb;go_wp2_with fail;go_ret;exact ⟨rfl,K.bb⟩
 ·obtain rfl:cr=false:=(by cases cr<;>first | rfl | simp at hcond)
  have h0:¬ fs.length=0:=by simpa using hcond
  rw [Bool.false_or,decide_eq_false h0,if_neg (by simp)] at Hq;obtain rfl:=(uh Hq).symm;clear hcond Hq;have h0i:¬ ((fs.length:Int)=0):=by omega
  have h0b:((fs.length:Int) ==0)=false:=beq_eq_false_iff_ne.mpr h0i;clear h0;go_wp2_with fail;refine ck (NA K.smy (uh HA) (uh HN) hfl) fun w3 hb=> ?_;replace K:=K.next hb;clear hb c0 c1 c2 c3 c4 c5;go_wp2_with fail;go_ret;exact ⟨rfl,K.bb⟩
end Go.Proofs.YtamgfpdahadnfaaGreatDoor
namespace Go.Proofs.YtamgfpdahadnfaaGreatDoor
open Go.ChangeShapes Go.WideShapes Go.ChangeAt Go.RowKit Go.Sort Go.Shelf
set_option linter.unusedVariables false
set_option linter.unusedSimpArgs false
set_option maxRecDepth 100000
theorem Au {F:Nat->TypeId->Array Value->Prop} {w W:World} {R g n cap:Nat} {v0 v1 v3 v4:Value} {m:Z6} {qs:List (ZZ × Value)} (K:Ny F w W R v0 v1 (.slice (some ⟨g,0,none⟩) n cap) v3 v4 m qs) (hn:n=m.sm.length) {k:Nat} (hk:k<m.sm.length) (b had:Int) :
  Calls Tryz.prog 99 #[.pointer (some ⟨g,k*11,none⟩),.int .i64 b,.int .i64 had] W fun e W'=>e= .returned (.tuple #[])/\Ny F w W' R v0 v1 (.slice (some ⟨g,0,none⟩) n cap) v3 v4 (setS m k (QE (Z8 m.sm k) b had)) qs:=by
 obtain ⟨⟨st,be,rk,my,gu,lo,hi,hd,ca,ut,wk⟩,hrk⟩:∃ d,Z8 m.sm k=d:=⟨_,rfl⟩
 have hl:∀ x:Z3,k<(setS m k x).sm.length:=fun x=>by unfold setS;simpa using hk
 have hlen:∀ x:Z3,n=(setS m k x).sm.length:=fun x=>by unfold setS;simpa using hn
 have hat:∀ x:Z3,Z8 (setS m k x).sm k=x:=fun x=>by unfold setS;rw [ZI hk,if_pos rfl]
 obtain ⟨_,hga,_,_,hc,hz⟩:=RecAt.view ZT (by omega) K.full.sm hn (by omega);cases hga;have s0:=hc k hk 0 _ rfl;have f0:=hz (k*11);have K1:=K.putS hn hk (i:=0) (by omega) (.int .i64 2) (2,be,rk,my,gu,lo,hi,hd,ca,ut,wk) (by rw [hrk];rfl);obtain ⟨_,hga,_,_,hc1,hz1⟩:=RecAt.view ZT (by omega) K1.full.sm (hlen _) (by have:=hl (2,be,rk,my,gu,lo,hi,hd,ca,ut,wk);omega);cases hga;have s1:=hc1 k (hl _) 1 _ rfl;have f1:=hz1 (k*11+1);have K2:=K1.putS (hlen _) (hl _) (i:=1) (by omega) (.int .i64 b) (2,b,rk,my,gu,lo,hi,hd,ca,ut,wk) (by rw [hat];rfl);rw [Kn] at K2;obtain ⟨_,hga,_,_,hc2,hz2⟩:=RecAt.view ZT (by omega) K2.full.sm (hlen _) (by have:=hl (2,b,rk,my,gu,lo,hi,hd,ca,ut,wk);omega);cases hga;have s7:=hc2 k (hl _) 7 _ rfl;have f7:=hz2 (k*11+7);have K3:=K2.putS (hlen _) (hl _) (i:=7) (by omega) (.int .i64 had) (2,b,rk,my,gu,lo,hi,had,ca,ut,wk) (by rw [hat];rfl);rw [Kn] at K3;simp only [Nat.add_zero] at s0 s1 s7 K3;simp only [Nat.add_zero] at f1 f7;have HK:=Z9 K3;have hres:QE (st,be,rk,my,gu,lo,hi,hd,ca,ut,wk) b had=(2,b,rk,my,gu,lo,hi,had,ca,ut,wk):=rfl;rw [hrk,hres];clear K K1 K2 K3 hc hz hc1 hz1 hc2 hz2 hat hl hlen hres hrk;go_enter Tryz.func99,Tryz.ntmps99;go_wp2_with fail
 go_end0
 exact ⟨rfl,uh HK⟩
theorem zh {F:Nat->TypeId->Array Value->Prop} {w W:World} {R g2 p2:Nat} {v0 v1 v3 v4:Value} {m:Z6} {qs:List (ZZ × Value)} (K:Ny F w W R v0 v1 (.slice (some ⟨g2,0,none⟩) m.sm.length p2) v3 v4 m qs) {k b bn:Nat} (hk:k<m.sm.length) (hb:b<m.dk.length) (hbn:(Z8 m.sm k).2.1=(bn:Int)) (hbl:bn<m.dk.length) :
  Calls Tryz.prog 138 #[.pointer (some ⟨R,0,none⟩),.int .i64 (k:Int),.int .i64 (b:Int)] W fun e W'=>e= .returned (.tuple #[])/\Ny F w W' R v0 v1 (.slice (some ⟨g2,0,none⟩) m.sm.length p2) v3 v4 (setS m k (putW m (Z8 m.sm k) (b:Int))) qs:=by
 have hk1:(k:Int)<(m.sm.length:Int):=by omega
 have hb1:(b:Int)<(m.dk.length:Int):=by omega
 have hbl1:(bn:Int)<(m.dk.length:Int):=by omega
 obtain ⟨a3,p3,rfl⟩:=RecAt.shape K.full.dk;obtain ⟨g3,hga,_,_,hc3,hz3⟩:=RecAt.view ZH (by omega) K.full.dk rfl (by omega);cases hga;obtain ⟨_,hga,_,_,hc2,hz2⟩:=RecAt.view ZT (by omega) K.full.sm rfl (by omega);cases hga;obtain ⟨mk,hmk⟩:∃ x,(Z8 m.dk b).2.2=x:=⟨_,rfl⟩
 obtain ⟨mf,hmf⟩:∃ x,(Z8 m.dk bn).2.2=x:=⟨_,rfl⟩
 obtain ⟨hd,hhd⟩:∃ x,Yn (Z8 m.sm k)=x:=⟨_,rfl⟩
 have d1:=hc3 b hb 2 (.int .i64 mk) (by rw [<-hmk];rfl);have d2:=hc3 bn hbl 2 (.int .i64 mf) (by rw [<-hmf];rfl);have s1:=hc2 k hk 1 (.int .i64 (bn:Int)) (by rw [<-hbn];rfl);have s7:=hc2 k hk 7 (.int .i64 hd) (by rw [<-hhd];rfl)
 have hpw:putW m (Z8 m.sm k) (b:Int)=QE (Z8 m.sm k) (b:Int) (Zr hd mf mk):=by
  unfold putW YJ;rw [hhd,hbn,Zy,Zy,hmk,hmf]
 obtain ⟨hn,hhn⟩:∃ x,Zr hd mf mk=x:=⟨_,rfl⟩
 rw [hpw,hhn];have Hhn:=Z9 hhn;obtain ⟨_,_,c2,c3,_,_⟩:=K.cells;clear hc2 hz2 hc3 hz3 hmk hmf hhd hpw hhn;go_enter Tryz.func138,Tryz.ntmps138;go_wp2_with fail;have k1:=ZY c3;have k2:=ZY d1;have k3:=ZY d2;have k4:=ZY s1;refine wp_region_quiet_below (by kernel_rfl) (by kernel_rfl) ?_
 repeat (go_big_quiet_step (fail))
 refine wpQuiet_nil ?_;intro _ hw';obtain ⟨⟨dq,osq⟩,hw''⟩:=hw';subst hw'';have hbb:Below W.heap.size W (Go.Sort.grow (Go.redrawn W dq) osq):=Z0 W dq osq;generalize Go.Sort.grow (Go.redrawn W dq) osq=wq at *;replace K:=K.next hbb;replace s7:=(hbb.cell (World.block_lt_of_cell? _ _ s7)).trans s7;clear hbb c2 c3 d1 d2 s1 k1 k2 k3 k4;go_wp2_with fail;refine (Calls.int_of (KU hd mf mk _) (uh Hhn)).mono ?_;rintro e w1 ⟨rfl,hbb⟩;replace K:=K.next hbb;clear hbb s7;go_wp2_with fail;refine (Au K rfl hk (b:Int) hn).mono ?_;rintro e w2 ⟨rfl,K2⟩;have HK:=Z9 K2;clear K2;go_wp2_with fail
 go_end0
 exact ⟨rfl,uh HK⟩
end Go.Proofs.YtamgfpdahadnfaaGreatDoor
