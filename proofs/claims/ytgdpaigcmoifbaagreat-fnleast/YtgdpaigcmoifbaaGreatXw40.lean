/- Part 40 of what the proof rests on. No condition but those that a theorem names. -/
import Derived.Test.YtgdpaigcmoifbaaGreatXw33
set_option maxHeartbeats 8000000
set_option maxRecDepth 100000
namespace Go.Proofs.YtgdpaigcmoifbaaGreat
open Go.ChangeShapes Go.WideShapes Go.ChangeAt Go.RowKit Go.Sort Go.Shelf Go.Proofs.Tryz
set_option linter.unusedVariables false
set_option linter.unusedSimpArgs false
set_option maxRecDepth 100000
theorem zj (m:Z6) (who:Int):(LV m who).length<=8:=by
 unfold LV
 split
 ·rename_i h
  simp only [ZO] at h;have:=(ZU h.1).sane.eight;have:=O0 m who m.dk.length;omega
 ·simp
theorem zg (m:Z6) (who:Int):(Zi m who).length<=1000:=by
 rw [<-C4,List.length_map];have:=List.length_filter_le (Xo (YM m who)) (LV m who);have:=zj m who;omega
attribute [local go_sem] Jk zo
theorem ML {w:World} {v:Value} {n0:Nat} {us:List YI} (h:Yo n0 w v us) (hl:us.length<=1000):cB 146 #[v] w (.int .i64 (Ry us).1):=by
 obtain ⟨ua,uc,rfl⟩:=RecAt.shape h;have H0:=Z9 h;clear h;go_enter func146,ntmps146;go_wp2_with fail
 go_loopw [3,4,9] (fun c t i wr=> ∃ j:Nat,j<=us.length/\i= .int .i64 j/\c= .int .i64 (Ry (us.take j)).1/\t= .int .i64 (Ry (us.take j)).2/\Below w.heap.size w wr) (fun _ _ i _=>us.length-(intOf i).toNat)
 case atStart=>exact ⟨0,ZA _,rfl,rfl,rfl,Z3 _ _⟩
 case round=>
  obtain ⟨j,hj,rfl,rfl,rfl,hb⟩:=hrel;have HU:=Z9 (RecAt.later (uh H0) hb);have BB:=Z9 hb;clear hb;by_cases hlt:j<us.length
  ·have hlt1:(j:Int)<(us.length:Int):=by omega
   have HR:=Z9 (Cs hlt);generalize hcm:Ry (us.take j)=cm at *;clear hcm;obtain ⟨ch,mo⟩:=cm;obtain ⟨g,rfl,hgl,hgw,hcl,_⟩:=RecAt.view WM (by omega) (uh HU) rfl (by omega);have z0:=TN hcl hlt;clear hcl;generalize hx:Z8 us j=x at *;clear hx;obtain ⟨bx,ux,fx⟩:=x;simp only at z0;unfold PL at HR;simp only at HR ⊢;by_cases h1:ch= -1
   ·subst h1
    rw [if_pos (.inl rfl)] at HR;go_upto_region 6 with fail;go_wp2_with (first | (go_at_call 359;refine (S9 _ _ _ _).mono ?_;rintro e w1 ⟨rfl,hb⟩;replace BB:=bt BB hb;clear hb) | (go_at_call 360;refine (Ks _ _ _ _).mono ?_;rintro e w2 ⟨rfl,hb⟩;replace BB:=bt BB hb;clear hb))
    go_roundw
    case rel=>exact ⟨j+1,by omega,by go_num,by rw [uh HR],by rw [uh HR],uh BB⟩
    case measure=>exact ms
   ·have h1b:(ch == -1)=false:=beq_eq_false_iff_ne.mpr h1
    obtain ⟨sp,hsp⟩:=ZJ (XX ux fx);have HSP:=Z9 (fun X=>Calls.int_of (Ks bx ux fx X) hsp);rw [hsp] at HR;clear hsp;go_upto_region 5 with fail;go_wp2_with fail;refine ck (uh HSP _) fun w1 hb=> ?_;replace BB:=bt BB hb;clear hb;by_cases h2:mo<sp
    ·rw [if_pos (.inr h2)] at HR
     go_upto_region 6 with fail;go_wp2_with (first | (go_at_call 359;refine (S9 _ _ _ _).mono ?_;rintro e w2 ⟨rfl,hb⟩;replace BB:=bt BB hb;clear hb) | (go_at_call 360;refine (uh HSP _).mono ?_;rintro e w3 ⟨rfl,hb⟩;replace BB:=bt BB hb;clear hb))
     go_roundw
     case rel=>exact ⟨j+1,by omega,by go_num,by rw [uh HR],by rw [uh HR],uh BB⟩
     case measure=>exact ms
    ·rw [if_neg (not_or.2 ⟨h1,h2⟩)] at HR
     go_wp2_with fail;go_roundw
     case rel=>exact ⟨j+1,by omega,by go_num,by rw [uh HR],by rw [uh HR],uh BB⟩
     case measure=>exact ms
  ·obtain rfl:j=us.length:=by omega
   rw [List.take_length];go_wp2_with fail;go_ret;exact ⟨rfl,uh BB⟩
theorem NF {w:World} {v0 v1 v2 v3 v4:Value} {m:Z6} {k n0:Nat} {v:Value} {fs:List Int} (h:Smy w v0 v1 v2 v3 v4 m) (A:Asks m k) (hf:NumsAt n0 w v fs) (hl:fs.length<=1000):cB 147 #[.agg #[v0,v1,v2,v3,v4,.int .i64 m.now],.int .i64 (k:Int),v] w (.int .i64 (UG m (k:Int) fs).1):=by
 obtain ⟨ua,uc,rfl⟩:=RecAt.shape hf;have HA:=Z9 A;have hk:=A.hk;clear A;have H0:=Z9 (RecAt.later hf ((Z3 _ _).alloc (Z0 _) (.cells #[v0,v1,v2,v3,v4,.int .i64 m.now] 32)));clear hf;obtain ⟨a0,p0,a1,p1,a2,p2,a3,p3,a4,p4,rfl,rfl,rfl,rfl,rfl,K⟩:=Bx.new h;clear h;go_enter func147,ntmps147;go_wp2_with fail;generalize w.alloc (.cells (S6 a0 p0 a1 p1 a2 p2 a3 p3 a4 p4 m) 32)=W at *
 go_loopw [7,8,14] (fun c t i wr=> ∃ j:Nat,j<=fs.length/\i= .int .i64 j/\c= .int .i64 (UG m (k:Int) (fs.take j)).1/\t= .int .i64 (UG m (k:Int) (fs.take j)).2/\Bx w wr w.heap.size a0 p0 a1 p1 a2 p2 a3 p3 a4 p4 m/\Below W.heap.size W wr) (fun _ _ i _=>fs.length-(intOf i).toNat)
 case atStart=>exact ⟨0,ZA _,rfl,rfl,rfl,K,Z3 _ _⟩
 case round=>
  obtain ⟨j,hj,rfl,rfl,rfl,hK,hb⟩:=hrel;clear K;have K:=hK;have HU:=Z9 (RecAt.later (uh H0) hb);have BB:=Z9 hb;clear hb hK;by_cases hlt:j<fs.length
  ·have hlt1:(j:Int)<(fs.length:Int):=by omega
   have HR:=Z9 (DU (m:=m) (who:=(k:Int)) hlt);obtain ⟨g,rfl,hgl,hgw,hcl,_⟩:=RecAt.view Ze (by omega) (uh HU) rfl (by omega);have z0:=hcl j hlt 0 _ rfl;simp only [Nat.mul_one,Nat.add_zero] at z0;clear hcl;generalize hx:Z8 fs j=bx at *;clear hx;generalize hcm:UG m (k:Int) (fs.take j)=cm at *;clear hcm;obtain ⟨ch,mo⟩:=cm;unfold Xe at HR;rw [Zp] at HR;simp only at HR ⊢;obtain ⟨cw,hcw⟩:=ZJ (ZS m (k:Int) bx);rw [hcw] at HR;have Hcw:=Z9 hcw;clear hcw;obtain ⟨c0,c1,c2,c3,c4,c5⟩:=K.cells;go_wp2_with fail;refine ck (LA (uh Hcw) K.smy (uh HA).sane (uh HA).wants hk (uh HA).hs) fun w1 hb=> ?_;replace K:=K.next hb;replace BB:=bt BB hb;clear hb c0 c1 c2 c3 c4 c5 z0 HU Hcw;by_cases h1:ch= -1
   ·subst h1
    rw [if_pos (.inl rfl)] at HR;go_wp2_with fail;go_roundw
    case rel=>exact ⟨j+1,by omega,by go_num,by rw [uh HR],by rw [uh HR],K,uh BB⟩
    case measure=>exact ms
   have h1b:(ch == -1)=false:=beq_eq_false_iff_ne.mpr h1;by_cases h2:cw<mo
   ·rw [if_pos (.inr (.inl h2))] at HR
    go_wp2_with fail;go_roundw
    case rel=>exact ⟨j+1,by omega,by go_num,by rw [uh HR],by rw [uh HR],K,uh BB⟩
    case measure=>exact ms
   by_cases h3:cw=mo
   ·have h3b:(cw ==mo)=true:=beq_iff_eq.mpr h3
    have hk1:(k:Int)<(m.sm.length:Int):=by omega
    obtain ⟨_,_,hse,_,_,r2⟩:=K.smy.sm;cases hse
    rcases r2 with e0 | ⟨sb,off,rfl,hbw,hcs⟩
    ·rw [e0] at hk;simp at hk
    obtain ⟨d0,d1,d2,d3,d4,d5,d6,d7,d8,d9,d10⟩:=Zu hcs hk;have c2:=K.blk.cell (i:=2) (v:= .slice (some ⟨sb,off,none⟩) m.sm.length p2) rfl;clear hcs d0 d2 d3 d4 d5 d6 d7 d8 d9 d10;generalize (Z8 m.sm k).2.1=own at *;subst h3;clear h3b;by_cases h4:bx=own
    ·have h4b:(bx ==own)=true:=beq_iff_eq.mpr h4
     rw [if_pos (.inr (.inr ⟨rfl,h4⟩))] at HR;subst h4;go_wp2_with fail;go_roundw
     case rel=>exact ⟨j+1,by omega,by go_num,by rw [uh HR],by rw [uh HR],K,uh BB⟩
     case measure=>exact ms
    ·have h4b:(bx ==own)=false:=beq_eq_false_iff_ne.mpr h4
     rw [if_neg (not_or.2 ⟨h1,not_or.2 ⟨h2,fun e=>h4 e.2⟩⟩)] at HR;go_wp2_with fail;go_roundw
     case rel=>exact ⟨j+1,by omega,by go_num,by rw [uh HR],by rw [uh HR],K,uh BB⟩
     case measure=>exact ms
   ·have h3b:(cw ==mo)=false:=beq_eq_false_iff_ne.mpr h3
    rw [if_neg (not_or.2 ⟨h1,not_or.2 ⟨h2,fun e=>h3 e.1⟩⟩)] at HR;go_wp2_with fail;go_roundw
    case rel=>exact ⟨j+1,by omega,by go_num,by rw [uh HR],by rw [uh HR],K,uh BB⟩
    case measure=>exact ms
  ·obtain rfl:j=fs.length:=by omega
   rw [List.take_length];go_wp2_with fail;go_ret;exact ⟨rfl,K.bb⟩
attribute [local go_sem] Jj
theorem Ok {w:World} {v0 v1 v2 v3 v4:Value} {m:Z6} {q:Bool} (hq:XT m=q) (h:Smy w v0 v1 v2 v3 v4 m) (hS:Sane m) (hT:Wants m):cB 84 #[.agg #[v0,v1,v2,v3,v4,.int .i64 m.now]] w (.bool q):=by
 have Hq2:Hid ((XK m m.dk.length).any (fun x=>V4 x.2.1 x.2.2)=q):=Z9 ((BD m).trans hq);clear hq;have hl:=hS.few;have h8:=hS.eight;have hfl:=Ss m m.dk.length;have HT:=Z9 hT;clear hT hS;obtain ⟨a0,p0,a1,p1,a2,p2,a3,p3,a4,p4,rfl,rfl,rfl,rfl,rfl,K⟩:=Bx.new h;clear h;go_enter func84,ntmps84;go_wp2_with fail;generalize w.alloc (.cells (S6 a0 p0 a1 p1 a2 p2 a3 p3 a4 p4 m) 32)=W at *;refine (PY K.smy (uh HT) hl (by omega)).mono ?_;rintro e w2 ⟨v2,rfl,hu,hb⟩;replace K:=K.next hb;clear hb;generalize XK m m.dk.length=us at *;obtain ⟨ua,uc,rfl⟩:=RecAt.shape hu;have H0:=Z9 hu;clear hu;go_wp2_with fail
 go_loopw [8] (fun i wr=> ∃ j:Nat,j<=us.length/\i= .int .i64 j/\(∀ i,i<j->(fun x:YI=>V4 x.2.1 x.2.2) (Z8 us i)=false)/\Bx w wr w.heap.size a0 p0 a1 p1 a2 p2 a3 p3 a4 p4 m/\Below w2.heap.size w2 wr) (fun i _=>us.length-(intOf i).toNat)
 case atStart=>exact ⟨0,ZA _,rfl,fun i hi=>by omega,K,Z3 _ _⟩
 case round=>
  obtain ⟨j,hj,rfl,hno,hK,hb⟩:=hrel;clear K;have K:=hK;have HU:=Z9 (RecAt.later (uh H0) hb);have BB:=Z9 hb;have Hno:=Z9 hno;clear hb hK hno;by_cases hlt:j<us.length
  ·have hlt1:(j:Int)<(us.length:Int):=by omega
   obtain ⟨pq,hpq⟩:=ZJ ((fun x:YI=>V4 x.2.1 x.2.2) (Z8 us j));have HY:=Z9 (fun hh:pq=true=>CU hlt (p:=(fun x:YI=>V4 x.2.1 x.2.2)) (hpq.trans hh))
   have HX:Hid (pq=false-> ∀ i,i<j+1->(fun x:YI=>V4 x.2.1 x.2.2) (Z8 us i)=false):=Z9 (fun hh i hi=>by
    by_cases e:i=j
    ·rw [e,hpq,hh]
    ·exact uh Hno i (by omega))
   have Hpq:=Z9 hpq;clear hpq;obtain ⟨g,rfl,hgl,hgw,hcl,_⟩:=RecAt.view WM (by omega) (uh HU) rfl (by omega);have z0:=TN hcl hlt;clear hcl;generalize hx:Z8 us j=x at *;clear hx;obtain ⟨bx,ux,fx⟩:=x;simp only at z0;go_upto_region 4 with fail;go_wp2_with fail;refine ck (Calls.bool_of (L6 _ _ _ _) (uh Hpq)) fun w3 hb=> ?_;replace K:=K.next hb;replace BB:=bt BB hb;clear hb z0;cases pq
   ·go_wp2_with fail
    go_roundw
    case rel=>exact ⟨j+1,by omega,by go_num,uh HX (by trivial),K,uh BB⟩
    case measure=>exact ms
   ·obtain rfl:q=true:=(uh Hq2).symm.trans (uh HY (by trivial))
    go_wp2_with fail;go_ret;exact ⟨rfl,K.bb⟩
  ·obtain rfl:j=us.length:=by omega
   obtain rfl:q=false:=(uh Hq2).symm.trans (zJ (uh Hno));go_wp2_with fail;go_ret;exact ⟨rfl,K.bb⟩
attribute [local go_sem] Jk zp
theorem zZ {wn:Int} {us:List YI} {j:Nat} (hj:j<us.length) (h:Xo wn (Z8 us j)=true):((us.take (j+1)).filter (Xo wn)).map (·.1)=((us.take j).filter (Xo wn)).map (·.1)++[(Z8 us j).1]:=by rw [LR hj h,List.map_append];rfl
theorem Ab {wn:Int} {us:List YI} {j:Nat} (hj:j<us.length) (h:Xo wn (Z8 us j)=false):((us.take (j+1)).filter (Xo wn)).map (·.1)=((us.take j).filter (Xo wn)).map (·.1):=by rw [JP hj h]
theorem Pw {w:World} {v0 v1 v2 v3 v4:Value} {m:Z6} {k:Nat} {q:List Int} (hq:Zr m (k:Int)=q) (h:Smy w v0 v1 v2 v3 v4 m) (A:Asks m k):Calls prog 72 #[.agg #[v0,v1,v2,v3,v4,.int .i64 m.now],.int .i64 (k:Int)] w fun e w'=> ∃ v',e= .returned v'/\NumsAt w.heap.size w' v' q/\Below w.heap.size w w':=by
 have hq:((WE m (k:Int) m.dk.length).filter (Xo (ZC m (k:Int)))).map (·.1)=q:=(Nx m (k:Int) m.dk.length).trans hq;have hfl:=A.few;have HA:=Z9 A;have HW9:=Z9 (fun (X:World) (hX:Smy X v0 v1 v2 v3 v4 m)=>Ni hX A.wants A.hk A.hs);clear A;obtain ⟨wn,hwn⟩:=ZJ (ZC m (k:Int));rw [hwn] at hq HW9;have Hq:=Z9 hq;clear hwn hq;have Hs:=Z9 h;obtain ⟨a0,p0,a1,p1,a2,p2,a3,p3,a4,p4,rfl,rfl,rfl,rfl,rfl,K⟩:=Bx.new h;clear h;go_enter func72,ntmps72;go_wp2_with fail;generalize w.alloc (.cells (S6 a0 p0 a1 p1 a2 p2 a3 p3 a4 p4 m) 32)=W at *;refine ck (uh HW9 _ K.smy) fun w1 hb=> ?_;replace K:=K.next hb;clear hb HW9;obtain ⟨c0,c1,c2,c3,c4,c5⟩:=K.cells;have hsz:=K.blk.lt;go_wp2_with fail;clear c0 c1 c2 c3 c4 c5;have HL:Hid (NumsAt (w.heap.size+1) (w1.alloc (.cells #[] 2)) (.slice (some ⟨w1.heap.size,0,none⟩) 0 0) []):=Z9 (Zq rfl (by omega));replace K:=K.alloc (.cells #[] 2);generalize w1.alloc (.cells #[] 2)=W1 at *;generalize w1.heap.size=lb at *;refine (TO K.smy (uh HA)).mono ?_;rintro e w2 ⟨v2,rfl,hu,hb⟩;have hsp:∀ i,v2.ownBlock=some i->(Value.slice (some ⟨lb,0,none⟩) 0 0).ownBlock ≠ some i:=fun i e e2=>by have:=(RecAt.lt hu e).1;have:=(RecAt.lt (uh HL) e2).2;omega
 have hu2:Yo W1.heap.size w2 v2 (WE m (k:Int) m.dk.length):=hu;replace K:=K.next hb;replace HL:=Z9 (RecAt.later (uh HL) hb);clear hb hu;generalize WE m (k:Int) m.dk.length=us at *;obtain ⟨ua,uc,rfl⟩:=RecAt.shape hu2;have HU:=Z9 hu2;have Hsp:=Z9 hsp;clear hu2 hsp;go_wp2_with fail
 go_loopw [6,17] (fun l i wr=> ∃ j:Nat,j<=us.length/\i= .int .i64 j/\NumsAt (w.heap.size+1) wr l (((us.take j).filter (Xo wn)).map (·.1))/\Yo W1.heap.size wr (.slice ua us.length uc) us/\(∀ i,(Value.slice ua us.length uc).ownBlock=some i->l.ownBlock ≠ some i)/\Bx w wr w.heap.size a0 p0 a1 p1 a2 p2 a3 p3 a4 p4 m) (fun _ i _=>us.length-(intOf i).toNat)
 case atStart=>exact ⟨0,ZA _,rfl,uh HL,uh HU,uh Hsp,K⟩
 case round=>
  obtain ⟨j,hj,rfl,hln,hun,hsp,hK⟩:=hrel;clear K HL HU Hsp;have K:=hK;clear hK;obtain ⟨la,lc,rfl⟩:=RecAt.shape hln;have HL:=Z9 hln;have HU:=Z9 hun;have Hsp:=Z9 hsp;have hgl9:(((us.take j).filter (Xo wn)).map (·.1)).length<=8:=by have e1:=List.length_filter_le (Xo wn) (us.take j);have e2:(us.take j).length<=us.length:=(by simp;omega);simp only [List.length_map];omega
  clear hln hun hsp;by_cases hlt:j<us.length
  ·have hlt1:(j:Int)<(us.length:Int):=by omega
   have HY:=Z9 (fun hh=>zZ (wn:=wn) hlt hh);have HN:=Z9 (fun hh=>Ab (wn:=wn) hlt hh);obtain ⟨tq,htq⟩:=ZJ (Xo wn (Z8 us j));rw [htq] at HY HN;have Htq:=Z9 htq;clear htq;generalize ((us.take j).filter (Xo wn)).map (·.1)=ls at *;obtain ⟨g,rfl,hgl,hgw,hcl,_⟩:=RecAt.view WM (by omega) (uh HU) rfl (by omega);have z0:=TN hcl hlt;clear hcl;generalize hx:Z8 us j=x at *;clear hx;obtain ⟨bx,ux,fx⟩:=x;simp only at z0;go_upto_region 6 with fail;go_wp2_with fail;refine ck (Calls.bool_of (CE wn bx ux fx _) (uh Htq)) fun w3 hb=> ?_;replace K:=K.next hb;replace HL:=Z9 (RecAt.later (uh HL) hb);replace HU:=Z9 (RecAt.later (uh HU) hb);clear hb z0;cases tq
   ·go_wp2_with fail
    go_roundw
    case rel=>exact ⟨j+1,by omega,by go_num,by rw [uh HN (by trivial)];exact uh HL,uh HU,uh Hsp,K⟩
    case measure=>exact ms
   ·go_wp2_with fail
    refine ck (S9 _ _ _ _) fun w4 hb=> ?_;replace K:=K.next hb;replace HL:=Z9 (RecAt.later (uh HL) hb);replace HU:=Z9 (RecAt.later (uh HU) hb);clear hb;have hsx:=K.blk.lt;go_wp2_with (at_builtin;refine ZG tyN rfl (.tmp 24) (.tmp 27) 30 underlying30 rfl (w.heap.size+1) _ _ ls [bx] rfl rfl (RecAt.later (uh HL) ((ba _ _))) (WH bx rfl (Z0 _) (by omega)) (by simp;omega) (by simp;omega) ?_;intro u9 w9 hp9 hg9 hat9;have HP9:=Z9 hp9;have HG9:=Z9 hg9;have HA9:=Z9 hat9;clear hp9 hg9 hat9)
    have hgo:∀ i,(Value.slice la ls.length lc).ownBlock=some i->w.heap.size<=i/\i ≠ w.heap.size:=fun i e=>by have:=(RecAt.lt (uh HL) e).1;omega
    replace K:=(K.alloc _).grown (uh Hs) (uh HG9) hgo;have hul:=fun i e=>(RecAt.lt (uh HU) (i:=i) e).2
    have hsp9:∀ i,(Value.slice (some ⟨g,0,none⟩) us.length uc).ownBlock=some i->u9.ownBlock ≠ some i:=by
     intro i e e2
     rcases uh HA9 with h9 | h9
     ·rw [h9] at e2;exact uh Hsp i e e2
     ·rw [h9] at e2
      have:=hul i e;simp at e2;omega
    replace HU:=Z9 (RecAt.grown (RecAt.later (uh HU) ((ba _ _))) (uh HG9) (uh Hsp));go_wp2_with fail;go_roundw
    case rel=>exact ⟨j+1,by omega,by go_num,by rw [uh HY (by trivial)];exact uh HP9,uh HU,hsp9,K⟩
    case measure=>exact ms
  ·obtain rfl:j=us.length:=by omega
   have e9:((us.take us.length).filter (Xo wn)).map (·.1)=q:=by rw [List.take_length];exact uh Hq
   have E9:=Z9 e9;clear e9;go_wp2_with fail;go_ret;exact ⟨_,rfl,by rw [<-uh E9];exact RecAt.mono (uh HL) (Nat.le_succ _),K.bb⟩
theorem FL {w:World} {v0 v1 v2 v3 v4:Value} {m:Z6} {k:Nat} {q:Int} (hq:Zl m (k:Int)=q) (h:Smy w v0 v1 v2 v3 v4 m) (A:Asks m k):cB 81 #[.agg #[v0,v1,v2,v3,v4,.int .i64 m.now],.int .i64 (k:Int)] w (.int .i64 q):=by
 rw [DV] at hq;have Hq:=Z9 hq;clear hq;obtain ⟨fs,hfs⟩:=ZJ (Zr m (k:Int));have Hfs:=Z9 hfs
 have hfl:fs.length<=1000:=by
  rw [<-hfs,show Zr m (k:Int)=((WE m (k:Int) m.dk.length).filter (Xo (ZC m (k:Int)))).map (·.1) from (Nx m (k:Int) m.dk.length).symm,List.length_map];have:=List.length_filter_le (Xo (ZC m (k:Int))) (WE m (k:Int) m.dk.length);have:=A.few;omega
 rw [hfs] at Hq;obtain ⟨cr,hcr⟩:=ZJ (XT m);have Hcr:=Z9 hcr;rw [hcr] at Hq;clear hfs hcr;have hul:=A.few;have HA:=Z9 A;clear A;obtain ⟨a0,p0,a1,p1,a2,p2,a3,p3,a4,p4,rfl,rfl,rfl,rfl,rfl,K⟩:=Bx.new h;clear h;go_enter func81,ntmps81;go_wp2_with fail;generalize w.alloc (.cells (S6 a0 p0 a1 p1 a2 p2 a3 p3 a4 p4 m) 32)=W at *;refine (Pw (uh Hfs) K.smy (uh HA)).mono ?_;rintro e w1 ⟨v1,rfl,hn,hb⟩;replace K:=K.next hb;clear hb;obtain ⟨na,nc,rfl⟩:=RecAt.shape hn;have HN:=Z9 hn;clear hn;obtain ⟨c0,c1,c2,c3,c4,c5⟩:=K.cells;go_wp2_with fail;refine ck (Ok (uh Hcr) K.smy (uh HA).sane (uh HA).wants) fun w2 hb=> ?_;replace K:=K.next hb;replace HN:=Z9 (RecAt.later (uh HN) hb);clear hb c0 c1 c2 c3 c4 c5 Hcr;obtain ⟨c0,c1,c2,c3,c4,c5⟩:=K.cells;by_cases hcond:(cr || decide (fs.length=0))=true
 ·rw [hcond,if_pos rfl] at Hq
  obtain rfl:=(uh Hq).symm
  have hrun:cr=true\/(cr=false/\fs.length=0):=by
   cases cr
   ·right;exact ⟨rfl,by simpa using hcond⟩
   ·exact .inl rfl
  clear hcond Hq
  rcases hrun with rfl | ⟨rfl,h0⟩
  all_goals
   try (obtain rfl:=List.eq_nil_of_length_eq_zero h0;clear h0)
   go_wp2_with fail;refine (TO K.smy (uh HA)).mono ?_;rintro e w3 ⟨v3,rfl,hu,hb⟩;replace K:=K.next hb;have HU:=Z9 hu;clear hb hu c0 c1 c2 c3 c4 c5;go_wp2_with fail;refine ck (ML (uh HU) (by omega)) fun w4 hb=> ?_;replace K:=K.next hb;clear hb;go_wp2_with fail;go_ret;exact ⟨rfl,K.bb⟩
 ·obtain rfl:cr=false:=(by cases cr<;>first | rfl | simp at hcond)
  have h0:¬ fs.length=0:=by simpa using hcond
  rw [Bool.false_or,decide_eq_false h0,if_neg (by simp)] at Hq;obtain rfl:=(uh Hq).symm;clear hcond Hq;have h0i:¬ ((fs.length:Int)=0):=by omega
  have h0b:((fs.length:Int) ==0)=false:=beq_eq_false_iff_ne.mpr h0i;clear h0;go_wp2_with fail;refine ck (NF K.smy (uh HA) (uh HN) hfl) fun w3 hb=> ?_;replace K:=K.next hb;clear hb c0 c1 c2 c3 c4 c5;go_wp2_with fail;go_ret;exact ⟨rfl,K.bb⟩
theorem Ti {w:World} {v0 v1 v2 v3 v4:Value} {m:Z6} {who:Int} {q:Bool} (hq:(ZM m && Yn m who)=q) (h:Smy w v0 v1 v2 v3 v4 m):cB 71 #[.agg #[v0,v1,v2,v3,v4,.int .i64 m.now],.int .i64 who] w (.bool q):=by
 obtain ⟨wn,hwn⟩:=ZJ (YM m who);have Hwn:=Z9 hwn;have hw9:=(Wr m who).1
 have Hd:Hid ((wn == -1)= !q):=Z9 (by
  rw [<-hwn,<-hq];unfold YM;cases (ZM m && Yn m who)
  ·rfl
  ·simp;omega)
 clear hwn hq hw9;obtain ⟨a0,p0,a1,p1,a2,p2,a3,p3,a4,p4,rfl,rfl,rfl,rfl,rfl,K⟩:=Bx.new h;clear h;go_enter func71,ntmps71;go_wp2_with fail;generalize w.alloc (.cells (S6 a0 p0 a1 p1 a2 p2 a3 p3 a4 p4 m) 32)=W at *;refine ck (Re (uh Hwn) K.smy) fun w1 hb=> ?_;replace K:=K.next hb;clear hb Hwn;have hd:=uh Hd;cases q
 ·obtain rfl:wn= -1:=by simpa using hd
  clear hd Hd;go_wp2_with fail;go_ret;exact ⟨rfl,K.bb⟩
 ·have hne:Hid ((wn != -1)=true):=Z9 (by show (!(wn == -1))=true;rw [hd];rfl)
  clear hd Hd;go_wp2_with fail;go_ret;exact ⟨congrArg (fun x=>Ending.returned (.bool x)) (uh hne),K.bb⟩
theorem L8 {w:World} {v0 v1 v2 v3 v4:Value} {m:Z6} {who q:Int} (hq:X9 m who=q) (h:Smy w v0 v1 v2 v3 v4 m):cB 33 #[.agg #[v0,v1,v2,v3,v4,.int .i64 m.now],.int .i64 who] w (.int .i64 q):=by
 obtain ⟨ok,hok⟩:=ZJ ((ZM m && Yn m who));have Hok:=Z9 hok;have Hq:=Z9 hq;clear hok hq;obtain ⟨a0,p0,a1,p1,a2,p2,a3,p3,a4,p4,rfl,rfl,rfl,rfl,rfl,K⟩:=Bx.new h;clear h;go_enter func33,ntmps33;go_wp2_with fail;generalize w.alloc (.cells (S6 a0 p0 a1 p1 a2 p2 a3 p3 a4 p4 m) 32)=W at *;refine ck (Ti (uh Hok) K.smy) fun w1 hb=> ?_;replace K:=K.next hb;clear hb;cases ok
 ·obtain rfl:q= -1:=by rw [<-uh Hq];unfold X9;rw [uh Hok];rfl
  go_wp2_with fail;go_ret;exact ⟨rfl,K.bb⟩
 have hq2:Zl m who=q:=by rw [<-uh Hq];unfold X9;rw [uh Hok];rfl
 have ho:=uh Hok;simp only [ZO] at ho;obtain ⟨k,rfl,hk,hs⟩:=YK ho.2;have HA:=Z9 ((ZU ho.1).asks hk hs);clear ho Hok Hq;obtain ⟨c0,c1,c2,c3,c4,c5⟩:=K.cells;go_wp2_with fail;refine ck (FL hq2 K.smy (uh HA)) fun w2 hb=> ?_;replace K:=K.next hb;clear hb c0 c1 c2 c3 c4 c5;go_wp2_with fail;go_ret;exact ⟨rfl,K.bb⟩
end Go.Proofs.YtgdpaigcmoifbaaGreat
namespace Go.Proofs.YtgdpaigcmoifbaaGreat
open Go.ChangeShapes Go.WideShapes Go.ChangeAt Go.RowKit Go.Sort Go.Shelf Go.Proofs.Tryz
set_option linter.unusedVariables false
set_option linter.unusedSimpArgs false
set_option maxRecDepth 100000
theorem UK {w:World} {v0 v1 v2 v3 v4:Value} {m:Z6} {who b:Int} {q:Bool} (hq:XJ m who b=q) (h:Smy w v0 v1 v2 v3 v4 m):cB 23 #[.agg #[v0,v1,v2,v3,v4,.int .i64 m.now],.int .i64 who,.int .i64 b] w (.bool q):=by
 rw [<-zk] at hq;obtain ⟨ok,hok⟩:=ZJ ((ZM m && Yn m who));have Hok:=Z9 hok;have Hq:=Z9 hq;clear hok hq;obtain ⟨a0,p0,a1,p1,a2,p2,a3,p3,a4,p4,rfl,rfl,rfl,rfl,rfl,K⟩:=Bx.new h;clear h;go_enter func23,ntmps23;go_wp2_with fail;generalize w.alloc (.cells (S6 a0 p0 a1 p1 a2 p2 a3 p3 a4 p4 m) 32)=W at *;refine ck (Ti (uh Hok) K.smy) fun w1 hb=> ?_;replace K:=K.next hb;clear hb;cases ok
 ·obtain rfl:q=false:=by rw [<-uh Hq];unfold LV;rw [uh Hok];rfl
  go_wp2_with fail;go_ret;exact ⟨rfl,K.bb⟩
 have ho:=uh Hok;simp only [ZO] at ho;obtain ⟨k,rfl,hk,hs⟩:=YK ho.2;have HA:=Z9 ((ZU ho.1).asks hk hs);clear ho hk hs;obtain ⟨c0,c1,c2,c3,c4,c5⟩:=K.cells;go_wp2_with fail;refine (TO K.smy (uh HA)).mono ?_;rintro e w2 ⟨v1,rfl,hu,hb⟩;have K2:=K.next hb;have hq2:(WE m (k:Int) m.dk.length).any (fun x=>x.1 ==b)=q:=by rw [<-uh Hq];unfold LV;rw [uh Hok];rfl
 have hfl:(WE m (k:Int) m.dk.length).length<=8:=(uh HA).few;clear hb K c0 c1 c2 c3 c4 c5 Hq Hok HA;have BB:=Z9 K2.bb;clear K2;generalize WE m (k:Int) m.dk.length=us at *;obtain ⟨ua,uc,rfl⟩:=RecAt.shape hu;have H0:=Z9 hu;have Hq:=Z9 hq2;clear hu hq2;go_wp2_with fail
 go_loopw [17] (fun i wr=> ∃ j:Nat,j<=us.length/\i= .int .i64 j/\(∀ i,i<j->(fun x:YI=>x.1 ==b) (Z8 us i)=false)/\Below w2.heap.size w2 wr) (fun i _=>us.length-(intOf i).toNat)
 case atStart=>exact ⟨0,ZA _,rfl,fun i hi=>by omega,Z3 _ _⟩
 case round=>
  obtain ⟨j,hj,rfl,hno,hb⟩:=hrel;have HU:=Z9 (RecAt.later (uh H0) hb);have BW:=Z9 hb;replace BB:=bt BB hb;have Hno:=Z9 hno;clear hb hno;by_cases hlt:j<us.length
  ·have hlt1:(j:Int)<(us.length:Int):=by omega
   obtain ⟨pq,hpq⟩:=ZJ ((fun x:YI=>x.1 ==b) (Z8 us j));have HY:=Z9 (fun hh:pq=true=>CU hlt (p:=(fun x:YI=>x.1 ==b)) (hpq.trans hh))
   have HX:Hid (pq=false-> ∀ i,i<j+1->(fun x:YI=>x.1 ==b) (Z8 us i)=false):=Z9 (fun hh i hi=>by
    by_cases e:i=j
    ·rw [e,hpq,hh]
    ·exact uh Hno i (by omega))
   have Hpq:=Z9 hpq;clear hpq;obtain ⟨g,rfl,hgl,hgw,hcl,_⟩:=RecAt.view WM (by omega) (uh HU) rfl (by omega);have z0:=TN hcl hlt;clear hcl;generalize hx:Z8 us j=x at *;clear hx;obtain ⟨bx,ux,fx⟩:=x;simp only at z0;have hpq:(bx ==b)=pq:=uh Hpq;go_upto_region 6 with fail;go_wp2_with fail;refine ck (S9 _ _ _ _) fun w3 hb=> ?_;replace BB:=bt BB hb;replace BW:=Z9 ((uh BW).trans (hb.mono (uh BW).size));clear hb z0;cases pq
   ·have hbn:bx ≠ b:=by simpa using hpq
    go_wp2_with fail;go_roundw
    case rel=>exact ⟨j+1,by omega,by go_num,uh HX (by trivial),uh BW⟩
    case measure=>exact ms
   ·obtain rfl:q=true:=(uh Hq).symm.trans (uh HY (by trivial))
    obtain rfl:bx=b:=by simpa using hpq
    clear hpq;go_wp2_with fail;go_ret;exact ⟨rfl,uh BB⟩
  ·obtain rfl:j=us.length:=by omega
   obtain rfl:q=false:=(uh Hq).symm.trans (zJ (uh Hno));go_wp2_with fail;go_ret;exact ⟨rfl,uh BB⟩
theorem NP {w:World} {v0 v1 v2 v3 v4:Value} {m:Z6} {who:Int} {q:List Int} (hq:Zi m who=q) (h:Smy w v0 v1 v2 v3 v4 m):Calls prog 19 #[.agg #[v0,v1,v2,v3,v4,.int .i64 m.now],.int .i64 who] w fun e w'=> ∃ v',e= .returned v'/\NumsAt w.heap.size w' v' q/\Below w.heap.size w w':=by
 obtain ⟨ok,hok⟩:=ZJ ((ZM m && Yn m who));have Hok:=Z9 hok;have Hq:=Z9 hq;clear hok hq;obtain ⟨a0,p0,a1,p1,a2,p2,a3,p3,a4,p4,rfl,rfl,rfl,rfl,rfl,K⟩:=Bx.new h;clear h;go_enter func19,ntmps19;go_wp2_with fail;generalize w.alloc (.cells (S6 a0 p0 a1 p1 a2 p2 a3 p3 a4 p4 m) 32)=W at *;refine ck (Ti (uh Hok) K.smy) fun w1 hb=> ?_;replace K:=K.next hb;clear hb;cases ok
 ·obtain rfl:q=[]:=by rw [<-uh Hq];unfold Zi;rw [uh Hok];rfl
  go_wp2_with fail;go_ret;exact ⟨_,rfl,Zq rfl K.bb.size,(K.alloc _).bb⟩
 have ho:=uh Hok;simp only [ZO] at ho;obtain ⟨k,rfl,hk,hs⟩:=YK ho.2;have HA:=Z9 ((ZU ho.1).asks hk hs);clear ho hk hs;obtain ⟨c0,c1,c2,c3,c4,c5⟩:=K.cells;go_wp2_with fail;have hq2:Zr m (k:Int)=q:=by rw [<-uh Hq];unfold Zi;rw [uh Hok];rfl
 refine (Pw hq2 K.smy (uh HA)).mono ?_;rintro e w2 ⟨v1,rfl,hu,hb⟩;have BB:=Z9 (K.next hb).bb;have HU:=Z9 (RecAt.mono hu K.bb.size);obtain ⟨ua,uc,rfl⟩:=RecAt.shape hu;clear hu hb c0 c1 c2 c3 c4 c5 K;go_wp2_with fail;go_ret;exact ⟨_,rfl,uh HU,uh BB⟩
theorem NM {w:World} {v0 v1 v2 v3 v4:Value} {m:Z6} {q:Bool} (hq:Xx m=q) (h:Smy w v0 v1 v2 v3 v4 m):cB 35 #[.agg #[v0,v1,v2,v3,v4,.int .i64 m.now]] w (.bool q):=by
 obtain ⟨ok,hok⟩:=ZJ (ZM m);have Hok:=Z9 hok;have Hq:=Z9 hq;clear hok hq;obtain ⟨a0,p0,a1,p1,a2,p2,a3,p3,a4,p4,rfl,rfl,rfl,rfl,rfl,K⟩:=Bx.new h;clear h;go_enter func35,ntmps35;go_wp2_with fail;generalize w.alloc (.cells (S6 a0 p0 a1 p1 a2 p2 a3 p3 a4 p4 m) 32)=W at *;have hS:=SS K.smy;rw [uh Hok] at hS;refine hS.mono ?_;rintro e w1 ⟨rfl,hb⟩;replace K:=K.next hb;clear hb hS;cases ok
 ·obtain rfl:q=false:=by rw [<-uh Hq];unfold Xx;rw [uh Hok];rfl
  go_wp2_with fail;go_ret;exact ⟨rfl,K.bb⟩
 have hq2:XT m=q:=by rw [<-uh Hq];unfold Xx;rw [uh Hok];rfl
 have HL:=Z9 (ZU (uh Hok));obtain ⟨c0,c1,c2,c3,c4,c5⟩:=K.cells;go_wp2_with fail;refine ck (Ok hq2 K.smy (uh HL).sane (uh HL).wants) fun w2 hb=> ?_;replace K:=K.next hb;clear hb c0 c1 c2 c3 c4 c5;go_wp2_with fail;go_ret;exact ⟨rfl,K.bb⟩
end Go.Proofs.YtgdpaigcmoifbaaGreat
