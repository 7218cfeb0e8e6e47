/- Part 11 of what the proof rests on. No condition but those that a theorem names. -/
import Derived.Test.YtamgfpdahadnfaaGreatDoorXc09
set_option maxHeartbeats 8000000
set_option maxRecDepth 100000
namespace Go.Proofs.YtamgfpdahadnfaaGreatDoor
open Go.ChangeShapes Go.WideShapes Go.ChangeAt Go.RowKit Go.Sort
set_option linter.unusedVariables false
set_option linter.unusedSimpArgs false
variable {w w' w0 w1 w2 w3 w₀ wr W W' X A B C : World} {v v0 v1 v2 v3 v4 u u0 u1 u2 u3 u4 : Value} {m : Z6}
theorem Two.ents {p q:Option Nat} {B:Nat} {ps:List Z4} (h:EntsAt B w v ps) (ht:Two p q w w') (hp:∀ k,p=some k->k<B) (hq:∀ k,q=some k->k<B):EntsAt B w' v ps:=
 EntsAt.same h fun k e=>ht.block k (h.lt e).2 (fun e'=>by have:=hp k e';have:=(h.lt e).1;omega) (fun e'=>by have:=hq k e';have:=(h.lt e).1;omega)
theorem Two.cell {p q:Option Nat} (h:Two p q w w') {a:Addr} (ha:a.block<w.heap.size) (hp:p ≠ some a.block) (hq:q ≠ some a.block):w'.cell? a=w.cell? a:=World.cell?_of_block (w:=w) (h.block a.block ha hp hq)
theorem IC {q:List Z4} {j:Nat} (hj:j<q.length):q.take (j+1)=q.take j++[Z7 q j]:=by
 rw [List.take_succ_eq_append_getElem hj];unfold Z7;simp [List.getD,hj]
theorem KP {b:Nat} (h:atV m.sm b m.sm.length=[]):Xb m b={ m with dk:=m.dk.set b ((Z8 m.dk b).1,-1,(Z8 m.dk b).2.2) }:=by
 unfold Xb;rw [h]
theorem Nn {b:Nat} {e:Z4} {t:List Z4} (h:atV m.sm b m.sm.length=e::t):Xb m b={ m with sm:=(ZB m.sm (e::t)).set e.2.toNat (stS (Z8 (ZB m.sm (e::t)) e.2.toNat) 3),dk:=m.dk.set b ((Z8 m.dk b).1,e.2,Zu (Z8 m.dk b).2.2 e.1) }:=by
 unfold Xb;rw [h]
theorem RC {R n₀:Nat}  {qs:List (ZX × Value)} (kb:Blk w R 32 #[v0,v1,v2,v3,v4,.int .i64 m.now]) (hf:FullSmy n₀ w v0 v1 v2 v3 v4 m qs) (h2:v2.ownBlock ≠ some R) (h3:v3.ownBlock ≠ some R) (hl:m.sm.length<=800) (hd:m.dk.length<=1000) :
  Calls Tryz.prog 113 #[.pointer (some ⟨R,0,none⟩)] w fun e w'=>e= .returned (.tuple #[])/\FullSmy n₀ w' v0 v1 v2 v3 v4 (ZM m) qs/\Two v2.ownBlock v3.ownBlock w w':=by
 obtain ⟨a2,p2,rfl⟩:=RecAt.shape hf.sm;obtain ⟨a3,p3,rfl⟩:=RecAt.shape hf.dk;by_cases hnd:m.dk.length=0
 ·have hz:ZM m=m:=by unfold ZM;rw [hnd];rfl
  have c3:=kb.cell (i:=3) (v:= .slice a3 m.dk.length p3) rfl;have HF:=Z9 hf;rw [hz];have hz0:¬ (0:Int)<(m.dk.length:Int):=by omega
  clear hz hf kb hnd;go_enter Tryz.func113,Tryz.ntmps113;go_wp2_with fail
  go_loopw [2] (fun i wr=>i= .int .i64 0/\wr=w) (fun i _=>0)
  case atStart=>exact ⟨rfl,rfl⟩
  case round=>
   obtain ⟨rfl,hwr⟩:=hrel;subst hwr;go_wp2_with fail
   go_end0
   exact ⟨rfl,uh HF,Two.refl _ _ _⟩
 obtain ⟨g3,rfl,hg3,hg3w,_,_⟩:=RecAt.view Zx (by omega) hf.dk rfl (by omega);have Kb:=Z9 kb;have H2:=Z9 h2;have H3:Hid (g3 ≠ R):=Z9 (fun e=>h3 (by rw [e];rfl));have HF:=Z9 hf;have L2:Hid (∀ i,(Value.slice a2 m.sm.length p2).ownBlock=some i->i<w.heap.size):=Z9 (fun i e=>(RecAt.lt hf.sm e).2);clear kb h2 h3 hf;go_enter Tryz.func113,Tryz.ntmps113;go_wp2_with fail
 go_loopw [2] (fun i wr=> ∃ k:Nat,k<=m.dk.length/\i= .int .i64 k/\FullSmy n₀ wr v0 v1 (.slice a2 m.sm.length p2) (.slice (some ⟨g3,0,none⟩) m.dk.length p3) v4 (YV m k) qs/\Two (Value.slice a2 m.sm.length p2).ownBlock (some g3) w wr) (fun i _=>m.dk.length-(intOf i).toNat)
 case atStart=>exact ⟨0,Zz _,rfl,uh HF,Two.refl _ _ _⟩
 case round=>
  obtain ⟨k,hk,rfl,hf1,htw⟩:=hrel;obtain ⟨e1,e2,e3,e4,e5,e6⟩:=ZH m k;have Tw:=Z9 htw;have hgw:g3<wr.heap.size:=Zf hg3w htw.size;have hszr:=htw.size;have hkb1:=(uh Kb).two htw (uh H2) (fun e=>uh H3 (by cases e;rfl));have K1:=Z9 hkb1;clear htw hkb1;by_cases hlt:k<m.dk.length;rotate_left
  ·obtain rfl:k=m.dk.length:=by omega
   have c3:=(uh K1).cell (i:=3) (v:= .slice (some ⟨g3,0,none⟩) m.dk.length p3) rfl;have hno:¬ ((m.dk.length:Nat):Int)<(m.dk.length:Int):=by omega
   have HF1:=Z9 hf1;clear hf1;go_wp2_with fail
   go_end0
   exact ⟨rfl,uh HF1,uh Tw⟩
  have hstep:YV m (k+1)=Xb (YV m k) k:=rfl;generalize YV m k=m1 at *;have Hstep:=Z9 hstep;clear hstep;obtain ⟨c0,c1,c2,c3,c4,c5⟩:=(uh K1).c6;have hat:=Q2 (k:Int) hf1.smy (by rw [e5];exact hl);rw [e4,e5] at hat;have Hat:=Z9 hat;have HF1:=Z9 hf1;clear hat hf1;go_wp2_with fail;refine (uh Hat).mono ?_;rintro e w1 ⟨v',rfl,he,hb⟩;clear c0 c1 c2 c3 c4 c5 Hat;have hmem:=XC m1.sm (k:Int);have hlq:=Sk m1.sm (k:Int) m.sm.length;have HN:Hid (atV m1.sm (k:Int) m.sm.length=[]->Xb m1 k={ m1 with dk:=m1.dk.set k ((Z8 m1.dk k).1,-1,(Z8 m1.dk k).2.2) }):=Z9 (fun h=>KP (by rw [e5];exact h));have HC:Hid (∀ e t,atV m1.sm (k:Int) m.sm.length=e::t->Xb m1 k={ m1 with sm:=(ZB m1.sm (e::t)).set e.2.toNat (stS (Z8 (ZB m1.sm (e::t)) e.2.toNat) 3),dk:=m1.dk.set k ((Z8 m1.dk k).1,e.2,Zu (Z8 m1.dk k).2.2 e.1) }):=Z9 (fun e t h=>Nn (by rw [e5];exact h))
  have hmq:∀ x ∈ atV m1.sm (k:Int) m.sm.length,∃ j:Nat,j<m.sm.length/\x.2=(j:Int):=fun x hx=>by
   obtain ⟨j,hj,_,_,rfl⟩:=(hmem x m.sm.length).1 hx;exact ⟨j,hj,rfl⟩
  have Hm:=Z9 hmq;clear hmem hmq;generalize atV m1.sm (k:Int) m.sm.length=q at *;obtain ⟨qa,qc,rfl⟩:=EntsAt.shape he;have HE:=Z9 he;replace HF1:=Z9 ((uh HF1).below hb);replace K1:=bl K1 hb;replace Tw:=Z9 ((uh Tw).trans (Two.of_below hb));have hgw1:g3<w1.heap.size:=Zf hgw hb.size;have hwr1:=hb.size;clear he hb;obtain ⟨⟨o,wh,mk⟩,hrk⟩:∃ d,Z8 m1.dk k=d:=⟨_,rfl⟩
  rw [hrk] at HN HC;simp only at HN HC;have Hrk:=Z9 hrk;have hkd:k<m1.dk.length:=by omega
  have hset:∀ d,Z8 (m1.dk.set k d) k=d:=fun d=>by rw [ZF hkd,if_pos rfl]
  have Hset:=Z9 hset;clear hset;obtain ⟨_,hga,_,_,hc3,hz3⟩:=RecAt.view Zx (by omega) (uh HF1).dk e6.symm (by omega);cases hga;have d1:=hc3 k (by omega) 1 _ rfl;rw [hrk] at d1;have f1:=hz3 (k*3+1);have c3:=(uh K1).cell (i:=3) (v:= .slice (some ⟨g3,0,none⟩) m.dk.length p3) rfl;have hput:=(uh HF1).putD e6.symm (j:=k) (i:=1) (by omega) (by omega) (.int .i64 (-1)) (o,-1,mk) (by rw [hrk];rfl);have HF2:=Z9 hput;have hns:Two (Value.slice a2 m.sm.length p2).ownBlock (some g3) w1 (w1.setCell ⟨g3,k*3+1,none⟩ (.int .i64 (-1))):=Two.of_set w1 (.inr rfl) _ _;have K2:=Z9 ((uh K1).two hns (uh H2) (fun e=>uh H3 (by cases e;rfl)));have Tw2:=Z9 ((uh Tw).trans hns);have hlow2:∀ i,(Value.slice a2 m.sm.length p2).ownBlock=some i->i<wr.heap.size:=fun i e=>Zf (uh L2 i e) hszr;have Low2:=Z9 hlow2;have HE2:=Z9 (Two.ents (uh HE) hns hlow2 (fun i e=>by cases e;exact hgw));clear hput hns hlow2 hc3 hz3 hrk;go_upto_region 5 with fail;clear d1 f1 c3 K1 Tw HE HF1;generalize w1.setCell ⟨g3,k*3+1,none⟩ (.int .i64 (-1))=X at *;have hsm:∀ i,i ∈ [0]->True:=fun _ _=>trivial;clear hsm;go_wp2_with fail
  go_loopw [4] (fun i wi=> ∃ j:Nat,j<=q.length/\i= .int .i64 j/\FullSmy n₀ wi v0 v1 (.slice a2 m.sm.length p2) (.slice (some ⟨g3,0,none⟩) m.dk.length p3) v4 { m1 with sm:=ZB m1.sm (q.take j),dk:=m1.dk.set k (o,-1,mk) } qs/\Two (Value.slice a2 m.sm.length p2).ownBlock (some g3) X wi) (fun i _=>q.length-(intOf i).toNat)
  case atStart=>exact ⟨0,Zz _,rfl,by simpa [ZB] using uh HF2,Two.refl _ _ _⟩
  case round=>
   obtain ⟨wi,rfl⟩:∃ x,x=wr:=⟨wr,rfl⟩
   obtain ⟨j,hj,rfl,hf3,htw3⟩:=hrel;have HF3:=Z9 hf3;have Tw3:=Z9 htw3;have K3:=Z9 ((uh K2).two htw3 (uh H2) (fun e=>uh H3 (by cases e;rfl)));have HE3:=Z9 (Two.ents (uh HE2) htw3 (uh Low2) (fun i e=>by cases e;exact hgw));clear hf3 htw3;by_cases hjl:j<q.length
   ·obtain ⟨_,_,hqe,_,_,hr⟩:=EntsAt.pc (uh HE3)
    cases hqe
    rcases hr with e0 | ⟨eb,eo,rfl,hbw,hcl⟩
    ·rw [e0] at hjl;simp at hjl
    obtain ⟨c0,c1⟩:=hcl j hjl;obtain ⟨i0,hi0,hie⟩:=uh Hm _ (WR hjl);rw [hie] at c1;have Htk:Hid (ZB m1.sm (q.take (j+1))=(ZB m1.sm (q.take j)).set i0 (stS (Z8 (ZB m1.sm (q.take j)) i0) 2)):=Z9 (by rw [IC hjl,Qd,hie];simp);have hwl:(ZB m1.sm (q.take j)).length=m.sm.length:=by rw [XA,e5]
    obtain ⟨g2,rfl,hg2,hg2w,hc2,hz2⟩:=RecAt.view ZT (by omega) (uh HF3).sm hwl.symm (by show 0<(ZB m1.sm (q.take j)).length;omega);have s0:=hc2 i0 (by show i0<(ZB m1.sm (q.take j)).length;omega) 0 _ rfl;have f0:=hz2 (i0*11);have hput:=(uh HF3).putS hwl.symm (j:=i0) (i:=0) (by show i0<(ZB m1.sm (q.take j)).length;omega) (by omega) (.int .i64 2) (stS (Z8 (ZB m1.sm (q.take j)) i0) 2) rfl;simp only [Nat.add_zero] at s0 hput;have HF4:=Z9 hput;have c2:=(uh K3).cell (i:=2) (v:= .slice (some ⟨g2,0,none⟩) m.sm.length p2) rfl;clear hcl hc2 hz2 hput hie c0 hwl;have hi1:(i0:Int)<(m.sm.length:Int):=by omega
    go_wp2_with fail;refine ZL (S:=fun w'=>w'.cell? ⟨R,2,none⟩=some (.slice (some ⟨g2,0,none⟩) m.sm.length p2)/\w'.cell? ⟨eb,eo+j*2+1,none⟩=some (.int .i64 (i0:Int))) (by kernel_rfl) (WU _ _) (by kernel_rfl) ⟨c2,c1⟩ (fun hHeld=> ?_);simp only [WV,WW,YQ,YC,Nat.zero_add,Nat.reduceAdd]
    iterate 11 refine tz ?_
    refine wpAnyH_done (by kernel_rfl) ?_ _;refine ZD rfl rfl ?_;go_simp;clear hHeld;go_wp2_with fail;go_roundw
    case rel=>exact ⟨j+1,by omega,by go_num,by rw [uh Htk];exact (uh HF4).below (ZZ _ _).drew,((uh Tw3).trans (Two.of_set _ (.inl rfl) _ _)).trans (Two.of_below (ZZ _ _).drew)⟩
    case measure=>exact ms
   ·obtain rfl:j=q.length:=by omega
    rw [List.take_length] at HF3;cases q with
    | nil=>
     clear HC;go_wp2_with fail;go_roundw
     case rel=>exact ⟨k+1,by omega,by go_num,by rw [uh Hstep,uh HN rfl];exact uh HF3,(uh Tw2).trans (uh Tw3)⟩
     case measure=>exact ms
    | cons e t=>
     obtain ⟨_,_,hqe,_,_,hr⟩:=EntsAt.pc (uh HE3);cases hqe
     rcases hr with e0 | ⟨eb,eo,rfl,hbw,hcl⟩
     ·cases e0
     obtain ⟨c0,c1⟩:=hcl 0 (by simp);obtain ⟨i0,hi0,hie⟩:=uh Hm e (by simp);have hp0:Z7 (e::t) 0=e:=rfl;rw [hp0] at c0 c1;rw [hie] at c1;simp only [Nat.zero_mul,Nat.add_zero] at c0 c1;have hcons:=uh HC e t rfl;rw [hie] at hcons;simp only [show ((i0:Int)).toNat=i0 by simp] at hcons;have Hcons:=Z9 hcons;obtain ⟨hd0,hhd⟩:∃ x,e.1=x:=⟨_,rfl⟩
     rw [hhd] at c0 Hcons;clear hcons hhd hie hp0 hcl HN HC;have hwl:(ZB m1.sm (e::t)).length=m.sm.length:=by rw [XA,e5]
     obtain ⟨g2,rfl,hg2,hg2w,_,_⟩:=RecAt.view ZT (by omega) (uh HF3).sm hwl.symm (by show 0<(ZB m1.sm (e::t)).length;omega);have hD1:(m1.dk.set k (o,-1,mk)).length=m.dk.length:=by simp [e6]
     have hD2:∀ d,(m1.dk.set k d).length=m.dk.length:=fun d=>by simp [e6]
     have heb:=(EntsAt.lt (uh HE3) (k:=eb) rfl).1;have hg2r:=uh Low2 g2 rfl;have hlen:(e::t).length=t.length+1:=rfl;have hlpos:(0:Int)<((t.length+1:Nat):Int):=by omega
     rw [hlen] at *;obtain ⟨_,hga,_,_,hcd,hzd⟩:=RecAt.view Zx (by omega) (uh HF3).dk hD1.symm (by show 0<(m1.dk.set k (o,-1,mk)).length;omega);cases hga;have d1:=hcd k (by show k<(m1.dk.set k (o,-1,mk)).length;omega) 1 _ rfl;have f1:=hzd (k*3+1);have c3:=(uh K3).cell (i:=3) (v:= .slice (some ⟨g3,0,none⟩) m.dk.length p3) rfl;have hne2:(Value.slice (some ⟨g2,0,none⟩) m.sm.length p2).ownBlock ≠ some eb:=fun e9=>by have e8:g2=eb:=Option.some.inj e9;omega
     have hne3:(some g3:Option Nat) ≠ some eb:=fun e9=>by have e8:g3=eb:=Option.some.inj e9;omega
     have hput1:=(uh HF3).putD hD1.symm (j:=k) (i:=1) (by show k<(m1.dk.set k (o,-1,mk)).length;omega) (by omega) (.int .i64 (i0:Int)) (o,(i0:Int),mk) (by show Wx (o,(i0:Int),mk)=(Wx (Z8 (m1.dk.set k (o,-1,mk)) k)).set 1 _;rw [uh Hset];rfl);simp only [List.set_set] at hput1;have HF4:Hid (FullSmy n₀ (wi.setCell ⟨g3,k*3+1,none⟩ (.int .i64 (i0:Int))).drew v0 v1 (.slice (some ⟨g2,0,none⟩) m.sm.length p2) (.slice (some ⟨g3,0,none⟩) m.dk.length p3) v4 { m1 with sm:=ZB m1.sm (e::t),dk:=m1.dk.set k (o,(i0:Int),mk) } qs):=Z9 (hput1.below (ZZ _ _).drew);have T4:Two (Value.slice (some ⟨g2,0,none⟩) m.sm.length p2).ownBlock (some g3) wi (wi.setCell ⟨g3,k*3+1,none⟩ (.int .i64 (i0:Int))).drew:=(Two.of_set wi (.inr rfl) _ _).trans (Two.of_below (ZZ _ _).drew);have K4:=Z9 ((uh K3).two T4 (uh H2) (fun e9=>uh H3 (by cases e9;rfl)));have x0:=(T4.cell (a:=⟨eb,eo,none⟩) hbw hne2 hne3).trans c0;have x1:=(T4.cell (a:=⟨eb,eo+1,none⟩) hbw hne2 hne3).trans c1;have hbw4:eb<((wi.setCell ⟨g3,k*3+1,none⟩ (.int .i64 (i0:Int))).drew).heap.size:=Zf hbw T4.size;replace Tw3:=Z9 ((uh Tw3).trans T4);clear hput1 T4 hcd hzd HE3 HF3;go_wp2_with fail;refine ZL (S:=fun w'=>w'.cell? ⟨R,3,none⟩=some (.slice (some ⟨g3,0,none⟩) m.dk.length p3)/\w'.cell? ⟨eb,eo+1,none⟩=some (.int .i64 (i0:Int))) (by kernel_rfl) (WU _ _) (by kernel_rfl) ⟨c3,c1⟩ (fun hHeld=> ?_);simp only [WV,WW,YQ,YC,Nat.zero_add,Nat.reduceAdd]
     iterate 11 refine tz ?_
     refine wpAnyH_done (by kernel_rfl) ?_ _;refine ZD rfl rfl ?_;go_simp;clear hHeld;clear d1 f1 c3 c0 c1 hbw K3;generalize (wi.setCell ⟨g3,k*3+1,none⟩ (.int .i64 (i0:Int))).drew=Y at *;obtain ⟨_,hga,_,_,hcd,hzd⟩:=RecAt.view Zx (by omega) (uh HF4).dk (hD2 _).symm (by show 0<(m1.dk.set k _).length;rw [hD2];omega);cases hga;have d2:=hcd k (by show k<(m1.dk.set k _).length;rw [hD2];omega) 2 _ rfl
     have d2':Y.cell? ⟨g3,k*3+2,none⟩=some (.int .i64 mk):=by
      have h9:Z8 (m1.dk.set k (o,(i0:Int),mk)) k=(o,(i0:Int),mk):=uh Hset _;rw [show (({ m1 with sm:=ZB m1.sm (e::t),dk:=m1.dk.set k (o,(i0:Int),mk) } : Z6)).dk=m1.dk.set k (o,(i0:Int),mk) from rfl,h9] at d2;exact d2
     have f2:=hzd (k*3+2);have c3:=(uh K4).cell (i:=3) (v:= .slice (some ⟨g3,0,none⟩) m.dk.length p3) rfl;have hput2:=(uh HF4).putD (hD2 _).symm (j:=k) (i:=2) (by show k<(m1.dk.set k _).length;rw [hD2];omega) (by omega) (.int .i64 (Zu mk hd0)) (o,(i0:Int),Zu mk hd0) (by show Wx (o,(i0:Int),Zu mk hd0)=(Wx (Z8 (m1.dk.set k (o,(i0:Int),mk)) k)).set 2 _;rw [uh Hset];rfl);simp only [List.set_set] at hput2;have HF5:Hid (FullSmy n₀ (Y.setCell ⟨g3,k*3+2,none⟩ (.int .i64 (Zu mk hd0))).drew v0 v1 (.slice (some ⟨g2,0,none⟩) m.sm.length p2) (.slice (some ⟨g3,0,none⟩) m.dk.length p3) v4 { m1 with sm:=ZB m1.sm (e::t),dk:=m1.dk.set k (o,(i0:Int),Zu mk hd0) } qs):=Z9 (hput2.below (ZZ _ _).drew);have T5:Two (Value.slice (some ⟨g2,0,none⟩) m.sm.length p2).ownBlock (some g3) Y (Y.setCell ⟨g3,k*3+2,none⟩ (.int .i64 (Zu mk hd0))).drew:=(Two.of_set Y (.inr rfl) _ _).trans (Two.of_below (ZZ _ _).drew);have K5:=Z9 ((uh K4).two T5 (uh H2) (fun e9=>uh H3 (by cases e9;rfl)));have y1:=(T5.cell (a:=⟨eb,eo+1,none⟩) hbw4 hne2 hne3).trans x1;replace Tw3:=Z9 ((uh Tw3).trans T5);clear hput2 T5 hcd hzd HF4 d2;go_wp2_with fail;refine ZL (S:=fun w'=>w'.cell? ⟨R,3,none⟩=some (.slice (some ⟨g3,0,none⟩) m.dk.length p3)/\w'.cell? ⟨g3,k*3+2,none⟩=some (.int .i64 mk)/\w'.cell? ⟨eb,eo,none⟩=some (.int .i64 hd0)) (by kernel_rfl) (WU _ _) (by kernel_rfl) ⟨c3,d2',x0⟩ (fun hHeld=> ?_);simp only [WV,WW,YQ,YC,Nat.zero_add,Nat.reduceAdd]
     iterate 17 refine tz ?_
     refine rd 17 rfl (fun K hK=> ?_);go_simp;refine ck (Nb mk hd0 _) fun w9 hw9=> ?_;subst w9;refine hK.out _ _ hHeld (fun hHeld=> ?_);clear hK K
     (try simp only [Act.put,sA,sZ,sS])
     refine tp 18 ?_;refine tp 19 ?_;refine wpAnyH_done (by kernel_rfl) ?_ _;refine ZD rfl rfl ?_;go_simp;clear hHeld;clear d2' f2 c3 x0 x1 hbw4 K4;generalize (Y.setCell ⟨g3,k*3+2,none⟩ (.int .i64 (Zu mk hd0))).drew=Z at *;obtain ⟨_,hga,_,_,hc2,hz2⟩:=RecAt.view ZT (by omega) (uh HF5).sm hwl.symm (by show 0<(ZB m1.sm (e::t)).length;omega);cases hga;have s0:=hc2 i0 (by show i0<(ZB m1.sm (e::t)).length;omega) 0 _ rfl;have f0:=hz2 (i0*11);have c2:=(uh K5).cell (i:=2) (v:= .slice (some ⟨g2,0,none⟩) m.sm.length p2) rfl;have hput3:=(uh HF5).putS hwl.symm (j:=i0) (i:=0) (by show i0<(ZB m1.sm (e::t)).length;omega) (by omega) (.int .i64 3) (stS (Z8 (ZB m1.sm (e::t)) i0) 3) rfl;simp only [Nat.add_zero] at s0 hput3;have HF6:=Z9 hput3;have hi1:(i0:Int)<(m.sm.length:Int):=by omega
     clear hput3 hc2 hz2 HF5;go_wp2_with fail;refine ZL (S:=fun w'=>w'.cell? ⟨R,2,none⟩=some (.slice (some ⟨g2,0,none⟩) m.sm.length p2)/\w'.cell? ⟨eb,eo+1,none⟩=some (.int .i64 (i0:Int))) (by kernel_rfl) (WU _ _) (by kernel_rfl) ⟨c2,y1⟩ (fun hHeld=> ?_);simp only [WV,WW,YQ,YC,Nat.zero_add,Nat.reduceAdd]
     iterate 10 refine tz ?_
     refine wpAnyH_done (by kernel_rfl) ?_ _;refine ZD rfl rfl ?_;go_simp;clear hHeld;go_wp2_with fail;go_roundw
     case rel=>exact ⟨k+1,by omega,by go_num,by rw [uh Hstep,uh Hcons];exact (uh HF6).below (ZZ _ _).drew,((uh Tw2).trans (uh Tw3)).trans ((Two.of_set _ (.inl rfl) _ _).trans (Two.of_below (ZZ _ _).drew))⟩
     case measure=>exact ms
theorem FullSmy.set_off {n₀:Nat}  {qs:List (ZX × Value)} (h:FullSmy n₀ w v0 v1 v2 v3 v4 m qs) {g:Nat} (ho:∀ k,(v0.ownBlock=some k\/(∃ q ∈ qs,q.2.ownBlock=some k)\/v1.ownBlock=some k\/v2.ownBlock=some k\/v3.ownBlock=some k\/v4.ownBlock=some k)->k ≠ g) (o:Nat) (u:Value):FullSmy n₀ (w.setCell ⟨g,o,none⟩ u) v0 v1 v2 v3 v4 m qs:=by
 have hne:∀ k,k ≠ g->(w.setCell ⟨g,o,none⟩ u).heap[k]?=w.heap[k]?:=fun k hk=>heap_setCell_other w _ k u hk;exact ⟨h.hall.same2 fun k e=>hne k (ho k (by rcases e with e | e;exact .inl e;exact .inr (.inl e))),h.rm,RecAt.same h.gd fun k e=>hne k (ho k (.inr (.inr (.inl e)))),RecAt.same h.sm fun k e=>hne k (ho k (.inr (.inr (.inr (.inl e))))),RecAt.same h.dk fun k e=>hne k (ho k (.inr (.inr (.inr (.inr (.inl e)))))),RecAt.same h.pc fun k e=>hne k (ho k (.inr (.inr (.inr (.inr (.inr e)))))),h.h1,h.h2,h.h3,h.h4,h.a12,h.a13,h.a14,h.a23,h.a24,h.a34⟩
theorem YM (n₀:Nat) (w:World):FullSmy n₀ w (.slice none 0 0) (.slice none 0 0) (.slice none 0 0) (.slice none 0 0) (.slice none 0 0) Ye []:=by
 have hz:LD (.slice none 0 0) (.slice none 0 0):=fun b e=>by cases e
 exact ⟨OwnHall.nil _ _,rfl,World.ownsRow_nil _ _ _ _,World.ownsRow_nil _ _ _ _,World.ownsRow_nil _ _ _ _,World.ownsRow_nil _ _ _ _,⟨hz,fun q hq=>by cases hq⟩,⟨hz,fun q hq=>by cases hq⟩,⟨hz,fun q hq=>by cases hq⟩,⟨hz,fun q hq=>by cases hq⟩,hz,hz,hz,hz,hz,hz⟩
theorem Two.set_new {p q:Option Nat} (h:Two p q w w') {g:Nat} (hg:w.heap.size<=g) (o:Nat) (u:Value):Two p q w (w'.setCell ⟨g,o,none⟩ u):=
 ⟨h.os,h.tape,h.output,by simpa using h.size,fun i hi hp hq=>(heap_setCell_other w' _ i u (by show i ≠ g;omega)).trans (h.block i hi hp hq)⟩
theorem FullSmy.lt {n₀:Nat}  {qs:List (ZX × Value)} (h:FullSmy n₀ w v0 v1 v2 v3 v4 m qs) {k:Nat} (e:v0.ownBlock=some k\/(∃ q ∈ qs,q.2.ownBlock=some k)\/v1.ownBlock=some k\/v2.ownBlock=some k\/v3.ownBlock=some k\/v4.ownBlock=some k):n₀<=k/\k<w.heap.size:=by
 rcases e with e | e | e | e | e | e
 ·exact h.hall.lt (.inl e)
 ·exact h.hall.lt (.inr e)
 ·exact RecAt.lt h.gd e
 ·exact RecAt.lt h.sm e
 ·exact RecAt.lt h.dk e
 ·exact RecAt.lt h.pc e
theorem RF {R n₀:Nat}  {qs:List (ZX × Value)} (kb:Blk w R 32 #[v0,v1,v2,v3,v4,.int .i64 m.now]) (hf:FullSmy n₀ w v0 v1 v2 v3 v4 m qs) (h2:v2.ownBlock ≠ some R) (h3:v3.ownBlock ≠ some R) (hl:m.sm.length<=800) (hd:m.dk.length<=1000) :
  Calls Tryz.prog 51 #[.pointer (some ⟨R,0,none⟩)] w fun e w'=>e= .returned (.tuple #[.agg #[v0,v1,v2,v3,v4,.int .i64 m.now],.int .i64 0])/\FullSmy n₀ w' v0 v1 v2 v3 v4 (ZM m) qs/\Two v2.ownBlock v3.ownBlock w w':=by
 have hfl:=fun k e=>(hf.lt (k:=k) e).2;obtain ⟨a0,p0,rfl⟩:=hf.hall.shape;obtain ⟨a1,p1,rfl⟩:=RecAt.shape hf.gd;obtain ⟨a2,p2,rfl⟩:=RecAt.shape hf.sm;obtain ⟨a3,p3,rfl⟩:=RecAt.shape hf.dk;obtain ⟨a4,p4,rfl⟩:=RecAt.shape hf.pc;have Kb:=Z9 kb;have HF:=Z9 hf;have H2:=Z9 h2;have H3:=Z9 h3;have HL:=Z9 hfl;have hR:=kb.lt;clear kb hf h2 h3 hfl;go_enter Tryz.func51,Tryz.ntmps51;go_wp2_with fail;have Ba:Below w.heap.size w (w.alloc (.cells E6 32)):=ba _ _;have kz:=Blk.new w 32 E6;refine (RC ((uh Kb).below Ba hR) ((uh HF).below Ba) (uh H2) (uh H3) hl hd).mono ?_;rintro e w1 ⟨rfl,hf1,ht1⟩;have T1:=(Two.of_below Ba).trans ht1;have kb1:=(uh Kb).two T1 (uh H2) (uh H3);have hnz:∀ k,(_\/_\/_\/_\/_\/_)->k ≠ w.heap.size:=fun k e=>by have:=uh HL k e;omega
 have kz1:=kz.two ht1 (fun e=>hnz _ (.inr (.inr (.inr (.inl e)))) rfl) (fun e=>hnz _ (.inr (.inr (.inr (.inr (.inl e))))) rfl);obtain ⟨c0,c1,c2,c3,c4,c5⟩:=kb1.c6;have o0:=kz1.cell (i:=0) (v:= .slice none 0 0) rfl;have f0:=kz1.free 0;have o1:=kz1.cell (i:=1) (v:= .slice none 0 0) rfl;have f1:=kz1.free 1;have o2:=kz1.cell (i:=2) (v:= .slice none 0 0) rfl;have f2:=kz1.free 2;have o3:=kz1.cell (i:=3) (v:= .slice none 0 0) rfl;have f3:=kz1.free 3;have o4:=kz1.cell (i:=4) (v:= .slice none 0 0) rfl;have f4:=kz1.free 4;have o5:=kz1.cell (i:=5) (v:= .int .i64 0) rfl;have f5:=kz1.free 5;have HF1:=Z9 hf1;have TT:=Z9 T1;have HN:=Z9 hnz;clear hf1 ht1 T1 kb1 kz1 kz Ba hnz;go_wp2_with fail;refine ZS (v:= .tuple #[.agg #[.slice a0 qs.length p0,.slice a1 m.gd.length p1,.slice a2 m.sm.length p2,.slice a3 m.dk.length p3,.slice a4 m.pc.length p4,.int .i64 m.now],.int .i64 0]) (by simp [results,Tryz.results51,go_sem, *]) rfl ⟨rfl,?_,?_⟩
 ·iterate 6 (refine FullSmy.set_off ?_ (uh HN) _ _)
  exact uh HF1
 ·iterate 6 (refine Two.set_new ?_ (Z1 _) _ _)
  exact uh TT
theorem Mx {R n₀:Nat}  {qs:List (ZX × Value)} (kb:Blk w R 32 #[v0,v1,v2,v3,v4,.int .i64 m.now]) (hf:FullSmy n₀ w v0 v1 v2 v3 v4 m qs) (h2:v2.ownBlock ≠ some R) (h3:v3.ownBlock ≠ some R) {k:Nat} (hk:k<m.sm.length) (b:Int) :
  Calls Tryz.prog 50 #[.pointer (some ⟨R,0,none⟩),.int .i64 (k:Int),.int .i64 b] w fun e w'=>e= .returned (.tuple #[])/\FullSmy n₀ w' v0 v1 v2 v3 v4 (setS m k (2,b,(Z8 m.sm k).2.2)) qs/\Two v2.ownBlock v3.ownBlock w w':=by
 obtain ⟨a2,p2,rfl⟩:=RecAt.shape hf.sm;obtain ⟨g2,rfl,hg2,hg2w,hc2,hz2⟩:=RecAt.view ZT (by omega) hf.sm rfl (by omega);have s0:=hc2 k hk 0 _ rfl;have f0:=hz2 (k*11);have c2:=kb.cell (i:=2) (v:= .slice (some ⟨g2,0,none⟩) m.sm.length p2) rfl;have hp1:=hf.putS rfl (j:=k) (i:=0) hk (by omega) (.int .i64 2) (stS (Z8 m.sm k) 2) rfl;have hlen:(m.sm.set k (stS (Z8 m.sm k) 2)).length=m.sm.length:=by simp
 have hs1:Z8 (m.sm.set k (stS (Z8 m.sm k) 2)) k=stS (Z8 m.sm k) 2:=by rw [ZF hk,if_pos rfl]
 have hp2:=hp1.putS hlen.symm (j:=k) (i:=1) (by show k<(m.sm.set k _).length;omega) (by omega) (.int .i64 b) (2,b,(Z8 m.sm k).2.2) (by show ZU (2,b,(Z8 m.sm k).2.2)=(ZU (Z8 (m.sm.set k (stS (Z8 m.sm k) 2)) k)).set 1 _;rw [hs1];rfl);obtain ⟨_,hga,_,_,hc3,hz3⟩:=RecAt.view ZT (by omega) hp1.sm hlen.symm (by show 0<(m.sm.set k _).length;omega);cases hga;have s1:=hc3 k (by show k<(m.sm.set k _).length;omega) 1 _ rfl;have f1:=hz3 (k*11+1);have hgR:g2 ≠ R:=fun e=>h2 (by rw [e];rfl);have c2':=(kb.other (a:=⟨g2,k*11,none⟩) (fun e=>hgR e.symm) (.int .i64 2)).cell (i:=2) (v:= .slice (some ⟨g2,0,none⟩) m.sm.length p2) rfl;simp only [Nat.add_zero,List.set_set] at s0 hp1 hp2 s1 f1;have HP2:=Z9 hp2;have hk1:(k:Int)<(m.sm.length:Int):=by omega
 clear hc2 hz2 hc3 hz3 hp1 hp2 hf kb hs1 hlen h2 h3 hgR;go_enter Tryz.func50,Tryz.ntmps50;go_wp2_with fail
 go_end0
 exact ⟨rfl,uh HP2,(Two.of_set w (.inl rfl) _ _).trans (Two.of_set _ (.inl rfl) _ _)⟩
theorem Ug {R n₀:Nat}  {qs:List (ZX × Value)} (kb:Blk w R 32 #[v0,v1,v2,v3,v4,.int .i64 m.now]) (hf:FullSmy n₀ w v0 v1 v2 v3 v4 m qs) (h2:v2.ownBlock ≠ some R) (h3:v3.ownBlock ≠ some R) {k bn b:Nat} (hk:k<m.sm.length) (hbn:(Z8 m.sm k).2.1=(bn:Int)) (hbn1:bn<m.dk.length) (hb:b<m.dk.length) :
  Calls Tryz.prog 77 #[.pointer (some ⟨R,0,none⟩),.int .i64 (k:Int),.int .i64 (b:Int)] w fun e w'=>e= .returned (.tuple #[])/\FullSmy n₀ w' v0 v1 v2 v3 v4 (setS m k (putS m (Z8 m.sm k) b)) qs/\Two v2.ownBlock v3.ownBlock w w':=by
 obtain ⟨a2,p2,rfl⟩:=RecAt.shape hf.sm;obtain ⟨a3,p3,rfl⟩:=RecAt.shape hf.dk;obtain ⟨g2,rfl,hg2,hg2w,hc2,hz2⟩:=RecAt.view ZT (by omega) hf.sm rfl (by omega);obtain ⟨g3,rfl,hg3,hg3w,hc3,hz3⟩:=RecAt.view Zx (by omega) hf.dk rfl (by omega);have s1:=hc2 k hk 1 _ rfl;have s7:=hc2 k hk 7 _ rfl;have f1:=hz2 (k*11+1);have f7:=hz2 (k*11+7);have d1:=hc3 bn hbn1 2 _ rfl;have d2:=hc3 b hb 2 _ rfl;have c2:=kb.cell (i:=2) (v:= .slice (some ⟨g2,0,none⟩) m.sm.length p2) rfl;have c3:=kb.cell (i:=3) (v:= .slice (some ⟨g3,0,none⟩) m.dk.length p3) rfl;have hmv:Zq (WN (Z8 m.sm k)) (Yo m (Z8 m.sm k).2.1) (Yo m (b:Int))=Zq (Z8 m.sm k).2.2.2.2.2.2.2.1 (Z8 m.dk bn).2.2 (Z8 m.dk b).2.2:=by unfold Yo WN;rw [hbn];simp
 have hx1:∃ x1:Z3,x1=((Z8 m.sm k).1,(Z8 m.sm k).2.1,(Z8 m.sm k).2.2.1,(Z8 m.sm k).2.2.2.1,(Z8 m.sm k).2.2.2.2.1,(Z8 m.sm k).2.2.2.2.2.1,(Z8 m.sm k).2.2.2.2.2.2.1,Zq (Z8 m.sm k).2.2.2.2.2.2.2.1 (Z8 m.dk bn).2.2 (Z8 m.dk b).2.2,(Z8 m.sm k).2.2.2.2.2.2.2.2):=⟨_,rfl⟩
 obtain ⟨x1,hx1⟩:=hx1;have hp1:=hf.putS rfl (j:=k) (i:=7) hk (by omega) (.int .i64 (Zq (Z8 m.sm k).2.2.2.2.2.2.2.1 (Z8 m.dk bn).2.2 (Z8 m.dk b).2.2)) x1 (by rw [hx1];rfl);have hlen:(m.sm.set k x1).length=m.sm.length:=by simp
 have hs1:Z8 (m.sm.set k x1) k=x1:=by rw [ZF hk,if_pos rfl]
 have hp2:=hp1.putS hlen.symm (j:=k) (i:=1) (by show k<(m.sm.set k _).length;omega) (by omega) (.int .i64 (b:Int)) (putS m (Z8 m.sm k) b) (by show ZU (putS m (Z8 m.sm k) b)=(ZU (Z8 (m.sm.set k x1) k)).set 1 _;rw [hs1,hx1];unfold putS;rw [hmv];rfl);obtain ⟨_,hga,_,_,hc4,hz4⟩:=RecAt.view ZT (by omega) hp1.sm hlen.symm (by show 0<(m.sm.set k _).length;omega);cases hga;have s2:=hc4 k (by show k<(m.sm.set k _).length;omega) 1 _ rfl;have f2:=hz4 (k*11+1);simp only [List.set_set] at hp2;have HP2:=Z9 hp2;have hk1:(k:Int)<(m.sm.length:Int):=by omega
 have hbn2:(bn:Int)<(m.dk.length:Int):=by omega
 have hb2:(b:Int)<(m.dk.length:Int):=by omega
 rw [hbn] at s1;clear hc2 hz2 hc3 hz3 hc4 hz4 hp1 hp2 hf kb hs1 hlen h2 h3 hmv hx1 hbn;generalize (Z8 m.sm k).2.2.2.2.2.2.2.1=hd0 at *;generalize (Z8 m.dk bn).2.2=mk1 at *;generalize (Z8 m.dk b).2.2=mk2 at *;go_enter Tryz.func77,Tryz.ntmps77;go_wp2_with fail;refine ZL (S:=fun w'=>w'.cell? ⟨g2,k*11+7,none⟩=some (.int .i64 hd0)/\w'.cell? ⟨R,3,none⟩=some (.slice (some ⟨g3,0,none⟩) m.dk.length p3)/\w'.cell? ⟨g2,k*11+1,none⟩=some (.int .i64 (bn:Int))/\w'.cell? ⟨g3,bn*3+2,none⟩=some (.int .i64 mk1)/\w'.cell? ⟨g3,b*3+2,none⟩=some (.int .i64 mk2)) (by kernel_rfl) (WU _ _) (by kernel_rfl) ⟨s7,c3,s1,d1,d2⟩ (fun hHeld=> ?_);simp only [WV,WW,YQ,YC,Nat.zero_add,Nat.reduceAdd]
 iterate 24 refine tz ?_
 refine rd 24 rfl (fun K hK=> ?_);go_simp;refine ck (QO hd0 mk1 mk2 _) fun w9 hw9=> ?_;subst w9;refine hK.out _ _ hHeld (fun hHeld=> ?_);clear hK K
 (try simp only [Act.put,sA,sZ,sS])
 refine tp 25 ?_;refine tp 26 ?_;refine wpAnyH_done (by kernel_rfl) ?_ _;refine ZD rfl rfl ?_;go_simp;clear hHeld;go_wp2_with fail
 go_end0
 exact ⟨rfl,(uh HP2).below (ZZ _ _).drew,((Two.of_set w (.inl rfl) _ _).trans (Two.of_set _ (.inl rfl) _ _)).trans (Two.of_below (ZZ _ _).drew)⟩
theorem XV  (h:Smy w v0 v1 v2 v3 v4 m) :
  Calls Tryz.prog 46 #[.agg #[v0,v1,v2,v3,v4,.int .i64 m.now]] w fun e w'=>e= .returned (.tuple #[.agg E6,.int .i64 3])/\Below w.heap.size w w':=by
 obtain ⟨a0,p0,a1,p1,a2,p2,a3,p3,a4,p4,rfl,rfl,rfl,rfl,rfl,_,_,_,_,_,_,_,_,_,_⟩:=h.five;clear h;go_enter Tryz.func46,Tryz.ntmps46;go_wp2_with fail;exact ZS (v:= .tuple #[.agg E6,.int .i64 3]) (by simp [results,Tryz.results46,go_sem]) rfl ⟨rfl,((ba _ _)).alloc (by simp) _⟩
def S5 (n₀:Nat) (M:Z6) (c:Int) (e:Ending) (w':World):Prop:=
 ∃ u0 u1 u2 u3 u4 qs,e= .returned (.tuple #[.agg #[u0,u1,u2,u3,u4,.int .i64 M.now],.int .i64 c])/\FullSmy n₀ w' u0 u1 u2 u3 u4 M qs
theorem U8  {who:Int} {q:Bool} (hq:WL m who=q) (h:Smy w v0 v1 v2 v3 v4 m) :
  Calls Tryz.prog 64 #[.agg #[v0,v1,v2,v3,v4,.int .i64 m.now],.int .i64 who] w fun e w'=>e= .returned (.bool q)/\Below w.heap.size w w':=by
 subst hq;obtain ⟨a0,p0,rfl,_,_⟩:=IsRooms.shape h.rm;obtain ⟨a1,p1,rfl,_,_⟩:=IsRec.shape h.gd;obtain ⟨a2,p2,rfl,hc2,hm2,r2⟩:=h.sm;obtain ⟨a3,p3,rfl,_,_⟩:=IsRec.shape h.dk;obtain ⟨a4,p4,rfl,_,_⟩:=IsRec.shape h.pc;clear h;have Ba:Hid (Below w.heap.size w (w.alloc (.cells (S6 a0 p0 a1 p1 a2 p2 a3 p3 a4 p4 m) 32))):=Z9 ((ba _ _));cases hi:inB who 0 ((m.sm.length:Int)-1)
 ·have hw:WL m who=false:=by unfold WL;rw [hi];rfl
  have Hi:=Z9 hi;rw [hw];clear hi hw r2;go_enter Tryz.func64,Tryz.ntmps64;go_wp2_with (go_at_call 59;refine (ZV _ _ _ _).mono ?_;rw [uh Hi];rintro e w' ⟨rfl,h9⟩;subst w')
  go_ret;exact ⟨rfl,uh Ba⟩
 ·obtain ⟨i0,i1⟩:=ZN hi
  obtain ⟨k,rfl⟩:∃ k:Nat,who=k:=⟨who.toNat,by omega⟩
  have hk:k<m.sm.length:=by omega
  have hw:WL m (k:Int)= !((Z8 m.sm k).1 ==0):=by unfold WL;rw [hi];simp
  rcases r2 with e0 | ⟨sb,off,rfl,hbw,hcl⟩
  ·rw [e0] at hk;simp at hk
  obtain ⟨d0,_⟩:=ZA hcl hk;have Hi:=Z9 hi;rw [hw];clear hi hw hcl;have hk1:(k:Int)<(m.sm.length:Int):=by omega
  generalize (Z8 m.sm k).1=st at *;go_enter Tryz.func64,Tryz.ntmps64;go_wp2_with (go_at_call 59;refine (ZV _ _ _ _).mono ?_;rw [uh Hi];rintro e w' ⟨rfl,h9⟩;subst w')
  go_ret;exact ⟨rfl,uh Ba⟩
theorem Zb {X:Z6 × Int} {M:Z6} {c nw:Int} {v0 v1 v2 v3 v4 u0 u1 u2 u3 u4 u5:Value} {oq:List (ZX × Value)} (hX:X=(M,c)) (hn:M.now=nw) (hF:FullSmy (w.heap.size+2) W v0 v1 v2 v3 v4 M oq) (hB:Below w.heap.size w W):S5 w.heap.size X.1 X.2 (.returned (.tuple #[.agg #[v0,v1,v2,v3,v4,.int .i64 nw],.int .i64 c])) ((((((W.setCell ⟨w.heap.size+1,0,none⟩ u0).setCell ⟨w.heap.size+1,1,none⟩ u1).setCell ⟨w.heap.size+1,2,none⟩ u2).setCell ⟨w.heap.size+1,3,none⟩ u3).setCell ⟨w.heap.size+1,4,none⟩ u4).setCell ⟨w.heap.size+1,5,none⟩ u5)/\Below w.heap.size w ((((((W.setCell ⟨w.heap.size+1,0,none⟩ u0).setCell ⟨w.heap.size+1,1,none⟩ u1).setCell ⟨w.heap.size+1,2,none⟩ u2).setCell ⟨w.heap.size+1,3,none⟩ u3).setCell ⟨w.heap.size+1,4,none⟩ u4).setCell ⟨w.heap.size+1,5,none⟩ u5):=by
 constructor
 ·rw [hX];refine ⟨_,_,_,_,_,oq,by rw [hn],?_⟩
  refine FullSmy.mono (n₀:=w.heap.size+2) ?_ (by omega)
  iterate 6 (refine FullSmy.set_off ?_ (fun k e=>by have:=(hF.own e).1;omega) _ _)
  exact hF
 ·iterate 6 (refine YO ?_ (by show _<=w.heap.size+1;omega) _)
  exact hB
theorem UX {ob:Nat}  {oq:List (ZX × Value)} (ko:Blk W ob 32 #[v0,v1,v2,v3,v4,.int .i64 m.now]) (hF:FullSmy (w.heap.size+2) W v0 v1 v2 v3 v4 m oq) (lo:∀ k,Wa v0 v1 v2 v3 v4 oq k->k ≠ ob) (kr:Blk W (w.heap.size+1) 32 E6) (BB:Below w.heap.size w W) (hl:m.sm.length<=800) (hd:m.dk.length<=1000):Calls Tryz.prog 51 #[.pointer (some ⟨ob,0,none⟩)] W fun e w'=>e= .returned (.tuple #[.agg #[v0,v1,v2,v3,v4,.int .i64 m.now],.int .i64 0])/\Hid (FullSmy (w.heap.size+2) w' v0 v1 v2 v3 v4 (ZM m) oq)/\Hid (Blk w' (w.heap.size+1) 32 E6)/\Hid (Below w.heap.size w w'):=by
 refine (RF ko hF (fun e=>lo _ (.inr (.inr (.inr (.inl e)))) rfl) (fun e=>lo _ (.inr (.inr (.inr (.inr (.inl e))))) rfl) hl hd).mono ?_;rintro e w' ⟨rfl,h1,h2⟩;have g2:∀ k,v2.ownBlock=some k->w.heap.size+2<=k:=fun k e=>(hF.own (.inr (.inr (.inr (.inl e))))).1;have g3:∀ k,v3.ownBlock=some k->w.heap.size+2<=k:=fun k e=>(hF.own (.inr (.inr (.inr (.inr (.inl e)))))).1;exact ⟨rfl,Z9 h1,Z9 (kr.two h2 (fun e=>by have:=g2 _ e;omega) (fun e=>by have:=g3 _ e;omega)),Z9 (BB.trans (h2.below BB.size (fun k e=>by have:=g2 k e;omega) (fun k e=>by have:=g3 k e;omega)))⟩
theorem T6 {a0 a1 a2 a3 a4:Option Addr} {p0 p1 p2 p3 p4:Nat} (h:Smy W (.slice a0 m.rm.length p0) (.slice a1 m.gd.length p1) (.slice a2 m.sm.length p2) (.slice a3 m.dk.length p3) (.slice a4 m.pc.length p4) m) (hf:Few m) (kb:Blk W w.heap.size 32 (S6 a0 p0 a1 p1 a2 p2 a3 p3 a4 p4 m)) (kr:Blk W (w.heap.size+1) 32 E6) (BB:Below w.heap.size w W):Calls Tryz.prog 47 #[.agg (S6 a0 p0 a1 p1 a2 p2 a3 p3 a4 p4 m)] W fun e w'=> ∃ b0 q0 b1 q1 b2 q2 b3 q3 b4 q4 oq,e= .returned (.agg (S6 b0 q0 b1 q1 b2 q2 b3 q3 b4 q4 m))/\ ∃ W2 ob,w'.alloc (.cells (S6 b0 q0 b1 q1 b2 q2 b3 q3 b4 q4 m) 32)=W2/\w'.heap.size=ob/\Hid (Blk W2 w.heap.size 32 (S6 a0 p0 a1 p1 a2 p2 a3 p3 a4 p4 m))/\Hid (Blk W2 (w.heap.size+1) 32 E6)/\Hid (Smy W2 (.slice a0 m.rm.length p0) (.slice a1 m.gd.length p1) (.slice a2 m.sm.length p2) (.slice a3 m.dk.length p3) (.slice a4 m.pc.length p4) m)/\Hid (FullSmy (w.heap.size+2) W2 (.slice b0 m.rm.length q0) (.slice b1 m.gd.length q1) (.slice b2 m.sm.length q2) (.slice b3 m.dk.length q3) (.slice b4 m.pc.length q4) m oq)/\Hid (Blk W2 ob 32 (S6 b0 q0 b1 q1 b2 q2 b3 q3 b4 q4 m))/\Hid (∀ k,Wa (.slice b0 m.rm.length q0) (.slice b1 m.gd.length q1) (.slice b2 m.sm.length q2) (.slice b3 m.dk.length q3) (.slice b4 m.pc.length q4) oq k->w.heap.size+2<=k/\k<ob)/\w.heap.size+2<=ob/\Hid (Below w.heap.size w W2):=by
 have hs:w.heap.size+2<=W.heap.size:=by have:=kr.lt;omega
 refine (XR h hf).mono ?_;rintro e w2 ⟨y0,y1,y2,y3,y4,oq,rfl,ho,hb⟩;obtain ⟨b0,q0,b1,q1,b2,q2,b3,q3,b4,q4,rfl,rfl,rfl,rfl,rfl,_⟩:=ho.smy.five;have hba:Below w2.heap.size w2 (w2.alloc (.cells (S6 b0 q0 b1 q1 b2 q2 b3 q3 b4 q4 m) 32)):=ba _ _;have h2:Below W.heap.size W (w2.alloc (.cells (S6 b0 q0 b1 q1 b2 q2 b3 q3 b4 q4 m) 32)):=hb.trans (hba.mono hb.size);have hO:=ho.mono hs;exact ⟨b0,q0,b1,q1,b2,q2,b3,q3,b4,q4,oq,rfl,_,_,rfl,rfl,Z9 (kb.below h2 kb.lt),Z9 (kr.below h2 kr.lt),Z9 (h.below h2),Z9 (hO.below hba),Z9 (Blk.new _ _ _),Z9 (fun k e=>hO.own e),XO hs hb.size,Z9 (BB.trans (h2.mono BB.size))⟩
def Uc (m:Z6) (room pace:Int):Z6 × Int:=
 if ZJ m then (if NG m room then (if inB pace 0 (((ZQ m.rm room.toNat).2.length:Int)-1) then (ZM (TK m room.toNat pace),0) else (m,3)) else (m,1)) else (Ye,3)
theorem Gn (h:ZJ m=true) (room pace:Int):ZJ (Uc m room pace).1=true:=by
 unfold Uc;rw [h];simp only [if_true]
 split
 ·rename_i hw
  obtain ⟨k,rfl,hk⟩:=DR hw;rw [show ((k:Int)).toNat=k by simp]
  split
  ·rename_i hp
   have:=ZN hp;exact YG (Ke (ZR h) hk (by omega) (by omega))
  ·exact h
 ·exact h
theorem VV (h:Loose m):m.pc.length=m.rm.length:=by
 have hd:=h.head;unfold YA at hd;simp only [ZP,Y0] at hd;exact hd.2.2.2.2.1
theorem NZ  (room:Int) (pace:Int) (h:Smy w v0 v1 v2 v3 v4 m) :
  Calls Tryz.prog 255 #[.agg #[v0,v1,v2,v3,v4,.int .i64 m.now],.int .i64 room,.int .i64 pace] w fun e w'=>S5 w.heap.size (Uc m room pace).1 (Uc m room pace).2 e w'/\Below w.heap.size w w':=by
 obtain ⟨X,hX⟩:∃ x,Uc m room pace=x:=⟨_,rfl⟩
 rw [hX];have HX:=Z9 hX;clear hX;have Hv0:=Z9 h;obtain ⟨a0,p0,a1,p1,a2,p2,a3,p3,a4,p4,rfl,rfl,rfl,rfl,rfl,_,_,_,_,_,_,_,_,_,_⟩:=h.five;clear h;obtain ⟨ok,hok⟩:∃ q,ZJ m=q:=⟨_,rfl⟩
 have Hok:=Z9 hok;clear hok;go_enter Tryz.func255,Tryz.ntmps255;go_wp2_with fail;obtain ⟨W,hW,kb,kr,BB⟩:=YD w 32 (S6 a0 p0 a1 p1 a2 p2 a3 p3 a4 p4 m) 32 E6;have Hv:=Z9 ((uh Hv0).below (uh BB));clear Hv0;rw [hW];clear hW;refine ck (Xt (uh Hok) (uh Hv)) fun w1 hb=> ?_;replace kb:=bl kb hb;replace kr:=bl kr hb;replace Hv:=Z9 ((uh Hv).below hb);replace BB:=bt BB hb;clear hb;cases ok
 ·
  obtain ⟨c0,c1,c2,c3,c4,c5⟩:=(uh kb).c6;go_wp2_with fail;clear c0 c1 c2 c3 c4 c5;refine ck (XV (uh Hv)) fun w2 hb=> ?_;replace kb:=bl kb hb;replace kr:=bl kr hb;replace Hv:=Z9 ((uh Hv).below hb);replace BB:=bt BB hb;clear hb;obtain ⟨o0,o1,o2,o3,o4,o5⟩:=(uh kr).c6;obtain ⟨f0,f1,f2,f3,f4,f5⟩:=(uh kr).f6;go_wp2_with fail;have hX0:X=(Ye,3):=by rw [<-uh HX];unfold Uc;rw [uh Hok];rfl
  exact ZS (v:= .tuple #[.agg E6,.int .i64 3]) (by simp [results,Tryz.results255,go_sem, *]) rfl (Zb hX0 rfl (YM _ _) (uh BB))
 have hlo:=ZR (uh Hok);have HLo:=Z9 hlo;have HFew:=Z9 (Xn hlo);clear hlo;obtain ⟨c0,c1,c2,c3,c4,c5⟩:=(uh kb).c6;go_wp2_with fail;clear c0 c1 c2 c3 c4 c5;refine (T6 (uh Hv) (uh HFew) (uh kb) (uh kr) (uh BB)).mono ?_;clear kb kr Hv BB;rintro e w2 ⟨b0,q0,b1,q1,b2,q2,b3,q3,b4,q4,oq,rfl,W2,ob,hW2,hob2,kb,kr,Hv,HO,ko,LO,hob,BB⟩;go_upto_region 4 with fail
 (try rw [hW2])
 (try rw [hob2])
 clear hW2 hob2;obtain ⟨qw,hqw⟩:∃ q,NG m room=q:=⟨_,rfl⟩
 have Hqw:=Z9 hqw;clear hqw;obtain ⟨c0,c1,c2,c3,c4,c5⟩:=(uh kb).c6;go_wp2_with fail;clear c0 c1 c2 c3 c4 c5;refine ck (Co (uh Hqw) (uh Hv)) fun w3 hb=> ?_;replace kb:=bl kb hb;replace kr:=bl kr hb;replace Hv:=Z9 ((uh Hv).below hb);replace HO:=Z9 ((uh HO).below hb);replace ko:=bl ko hb;replace BB:=bt BB hb;clear hb;cases qw
 ·
  obtain ⟨x0,x1,x2,x3,x4,x5⟩:=(uh ko).c6;obtain ⟨o0,o1,o2,o3,o4,o5⟩:=(uh kr).c6;obtain ⟨f0,f1,f2,f3,f4,f5⟩:=(uh kr).f6;go_wp2_with fail;have hX0:X=(m,1):=by rw [<-uh HX];unfold Uc;rw [uh Hok,uh Hqw];rfl
  exact ZS (v:= .tuple #[.agg (S6 b0 q0 b1 q1 b2 q2 b3 q3 b4 q4 m),.int .i64 1]) (by simp [results,Tryz.results255,go_sem, *]) rfl (Zb hX0 rfl (uh HO) (uh BB))
 obtain ⟨k,rfl,hk⟩:=DR (uh Hqw);have hk1:(k:Int)<(m.rm.length:Int):=by omega
 have hkp:k<m.pc.length:=by rw [VV (uh HLo)];exact hk
 have hkp1:(k:Int)<(m.pc.length:Int):=by omega
 obtain ⟨_,_,hre,_,_,r0⟩:=(uh Hv).rm;cases hre
 rcases r0 with e0 | ⟨rb,off,rfl,hbw,hcl⟩
 ·rw [e0] at hk;simp at hk
 obtain ⟨_,pv,d1,pa,pc,rfl,hpc,hpm,_⟩:=hcl k hk;clear hcl;obtain ⟨op,hop⟩:∃ q,inB pace 0 (((ZQ m.rm k).2.length:Int)-1)=q:=⟨_,rfl⟩
 have Hop:=Z9 hop;have hpl:(ZQ m.rm k).2.length<=9223372036854775807:=by omega
 have c0:=(uh kb).cell (i:=0) (v:= .slice (some ⟨rb,off,none⟩) m.rm.length p0) rfl;obtain ⟨nl,hnl⟩:∃ q,(ZQ m.rm k).2.length=q:=⟨_,rfl⟩
 rw [hnl] at hop d1 hpl;have Hop2:=Z9 hop;clear hop hnl hpc;go_wp2_with fail;refine (ZV _ _ _ _).mono ?_;rw [uh Hop2];rintro e w9 ⟨rfl,hw9⟩;subst w9;cases op
 ·
  obtain ⟨x0,x1,x2,x3,x4,x5⟩:=(uh ko).c6;obtain ⟨o0,o1,o2,o3,o4,o5⟩:=(uh kr).c6;obtain ⟨f0,f1,f2,f3,f4,f5⟩:=(uh kr).f6;go_wp2_with fail;have hX0:X=(m,3):=by rw [<-uh HX];unfold Uc;rw [uh Hok,uh Hqw];simp only [if_true,Zy];rw [uh Hop];rfl
  exact ZS (v:= .tuple #[.agg (S6 b0 q0 b1 q1 b2 q2 b3 q3 b4 q4 m),.int .i64 3]) (by simp [results,Tryz.results255,go_sem, *]) rfl (Zb hX0 rfl (uh HO) (uh BB))
 obtain ⟨g4,hga,_,_,hc4,hz4⟩:=RecAt.view YE (by omega) (uh HO).pc rfl (by omega);cases hga;have s0:=hc4 k hkp 0 _ rfl;have f0:=hz4 k;have x4:=(uh ko).cell (i:=4) (v:= .slice (some ⟨g4,0,none⟩) m.pc.length q4) rfl;have hput:=(uh HO).putP rfl (j:=k) hkp pace;simp only [Nat.add_zero,Nat.mul_one] at s0;have hg4o:=(uh LO g4 (.inr (.inr (.inr (.inr (.inr rfl))))))
 clear hc4 hz4;go_upto_region 9 with fail;clear s0 f0 x4 c0 d1;have HP:=Z9 hput;clear hput HO;replace ko:Hid (Blk (w3.setCell ⟨g4,k,none⟩ (.int .i64 pace)) ob 32 (S6 b0 q0 b1 q1 b2 q2 b3 q3 (some ⟨g4,0,none⟩) q4 m)):=Z9 ((uh ko).other (a:=⟨g4,k,none⟩) (by show ob ≠ g4;omega) _);replace kr:Hid (Blk (w3.setCell ⟨g4,k,none⟩ (.int .i64 pace)) (w.heap.size+1) 32 E6):=Z9 ((uh kr).other (a:=⟨g4,k,none⟩) (by show w.heap.size+1 ≠ g4;omega) _);replace BB:Hid (Below w.heap.size w (w3.setCell ⟨g4,k,none⟩ (.int .i64 pace))):=Z9 ((uh BB).setCell (p:=⟨g4,k,none⟩) (by show w.heap.size<=g4;omega) _);clear kb Hv;generalize w3.setCell ⟨g4,k,none⟩ (.int .i64 pace)=W3 at *;have hfw:=uh HFew;go_wp2_with fail;refine (UX (m:=TK m k pace) (uh ko) (uh HP) (fun k e=>by have:=(uh LO k e).2;omega) (uh kr) (uh BB) (by show m.sm.length<=800;have:=hfw.sm;omega) hfw.dk).mono ?_;clear kr BB;rintro e w4 ⟨rfl,HF9,kr,BB⟩;obtain ⟨o0,o1,o2,o3,o4,o5⟩:=(uh kr).c6;obtain ⟨f0,f1,f2,f3,f4,f5⟩:=(uh kr).f6;go_wp2_with fail;have hX0:X=(ZM (TK m k pace),0):=by rw [<-uh HX];unfold Uc;rw [uh Hok,uh Hqw];simp only [if_true,Zy];rw [uh Hop];rfl
 have hnow:(ZM (TK m k pace)).now=m.now:=(ZH _ _).2.2.2.1;exact ZS (v:= .tuple #[.agg (S6 b0 q0 b1 q1 b2 q2 b3 q3 (some ⟨g4,0,none⟩) q4 m),.int .i64 0]) (by simp [results,Tryz.results255,go_sem,setS,TK,Yb,pushS, *]) rfl (Zb hX0 hnow (uh HF9) (uh BB))
theorem U9  {rs:List ZX} (n:Int) (h:IsRooms w v rs) (h1:Yu rs n=true) :
  Calls Tryz.prog 111 #[.agg #[v],.int .i64 n] w fun e w'=>e= .returned (.int .i64 (Vq (ZQ rs (Xr rs n)).2))/\Below w.heap.size w w':=by
 have Hv:=Z9 h;obtain ⟨a,cap,rfl,hc,hm⟩:∃ a cap,v= .slice a rs.length cap/\rs.length<=cap/\cap<=9223372036854775807:=by obtain ⟨a,cap,rfl,hc,hm,_⟩:=h;exact ⟨a,cap,rfl,hc,hm⟩
 clear h;have hlt:=Qv h1;have Hh:=Z9 (WO h1).1;have H1:=Z9 h1;have hl3:rs.length<=3:=(Zl (WO h1).1).2.1;clear h1;have hw1:=(uh Hv).alloc (.cells #[.slice a rs.length cap] 26);have Hw1:=Z9 hw1;obtain ⟨b,off,a',cap',rfl,hbw,d1,p1,p4,sp,hbw',d2⟩:=DP hw1 hlt (uh Hh);obtain ⟨b',off',sp'⟩:=a';simp only at sp hbw' d2;subst sp;clear hw1;have k0:=Z2 (w:=w.alloc (.cells #[.slice (some ⟨b,off,none⟩) rs.length cap] 26)) (a:=⟨w.heap.size,0,none⟩) (v:= .slice (some ⟨b,off,none⟩) rs.length cap) (by simp);have k1:=Z2 d1;have k2:=Z2 d2;clear d1 d2;go_enter Tryz.func111,Tryz.ntmps111;go_wp2_with fail;refine wq ?_
 repeat (go_big_quiet_step (exact ZY (Qp n ((uh Hw1).below (Z0 _ _ _)) (uh H1))))
 refine wpQuiet_nil ?_;intro _ hw';obtain ⟨⟨dq,osq⟩,hw''⟩:=hw';subst hw'';generalize hr1:Xr rs n=r at *;generalize hr2:Vq (ZQ rs r).2=fo at *;generalize (ZQ rs r).2.length=m at *;have Hr1:=Z9 hr1;have Hr2:=Z9 hr2;clear hr1 hr2;go_wp2_with fail;go_ret;exact ⟨ZC (by rw [uh Hr1,uh Hr2]),((ba _ _)).trans ((Z0 _ _ _).mono (by simp))⟩
theorem C4 {room:Int} {k:Nat} (h:¬ (Xr m.rm k:Int)=room):YU m room (k+1)=YU m room k:=by show (if _ then _ else _)=_;rw [if_neg h]
theorem Fz {room:Int} {k:Nat} (h:(Xr m.rm k:Int)=room):YU m room (k+1)=((if (Z8 m.dk k).1 then max (YU m room k).1 (Zc m k (-1)) else (YU m room k).1),(YU m room k).2+Zc m k (-1)):=by show (if _ then _ else _)=_;rw [if_pos h]
theorem Oq  (room:Int) (h:Smy w v0 v1 v2 v3 v4 m) (hS:Sane m) :
  Calls Tryz.prog 264 #[.agg #[v0,v1,v2,v3,v4,.int .i64 m.now],.int .i64 room] w fun e w'=>e= .returned (.tuple #[.int .i64 (YU m room m.dk.length).1,.int .i64 (YU m room m.dk.length).2])/\Below w.heap.size w w':=by
 have Hv:=Z9 (h.alloc (.cells #[v0,v1,v2,v3,v4,.int .i64 m.now] 32));obtain ⟨a0,p0,a1,p1,a2,p2,a3,p3,a4,p4,rfl,rfl,rfl,rfl,rfl,_,_,_,_,_,_,_,_,_,_⟩:=h.five;clear h;have HS:=Z9 hS;obtain ⟨BB0,kb0⟩:=V7 w 32 (S6 a0 p0 a1 p1 a2 p2 a3 p3 a4 p4 m);have h8:=hS.eight;have hbd:=Pp m room hS.few;have Hbd:=Z9 hbd;clear hS hbd;go_enter Tryz.func264,Tryz.ntmps264;go_wp2_with fail
 go_loopw [6,7,8] (fun mo al i wr=> ∃ k:Nat,k<=m.dk.length/\i= .int .i64 k/\mo= .int .i64 (YU m room k).1/\al= .int .i64 (YU m room k).2/\Blk wr w.heap.size 32 (S6 a0 p0 a1 p1 a2 p2 a3 p3 a4 p4 m)/\Smy wr (.slice a0 m.rm.length p0) (.slice a1 m.gd.length p1) (.slice a2 m.sm.length p2) (.slice a3 m.dk.length p3) (.slice a4 m.pc.length p4) m/\Below w.heap.size w wr) (fun _ _ i _=>m.dk.length-(intOf i).toNat)
 case atStart=>exact ⟨0,Zz _,rfl,rfl,rfl,uh kb0,uh Hv,uh BB0⟩
 case round=>
  obtain ⟨k,hk,rfl,rfl,rfl,hkb,hv,hb0⟩:=hrel;obtain ⟨⟨u0,u1⟩,u2,u3⟩:=uh Hbd k;have kb:=Z9 hkb;have Hv1:=Z9 hv;have BB:=Z9 hb0;clear hkb hv hb0 kb0 BB0 Hv;obtain ⟨c0,c1,c2,c3,c4,c5⟩:=(uh kb).c6;by_cases hlt:k<m.dk.length
  ·have hlt1:(k:Int)<(m.dk.length:Int):=by omega
   have Hno:=Z9 (fun hh=>C4 (m:=m) (room:=room) (k:=k) hh);have Hyes:=Z9 (fun hh=>Fz (m:=m) (room:=room) (k:=k) hh);obtain ⟨⟨mo,al⟩,hmo⟩:∃ x,YU m room k=x:=⟨_,rfl⟩
   rw [hmo] at u0 u1 u2 u3 Hno Hyes ⊢;simp only at u0 u1 u2 u3 Hyes ⊢;clear hmo;go_wp2_with fail;refine ck (Qp (k:Int) (uh Hv1).rm ((uh HS).bench hlt)) fun w1 hb=> ?_;replace kb:=bl kb hb;replace Hv1:=Z9 ((uh Hv1).below hb);replace BB:=bt BB hb;clear hb c0 c1 c2 c3 c4 c5;obtain ⟨rn,hrn⟩:∃ r:Int,(Xr m.rm k:Int)=r:=⟨_,rfl⟩
   rw [hrn] at Hno Hyes ⊢;clear hrn;by_cases hr:rn=room;rotate_left
   ·have hrb:(rn ==room)=false:=by simpa using hr
    go_wp2_with fail;go_roundw
    case rel=>exact ⟨k+1,by omega,by go_num,by rw [uh Hno hr],by rw [uh Hno hr],uh kb,uh Hv1,uh BB⟩
    case measure=>exact ms
   have hrb:(rn ==room)=true:=by simpa using hr
   obtain ⟨c0,c1,c2,c3,c4,c5⟩:=(uh kb).c6;go_wp2_with fail;refine ck (TO (k:Int) (-1) (uh Hv1) (uh HS).guilded (by have:=(uh HS).few;omega)) fun w2 hb=> ?_;replace kb:=bl kb hb;replace Hv1:=Z9 ((uh Hv1).below hb);replace BB:=bt BB hb;clear hb c0 c1 c2 c3 c4 c5;have hub:=Tz m (k:Int) (-1);have hfew:=(uh HS).few;have hy:=uh Hyes hr;generalize Zc m (k:Int) (-1)=us at *;obtain ⟨_,_,hde,_,_,r3⟩:=(uh Hv1).dk;cases hde
   rcases r3 with e0 | ⟨db,off,rfl,hbw,hcl⟩
   ·rw [e0] at hlt;simp at hlt
   obtain ⟨d0,_,_⟩:=Y4 hcl hlt;clear hcl;obtain ⟨op,hop⟩:∃ o,(Z8 m.dk k).1=o:=⟨_,rfl⟩
   rw [hop] at d0 hy;have Hy:=Z9 hy;clear hop hy Hno Hyes;have c3:=(uh kb).cell (i:=3) (v:= .slice (some ⟨db,off,none⟩) m.dk.length p3) rfl;cases op
   ·go_wp2_with fail
    go_roundw
    case rel=>exact ⟨k+1,by omega,by go_num,by rw [uh Hy];rfl,by rw [uh Hy],uh kb,uh Hv1,uh BB⟩
    case measure=>exact ms
   ·go_wp2_with (go_at_call 124;refine (Tj _ _ _).mono ?_;rintro e w' ⟨rfl,h9⟩;subst w')
    go_roundw
    case rel=>exact ⟨k+1,by omega,by go_num,by rw [uh Hy];rfl,by rw [uh Hy],uh kb,uh Hv1,uh BB⟩
    case measure=>exact ms
  ·obtain rfl:k=m.dk.length:=by omega
   go_wp2_with fail
   go_ret2
   exact ⟨rfl,uh BB⟩
theorem GH  {r:Nat} (h:Smy w v0 v1 v2 v3 v4 m) (hS:Sane m) (hr:r<m.rm.length) :
  Calls Tryz.prog 221 #[.agg #[v0,v1,v2,v3,v4,.int .i64 m.now],.int .i64 (r:Int)] w fun e w'=>e= .returned (.int .i64 (TE m r))/\Below w.heap.size w w':=by
 have Hv:=Z9 (h.alloc (.cells #[v0,v1,v2,v3,v4,.int .i64 m.now] 32));obtain ⟨a0,p0,a1,p1,a2,p2,a3,p3,a4,p4,rfl,rfl,rfl,rfl,rfl,_,_,_,_,_,_,_,_,_,_⟩:=h.five;clear h;have HS:=Z9 hS;obtain ⟨BB0,kb0⟩:=V7 w 32 (S6 a0 p0 a1 p1 a2 p2 a3 p3 a4 p4 m);have hr1:(r:Int)<(m.rm.length:Int):=by omega
 have Hc:Hid (TE m r=O0 (ZQ m.rm r) (YU m (r:Int) m.dk.length).1 (YU m (r:Int) m.dk.length).2):=Z9 rfl;rw [uh Hc];clear Hc hS;obtain ⟨⟨n,ps⟩,hrm⟩:∃ x,ZQ m.rm r=x:=⟨_,rfl⟩
 obtain ⟨mo,hmo⟩:∃ x,(YU m (r:Int) m.dk.length).1=x:=⟨_,rfl⟩
 obtain ⟨al,hal⟩:∃ x,(YU m (r:Int) m.dk.length).2=x:=⟨_,rfl⟩
 rw [hrm,hmo,hal];have Hrm:=Z9 hrm;have Hmo:=Z9 hmo;have Hal:=Z9 hal;clear hrm hmo hal;go_enter Tryz.func221,Tryz.ntmps221;go_wp2_with fail;have hu:=Oq (r:Int) (uh Hv) (uh HS);rw [uh Hmo,uh Hal] at hu;refine hu.mono ?_;clear hu;rintro e w1 ⟨rfl,hb⟩;have kb:=Z9 ((uh kb0).below hb (uh kb0).lt);replace Hv:=Z9 ((uh Hv).below hb);have BB:=Z9 ((uh BB0).trans (hb.mono (uh BB0).size));clear hb kb0 BB0;obtain ⟨_,_,hre,_,_,r0⟩:=(uh Hv).rm;cases hre
 rcases r0 with e0 | ⟨rb,off,rfl,hbw,hcl⟩
 ·rw [e0] at hr;simp at hr
 obtain ⟨d0,pv,d1,hpv⟩:=hcl r hr;rw [uh Hrm] at d0 hpv;simp only at d0 hpv;have Hpv:=Z9 hpv;obtain ⟨pa,pc,rfl,_,_,_⟩:=hpv;have c0:=(uh kb).cell (i:=0) (v:= .slice (some ⟨rb,off,none⟩) m.rm.length p0) rfl;clear hcl;go_wp2_with fail;refine ck (P4 n mo al (uh Hpv)) fun w2 hb=> ?_;replace BB:=bt BB hb;clear hb;go_wp2_with fail;go_ret;exact ⟨rfl,uh BB⟩
theorem Ey  (h:Smy w v0 v1 v2 v3 v4 m) (hS:Sane m) :
  Calls Tryz.prog 170 #[.agg #[v0,v1,v2,v3,v4,.int .i64 m.now]] w fun e w'=>e= .returned (.int .i64 (PA m))/\Below w.heap.size w w':=by
 have Hv:=Z9 (h.alloc (.cells #[v0,v1,v2,v3,v4,.int .i64 m.now] 32));obtain ⟨a0,p0,a1,p1,a2,p2,a3,p3,a4,p4,rfl,rfl,rfl,rfl,rfl,_,_,_,_,_,_,_,_,_,_⟩:=h.five;clear h;have HS:=Z9 hS;obtain ⟨BB0,kb0⟩:=V7 w 32 (S6 a0 p0 a1 p1 a2 p2 a3 p3 a4 p4 m);have h3:=(Zl hS.hall).2.1;have Hbd:=Z9 (OP m);clear hS;go_enter Tryz.func170,Tryz.ntmps170;go_wp2_with fail
 go_loopw [3,4] (fun n i wr=> ∃ k:Nat,k<=m.rm.length/\i= .int .i64 k/\n= .int .i64 (VA m k)/\Blk wr w.heap.size 32 (S6 a0 p0 a1 p1 a2 p2 a3 p3 a4 p4 m)/\Smy wr (.slice a0 m.rm.length p0) (.slice a1 m.gd.length p1) (.slice a2 m.sm.length p2) (.slice a3 m.dk.length p3) (.slice a4 m.pc.length p4) m/\Below w.heap.size w wr) (fun _ i _=>m.rm.length-(intOf i).toNat)
 case atStart=>exact ⟨0,Zz _,rfl,rfl,uh kb0,uh Hv,uh BB0⟩
 case round=>
  obtain ⟨k,hk,rfl,rfl,hkb,hv,hb0⟩:=hrel;obtain ⟨u0,u1⟩:=uh Hbd k;obtain ⟨u2,u3⟩:=uh Hbd (k+1);have hst:VA m (k+1)=VA m k+TE m k:=rfl;have kb:=Z9 hkb;have Hv1:=Z9 hv;have BB:=Z9 hb0;clear hkb hv hb0 kb0 BB0 Hv;obtain ⟨c0,c1,c2,c3,c4,c5⟩:=(uh kb).c6;by_cases hlt:k<m.rm.length
  ·have hlt1:(k:Int)<(m.rm.length:Int):=by omega
   go_wp2_with fail;refine ck (GH (uh Hv1) (uh HS) hlt) fun w1 hb=> ?_;replace kb:=bl kb hb;replace Hv1:=Z9 ((uh Hv1).below hb);replace BB:=bt BB hb;rw [hst] at u2 u3;have Hst:=Z9 hst;clear hb c0 c1 c2 c3 c4 c5 hst;generalize TE m k=ci at *;generalize VA m k=ct at *;go_wp2_with fail;go_roundw
   case rel=>exact ⟨k+1,by omega,by go_num,by rw [uh Hst],uh kb,uh Hv1,uh BB⟩
   case measure=>exact ms
  ·obtain rfl:k=m.rm.length:=by omega
   go_wp2_with fail;go_ret;exact ⟨rfl,uh BB⟩
theorem Ot  {k:Nat} (b:Int) (h:Smy w v0 v1 v2 v3 v4 m) (hS:Sane m) (hp:m.pc.length<=1000) (hk:k<m.sm.length) (hs:(Z8 m.sm k).1 ≠ 0) :
  Calls Tryz.prog 108 #[.agg #[v0,v1,v2,v3,v4,.int .i64 m.now],.int .i64 (k:Int),.int .i64 b] w fun e w'=>e= .returned (.int .i64 (Za m (k:Int) b))/\Below w.heap.size w w':=by
 have Hv:=Z9 (h.alloc (.cells #[v0,v1,v2,v3,v4,.int .i64 m.now] 32));obtain ⟨a0,p0,a1,p1,a2,p2,a3,p3,a4,p4,rfl,rfl,rfl,rfl,rfl,_,_,_,_,_,_,_,_,_,_⟩:=h.five;clear h;have HF:=Z9 (hS.few' hp);have HSW:=Z9 (hS.with hk hs b);have Hc:Hid (Za m (k:Int) b=PA (Wv m (k:Int) b)):=Z9 rfl;rw [uh Hc];have hk1:(k:Int)<(m.sm.length:Int):=by omega
 clear hS hp hs Hc;have BB0:Hid (Below w.heap.size w (w.alloc (.cells (S6 a0 p0 a1 p1 a2 p2 a3 p3 a4 p4 m) 32))):=Z9 ((ba _ _));go_enter Tryz.func108,Tryz.ntmps108;go_wp2_with fail;refine (XR (uh Hv) (uh HF)).mono ?_;rintro e w1 ⟨y0,y1,y2,y3,y4,oq,rfl,ho,hb⟩;have k9:=ho.smy;obtain ⟨b0,q0,b1,q1,b2,q2,b3,q3,b4,q4,rfl,rfl,rfl,rfl,rfl,_,_,_,_,_,_,_,_,_,_⟩:=k9.five;have HO:=Z9 (ho.mono (n₁:=w.heap.size) (by simp));have BB:=Z9 ((uh BB0).trans (hb.mono (uh BB0).size));clear k9 ho hb BB0 Hv;go_upto_region 2 with fail;obtain ⟨W,hW,hba,ko⟩:=YP w1 32 (S6 b0 q0 b1 q1 b2 q2 b3 q3 b4 q4 m);have LO:Hid (∀ i,Wa (.slice b0 m.rm.length q0) (.slice b1 m.gd.length q1) (.slice b2 m.sm.length q2) (.slice b3 m.dk.length q3) (.slice b4 m.pc.length q4) oq i->w.heap.size<=i/\i<w1.heap.size):=Z9 (fun i e=>(uh HO).own e);replace HO:=Z9 ((uh HO).below hba);replace BB:=bt BB hba;clear hba;rw [hW];clear hW;generalize w1.heap.size=ob at *;obtain ⟨g2,hga,_,_,hc2,hz2⟩:=RecAt.view ZT (by omega) (uh HO).sm rfl (by omega);cases hga;have hg2o:=(uh LO g2 (.inr (.inr (.inr (.inl rfl)))))
 have s1:=hc2 k hk 1 _ rfl;have f1:=hz2 (k*11+1);have hp1:=(uh HO).putS rfl (j:=k) (i:=1) hk (by omega) (.int .i64 b) (((Z8 m.sm k).1,b,(Z8 m.sm k).2.2)) rfl;have hlen:(m.sm.set k (((Z8 m.sm k).1,b,(Z8 m.sm k).2.2))).length=m.sm.length:=by simp
 have hs1:Z8 (m.sm.set k (((Z8 m.sm k).1,b,(Z8 m.sm k).2.2))) k=(((Z8 m.sm k).1,b,(Z8 m.sm k).2.2)):=by rw [ZF hk,if_pos rfl]
 have hp2:=hp1.putS hlen.symm (j:=k) (i:=0) (by show k<(m.sm.set k _).length;omega) (by omega) (.int .i64 2) (QV (Z8 m.sm k) b) (by show ZU (QV (Z8 m.sm k) b)=(ZU (Z8 (m.sm.set k (((Z8 m.sm k).1,b,(Z8 m.sm k).2.2))) k)).set 0 _;rw [hs1];rfl);obtain ⟨_,hga,_,_,hc3,hz3⟩:=RecAt.view ZT (by omega) hp1.sm hlen.symm (by show 0<(m.sm.set k _).length;omega);cases hga;have s2:=hc3 k (by show k<(m.sm.set k _).length;omega) 0 _ rfl;have f2:=hz3 (k*11);have x2:=(uh ko).cell (i:=2) (v:= .slice (some ⟨g2,0,none⟩) m.sm.length q2) rfl;have x3:=((uh ko).other (a:=⟨g2,k*11+1,none⟩) (by show ob ≠ g2;omega) (.int .i64 b)).cell (i:=2) (v:= .slice (some ⟨g2,0,none⟩) m.sm.length q2) rfl;simp only [Nat.add_zero,List.set_set] at hp2 s2 f2;have hwm:({ m with sm:=m.sm.set k (QV (Z8 m.sm k) b) } : Z6)=Wv m (k:Int) b:=by unfold Wv;simp
 rw [hwm] at hp2;have HP:=Z9 hp2.smy;clear hc2 hz2 hc3 hz3 hp1 hp2 hwm hs1 hlen HO;go_upto_region 4 with fail;clear s1 f1 s2 f2 x2 x3;replace ko:Hid (Blk ((W.setCell ⟨g2,k*11+1,none⟩ (.int .i64 b)).setCell ⟨g2,k*11,none⟩ (.int .i64 2)) ob 32 (S6 b0 q0 b1 q1 (some ⟨g2,0,none⟩) q2 b3 q3 b4 q4 m)):=Z9 (((uh ko).other (a:=⟨g2,k*11+1,none⟩) (by show ob ≠ g2;omega) _).other (a:=⟨g2,k*11,none⟩) (by show ob ≠ g2;omega) _);replace BB:Hid (Below w.heap.size w ((W.setCell ⟨g2,k*11+1,none⟩ (.int .i64 b)).setCell ⟨g2,k*11,none⟩ (.int .i64 2))):=Z9 (((uh BB).setCell (p:=⟨g2,k*11+1,none⟩) (by show w.heap.size<=g2;omega) _).setCell (p:=⟨g2,k*11,none⟩) (by show w.heap.size<=g2;omega) _);generalize (W.setCell ⟨g2,k*11+1,none⟩ (.int .i64 b)).setCell ⟨g2,k*11,none⟩ (.int .i64 2)=W3 at *;obtain ⟨c0,c1,c2,c3,c4,c5⟩:=(uh ko).c6;go_wp2_with fail;refine ck (Ey (m:=Wv m (k:Int) b) (uh HP) (uh HSW)) fun w5 hb=> ?_;replace BB:=bt BB hb;clear hb;go_wp2_with fail;go_ret;exact ⟨rfl,uh BB⟩
theorem Calls.same_below {P:Program} {f:FuncId} {args:Array Value}  (h:Calls P f args w fun e w'=>e= .returned v/\w'=w):Calls P f args w fun e w'=>e= .returned v/\Below w.heap.size w w':=
 h.mono fun e w' ⟨he,hw⟩=>⟨he,by rw [hw];exact ZZ _ _⟩
theorem SC  {k b:Nat} (h:Smy w v0 v1 v2 v3 v4 m) (hk:k<m.sm.length) (hb:b<m.dk.length) (h7:b<=7) (y0:0<=(Z8 m.sm k).2.2.2.1) (y1:(Z8 m.sm k).2.2.2.1<=255) :
  Calls Tryz.prog 112 #[.agg #[v0,v1,v2,v3,v4,.int .i64 m.now],.int .i64 (k:Int),.int .i64 (b:Int)] w fun e w'=>e= .returned (.bool (YH m (k:Int) b))/\Below w.heap.size w w':=by
 have hm:YH m (k:Int) b=((Z8 m.dk b).1 && VX (Z8 m.sm k).2.2.2.1 b):=rfl;rw [hm];clear hm;obtain ⟨a0,p0,rfl,_,_⟩:=IsRooms.shape h.rm;obtain ⟨a1,p1,rfl,_,_⟩:=IsRec.shape h.gd;obtain ⟨a4,p4,rfl,_,_⟩:=IsRec.shape h.pc;obtain ⟨a2,p2,rfl,_,_,r2⟩:=h.sm;obtain ⟨a3,p3,rfl,_,_,r3⟩:=h.dk;clear h
 rcases r2 with e0 | ⟨sb,so,rfl,hbs,hcs⟩
 ·rw [e0] at hk;simp at hk
 rcases r3 with e0 | ⟨db,dof,rfl,hbd,hcd⟩
 ·rw [e0] at hb;simp at hb
 obtain ⟨_,_,_,s3,_⟩:=ZA hcs hk;obtain ⟨d0,_,_⟩:=Y4 hcd hb;have hk1:(k:Int)<(m.sm.length:Int):=by omega
 have hb1:(b:Int)<(m.dk.length:Int):=by omega
 clear hcs hcd;generalize (Z8 m.sm k).2.2.2.1=my at *;generalize (Z8 m.dk b).1=op at *;cases op
 all_goals
  go_enter Tryz.func112,Tryz.ntmps112;go_wp2_with (go_at_call 60;refine (OY my (b:Int) _ y0 y1 (by omega) (by omega)).mono ?_;rintro e w' ⟨rfl,h9⟩;subst w')
  go_ret;exact ⟨rfl,(ba _ _)⟩
theorem RD  (h:Smy w v0 v1 v2 v3 v4 m) (hS:Sane m) :
  Calls Tryz.prog 107 #[.agg #[v0,v1,v2,v3,v4,.int .i64 m.now]] w fun e w'=>e= .returned (.bool (WB m))/\Below w.heap.size w w':=by
 have Hv:=Z9 (h.alloc (.cells #[v0,v1,v2,v3,v4,.int .i64 m.now] 32));obtain ⟨a0,p0,a1,p1,a2,p2,a3,p3,a4,p4,rfl,rfl,rfl,rfl,rfl,_,_,_,_,_,_,_,_,_,_⟩:=h.five;clear h;obtain ⟨BB0,kb0⟩:=V7 w 32 (S6 a0 p0 a1 p1 a2 p2 a3 p3 a4 p4 m);have HS:=Z9 hS;have h8:=hS.eight;clear hS;have hyes:∀ k,k<m.dk.length->So m k=true->WB m=true:=fun k hk hc=>List.any_eq_true.2 ⟨k,List.mem_range.2 hk,hc⟩
 have hno:(∀ k,k<m.dk.length->So m k=false)->WB m=false:=fun hn=>by
  unfold WB;rw [List.any_eq_false];intro k hk;rw [hn k (List.mem_range.1 hk)];simp
 have Hyes:=Z9 hyes;have Hno:=Z9 hno;clear hyes hno;go_enter Tryz.func107,Tryz.ntmps107;go_wp2_with fail
 go_loopw [3] (fun i wr=> ∃ k:Nat,k<=m.dk.length/\i= .int .i64 k/\(∀ j,j<k->So m j=false)/\Blk wr w.heap.size 32 (S6 a0 p0 a1 p1 a2 p2 a3 p3 a4 p4 m)/\Smy wr (.slice a0 m.rm.length p0) (.slice a1 m.gd.length p1) (.slice a2 m.sm.length p2) (.slice a3 m.dk.length p3) (.slice a4 m.pc.length p4) m/\Below w.heap.size w wr) (fun i _=>m.dk.length-(intOf i).toNat)
 case atStart=>exact ⟨0,Zz _,rfl,fun j hj=>by omega,uh kb0,uh Hv,uh BB0⟩
 case round=>
  obtain ⟨k,hk,rfl,hn,hkb,hv,hb0⟩:=hrel;have Hn:=Z9 hn;have kb:=Z9 hkb;have Hv1:=Z9 hv;have BB:=Z9 hb0;clear hkb hv hb0 kb0 BB0 Hv hn;obtain ⟨c0,c1,c2,c3,c4,c5⟩:=(uh kb).c6;by_cases hlt:k<m.dk.length
  ·have hlt1:(k:Int)<(m.dk.length:Int):=by omega
   have Hc:Hid (So m k=((Z8 m.dk k).1 && VJ (Zc m (k:Int) (-1)) (Zd m.rm (k:Int)))):=Z9 rfl;obtain ⟨_,_,hde,_,_,r3⟩:=(uh Hv1).dk;cases hde
   rcases r3 with e0 | ⟨db,off,rfl,hbw,hcl⟩
   ·rw [e0] at hlt;simp at hlt
   obtain ⟨d0,_,_⟩:=Y4 hcl hlt;clear hcl;have hfo:=Tc ((uh HS).bench hlt);have Hu:=Z9 (fun (W:World) (hW:Below wr.heap.size wr W)=>TO (k:Int) (-1) ((uh Hv1).below hW) (uh HS).guilded (by have:=(uh HS).few;omega));have Hf:=Z9 (fun (W:World) (hW:Below wr.heap.size wr W)=>U9 (k:Int) ((uh Hv1).below hW).rm ((uh HS).bench hlt));rw [<-hfo] at Hf;clear hfo;generalize Zc m (k:Int) (-1)=us at *;generalize Zd m.rm (k:Int)=fo at *;generalize (Z8 m.dk k).1=op at *;have y0:=Z2 c0;have y1:=Z2 c1;have y2:=Z2 c2;have y3:=Z2 c3;have y4:=Z2 c4;have y5:=Z2 c5;have z0:=Z2 d0;obtain ⟨mu,hmu⟩:∃ q,VJ us fo=q:=⟨_,rfl⟩
   have Ht:=Z9 (fun (W:World)=>Calls.same_below (N7 us fo W));rw [hmu] at Hc Ht;clear hmu;cases op
   ·go_wp2_with fail
    refine wq ?_
    repeat (go_big_quiet_step (first | exact ZY (uh Hu _ (Z0 _ _ _)) | exact ZY (uh Hf _ (Z0 _ _ _)) | exact ZY (uh Ht _)))
    refine wpQuiet_nil ?_;intro _ hw';obtain ⟨⟨dq,osq⟩,hw''⟩:=hw';subst hw'';go_wp2_with fail;go_roundw
    case rel=>exact ⟨k+1,by omega,by go_num,Yi (uh Hn) (uh Hc),(uh kb).below (Z0 _ _ _) (uh kb).lt,(uh Hv1).below (Z0 _ _ _),(uh BB).trans ((Z0 _ _ _).mono (uh BB).size)⟩
    case measure=>exact ms
   ·cases mu
    ·go_wp2_with fail
     refine wq ?_
     repeat (go_big_quiet_step (first | exact ZY (uh Hu _ (Z0 _ _ _)) | exact ZY (uh Hf _ (Z0 _ _ _)) | exact ZY (uh Ht _)))
     refine wpQuiet_nil ?_;intro _ hw';obtain ⟨⟨dq,osq⟩,hw''⟩:=hw';subst hw'';go_wp2_with fail;go_roundw
     case rel=>exact ⟨k+1,by omega,by go_num,Yi (uh Hn) (uh Hc),(uh kb).below (Z0 _ _ _) (uh kb).lt,(uh Hv1).below (Z0 _ _ _),(uh BB).trans ((Z0 _ _ _).mono (uh BB).size)⟩
     case measure=>exact ms
    ·go_wp2_with fail
     refine wq ?_
     repeat (go_big_quiet_step (first | exact ZY (uh Hu _ (Z0 _ _ _)) | exact ZY (uh Hf _ (Z0 _ _ _)) | exact ZY (uh Ht _)))
     refine wpQuiet_nil ?_;intro _ hw';obtain ⟨⟨dq,osq⟩,hw''⟩:=hw';subst hw'';go_wp2_with fail;go_ret;exact ⟨Z5 (uh Hyes k hlt (uh Hc)).symm,(uh BB).trans ((Z0 _ _ _).mono (uh BB).size)⟩
  ·obtain rfl:k=m.dk.length:=by omega
   go_wp2_with fail;go_ret;exact ⟨Z5 (uh Hno (uh Hn)).symm,uh BB⟩
structure Si (m:Z6) (k:Nat):Prop where
 lt:k<m.sm.length
 st:(Z8 m.sm k).1 ≠ 0
 y0:0<=(Z8 m.sm k).2.2.2.1
 y1:(Z8 m.sm k).2.2.2.1<=255
theorem Am {who:Int} {k:Nat} (h:Oh m who k=false):UR m who (k+1)=UR m who k:=by show (if _ then _ else _)=_;rw [h];rfl
theorem Cb {who:Int} {k:Nat} (h:Oh m who k=true):UR m who (k+1)=UR m who k++[(k:Int)]:=by show (if _ then _ else _)=_;rw [h];rfl
theorem RE  {who:Nat} (h:Smy w v0 v1 v2 v3 v4 m) (hS:Sane m) (hA:Si m who) :
  Calls Tryz.prog 106 #[.agg #[v0,v1,v2,v3,v4,.int .i64 m.now],.int .i64 (who:Int)] w fun e w'=> ∃ v',e= .returned v'/\NumsAt w.heap.size w' v' (YI m (who:Int))/\Below w.heap.size w w':=by
 have Hv:=Z9 (h.alloc (.cells #[v0,v1,v2,v3,v4,.int .i64 m.now] 32));obtain ⟨a0,p0,a1,p1,a2,p2,a3,p3,a4,p4,rfl,rfl,rfl,rfl,rfl,_,_,_,_,_,_,_,_,_,_⟩:=h.five;have HW:=Z9 h;clear h;obtain ⟨BB0,kb0⟩:=V7 w 32 (S6 a0 p0 a1 p1 a2 p2 a3 p3 a4 p4 m);have HS:=Z9 hS;have HA:=Z9 hA;have h8:=hS.eight;clear hS hA;have kb1:Hid (Blk ((w.alloc (.cells (S6 a0 p0 a1 p1 a2 p2 a3 p3 a4 p4 m) 32)).alloc (.cells #[] 2)) w.heap.size 32 (S6 a0 p0 a1 p1 a2 p2 a3 p3 a4 p4 m)):=Z9 ((uh kb0).alloc _);have BB1:Hid (Below w.heap.size w ((w.alloc (.cells (S6 a0 p0 a1 p1 a2 p2 a3 p3 a4 p4 m) 32)).alloc (.cells #[] 2))):=Z9 ((uh BB0).alloc (uh BB0).size _);have Hv0:=Z9 ((uh Hv).alloc (.cells #[] 2));have E0:Hid (NumsAt (w.heap.size+1) ((w.alloc (.cells (S6 a0 p0 a1 p1 a2 p2 a3 p3 a4 p4 m) 32)).alloc (.cells #[] 2)) (.slice (some ⟨w.heap.size+1,0,none⟩) 0 0) []):=Z9 (Y8 (by simp) (by simp));clear kb0 BB0 Hv;go_enter Tryz.func106,Tryz.ntmps106;go_wp2_with fail
 go_loopw [5,6] (fun l i wr=> ∃ k:Nat,k<=m.dk.length/\i= .int .i64 k/\NumsAt (w.heap.size+1) wr l (UR m (who:Int) k)/\Blk wr w.heap.size 32 (S6 a0 p0 a1 p1 a2 p2 a3 p3 a4 p4 m)/\Smy wr (.slice a0 m.rm.length p0) (.slice a1 m.gd.length p1) (.slice a2 m.sm.length p2) (.slice a3 m.dk.length p3) (.slice a4 m.pc.length p4) m/\Below w.heap.size w wr) (fun _ i _=>m.dk.length-(intOf i).toNat)
 case atStart=>exact ⟨0,Zz _,rfl,uh E0,uh kb1,uh Hv0,uh BB1⟩
 case round=>
  obtain ⟨k,hk,rfl,hl,hkb,hv,hb0⟩:=hrel;obtain ⟨la,lc,rfl⟩:=RecAt.shape hl;have HL:=Z9 hl;have kb:=Z9 hkb;have Hv1:=Z9 hv;have BB:=Z9 hb0;have hbl:=(uh kb).lt;have hfl:=OR m (who:Int) k;clear hkb hv hb0 kb1 BB1 Hv0 E0 hl;obtain ⟨c0,c1,c2,c3,c4,c5⟩:=(uh kb).c6;by_cases hlt:k<m.dk.length
  ·have hlt1:(k:Int)<(m.dk.length:Int):=by omega
   have Hc:Hid (Oh m (who:Int) k=(YH m (who:Int) k && Wk (Zs m (who:Int)) (Zc m (k:Int) (who:Int)) (Zd m.rm (k:Int)))):=Z9 rfl;have Hno:=Z9 (fun hh=>Am (m:=m) (who:=(who:Int)) (k:=k) hh);have Hyes:=Z9 (fun hh=>Cb (m:=m) (who:=(who:Int)) (k:=k) hh);have hfo:=Tc ((uh HS).bench hlt);have Hma:=Z9 (fun (W:World) (hW:Below wr.heap.size wr W)=>SC ((uh Hv1).below hW) (uh HA).lt hlt (by omega) (uh HA).y0 (uh HA).y1);have Hwa:=Z9 (fun (W:World) (hW:Below wr.heap.size wr W)=>RA ((uh Hv1).below hW) (uh HS).guilded.gd (uh HA).lt ((uh HS).guilded.lo who (uh HA).lt (uh HA).st) ((uh HS).guilded.hi who (uh HA).lt (uh HA).st));have Hu:=Z9 (fun (W:World) (hW:Below wr.heap.size wr W)=>TO (k:Int) (who:Int) ((uh Hv1).below hW) (uh HS).guilded (by have:=(uh HS).few;omega));have Hf:=Z9 (fun (W:World) (hW:Below wr.heap.size wr W)=>U9 (k:Int) ((uh Hv1).below hW).rm ((uh HS).bench hlt));rw [<-hfo] at Hf;clear hfo;have Ht:=Z9 (fun (W:World)=>Calls.same_below (Ur (Zs m (who:Int)) (Zc m (k:Int) (who:Int)) (Zd m.rm (k:Int)) W));generalize YH m (who:Int) k=ma at *;generalize Zs m (who:Int)=wa at *;generalize Zc m (k:Int) (who:Int)=us at *;generalize Zd m.rm (k:Int)=fo at *;generalize Wk wa us fo=fi at *;have y0:=Z2 c0;have y1:=Z2 c1;have y2:=Z2 c2;have y3:=Z2 c3;have y4:=Z2 c4;have y5:=Z2 c5;cases ma
   ·go_wp2_with fail
    refine wq ?_
    repeat (go_big_quiet_step (first | exact ZY (uh Hma _ (Z0 _ _ _)) | exact ZY (uh Hwa _ (Z0 _ _ _)) | exact ZY (uh Hu _ (Z0 _ _ _)) | exact ZY (uh Hf _ (Z0 _ _ _)) | exact ZY (uh Ht _)))
    refine wpQuiet_nil ?_;intro _ hw';obtain ⟨⟨dq,osq⟩,hw''⟩:=hw';subst hw'';go_wp2_with fail;go_roundw
    case rel=>exact ⟨k+1,by omega,by go_num,by rw [uh Hno (uh Hc)];exact RecAt.later (uh HL) (Z0 _ _ _),(uh kb).below (Z0 _ _ _) (uh kb).lt,(uh Hv1).below (Z0 _ _ _),(uh BB).trans ((Z0 _ _ _).mono (uh BB).size)⟩
    case measure=>exact ms
   cases fi
   ·go_wp2_with fail
    refine wq ?_
    repeat (go_big_quiet_step (first | exact ZY (uh Hma _ (Z0 _ _ _)) | exact ZY (uh Hwa _ (Z0 _ _ _)) | exact ZY (uh Hu _ (Z0 _ _ _)) | exact ZY (uh Hf _ (Z0 _ _ _)) | exact ZY (uh Ht _)))
    refine wpQuiet_nil ?_;intro _ hw';obtain ⟨⟨dq,osq⟩,hw''⟩:=hw';subst hw'';go_wp2_with fail;go_roundw
    case rel=>exact ⟨k+1,by omega,by go_num,by rw [uh Hno (uh Hc)];exact RecAt.later (uh HL) (Z0 _ _ _),(uh kb).below (Z0 _ _ _) (uh kb).lt,(uh Hv1).below (Z0 _ _ _),(uh BB).trans ((Z0 _ _ _).mono (uh BB).size)⟩
    case measure=>exact ms
   ·go_wp2_with fail
    refine wq ?_
    repeat (go_big_quiet_step (first | exact ZY (uh Hma _ (Z0 _ _ _)) | exact ZY (uh Hwa _ (Z0 _ _ _)) | exact ZY (uh Hu _ (Z0 _ _ _)) | exact ZY (uh Hf _ (Z0 _ _ _)) | exact ZY (uh Ht _)))
    refine wpQuiet_nil ?_;intro _ hw';obtain ⟨⟨dq,osq⟩,hw''⟩:=hw';subst hw'';clear c0 c1 c2 c3 c4 c5 y0 y1 y2 y3 y4 y5 Hma Hwa Hu Hf Ht;have hb9:=Z0 wr dq osq;replace HL:=Z9 (RecAt.later (uh HL) hb9);replace kb:=Z9 ((uh kb).below hb9 (uh kb).lt);replace Hv1:=Z9 ((uh Hv1).below hb9);replace BB:=Z9 ((uh BB).trans (hb9.mono (uh BB).size));clear hb9;generalize grow (redrawn wr dq) osq=X at *;have hsx:=(uh BB).size;go_wp2_with (at_builtin;refine ZI tyN rfl (.tmp 33) (.tmp 35) 30 Tryz.underlying30 rfl (w.heap.size+1) _ _ (UR m (who:Int) k) [(k:Int)] rfl rfl (RecAt.later (uh HL) ((ba _ _))) (WH (k:Int) rfl (Z1 _) (by omega)) (by simp;omega) (by simp;omega) ?_;intro u9 w9 hp9 hg9 hat9;have HP9:=Z9 hp9;have HG9:=Z9 hg9;clear hp9 hg9 hat9)
    have hlx:=(uh kb).lt;have hgo:∀ i,(Value.slice la (UR m (who:Int) k).length lc).ownBlock=some i->w.heap.size+1<=i:=fun i e=>(RecAt.lt (uh HL) e).1;have hb9:Below (w.heap.size+1) X w9:=((ZZ _ _).alloc hlx _).trans ((ZZ _ _).grown (uh HG9) (by simp;omega) hgo);have hb8:=(uh BB).trans (hb9.mono (Nat.le_succ _));go_wp2_with fail;go_roundw
    case rel=>exact ⟨k+1,by omega,by go_num,by rw [uh Hyes (uh Hc)];exact uh HP9,(uh kb).below hb9 (Nat.lt_succ_self _),(uh HW).below hb8,hb8⟩
    case measure=>exact ms
  ·obtain rfl:k=m.dk.length:=by omega
   go_wp2_with fail;go_ret;exact ⟨_,rfl,RecAt.mono (uh HL) (Nat.le_succ _),uh BB⟩
end Go.Proofs.YtamgfpdahadnfaaGreatDoor
