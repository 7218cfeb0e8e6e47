/- Part 8 of what the proof rests on. No condition but those that a theorem names. -/
import Derived.Test.YtamgfpdahadnfaaGreatDoorXh07
import Derived.RangeFuncNested
import Derived.RangeFuncBound
import Derived.RangeFuncCalls
import Derived.RangeFuncLeaves
import Derived.RangeFuncBox
import Derived.Shelf.Abstract
import Derived.OwnWalkIn
import Derived.TacticsInMore
import Derived.LoopNIn
import Derived.LoopIn
set_option maxHeartbeats 8000000
set_option maxRecDepth 100000
namespace Go.Proofs.YtamgfpdahadnfaaGreatDoor
open Go.ChangeShapes Go.WideShapes Go.ChangeAt Go.RowKit Go.Sort
set_option linter.unusedVariables false
set_option linter.unusedSimpArgs false
theorem Two.ents {p q:Option Nat} {w w':World} {B:Nat} {v:Value} {ps:List Z4} (h:EntsAt B w v ps) (ht:Two p q w w') (hp:∀ k,p=some k->k<B) (hq:∀ k,q=some k->k<B):EntsAt B w' v ps:=
 EntsAt.same h fun k e=>ht.block k (h.lt e).2 (fun e'=>by have:=hp k e';have:=(h.lt e).1;omega) (fun e'=>by have:=hq k e';have:=(h.lt e).1;omega)
theorem Two.cell {p q:Option Nat} {w w':World} (h:Two p q w w') {a:Addr} (ha:a.block<w.heap.size) (hp:p ≠ some a.block) (hq:q ≠ some a.block):w'.cell? a=w.cell? a:=World.cell?_of_block (w:=w) (h.block a.block ha hp hq)
theorem It {q:List Z4} {j:Nat} (hj:j<q.length):q.take (j+1)=q.take j++[Z7 q j]:=by
 rw [List.take_succ_eq_append_getElem hj];unfold Z7;simp [List.getD,hj]
theorem Kp {m:Z6} {b:Nat} (h:atV m.sm b m.sm.length=[]):Xe m b={ m with dk:=m.dk.set b ((Z8 m.dk b).1,-1,(Z8 m.dk b).2.2) }:=by
 unfold Xe;rw [h]
theorem MT {m:Z6} {b:Nat} {e:Z4} {t:List Z4} (h:atV m.sm b m.sm.length=e::t):Xe m b={ m with sm:=(ZD m.sm (e::t)).set e.2.toNat (stS (Z8 (ZD m.sm (e::t)) e.2.toNat) 3),dk:=m.dk.set b ((Z8 m.dk b).1,e.2,Zv (Z8 m.dk b).2.2 e.1) }:=by
 unfold Xe;rw [h]
theorem Rv {w:World} {R n₀:Nat} {v0 v1 v2 v3 v4:Value} {m:Z6} {qs:List (ZZ × Value)} (kb:Blk w R 32 #[v0,v1,v2,v3,v4,.int .i64 m.now]) (hf:FullSmy n₀ w v0 v1 v2 v3 v4 m qs) (h2:v2.ownBlock ≠ some R) (h3:v3.ownBlock ≠ some R) (hl:m.sm.length<=800) (hd:m.dk.length<=1000) :
  Calls Tryz.prog 113 #[.pointer (some ⟨R,0,none⟩)] w fun e w'=>e= .returned (.tuple #[])/\FullSmy n₀ w' v0 v1 v2 v3 v4 (ZN m) qs/\Two v2.ownBlock v3.ownBlock w w':=by
 obtain ⟨a2,p2,rfl⟩:=RecAt.shape hf.sm;obtain ⟨a3,p3,rfl⟩:=RecAt.shape hf.dk;by_cases hnd:m.dk.length=0
 ·have hz:ZN m=m:=by unfold ZN;rw [hnd];rfl
  have c3:=kb.cell (i:=3) (v:= .slice a3 m.dk.length p3) rfl;have HF:=Z9 hf;rw [hz];have hz0:¬ (0:Int)<(m.dk.length:Int):=by omega
  clear hz hf kb hnd;go_enter Tryz.func113,Tryz.ntmps113;go_wp2_with fail
  go_loopw [2] (fun i wr=>i= .int .i64 0/\wr=w) (fun i _=>0)
  case atStart=>exact ⟨rfl,rfl⟩
  case round=>
   obtain ⟨rfl,hwr⟩:=hrel;subst hwr;go_wp2_with fail
   go_end0
   exact ⟨rfl,uh HF,Two.refl _ _ _⟩
 obtain ⟨g3,rfl,hg3,hg3w,_,_⟩:=RecAt.view Zu (by omega) hf.dk rfl (by omega);have Kb:=Z9 kb;have H2:=Z9 h2;have H3:Hid (g3 ≠ R):=Z9 (fun e=>h3 (by rw [e];rfl));have HF:=Z9 hf;have L2:Hid (∀ i,(Value.slice a2 m.sm.length p2).ownBlock=some i->i<w.heap.size):=Z9 (fun i e=>(RecAt.lt hf.sm e).2);clear kb h2 h3 hf;go_enter Tryz.func113,Tryz.ntmps113;go_wp2_with fail
 go_loopw [2] (fun i wr=> ∃ k:Nat,k<=m.dk.length/\i= .int .i64 k/\FullSmy n₀ wr v0 v1 (.slice a2 m.sm.length p2) (.slice (some ⟨g3,0,none⟩) m.dk.length p3) v4 (Zj m k) qs/\Two (Value.slice a2 m.sm.length p2).ownBlock (some g3) w wr) (fun i _=>m.dk.length-(intOf i).toNat)
 case atStart=>exact ⟨0,ZA _,rfl,uh HF,Two.refl _ _ _⟩
 case round=>
  obtain ⟨k,hk,rfl,hf1,htw⟩:=hrel;obtain ⟨e1,e2,e3,e4,e5,e6⟩:=ZG m k;have Tw:=Z9 htw;have hgw:g3<wr.heap.size:=Zf hg3w htw.size;have hszr:=htw.size;have hkb1:=(uh Kb).two htw (uh H2) (fun e=>uh H3 (by cases e;rfl));have K1:=Z9 hkb1;clear htw hkb1;by_cases hlt:k<m.dk.length;rotate_left
  ·obtain rfl:k=m.dk.length:=by omega
   have c3:=(uh K1).cell (i:=3) (v:= .slice (some ⟨g3,0,none⟩) m.dk.length p3) rfl;have hno:¬ ((m.dk.length:Nat):Int)<(m.dk.length:Int):=by omega
   have HF1:=Z9 hf1;clear hf1;go_wp2_with fail
   go_end0
   exact ⟨rfl,uh HF1,uh Tw⟩
  have hstep:Zj m (k+1)=Xe (Zj m k) k:=rfl;generalize Zj m k=m1 at *;have Hstep:=Z9 hstep;clear hstep;obtain ⟨c0,c1,c2,c3,c4,c5⟩:=(uh K1).c6;have hat:=QU (k:Int) hf1.smy (by rw [e5];exact hl);rw [e4,e5] at hat;have Hat:=Z9 hat;have HF1:=Z9 hf1;clear hat hf1;go_wp2_with fail;refine (uh Hat).mono ?_;rintro e w1 ⟨v',rfl,he,hb⟩;clear c0 c1 c2 c3 c4 c5 Hat;have hmem:=XF m1.sm (k:Int);have hlq:=Si m1.sm (k:Int) m.sm.length;have HN:Hid (atV m1.sm (k:Int) m.sm.length=[]->Xe m1 k={ m1 with dk:=m1.dk.set k ((Z8 m1.dk k).1,-1,(Z8 m1.dk k).2.2) }):=Z9 (fun h=>Kp (by rw [e5];exact h));have HC:Hid (∀ e t,atV m1.sm (k:Int) m.sm.length=e::t->Xe m1 k={ m1 with sm:=(ZD m1.sm (e::t)).set e.2.toNat (stS (Z8 (ZD m1.sm (e::t)) e.2.toNat) 3),dk:=m1.dk.set k ((Z8 m1.dk k).1,e.2,Zv (Z8 m1.dk k).2.2 e.1) }):=Z9 (fun e t h=>MT (by rw [e5];exact h))
  have hmq:∀ x ∈ atV m1.sm (k:Int) m.sm.length,∃ j:Nat,j<m.sm.length/\x.2=(j:Int):=fun x hx=>by
   obtain ⟨j,hj,_,_,rfl⟩:=(hmem x m.sm.length).1 hx;exact ⟨j,hj,rfl⟩
  have Hm:=Z9 hmq;clear hmem hmq;generalize atV m1.sm (k:Int) m.sm.length=q at *;obtain ⟨qa,qc,rfl⟩:=EntsAt.shape he;have HE:=Z9 he;replace HF1:=Z9 ((uh HF1).below hb);replace K1:=bl K1 hb;replace Tw:=Z9 ((uh Tw).trans (Two.of_below hb));have hgw1:g3<w1.heap.size:=Zf hgw hb.size;have hwr1:=hb.size;clear he hb;obtain ⟨⟨o,wh,mk⟩,hrk⟩:∃ d,Z8 m1.dk k=d:=⟨_,rfl⟩
  rw [hrk] at HN HC;simp only at HN HC;have Hrk:=Z9 hrk;have hkd:k<m1.dk.length:=by omega
  have hset:∀ d,Z8 (m1.dk.set k d) k=d:=fun d=>by rw [ZJ hkd,if_pos rfl]
  have Hset:=Z9 hset;clear hset;obtain ⟨_,hga,_,_,hc3,hz3⟩:=RecAt.view Zu (by omega) (uh HF1).dk e6.symm (by omega);cases hga;have d1:=hc3 k (by omega) 1 _ rfl;rw [hrk] at d1;have f1:=hz3 (k*3+1);have c3:=(uh K1).cell (i:=3) (v:= .slice (some ⟨g3,0,none⟩) m.dk.length p3) rfl;have hput:=(uh HF1).putD e6.symm (j:=k) (i:=1) (by omega) (by omega) (.int .i64 (-1)) (o,-1,mk) (by rw [hrk];rfl);have HF2:=Z9 hput;have hns:Two (Value.slice a2 m.sm.length p2).ownBlock (some g3) w1 (w1.setCell ⟨g3,k*3+1,none⟩ (.int .i64 (-1))):=Two.of_set w1 (.inr rfl) _ _;have K2:=Z9 ((uh K1).two hns (uh H2) (fun e=>uh H3 (by cases e;rfl)));have Tw2:=Z9 ((uh Tw).trans hns);have hlow2:∀ i,(Value.slice a2 m.sm.length p2).ownBlock=some i->i<wr.heap.size:=fun i e=>Zf (uh L2 i e) hszr;have Low2:=Z9 hlow2;have HE2:=Z9 (Two.ents (uh HE) hns hlow2 (fun i e=>by cases e;exact hgw));clear hput hns hlow2 hc3 hz3 hrk;go_upto_region 5 with fail;clear d1 f1 c3 K1 Tw HE HF1;generalize w1.setCell ⟨g3,k*3+1,none⟩ (.int .i64 (-1))=X at *;have hsm:∀ i,i ∈ [0]->True:=fun _ _=>trivial;clear hsm;go_wp2_with fail
  go_loopw [4] (fun i wi=> ∃ j:Nat,j<=q.length/\i= .int .i64 j/\FullSmy n₀ wi v0 v1 (.slice a2 m.sm.length p2) (.slice (some ⟨g3,0,none⟩) m.dk.length p3) v4 { m1 with sm:=ZD m1.sm (q.take j),dk:=m1.dk.set k (o,-1,mk) } qs/\Two (Value.slice a2 m.sm.length p2).ownBlock (some g3) X wi) (fun i _=>q.length-(intOf i).toNat)
  case atStart=>exact ⟨0,ZA _,rfl,by simpa [ZD] using uh HF2,Two.refl _ _ _⟩
  case round=>
   obtain ⟨wi,rfl⟩:∃ x,x=wr:=⟨wr,rfl⟩
   obtain ⟨j,hj,rfl,hf3,htw3⟩:=hrel;have HF3:=Z9 hf3;have Tw3:=Z9 htw3;have K3:=Z9 ((uh K2).two htw3 (uh H2) (fun e=>uh H3 (by cases e;rfl)));have HE3:=Z9 (Two.ents (uh HE2) htw3 (uh Low2) (fun i e=>by cases e;exact hgw));clear hf3 htw3;by_cases hjl:j<q.length
   ·obtain ⟨_,_,hqe,_,_,hr⟩:=EntsAt.pc (uh HE3)
    cases hqe
    rcases hr with e0 | ⟨eb,eo,rfl,hbw,hcl⟩
    ·rw [e0] at hjl;simp at hjl
    obtain ⟨c0,c1⟩:=hcl j hjl;obtain ⟨i0,hi0,hie⟩:=uh Hm _ (WZ hjl);rw [hie] at c1;have Htk:Hid (ZD m1.sm (q.take (j+1))=(ZD m1.sm (q.take j)).set i0 (stS (Z8 (ZD m1.sm (q.take j)) i0) 2)):=Z9 (by rw [It hjl,PX,hie];simp);have hwl:(ZD m1.sm (q.take j)).length=m.sm.length:=by rw [XC,e5]
    obtain ⟨g2,rfl,hg2,hg2w,hc2,hz2⟩:=RecAt.view ZX (by omega) (uh HF3).sm hwl.symm (by show 0<(ZD m1.sm (q.take j)).length;omega);have s0:=hc2 i0 (by show i0<(ZD m1.sm (q.take j)).length;omega) 0 _ rfl;have f0:=hz2 (i0*11);have hput:=(uh HF3).putS hwl.symm (j:=i0) (i:=0) (by show i0<(ZD m1.sm (q.take j)).length;omega) (by omega) (.int .i64 2) (stS (Z8 (ZD m1.sm (q.take j)) i0) 2) rfl;simp only [Nat.add_zero] at s0 hput;have HF4:=Z9 hput;have c2:=(uh K3).cell (i:=2) (v:= .slice (some ⟨g2,0,none⟩) m.sm.length p2) rfl;clear hcl hc2 hz2 hput hie c0 hwl;have hi1:(i0:Int)<(m.sm.length:Int):=by omega
    go_wp2_with fail;refine ZP (S:=fun w'=>w'.cell? ⟨R,2,none⟩=some (.slice (some ⟨g2,0,none⟩) m.sm.length p2)/\w'.cell? ⟨eb,eo+j*2+1,none⟩=some (.int .i64 (i0:Int))) (by kernel_rfl) (Xs _ _) (by kernel_rfl) ⟨c2,c1⟩ (fun hHeld=> ?_);simp only [Xt,Xu,YT,YM,Nat.zero_add,Nat.reduceAdd]
    iterate 11 refine tz ?_
    refine wpAnyH_done (by kernel_rfl) ?_ _;refine ZF rfl rfl ?_;go_simp;clear hHeld;go_wp2_with fail;go_roundw
    case rel=>exact ⟨j+1,by omega,by go_num,by rw [uh Htk];exact (uh HF4).below (Z1 _ _).drew,((uh Tw3).trans (Two.of_set _ (.inl rfl) _ _)).trans (Two.of_below (Z1 _ _).drew)⟩
    case measure=>exact ms
   ·obtain rfl:j=q.length:=by omega
    rw [List.take_length] at HF3;cases q with
    | nil=>
     clear HC;go_wp2_with fail;go_roundw
     case rel=>exact ⟨k+1,by omega,by go_num,by rw [uh Hstep,uh HN rfl];exact uh HF3,(uh Tw2).trans (uh Tw3)⟩
     case measure=>exact ms
    | cons e t=>
     obtain ⟨_,_,hqe,_,_,hr⟩:=EntsAt.pc (uh HE3);cases hqe
     rcases hr with e0 | ⟨eb,eo,rfl,hbw,hcl⟩
     ·cases e0
     obtain ⟨c0,c1⟩:=hcl 0 (by simp);obtain ⟨i0,hi0,hie⟩:=uh Hm e (by simp);have hp0:Z7 (e::t) 0=e:=rfl;rw [hp0] at c0 c1;rw [hie] at c1;simp only [Nat.zero_mul,Nat.add_zero] at c0 c1;have hcons:=uh HC e t rfl;rw [hie] at hcons;simp only [show ((i0:Int)).toNat=i0 by simp] at hcons;have Hcons:=Z9 hcons;obtain ⟨hd0,hhd⟩:∃ x,e.1=x:=⟨_,rfl⟩
     rw [hhd] at c0 Hcons;clear hcons hhd hie hp0 hcl HN HC;have hwl:(ZD m1.sm (e::t)).length=m.sm.length:=by rw [XC,e5]
     obtain ⟨g2,rfl,hg2,hg2w,_,_⟩:=RecAt.view ZX (by omega) (uh HF3).sm hwl.symm (by show 0<(ZD m1.sm (e::t)).length;omega);have hD1:(m1.dk.set k (o,-1,mk)).length=m.dk.length:=by simp [e6]
     have hD2:∀ d,(m1.dk.set k d).length=m.dk.length:=fun d=>by simp [e6]
     have heb:=(EntsAt.lt (uh HE3) (k:=eb) rfl).1;have hg2r:=uh Low2 g2 rfl;have hlen:(e::t).length=t.length+1:=rfl;have hlpos:(0:Int)<((t.length+1:Nat):Int):=by omega
     rw [hlen] at *;obtain ⟨_,hga,_,_,hcd,hzd⟩:=RecAt.view Zu (by omega) (uh HF3).dk hD1.symm (by show 0<(m1.dk.set k (o,-1,mk)).length;omega);cases hga;have d1:=hcd k (by show k<(m1.dk.set k (o,-1,mk)).length;omega) 1 _ rfl;have f1:=hzd (k*3+1);have c3:=(uh K3).cell (i:=3) (v:= .slice (some ⟨g3,0,none⟩) m.dk.length p3) rfl;have hne2:(Value.slice (some ⟨g2,0,none⟩) m.sm.length p2).ownBlock ≠ some eb:=fun e9=>by have e8:g2=eb:=Option.some.inj e9;omega
     have hne3:(some g3:Option Nat) ≠ some eb:=fun e9=>by have e8:g3=eb:=Option.some.inj e9;omega
     have hput1:=(uh HF3).putD hD1.symm (j:=k) (i:=1) (by show k<(m1.dk.set k (o,-1,mk)).length;omega) (by omega) (.int .i64 (i0:Int)) (o,(i0:Int),mk) (by show WG (o,(i0:Int),mk)=(WG (Z8 (m1.dk.set k (o,-1,mk)) k)).set 1 _;rw [uh Hset];rfl);simp only [List.set_set] at hput1;have HF4:Hid (FullSmy n₀ (wi.setCell ⟨g3,k*3+1,none⟩ (.int .i64 (i0:Int))).drew v0 v1 (.slice (some ⟨g2,0,none⟩) m.sm.length p2) (.slice (some ⟨g3,0,none⟩) m.dk.length p3) v4 { m1 with sm:=ZD m1.sm (e::t),dk:=m1.dk.set k (o,(i0:Int),mk) } qs):=Z9 (hput1.below (Z1 _ _).drew);have T4:Two (Value.slice (some ⟨g2,0,none⟩) m.sm.length p2).ownBlock (some g3) wi (wi.setCell ⟨g3,k*3+1,none⟩ (.int .i64 (i0:Int))).drew:=(Two.of_set wi (.inr rfl) _ _).trans (Two.of_below (Z1 _ _).drew);have K4:=Z9 ((uh K3).two T4 (uh H2) (fun e9=>uh H3 (by cases e9;rfl)));have x0:=(T4.cell (a:=⟨eb,eo,none⟩) hbw hne2 hne3).trans c0;have x1:=(T4.cell (a:=⟨eb,eo+1,none⟩) hbw hne2 hne3).trans c1;have hbw4:eb<((wi.setCell ⟨g3,k*3+1,none⟩ (.int .i64 (i0:Int))).drew).heap.size:=Zf hbw T4.size;replace Tw3:=Z9 ((uh Tw3).trans T4);clear hput1 T4 hcd hzd HE3 HF3;go_wp2_with fail;refine ZP (S:=fun w'=>w'.cell? ⟨R,3,none⟩=some (.slice (some ⟨g3,0,none⟩) m.dk.length p3)/\w'.cell? ⟨eb,eo+1,none⟩=some (.int .i64 (i0:Int))) (by kernel_rfl) (Xs _ _) (by kernel_rfl) ⟨c3,c1⟩ (fun hHeld=> ?_);simp only [Xt,Xu,YT,YM,Nat.zero_add,Nat.reduceAdd]
     iterate 11 refine tz ?_
     refine wpAnyH_done (by kernel_rfl) ?_ _;refine ZF rfl rfl ?_;go_simp;clear hHeld;clear d1 f1 c3 c0 c1 hbw K3;generalize (wi.setCell ⟨g3,k*3+1,none⟩ (.int .i64 (i0:Int))).drew=Y at *;obtain ⟨_,hga,_,_,hcd,hzd⟩:=RecAt.view Zu (by omega) (uh HF4).dk (hD2 _).symm (by show 0<(m1.dk.set k _).length;rw [hD2];omega);cases hga;have d2:=hcd k (by show k<(m1.dk.set k _).length;rw [hD2];omega) 2 _ rfl
     have d2':Y.cell? ⟨g3,k*3+2,none⟩=some (.int .i64 mk):=by
      have h9:Z8 (m1.dk.set k (o,(i0:Int),mk)) k=(o,(i0:Int),mk):=uh Hset _;rw [show (({ m1 with sm:=ZD m1.sm (e::t),dk:=m1.dk.set k (o,(i0:Int),mk) } : Z6)).dk=m1.dk.set k (o,(i0:Int),mk) from rfl,h9] at d2;exact d2
     have f2:=hzd (k*3+2);have c3:=(uh K4).cell (i:=3) (v:= .slice (some ⟨g3,0,none⟩) m.dk.length p3) rfl;have hput2:=(uh HF4).putD (hD2 _).symm (j:=k) (i:=2) (by show k<(m1.dk.set k _).length;rw [hD2];omega) (by omega) (.int .i64 (Zv mk hd0)) (o,(i0:Int),Zv mk hd0) (by show WG (o,(i0:Int),Zv mk hd0)=(WG (Z8 (m1.dk.set k (o,(i0:Int),mk)) k)).set 2 _;rw [uh Hset];rfl);simp only [List.set_set] at hput2;have HF5:Hid (FullSmy n₀ (Y.setCell ⟨g3,k*3+2,none⟩ (.int .i64 (Zv mk hd0))).drew v0 v1 (.slice (some ⟨g2,0,none⟩) m.sm.length p2) (.slice (some ⟨g3,0,none⟩) m.dk.length p3) v4 { m1 with sm:=ZD m1.sm (e::t),dk:=m1.dk.set k (o,(i0:Int),Zv mk hd0) } qs):=Z9 (hput2.below (Z1 _ _).drew);have T5:Two (Value.slice (some ⟨g2,0,none⟩) m.sm.length p2).ownBlock (some g3) Y (Y.setCell ⟨g3,k*3+2,none⟩ (.int .i64 (Zv mk hd0))).drew:=(Two.of_set Y (.inr rfl) _ _).trans (Two.of_below (Z1 _ _).drew);have K5:=Z9 ((uh K4).two T5 (uh H2) (fun e9=>uh H3 (by cases e9;rfl)));have y1:=(T5.cell (a:=⟨eb,eo+1,none⟩) hbw4 hne2 hne3).trans x1;replace Tw3:=Z9 ((uh Tw3).trans T5);clear hput2 T5 hcd hzd HF4 d2;go_wp2_with fail;refine ZP (S:=fun w'=>w'.cell? ⟨R,3,none⟩=some (.slice (some ⟨g3,0,none⟩) m.dk.length p3)/\w'.cell? ⟨g3,k*3+2,none⟩=some (.int .i64 mk)/\w'.cell? ⟨eb,eo,none⟩=some (.int .i64 hd0)) (by kernel_rfl) (Xs _ _) (by kernel_rfl) ⟨c3,d2',x0⟩ (fun hHeld=> ?_);simp only [Xt,Xu,YT,YM,Nat.zero_add,Nat.reduceAdd]
     iterate 17 refine tz ?_
     refine rd 17 rfl (fun K hK=> ?_);go_simp;refine ck (MJ mk hd0 _) fun w9 hw9=> ?_;subst w9;refine hK.out _ _ hHeld (fun hHeld=> ?_);clear hK K
     (try simp only [Act.put,sA,sZ,sS])
     refine tp 18 ?_;refine tp 19 ?_;refine wpAnyH_done (by kernel_rfl) ?_ _;refine ZF rfl rfl ?_;go_simp;clear hHeld;clear d2' f2 c3 x0 x1 hbw4 K4;generalize (Y.setCell ⟨g3,k*3+2,none⟩ (.int .i64 (Zv mk hd0))).drew=Z at *;obtain ⟨_,hga,_,_,hc2,hz2⟩:=RecAt.view ZX (by omega) (uh HF5).sm hwl.symm (by show 0<(ZD m1.sm (e::t)).length;omega);cases hga;have s0:=hc2 i0 (by show i0<(ZD m1.sm (e::t)).length;omega) 0 _ rfl;have f0:=hz2 (i0*11);have c2:=(uh K5).cell (i:=2) (v:= .slice (some ⟨g2,0,none⟩) m.sm.length p2) rfl;have hput3:=(uh HF5).putS hwl.symm (j:=i0) (i:=0) (by show i0<(ZD m1.sm (e::t)).length;omega) (by omega) (.int .i64 3) (stS (Z8 (ZD m1.sm (e::t)) i0) 3) rfl;simp only [Nat.add_zero] at s0 hput3;have HF6:=Z9 hput3;have hi1:(i0:Int)<(m.sm.length:Int):=by omega
     clear hput3 hc2 hz2 HF5;go_wp2_with fail;refine ZP (S:=fun w'=>w'.cell? ⟨R,2,none⟩=some (.slice (some ⟨g2,0,none⟩) m.sm.length p2)/\w'.cell? ⟨eb,eo+1,none⟩=some (.int .i64 (i0:Int))) (by kernel_rfl) (Xs _ _) (by kernel_rfl) ⟨c2,y1⟩ (fun hHeld=> ?_);simp only [Xt,Xu,YT,YM,Nat.zero_add,Nat.reduceAdd]
     iterate 10 refine tz ?_
     refine wpAnyH_done (by kernel_rfl) ?_ _;refine ZF rfl rfl ?_;go_simp;clear hHeld;go_wp2_with fail;go_roundw
     case rel=>exact ⟨k+1,by omega,by go_num,by rw [uh Hstep,uh Hcons];exact (uh HF6).below (Z1 _ _).drew,((uh Tw2).trans (uh Tw3)).trans ((Two.of_set _ (.inl rfl) _ _).trans (Two.of_below (Z1 _ _).drew))⟩
     case measure=>exact ms
theorem Two.set_new {p q:Option Nat} {w w':World} (h:Two p q w w') {g:Nat} (hg:w.heap.size<=g) (o:Nat) (u:Value):Two p q w (w'.setCell ⟨g,o,none⟩ u):=
 ⟨h.os,h.tape,h.output,by simpa using h.size,fun i hi hp hq=>(heap_setCell_other w' _ i u (by show i ≠ g;omega)).trans (h.block i hi hp hq)⟩
theorem FullSmy.lt {n₀:Nat} {w:World} {v0 v1 v2 v3 v4:Value} {m:Z6} {qs:List (ZZ × Value)} (h:FullSmy n₀ w v0 v1 v2 v3 v4 m qs) {k:Nat} (e:v0.ownBlock=some k\/(∃ q ∈ qs,q.2.ownBlock=some k)\/v1.ownBlock=some k\/v2.ownBlock=some k\/v3.ownBlock=some k\/v4.ownBlock=some k):n₀<=k/\k<w.heap.size:=by
 rcases e with e | e | e | e | e | e
 ·exact h.hall.lt (.inl e)
 ·exact h.hall.lt (.inr e)
 ·exact RecAt.lt h.gd e
 ·exact RecAt.lt h.sm e
 ·exact RecAt.lt h.dk e
 ·exact RecAt.lt h.pc e
theorem Ry {w:World} {R n₀:Nat} {v0 v1 v2 v3 v4:Value} {m:Z6} {qs:List (ZZ × Value)} (kb:Blk w R 32 #[v0,v1,v2,v3,v4,.int .i64 m.now]) (hf:FullSmy n₀ w v0 v1 v2 v3 v4 m qs) (h2:v2.ownBlock ≠ some R) (h3:v3.ownBlock ≠ some R) (hl:m.sm.length<=800) (hd:m.dk.length<=1000) :
  Calls Tryz.prog 51 #[.pointer (some ⟨R,0,none⟩)] w fun e w'=>e= .returned (.tuple #[.agg #[v0,v1,v2,v3,v4,.int .i64 m.now],.int .i64 0])/\FullSmy n₀ w' v0 v1 v2 v3 v4 (ZN m) qs/\Two v2.ownBlock v3.ownBlock w w':=by
 have hfl:=fun k e=>(hf.lt (k:=k) e).2;obtain ⟨a0,p0,rfl⟩:=hf.hall.shape;obtain ⟨a1,p1,rfl⟩:=RecAt.shape hf.gd;obtain ⟨a2,p2,rfl⟩:=RecAt.shape hf.sm;obtain ⟨a3,p3,rfl⟩:=RecAt.shape hf.dk;obtain ⟨a4,p4,rfl⟩:=RecAt.shape hf.pc;have Kb:=Z9 kb;have HF:=Z9 hf;have H2:=Z9 h2;have H3:=Z9 h3;have HL:=Z9 hfl;have hR:=kb.lt;clear kb hf h2 h3 hfl;go_enter Tryz.func51,Tryz.ntmps51;go_wp2_with fail;have Ba:Below w.heap.size w (w.alloc (.cells E6 32)):=ba _ _;have kz:=Blk.new w 32 E6;refine (Rv ((uh Kb).below Ba hR) ((uh HF).below Ba) (uh H2) (uh H3) hl hd).mono ?_;rintro e w1 ⟨rfl,hf1,ht1⟩;have T1:=(Two.of_below Ba).trans ht1;have kb1:=(uh Kb).two T1 (uh H2) (uh H3);have hnz:∀ k,(_\/_\/_\/_\/_\/_)->k ≠ w.heap.size:=fun k e=>by have:=uh HL k e;omega
 have kz1:=kz.two ht1 (fun e=>hnz _ (.inr (.inr (.inr (.inl e)))) rfl) (fun e=>hnz _ (.inr (.inr (.inr (.inr (.inl e))))) rfl);obtain ⟨c0,c1,c2,c3,c4,c5⟩:=kb1.c6;have o0:=kz1.cell (i:=0) (v:= .slice none 0 0) rfl;have f0:=kz1.free 0;have o1:=kz1.cell (i:=1) (v:= .slice none 0 0) rfl;have f1:=kz1.free 1;have o2:=kz1.cell (i:=2) (v:= .slice none 0 0) rfl;have f2:=kz1.free 2;have o3:=kz1.cell (i:=3) (v:= .slice none 0 0) rfl;have f3:=kz1.free 3;have o4:=kz1.cell (i:=4) (v:= .slice none 0 0) rfl;have f4:=kz1.free 4;have o5:=kz1.cell (i:=5) (v:= .int .i64 0) rfl;have f5:=kz1.free 5;have HF1:=Z9 hf1;have TT:=Z9 T1;have HN:=Z9 hnz;clear hf1 ht1 T1 kb1 kz1 kz Ba hnz;go_wp2_with fail;refine ZS (v:= .tuple #[.agg #[.slice a0 qs.length p0,.slice a1 m.gd.length p1,.slice a2 m.sm.length p2,.slice a3 m.dk.length p3,.slice a4 m.pc.length p4,.int .i64 m.now],.int .i64 0]) (by simp [results,Tryz.results51,go_sem, *]) rfl ⟨rfl,?_,?_⟩
 ·iterate 6 (refine FullSmy.set_off ?_ (uh HN) _ _)
  exact uh HF1
 ·iterate 6 (refine Two.set_new ?_ (Z2 _) _ _)
  exact uh TT
theorem Mb {w:World} {R n₀:Nat} {v0 v1 v2 v3 v4:Value} {m:Z6} {qs:List (ZZ × Value)} (kb:Blk w R 32 #[v0,v1,v2,v3,v4,.int .i64 m.now]) (hf:FullSmy n₀ w v0 v1 v2 v3 v4 m qs) (h2:v2.ownBlock ≠ some R) (h3:v3.ownBlock ≠ some R) {k:Nat} (hk:k<m.sm.length) (b:Int) :
  Calls Tryz.prog 50 #[.pointer (some ⟨R,0,none⟩),.int .i64 (k:Int),.int .i64 b] w fun e w'=>e= .returned (.tuple #[])/\FullSmy n₀ w' v0 v1 v2 v3 v4 (setS m k (2,b,(Z8 m.sm k).2.2)) qs/\Two v2.ownBlock v3.ownBlock w w':=by
 obtain ⟨a2,p2,rfl⟩:=RecAt.shape hf.sm;obtain ⟨g2,rfl,hg2,hg2w,hc2,hz2⟩:=RecAt.view ZX (by omega) hf.sm rfl (by omega);have s0:=hc2 k hk 0 _ rfl;have f0:=hz2 (k*11);have c2:=kb.cell (i:=2) (v:= .slice (some ⟨g2,0,none⟩) m.sm.length p2) rfl;have hp1:=hf.putS rfl (j:=k) (i:=0) hk (by omega) (.int .i64 2) (stS (Z8 m.sm k) 2) rfl;have hlen:(m.sm.set k (stS (Z8 m.sm k) 2)).length=m.sm.length:=by simp
 have hs1:Z8 (m.sm.set k (stS (Z8 m.sm k) 2)) k=stS (Z8 m.sm k) 2:=by rw [ZJ hk,if_pos rfl]
 have hp2:=hp1.putS hlen.symm (j:=k) (i:=1) (by show k<(m.sm.set k _).length;omega) (by omega) (.int .i64 b) (2,b,(Z8 m.sm k).2.2) (by show ZU (2,b,(Z8 m.sm k).2.2)=(ZU (Z8 (m.sm.set k (stS (Z8 m.sm k) 2)) k)).set 1 _;rw [hs1];rfl);obtain ⟨_,hga,_,_,hc3,hz3⟩:=RecAt.view ZX (by omega) hp1.sm hlen.symm (by show 0<(m.sm.set k _).length;omega);cases hga;have s1:=hc3 k (by show k<(m.sm.set k _).length;omega) 1 _ rfl;have f1:=hz3 (k*11+1);have hgR:g2 ≠ R:=fun e=>h2 (by rw [e];rfl);have c2':=(kb.other (a:=⟨g2,k*11,none⟩) (fun e=>hgR e.symm) (.int .i64 2)).cell (i:=2) (v:= .slice (some ⟨g2,0,none⟩) m.sm.length p2) rfl;simp only [Nat.add_zero,List.set_set] at s0 hp1 hp2 s1 f1;have HP2:=Z9 hp2;have hk1:(k:Int)<(m.sm.length:Int):=by omega
 clear hc2 hz2 hc3 hz3 hp1 hp2 hf kb hs1 hlen h2 h3 hgR;go_enter Tryz.func50,Tryz.ntmps50;go_wp2_with fail
 go_end0
 exact ⟨rfl,uh HP2,(Two.of_set w (.inl rfl) _ _).trans (Two.of_set _ (.inl rfl) _ _)⟩
theorem Um {w:World} {R n₀:Nat} {v0 v1 v2 v3 v4:Value} {m:Z6} {qs:List (ZZ × Value)} (kb:Blk w R 32 #[v0,v1,v2,v3,v4,.int .i64 m.now]) (hf:FullSmy n₀ w v0 v1 v2 v3 v4 m qs) (h2:v2.ownBlock ≠ some R) (h3:v3.ownBlock ≠ some R) {k bn b:Nat} (hk:k<m.sm.length) (hbn:(Z8 m.sm k).2.1=(bn:Int)) (hbn1:bn<m.dk.length) (hb:b<m.dk.length) :
  Calls Tryz.prog 77 #[.pointer (some ⟨R,0,none⟩),.int .i64 (k:Int),.int .i64 (b:Int)] w fun e w'=>e= .returned (.tuple #[])/\FullSmy n₀ w' v0 v1 v2 v3 v4 (setS m k (putS m (Z8 m.sm k) b)) qs/\Two v2.ownBlock v3.ownBlock w w':=by
 obtain ⟨a2,p2,rfl⟩:=RecAt.shape hf.sm;obtain ⟨a3,p3,rfl⟩:=RecAt.shape hf.dk;obtain ⟨g2,rfl,hg2,hg2w,hc2,hz2⟩:=RecAt.view ZX (by omega) hf.sm rfl (by omega);obtain ⟨g3,rfl,hg3,hg3w,hc3,hz3⟩:=RecAt.view Zu (by omega) hf.dk rfl (by omega);have s1:=hc2 k hk 1 _ rfl;have s7:=hc2 k hk 7 _ rfl;have f1:=hz2 (k*11+1);have f7:=hz2 (k*11+7);have d1:=hc3 bn hbn1 2 _ rfl;have d2:=hc3 b hb 2 _ rfl;have c2:=kb.cell (i:=2) (v:= .slice (some ⟨g2,0,none⟩) m.sm.length p2) rfl;have c3:=kb.cell (i:=3) (v:= .slice (some ⟨g3,0,none⟩) m.dk.length p3) rfl;have hmv:Zq (Xq (Z8 m.sm k)) (Xy m (Z8 m.sm k).2.1) (Xy m (b:Int))=Zq (Z8 m.sm k).2.2.2.2.2.2.2.1 (Z8 m.dk bn).2.2 (Z8 m.dk b).2.2:=by unfold Xy Xq;rw [hbn];simp
 have hx1:∃ x1:Z3,x1=((Z8 m.sm k).1,(Z8 m.sm k).2.1,(Z8 m.sm k).2.2.1,(Z8 m.sm k).2.2.2.1,(Z8 m.sm k).2.2.2.2.1,(Z8 m.sm k).2.2.2.2.2.1,(Z8 m.sm k).2.2.2.2.2.2.1,Zq (Z8 m.sm k).2.2.2.2.2.2.2.1 (Z8 m.dk bn).2.2 (Z8 m.dk b).2.2,(Z8 m.sm k).2.2.2.2.2.2.2.2):=⟨_,rfl⟩
 obtain ⟨x1,hx1⟩:=hx1;have hp1:=hf.putS rfl (j:=k) (i:=7) hk (by omega) (.int .i64 (Zq (Z8 m.sm k).2.2.2.2.2.2.2.1 (Z8 m.dk bn).2.2 (Z8 m.dk b).2.2)) x1 (by rw [hx1];rfl);have hlen:(m.sm.set k x1).length=m.sm.length:=by simp
 have hs1:Z8 (m.sm.set k x1) k=x1:=by rw [ZJ hk,if_pos rfl]
 have hp2:=hp1.putS hlen.symm (j:=k) (i:=1) (by show k<(m.sm.set k _).length;omega) (by omega) (.int .i64 (b:Int)) (putS m (Z8 m.sm k) b) (by show ZU (putS m (Z8 m.sm k) b)=(ZU (Z8 (m.sm.set k x1) k)).set 1 _;rw [hs1,hx1];unfold putS;rw [hmv];rfl);obtain ⟨_,hga,_,_,hc4,hz4⟩:=RecAt.view ZX (by omega) hp1.sm hlen.symm (by show 0<(m.sm.set k _).length;omega);cases hga;have s2:=hc4 k (by show k<(m.sm.set k _).length;omega) 1 _ rfl;have f2:=hz4 (k*11+1);simp only [List.set_set] at hp2;have HP2:=Z9 hp2;have hk1:(k:Int)<(m.sm.length:Int):=by omega
 have hbn2:(bn:Int)<(m.dk.length:Int):=by omega
 have hb2:(b:Int)<(m.dk.length:Int):=by omega
 rw [hbn] at s1;clear hc2 hz2 hc3 hz3 hc4 hz4 hp1 hp2 hf kb hs1 hlen h2 h3 hmv hx1 hbn;generalize (Z8 m.sm k).2.2.2.2.2.2.2.1=hd0 at *;generalize (Z8 m.dk bn).2.2=mk1 at *;generalize (Z8 m.dk b).2.2=mk2 at *;go_enter Tryz.func77,Tryz.ntmps77;go_wp2_with fail;refine ZP (S:=fun w'=>w'.cell? ⟨g2,k*11+7,none⟩=some (.int .i64 hd0)/\w'.cell? ⟨R,3,none⟩=some (.slice (some ⟨g3,0,none⟩) m.dk.length p3)/\w'.cell? ⟨g2,k*11+1,none⟩=some (.int .i64 (bn:Int))/\w'.cell? ⟨g3,bn*3+2,none⟩=some (.int .i64 mk1)/\w'.cell? ⟨g3,b*3+2,none⟩=some (.int .i64 mk2)) (by kernel_rfl) (Xs _ _) (by kernel_rfl) ⟨s7,c3,s1,d1,d2⟩ (fun hHeld=> ?_);simp only [Xt,Xu,YT,YM,Nat.zero_add,Nat.reduceAdd]
 iterate 24 refine tz ?_
 refine rd 24 rfl (fun K hK=> ?_);go_simp;refine ck (QE hd0 mk1 mk2 _) fun w9 hw9=> ?_;subst w9;refine hK.out _ _ hHeld (fun hHeld=> ?_);clear hK K
 (try simp only [Act.put,sA,sZ,sS])
 refine tp 25 ?_;refine tp 26 ?_;refine wpAnyH_done (by kernel_rfl) ?_ _;refine ZF rfl rfl ?_;go_simp;clear hHeld;go_wp2_with fail
 go_end0
 exact ⟨rfl,(uh HP2).below (Z1 _ _).drew,((Two.of_set w (.inl rfl) _ _).trans (Two.of_set _ (.inl rfl) _ _)).trans (Two.of_below (Z1 _ _).drew)⟩
theorem XY {w:World} {v0 v1 v2 v3 v4:Value} {m:Z6} (h:Smy w v0 v1 v2 v3 v4 m) :
  Calls Tryz.prog 46 #[.agg #[v0,v1,v2,v3,v4,.int .i64 m.now]] w fun e w'=>e= .returned (.tuple #[.agg E6,.int .i64 3])/\Below w.heap.size w w':=by
 obtain ⟨a0,p0,a1,p1,a2,p2,a3,p3,a4,p4,rfl,rfl,rfl,rfl,rfl,_,_,_,_,_,_,_,_,_,_⟩:=h.five;clear h;go_enter Tryz.func46,Tryz.ntmps46;go_wp2_with fail;exact ZS (v:= .tuple #[.agg E6,.int .i64 3]) (by simp [results,Tryz.results46,go_sem]) rfl ⟨rfl,((ba _ _)).alloc (by simp) _⟩
def TX (n₀:Nat) (M:Z6) (c:Int) (e:Ending) (w':World):Prop:=
 ∃ u0 u1 u2 u3 u4 qs,e= .returned (.tuple #[.agg #[u0,u1,u2,u3,u4,.int .i64 M.now],.int .i64 c])/\FullSmy n₀ w' u0 u1 u2 u3 u4 M qs
theorem Ul {w:World} {v0 v1 v2 v3 v4:Value} {m:Z6} {who:Int} {q:Bool} (hq:WU m who=q) (h:Smy w v0 v1 v2 v3 v4 m) :
  Calls Tryz.prog 64 #[.agg #[v0,v1,v2,v3,v4,.int .i64 m.now],.int .i64 who] w fun e w'=>e= .returned (.bool q)/\Below w.heap.size w w':=by
 subst hq;obtain ⟨a0,p0,rfl,_,_⟩:=IsRooms.shape h.rm;obtain ⟨a1,p1,rfl,_,_⟩:=IsRec.shape h.gd;obtain ⟨a2,p2,rfl,hc2,hm2,r2⟩:=h.sm;obtain ⟨a3,p3,rfl,_,_⟩:=IsRec.shape h.dk;obtain ⟨a4,p4,rfl,_,_⟩:=IsRec.shape h.pc;clear h;have Ba:Hid (Below w.heap.size w (w.alloc (.cells (S6 a0 p0 a1 p1 a2 p2 a3 p3 a4 p4 m) 32))):=Z9 ((ba _ _));cases hi:inB who 0 ((m.sm.length:Int)-1)
 ·have hw:WU m who=false:=by unfold WU;rw [hi];rfl
  have Hi:=Z9 hi;rw [hw];clear hi hw r2;go_enter Tryz.func64,Tryz.ntmps64;go_wp2_with (go_at_call 59;refine (ZT _ _ _ _).mono ?_;rw [uh Hi];rintro e w' ⟨rfl,h9⟩;subst w')
  go_ret;exact ⟨rfl,uh Ba⟩
 ·obtain ⟨i0,i1⟩:=ZO hi
  obtain ⟨k,rfl⟩:∃ k:Nat,who=k:=⟨who.toNat,by omega⟩
  have hk:k<m.sm.length:=by omega
  have hw:WU m (k:Int)= !((Z8 m.sm k).1 ==0):=by unfold WU;rw [hi];simp
  rcases r2 with e0 | ⟨sb,off,rfl,hbw,hcl⟩
  ·rw [e0] at hk;simp at hk
  obtain ⟨d0,_⟩:=Zw hcl hk;have Hi:=Z9 hi;rw [hw];clear hi hw hcl;have hk1:(k:Int)<(m.sm.length:Int):=by omega
  generalize (Z8 m.sm k).1=st at *;go_enter Tryz.func64,Tryz.ntmps64;go_wp2_with (go_at_call 59;refine (ZT _ _ _ _).mono ?_;rw [uh Hi];rintro e w' ⟨rfl,h9⟩;subst w')
  go_ret;exact ⟨rfl,uh Ba⟩
theorem Zb {w W:World} {X:Z6 × Int} {M:Z6} {c nw:Int} {v0 v1 v2 v3 v4 u0 u1 u2 u3 u4 u5:Value} {oq:List (ZZ × Value)} (hX:X=(M,c)) (hn:M.now=nw) (hF:FullSmy (w.heap.size+2) W v0 v1 v2 v3 v4 M oq) (hB:Below w.heap.size w W):TX w.heap.size X.1 X.2 (.returned (.tuple #[.agg #[v0,v1,v2,v3,v4,.int .i64 nw],.int .i64 c])) ((((((W.setCell ⟨w.heap.size+1,0,none⟩ u0).setCell ⟨w.heap.size+1,1,none⟩ u1).setCell ⟨w.heap.size+1,2,none⟩ u2).setCell ⟨w.heap.size+1,3,none⟩ u3).setCell ⟨w.heap.size+1,4,none⟩ u4).setCell ⟨w.heap.size+1,5,none⟩ u5)/\Below w.heap.size w ((((((W.setCell ⟨w.heap.size+1,0,none⟩ u0).setCell ⟨w.heap.size+1,1,none⟩ u1).setCell ⟨w.heap.size+1,2,none⟩ u2).setCell ⟨w.heap.size+1,3,none⟩ u3).setCell ⟨w.heap.size+1,4,none⟩ u4).setCell ⟨w.heap.size+1,5,none⟩ u5):=by
 constructor
 ·rw [hX];refine ⟨_,_,_,_,_,oq,by rw [hn],?_⟩
  refine FullSmy.mono (n₀:=w.heap.size+2) ?_ (by omega)
  iterate 6 (refine FullSmy.set_off ?_ (fun k e=>by have:=(hF.own e).1;omega) _ _)
  exact hF
 ·iterate 6 (refine YS ?_ (by show _<=w.heap.size+1;omega) _)
  exact hB
theorem UZ {w W:World} {ob:Nat} {v0 v1 v2 v3 v4:Value} {m:Z6} {oq:List (ZZ × Value)} (ko:Blk W ob 32 #[v0,v1,v2,v3,v4,.int .i64 m.now]) (hF:FullSmy (w.heap.size+2) W v0 v1 v2 v3 v4 m oq) (lo:∀ k,Wg v0 v1 v2 v3 v4 oq k->k ≠ ob) (kr:Blk W (w.heap.size+1) 32 E6) (BB:Below w.heap.size w W) (hl:m.sm.length<=800) (hd:m.dk.length<=1000):Calls Tryz.prog 51 #[.pointer (some ⟨ob,0,none⟩)] W fun e w'=>e= .returned (.tuple #[.agg #[v0,v1,v2,v3,v4,.int .i64 m.now],.int .i64 0])/\Hid (FullSmy (w.heap.size+2) w' v0 v1 v2 v3 v4 (ZN m) oq)/\Hid (Blk w' (w.heap.size+1) 32 E6)/\Hid (Below w.heap.size w w'):=by
 refine (Ry ko hF (fun e=>lo _ (.inr (.inr (.inr (.inl e)))) rfl) (fun e=>lo _ (.inr (.inr (.inr (.inr (.inl e))))) rfl) hl hd).mono ?_;rintro e w' ⟨rfl,h1,h2⟩;have g2:∀ k,v2.ownBlock=some k->w.heap.size+2<=k:=fun k e=>(hF.own (.inr (.inr (.inr (.inl e))))).1;have g3:∀ k,v3.ownBlock=some k->w.heap.size+2<=k:=fun k e=>(hF.own (.inr (.inr (.inr (.inr (.inl e)))))).1;exact ⟨rfl,Z9 h1,Z9 (kr.two h2 (fun e=>by have:=g2 _ e;omega) (fun e=>by have:=g3 _ e;omega)),Z9 (BB.trans (h2.below BB.size (fun k e=>by have:=g2 k e;omega) (fun k e=>by have:=g3 k e;omega)))⟩
theorem T6 {w W:World} {a0 a1 a2 a3 a4:Option Addr} {p0 p1 p2 p3 p4:Nat} {m:Z6} (h:Smy W (.slice a0 m.rm.length p0) (.slice a1 m.gd.length p1) (.slice a2 m.sm.length p2) (.slice a3 m.dk.length p3) (.slice a4 m.pc.length p4) m) (hf:Few m) (kb:Blk W w.heap.size 32 (S6 a0 p0 a1 p1 a2 p2 a3 p3 a4 p4 m)) (kr:Blk W (w.heap.size+1) 32 E6) (BB:Below w.heap.size w W):Calls Tryz.prog 47 #[.agg (S6 a0 p0 a1 p1 a2 p2 a3 p3 a4 p4 m)] W fun e w'=> ∃ b0 q0 b1 q1 b2 q2 b3 q3 b4 q4 oq,e= .returned (.agg (S6 b0 q0 b1 q1 b2 q2 b3 q3 b4 q4 m))/\ ∃ W2 ob,w'.alloc (.cells (S6 b0 q0 b1 q1 b2 q2 b3 q3 b4 q4 m) 32)=W2/\w'.heap.size=ob/\Hid (Blk W2 w.heap.size 32 (S6 a0 p0 a1 p1 a2 p2 a3 p3 a4 p4 m))/\Hid (Blk W2 (w.heap.size+1) 32 E6)/\Hid (Smy W2 (.slice a0 m.rm.length p0) (.slice a1 m.gd.length p1) (.slice a2 m.sm.length p2) (.slice a3 m.dk.length p3) (.slice a4 m.pc.length p4) m)/\Hid (FullSmy (w.heap.size+2) W2 (.slice b0 m.rm.length q0) (.slice b1 m.gd.length q1) (.slice b2 m.sm.length q2) (.slice b3 m.dk.length q3) (.slice b4 m.pc.length q4) m oq)/\Hid (Blk W2 ob 32 (S6 b0 q0 b1 q1 b2 q2 b3 q3 b4 q4 m))/\Hid (∀ k,Wg (.slice b0 m.rm.length q0) (.slice b1 m.gd.length q1) (.slice b2 m.sm.length q2) (.slice b3 m.dk.length q3) (.slice b4 m.pc.length q4) oq k->w.heap.size+2<=k/\k<ob)/\w.heap.size+2<=ob/\Hid (Below w.heap.size w W2):=by
 have hs:w.heap.size+2<=W.heap.size:=by have:=kr.lt;omega
 refine (XT h hf).mono ?_;rintro e w2 ⟨y0,y1,y2,y3,y4,oq,rfl,ho,hb⟩;obtain ⟨b0,q0,b1,q1,b2,q2,b3,q3,b4,q4,rfl,rfl,rfl,rfl,rfl,_⟩:=ho.smy.five;have hba:Below w2.heap.size w2 (w2.alloc (.cells (S6 b0 q0 b1 q1 b2 q2 b3 q3 b4 q4 m) 32)):=ba _ _;have h2:Below W.heap.size W (w2.alloc (.cells (S6 b0 q0 b1 q1 b2 q2 b3 q3 b4 q4 m) 32)):=hb.trans (hba.mono hb.size);have hO:=ho.mono hs;exact ⟨b0,q0,b1,q1,b2,q2,b3,q3,b4,q4,oq,rfl,_,_,rfl,rfl,Z9 (kb.below h2 kb.lt),Z9 (kr.below h2 kr.lt),Z9 (h.below h2),Z9 (hO.below hba),Z9 (Blk.new _ _ _),Z9 (fun k e=>hO.own e),XH hs hb.size,Z9 (BB.trans (h2.mono BB.size))⟩
def RI (m:Z6) (b:Int):Z6 × Int:=
 if ZI m then (if Ug m b then (if (Z8 m.dk b.toNat).1 then (m,2) else (ZN (Yc m b.toNat true),0)) else (m,1)) else (Yj,3)
theorem FH {m:Z6} {b:Int} (h:Ug m b=true):∃ k:Nat,b=(k:Int)/\k<m.dk.length:=by
 have:=ZO (show inB b 0 ((m.dk.length:Int)-1)=true from h);exact ⟨b.toNat,by omega,by omega⟩
theorem EG {m:Z6} (h:ZI m=true) (b:Int):ZI (RI m b).1=true:=by
 unfold RI;rw [h];simp only [if_true]
 split
 ·rename_i hw
  obtain ⟨k,rfl,hk⟩:=FH hw;rw [show ((k:Int)).toNat=k by simp]
  split
  ·exact h
  ·exact YK (BU (ZK h) hk)
 ·exact h
theorem MM {w:World} {v0 v1 v2 v3 v4:Value} {m:Z6} (bench:Int) (h:Smy w v0 v1 v2 v3 v4 m) :
  Calls Tryz.prog 34 #[.agg #[v0,v1,v2,v3,v4,.int .i64 m.now],.int .i64 bench] w fun e w'=>TX w.heap.size (RI m bench).1 (RI m bench).2 e w'/\Below w.heap.size w w':=by
 obtain ⟨X,hX⟩:∃ x,RI m bench=x:=⟨_,rfl⟩
 rw [hX];have HX:=Z9 hX;clear hX;have Hv0:=Z9 h;obtain ⟨a0,p0,a1,p1,a2,p2,a3,p3,a4,p4,rfl,rfl,rfl,rfl,rfl,_,_,_,_,_,_,_,_,_,_⟩:=h.five;clear h;obtain ⟨ok,hok⟩:∃ q,ZI m=q:=⟨_,rfl⟩
 have Hok:=Z9 hok;clear hok;go_enter Tryz.func34,Tryz.ntmps34;go_wp2_with fail;obtain ⟨W,hW,kb,kr,BB⟩:=YG w 32 (S6 a0 p0 a1 p1 a2 p2 a3 p3 a4 p4 m) 32 E6;have Hv:=Z9 ((uh Hv0).below (uh BB));clear Hv0;rw [hW];clear hW;refine ck (XN (uh Hok) (uh Hv)) fun w1 hb=> ?_;replace kb:=bl kb hb;replace kr:=bl kr hb;replace Hv:=Z9 ((uh Hv).below hb);replace BB:=bt BB hb;clear hb;cases ok
 ·
  obtain ⟨c0,c1,c2,c3,c4,c5⟩:=(uh kb).c6;go_wp2_with fail;clear c0 c1 c2 c3 c4 c5;refine ck (XY (uh Hv)) fun w2 hb=> ?_;replace kb:=bl kb hb;replace kr:=bl kr hb;replace Hv:=Z9 ((uh Hv).below hb);replace BB:=bt BB hb;clear hb;obtain ⟨o0,o1,o2,o3,o4,o5⟩:=(uh kr).c6;obtain ⟨f0,f1,f2,f3,f4,f5⟩:=(uh kr).f6;go_wp2_with fail;have hX0:X=(Yj,3):=by rw [<-uh HX];unfold RI;rw [uh Hok];rfl
  exact ZS (v:= .tuple #[.agg E6,.int .i64 3]) (by simp [results,Tryz.results34,go_sem, *]) rfl (Zb hX0 rfl (Yr _ _) (uh BB))
 have hlo:=ZK (uh Hok);have HLo:=Z9 hlo;have HFew:=Z9 (WK hlo);clear hlo;obtain ⟨c0,c1,c2,c3,c4,c5⟩:=(uh kb).c6;go_wp2_with fail;clear c0 c1 c2 c3 c4 c5;refine (T6 (uh Hv) (uh HFew) (uh kb) (uh kr) (uh BB)).mono ?_;clear kb kr Hv BB;rintro e w2 ⟨b0,q0,b1,q1,b2,q2,b3,q3,b4,q4,oq,rfl,W2,ob,hW2,hob2,kb,kr,Hv,HO,ko,LO,hob,BB⟩;go_upto_region 4 with fail
 (try rw [hW2])
 (try rw [hob2])
 clear hW2 hob2;obtain ⟨qw,hqw⟩:∃ q,Ug m bench=q:=⟨_,rfl⟩
 have Hqw:=Z9 hqw;clear hqw;obtain ⟨c0,c1,c2,c3,c4,c5⟩:=(uh kb).c6;go_wp2_with fail;clear c0 c1 c2 c3 c4 c5;refine ck (L9 (uh Hqw) (uh Hv)) fun w3 hb=> ?_;replace kb:=bl kb hb;replace kr:=bl kr hb;replace Hv:=Z9 ((uh Hv).below hb);replace HO:=Z9 ((uh HO).below hb);replace ko:=bl ko hb;replace BB:=bt BB hb;clear hb;cases qw
 ·
  obtain ⟨x0,x1,x2,x3,x4,x5⟩:=(uh ko).c6;obtain ⟨o0,o1,o2,o3,o4,o5⟩:=(uh kr).c6;obtain ⟨f0,f1,f2,f3,f4,f5⟩:=(uh kr).f6;go_wp2_with fail;have hX0:X=(m,1):=by rw [<-uh HX];unfold RI;rw [uh Hok,uh Hqw];rfl
  exact ZS (v:= .tuple #[.agg (S6 b0 q0 b1 q1 b2 q2 b3 q3 b4 q4 m),.int .i64 1]) (by simp [results,Tryz.results34,go_sem, *]) rfl (Zb hX0 rfl (uh HO) (uh BB))
 obtain ⟨k,rfl,hk⟩:=FH (uh Hqw);have hk1:(k:Int)<(m.dk.length:Int):=by omega
 obtain ⟨_,_,hde,_,_,r3⟩:=(uh Hv).dk;cases hde
 rcases r3 with e0 | ⟨db,off,rfl,hbw,hcl⟩
 ·rw [e0] at hk;simp at hk
 obtain ⟨d0,_,_⟩:=Y4 hcl hk;clear hcl;obtain ⟨op,hop⟩:∃ q,(Z8 m.dk k).1=q:=⟨_,rfl⟩
 rw [hop] at d0;have Hop:=Z9 hop;clear hop;have c3:=(uh kb).cell (i:=3) (v:= .slice (some ⟨db,off,none⟩) m.dk.length p3) rfl;cases op;rotate_left
 ·
  obtain ⟨x0,x1,x2,x3,x4,x5⟩:=(uh ko).c6;obtain ⟨o0,o1,o2,o3,o4,o5⟩:=(uh kr).c6;obtain ⟨f0,f1,f2,f3,f4,f5⟩:=(uh kr).f6;go_wp2_with fail;have hX0:X=(m,2):=by rw [<-uh HX];unfold RI;rw [uh Hok,uh Hqw];simp only [if_true,Zz];rw [uh Hop];rfl
  exact ZS (v:= .tuple #[.agg (S6 b0 q0 b1 q1 b2 q2 b3 q3 b4 q4 m),.int .i64 2]) (by simp [results,Tryz.results34,go_sem, *]) rfl (Zb hX0 rfl (uh HO) (uh BB))
 obtain ⟨g3,hga,_,_,hc3,hz3⟩:=RecAt.view Zu (by omega) (uh HO).dk rfl (by omega);cases hga;have s0:=hc3 k hk 0 _ rfl;have f0:=hz3 (k*3);have x3:=(uh ko).cell (i:=3) (v:= .slice (some ⟨g3,0,none⟩) m.dk.length q3) rfl;have hput:=(uh HO).putD rfl (j:=k) (i:=0) hk (by omega) (.bool true) (true,(Z8 m.dk k).2) rfl;simp only [Nat.add_zero] at s0 hput;have hg3o:=(uh LO g3 (.inr (.inr (.inr (.inr (.inl rfl))))))
 clear hc3 hz3;go_upto_region 9 with fail;clear s0 f0 x3 c3 d0;have HP:=Z9 hput;clear hput HO;replace ko:Hid (Blk (w3.setCell ⟨g3,k*3,none⟩ (.bool true)) ob 32 (S6 b0 q0 b1 q1 b2 q2 (some ⟨g3,0,none⟩) q3 b4 q4 m)):=Z9 ((uh ko).other (a:=⟨g3,k*3,none⟩) (by show ob ≠ g3;omega) _);replace kr:Hid (Blk (w3.setCell ⟨g3,k*3,none⟩ (.bool true)) (w.heap.size+1) 32 E6):=Z9 ((uh kr).other (a:=⟨g3,k*3,none⟩) (by show w.heap.size+1 ≠ g3;omega) _);replace BB:Hid (Below w.heap.size w (w3.setCell ⟨g3,k*3,none⟩ (.bool true))):=Z9 ((uh BB).setCell (p:=⟨g3,k*3,none⟩) (by show w.heap.size<=g3;omega) _);clear kb Hv;generalize w3.setCell ⟨g3,k*3,none⟩ (.bool true)=W3 at *;have hfw:=uh HFew;go_wp2_with fail;refine (UZ (m:=Yc m k true) (uh ko) (uh HP) (fun k e=>by have:=(uh LO k e).2;omega) (uh kr) (uh BB) (by show m.sm.length<=800;have:=hfw.sm;omega) (by show (m.dk.set k _).length<=_;rw [V7];exact hfw.dk)).mono ?_;clear kr BB;rintro e w4 ⟨rfl,HF9,kr,BB⟩;obtain ⟨o0,o1,o2,o3,o4,o5⟩:=(uh kr).c6;obtain ⟨f0,f1,f2,f3,f4,f5⟩:=(uh kr).f6;go_wp2_with fail;have hX0:X=(ZN (Yc m k true),0):=by rw [<-uh HX];unfold RI;rw [uh Hok,uh Hqw];simp only [if_true,Zz];rw [uh Hop];rfl
 have hnow:(ZN (Yc m k true)).now=m.now:=(ZG _ _).2.2.2.1;exact ZS (v:= .tuple #[.agg (S6 b0 q0 b1 q1 b2 q2 (some ⟨g3,0,none⟩) q3 b4 q4 m),.int .i64 0]) (by simp [results,Tryz.results34,go_sem,setS,TI,Yc,pushS, *]) rfl (Zb hX0 hnow (uh HF9) (uh BB))
set_option maxRecDepth 100000
def Ti (m:Z6) (who lo hi:Int):Int:=if WU m who then (if Yx lo hi then 0 else 3) else 1
def Nz (m:Z6) (who lo hi:Int):Z6:=setS m who.toNat (Jk (Z8 m.sm who.toNat) lo hi)
theorem Ap (m:Z6) (who lo hi:Int):XD m who lo hi=Ua m (Nz m who lo hi) (Ti m who lo hi):=by
 cases h:ZI m
 ·rw [Pq h];unfold XD;rw [h];rfl
 unfold XD Ti;rw [h];simp only [if_true];by_cases hw:WU m who=true;rotate_left
 ·rw [if_neg hw,if_neg hw,TL h _ (by omega)]
 rw [if_pos hw,if_pos hw];obtain ⟨k,rfl,hk,hs⟩:=Yl hw;by_cases hp:Yx lo hi=true
 ·rw [if_pos hp,if_pos hp,Rl h]
  unfold Nz;rw [Zz,Ra (Gq (ZK h) hk hs hp)]
 ·rw [if_neg hp,if_neg hp,TL h _ (by omega)]
def VY (m:Z6) (who rank:Int):Int:=if WU m who then (if (Zr (Z8 m.sm who.toNat) rank).2 then 0 else 3) else 1
def R6 (m:Z6) (who rank:Int):Z6:=setS m who.toNat (Zr (Z8 m.sm who.toNat) rank).1
theorem zp (m:Z6) (who rank:Int):XE m who rank=Ua m (R6 m who rank) (VY m who rank):=by
 cases h:ZI m
 ·rw [Pq h];unfold XE;rw [h];rfl
 unfold XE VY;rw [h];simp only [if_true];by_cases hw:WU m who=true;rotate_left
 ·rw [if_neg hw,if_neg hw,TL h _ (by omega)]
 rw [if_pos hw,if_pos hw];obtain ⟨k,rfl,hk,hs⟩:=Yl hw;by_cases hp:(Zr (Z8 m.sm ((k:Int)).toNat) rank).2=true
 ·rw [if_pos hp,if_pos hp,Rl h]
  unfold R6;rw [Zz] at hp ⊢;rw [Ra (JX (ZK h) hk (Prod.ext rfl hp))]
 ·rw [if_neg hp,if_neg hp,TL h _ (by omega)]
open Go.ChangeShapes Go.WideShapes Go.ChangeAt Go.RowKit Go.Shelf
attribute [local go_sem] Oper.semAt_some
def KeepsBox (Bn:Nat) (t:TypeId) (W W':World):Prop:= ∀ v,Boxed W Bn t v->Boxed W' Bn t v
theorem KeepsBox.trans {Bn:Nat} {t:TypeId} {A B C:World} (h:KeepsBox Bn t A B) (k:KeepsBox Bn t B C):KeepsBox Bn t A C:=fun v hv=>k v (h v hv)
theorem KeepsBox.putObj {Bn:Nat} {t:TypeId} {n:Nat} (h:Bn<n) (W:World) (l:Nat) (o o':Obj) (hl:n<=l) (_:W.heap[l]?=some o) (_:o.isCells=false) (_:o.isWalk=false):KeepsBox Bn t W (W.putObj l o'):=
 fun v hv=>hv.kept (grownBy_putObj' W l o') (fun e=>by cases e;omega)
theorem GI (n:Nat) (hn:1<=n) (l Bn:Nat) (s:Int) (J Jx:List Int->World->Prop)
  (hY:∀ pre x W,J pre W->pre.length<8->YieldAt Fence.wide (n-1) Tryz.prog l #[.int .i64 x] W fun e W'=>
   (e= .returned (.bool true)/\J (pre++[x]) W'/\KeepsBox Bn 2 W W')\/(e= .returned (.bool false)/\Jx (pre++[x]) W'))
  (W:World) (hBn:Boxed W Bn 2 (.int .i64 s)) (h0:J [] W) :
  CallsIn Fence.wide n Tryz.prog 267 #[.func (.yield l) #[] #[],.pointer (some ⟨Bn,0,none⟩)] W fun e W'=>(∃ v,e= .returned v)/\
   ((∃ ys,ys=SF s/\J ys W')\/(∃ pre,pre <+: SF s/\Jx pre W')):=by
 refine callsIn_of_wp Tryz.func267 rfl trivial ?_ rfl;simp only [Tryz.ntmps267,List.size_toArray,YT,YM,Nat.reduceAdd,Nat.reduceSub,Array.replicate_succ,Array.replicate_zero,List.push_toArray,List.append_toArray,List.nil_append,List.cons_append]
 gi_wp2
 gi_loopw [4] (fun i wr=> ∃ k:Nat,k<=8/\i= .int .i64 k/\Boxed wr Bn 2 (.int .i64 s)/\J (US s k) wr)
  (fun i wr=>8-(intOf i).toNat)
 case atStart=>exact ⟨0,by omega,rfl,hBn,h0⟩
 case round=>
  obtain ⟨k,hk,rfl,hbx,hJ⟩:=hrel;have hul:=IA s k;have hc:=hbx.cell;have Hb:=Z9 hbx;clear hbx;by_cases hlt:(k:Int)<8
  ·cases hm:Vt s k
   ·gi_wp2_with (refine ⟨trivial,?_⟩;gi_at_call 136;refine (callsIn_wide.2 (Wb _ _ _)).mono ?_;rintro e w' ⟨rfl,rfl⟩)
    refine ⟨fun _ h=>(by cases h),?_⟩
    gi_wp2
    go_roundw
    case rel=>exact ⟨k+1,by omega,by go_num,uh Hb,by rw [UF hm];exact hJ⟩
    case measure=>exact ms
   ·obtain ⟨fn,tmps,assign,body,hy,hR⟩:=hY (US s k) k wr hJ (by omega)
    gi_wp2_with (refine ⟨trivial,?_⟩;gi_at_call 136;refine (callsIn_wide.2 (Wb _ _ _)).mono ?_;rintro e w' ⟨rfl,rfl⟩)
    refine hR.mono ?_;rintro e W3 (⟨rfl,hJ3,hk3⟩ | ⟨rfl,hJx3⟩)
    ·gi_wp2
     go_roundw
     case rel=>exact ⟨k+1,by omega,by go_num,hk3 _ (uh Hb),by rw [RV hm];exact hJ3⟩
     case measure=>exact ms
    ·gi_wp2
     refine ZS (results_none rfl _ _ _) rfl ?_;exact ⟨⟨_,rfl⟩,.inr ⟨US s k++[(k:Int)],by rw [<-RV hm];exact Bj s (k+1) (by omega),hJx3⟩⟩
  ·obtain rfl:k=8:=by omega
   gi_wp2
   go_end0
   exact ⟨⟨_,rfl⟩,.inl hJ⟩
theorem SE (n:Nat) (s:Int) (w:World) :
  CallsIn Fence.wide n Tryz.prog 238 #[.int .i64 s] w fun e w'=>e= .returned (.func (.func 267) #[] #[.pointer (some ⟨w.heap.size,0,none⟩)])/\w'=w.alloc (.cells #[.int .i64 s] 2):=by
 refine callsIn_of_wp Tryz.func238 rfl trivial ?_ rfl;simp only [Tryz.ntmps238,List.size_toArray,YT,YM,Nat.reduceAdd,Nat.reduceSub,Array.replicate_succ,Array.replicate_zero,List.push_toArray,List.append_toArray,List.nil_append,List.cons_append]
 gi_wp2
 go_ret;exact ⟨rfl,rfl⟩
theorem TG (n:Nat) (hn:1<=n) (Bn:Nat) (s:Int) (w:World) (hBn:Boxed w Bn 2 (.int .i64 s)) :
  SeqStopsK Fence.wide n Tryz.prog 267 #[.pointer (some ⟨Bn,0,none⟩)] (fun x:Int=>#[Value.int .i64 x]) (KeepsBox Bn 2) (fun ys=>ys=SF s) (fun pre=>pre <+: SF s) 8 w:=fun l J Jx W hW _ _ hY h0=>
 GI n hn l Bn s J Jx hY W ((hW.block Bn hBn.lt).trans hBn) h0
theorem LP (n:Nat) (hn:3<=n) (s:Int) (w:World) :
  CallsIn Fence.wide n Tryz.prog 193 #[.int .i64 s] w fun e w'=>e= .returned (.int .i64 (VE s))/\Below w.heap.size w w':=by
 have h1:1<=n:=by omega
 refine callsIn_of_wp_marks Tryz.func193 rfl trivial ?_ rfl;simp only [Tryz.ntmps193,List.size_toArray,YT,YM,Nat.reduceAdd,Nat.reduceSub,Array.replicate_succ,Array.replicate_zero,List.push_toArray,List.append_toArray,List.nil_append,List.cons_append]
 gi_wp2_with (refine ⟨trivial,?_⟩;gi_at_call 238;refine (SE (n-1) _ _).mono ?_;rintro e w' ⟨rfl,rfl⟩)
 have bR:=Boxed.new w 2 (.int .i64 0);have bN:=Boxed.new (w.alloc (.cells #[.int .i64 0] 2)) 2 (.int .i64 s);simp only [ZB] at bN;have hB0:Below w.heap.size w ((w.alloc (.cells #[.int .i64 0] 2)).alloc (.cells #[.int .i64 s] 2)):=((Z1 _ w).alloc (Z2 _) _).alloc (by simp) _
 refine wpIn_rangeFunc_ownG rfl h1 (gf:=267) (lb:=#[.pointer (some ⟨w.heap.size+1,0,none⟩)]) rfl trivial (enters_of Tryz.func267 (by kernel_rfl) rfl)
  (TG (n-1) (by omega) (w.heap.size+1) s _ bN) (fun h k=>h.trans k) (KeepsBox.putObj (by simp)) (Z1 _ _) (fun _=>rfl)
  (fun pre W=>(pre=[]/\Boxed W w.heap.size 2 (.int .i64 0))/\Below w.heap.size w W)
  (fun c pre W=>(c= .ret/\ ∃ x,pre=[x]/\Boxed W w.heap.size 2 (.int .i64 x))/\Below w.heap.size w W)
  (OwnFrom.and (Own.from (fun s A B row hs hg hr=>⟨hs.1,hs.2.kept hg (fun e=>by obtain ⟨o,ho,hc⟩:=hr _ e.symm;rw [show A.heap[w.heap.size]?=_ from hs.2] at ho;cases ho;cases hc)⟩) _) (ownFrom_below (Z2 _) (by simp;omega)))
  (fun c=>OwnFrom.and (Own.from (fun s A B row hs hg hr=>by obtain ⟨e1,x,e2,hb⟩:=hs;exact ⟨e1,x,e2,hb.kept hg (fun e=>by obtain ⟨o,ho,hc⟩:=hr _ e.symm;rw [show A.heap[w.heap.size]?=_ from hb] at ho;cases ho;cases hc)⟩) _) (ownFrom_below (Z2 _) (by simp;omega)))
  ⟨⟨rfl,bR.alloc _⟩,hB0⟩
  (fun x=>{ tmps:=#[.int .i64 s,undef,.pointer (some ⟨w.heap.size,0,none⟩),.int .i64 x,.int .i64 s,.func (.func 267) #[] #[.pointer (some ⟨w.heap.size+1,0,none⟩)],.int .i64 x,undef],defers:=[] }) ?assign ?body ?done ?stop
 case assign=>
  intro l x W K hK
  gi_wp2
  exact hK
 case body=>
  rintro l pre x W ⟨⟨rfl,hb⟩,hB⟩ _;have hc:=hb.cell;have hf:=hb.frozen
  gi_wp2
  exact ⟨(KeepsOthers.setCell _ _ _).from _,⟨rfl,x,rfl,hb.set _⟩,hB.setCell (p:=⟨w.heap.size,0,none⟩) (Z2 _) _⟩
 case done=>
  rintro D ys W hD hys ⟨⟨hp,hb⟩,hB⟩ hK;have hc:=hb.cell;have hf:=hb.frozen
  gi_wp2
  have hK':=(KeepsOthers.setCell W ⟨w.heap.size,0,none⟩ (.int .i64 (-1))).same D _ hK rfl;refine ⟨by simp,.inl ⟨_,_,rfl,run_takeDeferred hK',?_⟩⟩;have hc5:=cell_kept (hb.set (.int .i64 (-1))).cell (grownBy_putObj' _ D (.deferred none)) (fun r e=>by cases e;exact ⟨_,hK',rfl⟩);have hm:SF s=[]:=hys.symm.trans hp;refine ⟨.int .i64 (-1),?_,ZC (by unfold VE;rw [hm];rfl),(hB.setCell (p:=⟨w.heap.size,0,none⟩) (Z2 _) _).trans (belowK_b (w:=w) (Z2 _) _ D _ _ (by simp at hD;omega) hK' rfl rfl)⟩;simp [results,Tryz.f193,go_sem,hc5]
 case stop=>
  rintro D c pre W hD hpre ⟨⟨rfl,x,rfl,hb⟩,hB⟩ hK
  gi_wp2
  refine ⟨by simp,.inl ⟨_,_,rfl,run_takeDeferred hK,?_⟩⟩;have hc5:=cell_kept hb.cell (grownBy_putObj' _ D (.deferred none)) (fun r e=>by cases e;exact ⟨_,hK,rfl⟩);have hx:VE s=x:=by obtain ⟨r,hr⟩:=hpre;unfold VE;rw [<-hr];rfl
  refine ⟨.int .i64 x,?_,ZC hx.symm,hB.trans (belowK_b (w:=w) (Z2 _) W D _ _ (by simp at hD;omega) hK rfl rfl)⟩;simp [results,Tryz.f193,go_sem,hc5]
theorem Nq (s:Int) (w:World):Calls Tryz.prog 193 #[.int .i64 s] w fun e w'=>e= .returned (.int .i64 (VE s))/\Below w.heap.size w w':=
 callsIn_wide.1 (LP 3 (Z2 _) s w)
end Go.Proofs.YtamgfpdahadnfaaGreatDoor
namespace Go.Proofs.YtamgfpdahadnfaaGreatDoor
open Go.ChangeShapes Go.WideShapes Go.ChangeAt Go.RowKit Go.Sort
set_option linter.unusedVariables false
theorem BH:∀ k:Fin 256,(VE (k.val:Int) != -1)=inB (k.val:Int) 1 255:=by decide +kernel
theorem BI (s:Int):(VE s != -1)=inB s 1 255:=by
 cases h:inB s 0 255
 ·have hf:VE s= -1:=by unfold VE SF;rw [Ks h];rfl
  have h2:s<0\/255<s:=by
   rcases Int.lt_or_le s 0 with h1 | h1
   ·exact .inl h1
   ·rcases Int.lt_or_le 255 s with h2 | h2
    ·exact .inr h2
    ·rw [Zn h1 h2] at h;cases h
  rw [hf,Wv (by omega)];rfl
 ·obtain ⟨h0,h1⟩:=ZO h
  obtain ⟨n,rfl⟩:=Int.eq_ofNat_of_zero_le h0;exact BH ⟨n,by omega⟩
theorem KF {s f:Int} (h:VE s=f) (w:World):Calls Tryz.prog 193 #[.int .i64 s] w fun e w'=>e= .returned (.int .i64 f)/\Below w.heap.size w w':=by
 have:=Nq s w;rw [h] at this;exact this
theorem JS (s:Int) (w:World):Calls Tryz.prog 135 #[.int .i64 s] w fun e w'=>e= .returned (.bool (inB s 1 255))/\Below w.heap.size w w':=by
 have hf:=BI s;obtain ⟨f,hv⟩:∃ f,VE s=f:=⟨_,rfl⟩
 have Hv:=Z9 hv;rw [hv] at hf;have Hf:=Z9 hf;clear hf hv;go_enter Tryz.func135,Tryz.ntmps135;go_wp2_with fail;refine ck (KF (uh Hv) _) fun w1 hb=> ?_;go_wp2_with fail;go_ret;exact ⟨Z5 (uh Hf),hb⟩
theorem Gn (c r:Int) (w:World):Calls Tryz.prog 261 #[.int .i64 c,.int .i64 r] w fun e w'=>e= .returned (.bool (inB c 0 (Zl r-1)))/\w'=w:=by
 obtain ⟨x,hv⟩:∃ x,Zl r=x:=⟨_,rfl⟩
 have Hv:=Z9 hv;rw [hv];clear hv;by_cases h0:0<=c
 ·by_cases h1:c<x
  ·rw [Zn (x:=c) (lo:=0) (hi:=x-1) h0 (by omega)]
   go_enter Tryz.func261,Tryz.ntmps261;go_wp2_with (go_at_call 190;refine (Uf (uh Hv) _).mono ?_;rintro e w' ⟨rfl,rfl⟩)
   go_ret;exact ⟨rfl,rfl⟩
  ·rw [Wv (x:=c) (lo:=0) (hi:=x-1) (by omega)]
   go_enter Tryz.func261,Tryz.ntmps261;go_wp2_with (go_at_call 190;refine (Uf (uh Hv) _).mono ?_;rintro e w' ⟨rfl,rfl⟩)
   go_ret;exact ⟨Z5 (b:=false) (by rw [decide_eq_false_iff_not];omega),rfl⟩
 ·rw [Wv (x:=c) (lo:=0) (hi:=x-1) (by omega)]
  go_enter Tryz.func261,Tryz.ntmps261;go_wp2_with fail;go_ret;exact ⟨rfl,rfl⟩
theorem PO (n:Int) (w:World):Calls Tryz.prog 260 #[.int .i64 n] w fun e w'=>e= .returned (.bool (inB n (-1000000000000) 1000000000000))/\w'=w:=by
 go_enter Tryz.func260,Tryz.ntmps260;go_wp2_with (go_at_call 181;refine (Zy _ _ _ _).mono ?_;rintro e w' ⟨rfl,rfl⟩)
 go_ret;exact ⟨rfl,rfl⟩
theorem JQ {c r:Int} {q:Bool} (h:inB c 0 (Zl r-1)=q) (w:World):Calls Tryz.prog 261 #[.int .i64 c,.int .i64 r] w fun e w'=>e= .returned (.bool q)/\w'=w:=by
 have:=Gn c r w;rw [h] at this;exact this
theorem Aj (x:Int):inB x 0 (0-1)=false:=by
 refine Wv ?_
 rcases Int.lt_or_le x 0 with h | h
 ·exact .inl h
 ·exact .inr (by omega)
theorem AH (st be rk my gu lo hi hd ca ut wk:Int):Zh (st,be,rk,my,gu,lo,hi,hd,ca,ut,wk)=(inB st 1 3 && (inB be 0 7 && (inB my 1 255 && (inB gu (-1) 5 && (Yx lo hi && (inB hd (-1000000000000) 1000000000000 && (inB ca 0 (Zl rk-1) && (inB ut 0 1024 && (inB wk 0 100000000000))))))))):=by
 unfold Zh;simp only;cases hr:inB rk (-5) 5
 ·rw [VO hr,show inB ca 0 (0-1)=false from Aj ca]
  simp
 ·simp only [Bool.true_and]
theorem Qu (st be rk my gu lo hi hd ca ut wk:Int) (w:World):Calls Tryz.prog 217 #[.agg (I11 st be rk my gu lo hi hd ca ut wk)] w fun e w'=>e= .returned (.bool (Zh (st,be,rk,my,gu,lo,hi,hd,ca,ut,wk)))/\Below w.heap.size w w':=by
 rw [AH];obtain ⟨qc,hqc⟩:∃ q,inB ca 0 (Zl rk-1)=q:=⟨_,rfl⟩
 have Hc:=Z9 hqc;rw [hqc];clear hqc;cases h_st:inB st 1 3;rotate_left;cases h_be:inB be 0 7;rotate_left;cases h_my:inB my 1 255;rotate_left;cases h_gu:inB gu (-1) 5;rotate_left;cases h_pr:Yx lo hi;rotate_left;cases h_hd:inB hd (-1000000000000) 1000000000000;rotate_left;cases qc;rotate_left;cases h_ut:inB ut 0 1024;rotate_left;cases h_wk:inB wk 0 100000000000
 all_goals
  go_enter Tryz.func217,Tryz.ntmps217;go_wp2_with (first | (go_at_call 181;refine (Zy _ _ _ _).mono ?_;rintro e w' ⟨rfl,rfl⟩) | (go_at_call 195;refine (U6 _ _).mono ?_;rintro e w' ⟨rfl,rfl⟩) | (go_at_call 139;refine (Vg _ _ _).mono ?_;rintro e w' ⟨rfl,rfl⟩) | (go_at_call 260;refine (PO _ _).mono ?_;rintro e w' ⟨rfl,rfl⟩) | (go_at_call 261;refine (JQ (uh Hc) _).mono ?_;rintro e w' ⟨rfl,rfl⟩) | (go_at_call 262;refine (L8 _ _).mono ?_;rintro e w' ⟨rfl,rfl⟩))
  try
   refine ck (JS _ _) fun w1 hb=> ?_;have c2:w1.cell? ⟨w.heap.size,2,none⟩=some (.int .i64 rk):=(hb.cell (p:=⟨w.heap.size,2,none⟩) (by simp)).trans (Zg _ rfl);have c4:w1.cell? ⟨w.heap.size,4,none⟩=some (.int .i64 gu):=(hb.cell (p:=⟨w.heap.size,4,none⟩) (by simp)).trans (Zg _ rfl);have c5:w1.cell? ⟨w.heap.size,5,none⟩=some (.int .i64 lo):=(hb.cell (p:=⟨w.heap.size,5,none⟩) (by simp)).trans (Zg _ rfl);have c6:w1.cell? ⟨w.heap.size,6,none⟩=some (.int .i64 hi):=(hb.cell (p:=⟨w.heap.size,6,none⟩) (by simp)).trans (Zg _ rfl);have c7:w1.cell? ⟨w.heap.size,7,none⟩=some (.int .i64 hd):=(hb.cell (p:=⟨w.heap.size,7,none⟩) (by simp)).trans (Zg _ rfl);have c8:w1.cell? ⟨w.heap.size,8,none⟩=some (.int .i64 ca):=(hb.cell (p:=⟨w.heap.size,8,none⟩) (by simp)).trans (Zg _ rfl);have c9:w1.cell? ⟨w.heap.size,9,none⟩=some (.int .i64 ut):=(hb.cell (p:=⟨w.heap.size,9,none⟩) (by simp)).trans (Zg _ rfl);have c10:w1.cell? ⟨w.heap.size,10,none⟩=some (.int .i64 wk):=(hb.cell (p:=⟨w.heap.size,10,none⟩) (by simp)).trans (Zg _ rfl);have Hb:=Z9 (((Z1 w.heap.size w).alloc (Z2 _) _).trans (hb.mono (by simp)));clear hb;go_wp2_with (first | (go_at_call 181;refine (Zy _ _ _ _).mono ?_;rintro e w' ⟨rfl,rfl⟩) | (go_at_call 195;refine (U6 _ _).mono ?_;rintro e w' ⟨rfl,rfl⟩) | (go_at_call 139;refine (Vg _ _ _).mono ?_;rintro e w' ⟨rfl,rfl⟩) | (go_at_call 260;refine (PO _ _).mono ?_;rintro e w' ⟨rfl,rfl⟩) | (go_at_call 261;refine (JQ (uh Hc) _).mono ?_;rintro e w' ⟨rfl,rfl⟩) | (go_at_call 262;refine (L8 _ _).mono ?_;rintro e w' ⟨rfl,rfl⟩))
  go_ret
  first | exact ⟨rfl,uh Hb⟩ | exact ⟨rfl,(ba _ _)⟩
attribute [local go_sem ↓] Ki O2
theorem PL (w:World):Calls Tryz.prog 163 #[.agg E11] w fun e w'=>e= .returned (.iface 212 (.agg #[]))/\Below w.heap.size w w':=by
 have hz:Tq (0,0,0,0,0,0,0,0,0,0,0) (0,0,0,0,0,0,0,0,0,0,0)=true:=rfl;go_enter Tryz.func163,Tryz.ntmps163;go_wp2_with fail;go_ret;exact ⟨rfl,(ba _ _)⟩
theorem SO {st be rk my gu lo hi hd ca ut wk:Int} (hg:Wt (st,be,rk,my,gu,lo,hi,hd,ca,ut,wk)=false) (hp:Zh (st,be,rk,my,gu,lo,hi,hd,ca,ut,wk)=true) (w:World):Calls Tryz.prog 163 #[.agg (I11 st be rk my gu lo hi hd ca ut wk)] w fun e w'=>e= .returned (.iface 214 (.agg (I11 st be rk my gu lo hi hd ca ut wk)))/\Below w.heap.size w w':=by
 have hz:Tq (st,be,rk,my,gu,lo,hi,hd,ca,ut,wk) (0,0,0,0,0,0,0,0,0,0,0)=false:=hg;have Hp:=Z9 hp;clear hg hp;go_enter Tryz.func163,Tryz.ntmps163;go_wp2_with fail;refine (Qu st be rk my gu lo hi hd ca ut wk _).mono ?_;rw [uh Hp];rintro e w1 ⟨rfl,hb⟩;have c0:w1.cell? ⟨w.heap.size,0,none⟩=some (.int .i64 st):=(hb.cell (p:=⟨w.heap.size,0,none⟩) (by simp)).trans (Zg _ rfl);have c1:w1.cell? ⟨w.heap.size,1,none⟩=some (.int .i64 be):=(hb.cell (p:=⟨w.heap.size,1,none⟩) (by simp)).trans (Zg _ rfl);have c2:w1.cell? ⟨w.heap.size,2,none⟩=some (.int .i64 rk):=(hb.cell (p:=⟨w.heap.size,2,none⟩) (by simp)).trans (Zg _ rfl);have c3:w1.cell? ⟨w.heap.size,3,none⟩=some (.int .i64 my):=(hb.cell (p:=⟨w.heap.size,3,none⟩) (by simp)).trans (Zg _ rfl);have c4:w1.cell? ⟨w.heap.size,4,none⟩=some (.int .i64 gu):=(hb.cell (p:=⟨w.heap.size,4,none⟩) (by simp)).trans (Zg _ rfl);have c5:w1.cell? ⟨w.heap.size,5,none⟩=some (.int .i64 lo):=(hb.cell (p:=⟨w.heap.size,5,none⟩) (by simp)).trans (Zg _ rfl);have c6:w1.cell? ⟨w.heap.size,6,none⟩=some (.int .i64 hi):=(hb.cell (p:=⟨w.heap.size,6,none⟩) (by simp)).trans (Zg _ rfl);have c7:w1.cell? ⟨w.heap.size,7,none⟩=some (.int .i64 hd):=(hb.cell (p:=⟨w.heap.size,7,none⟩) (by simp)).trans (Zg _ rfl);have c8:w1.cell? ⟨w.heap.size,8,none⟩=some (.int .i64 ca):=(hb.cell (p:=⟨w.heap.size,8,none⟩) (by simp)).trans (Zg _ rfl);have c9:w1.cell? ⟨w.heap.size,9,none⟩=some (.int .i64 ut):=(hb.cell (p:=⟨w.heap.size,9,none⟩) (by simp)).trans (Zg _ rfl);have c10:w1.cell? ⟨w.heap.size,10,none⟩=some (.int .i64 wk):=(hb.cell (p:=⟨w.heap.size,10,none⟩) (by simp)).trans (Zg _ rfl);have Hb:=Z9 (((Z1 w.heap.size w).alloc (Z2 _) _).trans (hb.mono (by simp)));clear hb;go_wp2_with fail;go_ret;exact ⟨rfl,uh Hb⟩
theorem QC {st be rk my gu lo hi hd ca ut wk:Int} (hg:Wt (st,be,rk,my,gu,lo,hi,hd,ca,ut,wk)=false) (hp:Zh (st,be,rk,my,gu,lo,hi,hd,ca,ut,wk)=false) (w:World):Calls Tryz.prog 163 #[.agg (I11 st be rk my gu lo hi hd ca ut wk)] w fun e w'=>e= .returned (.iface 215 (.agg #[]))/\Below w.heap.size w w':=by
 have hz:Tq (st,be,rk,my,gu,lo,hi,hd,ca,ut,wk) (0,0,0,0,0,0,0,0,0,0,0)=false:=hg;have Hp:=Z9 hp;clear hg hp;go_enter Tryz.func163,Tryz.ntmps163;go_wp2_with fail;refine (Qu st be rk my gu lo hi hd ca ut wk _).mono ?_;rw [uh Hp];rintro e w1 ⟨rfl,hb⟩;have Hb:=Z9 (((Z1 w.heap.size w).alloc (Z2 _) _).trans (hb.mono (by simp)));clear hb;go_wp2_with fail;go_ret;exact ⟨rfl,uh Hb⟩
theorem yg (w : World) : (method 428 212 (.agg #[]) "loop.example/g00553/impl.isSmith").run Tryz.prog w = .ok (359, .agg #[]) w := by kernel_rfl
theorem zh (w : World) : (method 428 215 (.agg #[]) "loop.example/g00553/impl.isSmith").run Tryz.prog w = .ok (361, .agg #[]) w := by kernel_rfl
theorem yi (st be rk my gu lo hi hd ca ut wk : Int) (w : World) : (method 428 214 (.agg (I11 st be rk my gu lo hi hd ca ut wk)) "loop.example/g00553/impl.isSmith").run Tryz.prog w = .ok (360, .agg (I11 st be rk my gu lo hi hd ca ut wk)) w := by kernel_rfl
theorem Eb (w:World):Calls Tryz.prog 359 #[.agg #[]] w fun e w'=>e= .returned (.bool true)/\Below w.heap.size w w':=by
 go_enter Tryz.func359,Tryz.ntmps359;go_wp2_with fail;go_ret;exact ⟨rfl,(ba _ _)⟩
theorem IJ (w:World):Calls Tryz.prog 361 #[.agg #[]] w fun e w'=>e= .returned (.bool false)/\Below w.heap.size w w':=by
 go_enter Tryz.func361,Tryz.ntmps361;go_wp2_with fail;go_ret;exact ⟨rfl,(ba _ _)⟩
theorem EJ (st be rk my gu lo hi hd ca ut wk:Int) (w:World):Calls Tryz.prog 360 #[.agg (I11 st be rk my gu lo hi hd ca ut wk)] w fun e w'=>e= .returned (.bool true)/\Below w.heap.size w w':=by
 go_enter Tryz.func360,Tryz.ntmps360;go_wp2_with fail;go_ret;exact ⟨rfl,(ba _ _)⟩
attribute [local go_sem] yg zh yi
theorem RZ (st be rk my gu lo hi hd ca ut wk:Int) (w:World):Calls Tryz.prog 96 #[.agg (I11 st be rk my gu lo hi hd ca ut wk)] w fun e w'=>e= .returned (.bool (Zx (st,be,rk,my,gu,lo,hi,hd,ca,ut,wk)))/\Below w.heap.size w w':=by
 unfold Zx;cases hg:Wt (st,be,rk,my,gu,lo,hi,hd,ca,ut,wk)
 ·cases hp:Zh (st,be,rk,my,gu,lo,hi,hd,ca,ut,wk)
  ·rw [show (false || false)=false from rfl]
   have Hg:=Z9 hg;have Hp:=Z9 hp;clear hg hp;go_enter Tryz.func96,Tryz.ntmps96;go_wp2_with fail;refine ck (QC (uh Hg) (uh Hp) _) fun w1 hb=> ?_;have B1:=Z9 (((Z1 w.heap.size w).alloc (Z2 _) _).trans (hb.mono (by simp)));clear hb;go_wp2_with fail;refine ck (IJ _) fun w2 hb=> ?_;have B2:=Z9 ((uh B1).trans (hb.mono (uh B1).size));clear hb;go_wp2_with fail;go_ret;exact ⟨rfl,uh B2⟩
  ·rw [show (false || true)=true from rfl]
   have Hg:=Z9 hg;have Hp:=Z9 hp;clear hg hp;go_enter Tryz.func96,Tryz.ntmps96;go_wp2_with fail;refine ck (SO (uh Hg) (uh Hp) _) fun w1 hb=> ?_;have B1:=Z9 (((Z1 w.heap.size w).alloc (Z2 _) _).trans (hb.mono (by simp)));clear hb;go_wp2_with fail;refine ck (EJ _ _ _ _ _ _ _ _ _ _ _ _) fun w2 hb=> ?_;have B2:=Z9 ((uh B1).trans (hb.mono (uh B1).size));clear hb;go_wp2_with fail;go_ret;exact ⟨rfl,uh B2⟩
 ·rw [Bool.true_or]
  cases Wa hg;clear hg;go_enter Tryz.func96,Tryz.ntmps96;go_wp2_with fail;refine ck (PL _) fun w1 hb=> ?_;have B1:=Z9 (((Z1 w.heap.size w).alloc (Z2 _) _).trans (hb.mono (by simp)));clear hb;go_wp2_with fail;refine ck (Eb _) fun w2 hb=> ?_;have B2:=Z9 ((uh B1).trans (hb.mono (uh B1).size));clear hb;go_wp2_with fail;go_ret;exact ⟨rfl,uh B2⟩
end Go.Proofs.YtamgfpdahadnfaaGreatDoor
