/- Part 26 of what the proof rests on. No condition but those that a theorem names. -/
import Derived.Test.YtgdpaigcmoifbaaGreatDoorXr20
import Derived.Test.YtgdpaigcmoifbaaGreatDoorXr21
set_option maxHeartbeats 8000000
set_option maxRecDepth 100000
namespace Go.Proofs.YtgdpaigcmoifbaaGreatDoor
open Go.ChangeShapes Go.WideShapes Go.ChangeAt Go.RowKit Go.Sort Go.Proofs.Tryz
set_option linter.unusedVariables false
set_option linter.unusedSimpArgs false
variable {w w' w0 w1 w2 w3 w₀ wr W W' X A B C : World} {v v0 v1 v2 v3 v4 u u0 u1 u2 u3 u4 : Value} {m : Z3}
theorem Two.ents {p q:Option Nat} {B:Nat} {ps:List Z6} (h:EntsAt B w v ps) (ht:Two p q w w') (hp:∀ k,p=some k->k<B) (hq:∀ k,q=some k->k<B):EntsAt B w' v ps:=
 EntsAt.same h fun k e=>ht.block k (h.lt e).2 (fun e'=>by have:=hp k e';have:=(h.lt e).1;omega) (fun e'=>by have:=hq k e';have:=(h.lt e).1;omega)
theorem Two.cell {p q:Option Nat} (h:Two p q w w') {a:Addr} (ha:a.block<w.heap.size) (hp:p ≠ some a.block) (hq:q ≠ some a.block):w'.cell? a=w.cell? a:=World.cell?_of_block (w:=w) (h.block a.block ha hp hq)
theorem KT {q:List Z6} {j:Nat} (hj:j<q.length):q.take (j+1)=q.take j++[Z7 q j]:=by
 rw [List.take_succ_eq_append_getElem hj];unfold Z7;simp [List.getD,hj]
theorem Nl {b:Nat} (h:atV m.sm b m.sm.length=[]):XV m b={ m with dk:=m.dk.set b ((Z8 m.dk b).1,-1,(Z8 m.dk b).2.2) }:=by
 unfold XV;rw [h]
theorem Ps {b:Nat} {e:Z6} {t:List Z6} (h:atV m.sm b m.sm.length=e::t):XV m b={ m with sm:=(ZP m.sm (e::t)).set e.2.toNat (stS (Z8 (ZP m.sm (e::t)) e.2.toNat) 3),dk:=m.dk.set b ((Z8 m.dk b).1,e.2,ZK (Z8 m.dk b).2.2 e.1) }:=by
 unfold XV;rw [h]
theorem J1 {R n₀:Nat}  {qs:List (Z4 × Value)} (kb:Blk w R 39 #[v0,v1,v2,v3,v4,.int .i64 m.now]) (hf:FullSmy n₀ w v0 v1 v2 v3 v4 m qs) (h2:v2.ownBlock ≠ some R) (h3:v3.ownBlock ≠ some R) (hl:m.sm.length<=800) (hd:m.dk.length<=1000) :
  Calls prog 71 #[.pointer (some ⟨R,0,none⟩)] w fun e w'=>e= .returned (.tuple #[])/\FullSmy n₀ w' v0 v1 v2 v3 v4 (Zs m) qs/\Two v2.ownBlock v3.ownBlock w w':=by
 obtain ⟨a2,p2,rfl⟩:=RecAt.shape hf.sm;obtain ⟨a3,p3,rfl⟩:=RecAt.shape hf.dk;by_cases hnd:m.dk.length=0
 ·have hz:Zs m=m:=by unfold Zs;rw [hnd];rfl
  have c3:=kb.cell (i:=3) (v:= .slice a3 m.dk.length p3) rfl;have HF:=Z9 hf;rw [hz];have hz0:¬ (0:Int)<(m.dk.length:Int):=by omega
  clear hz hf kb hnd;go_enter func71,ntmps71;go_wp2_with fail
  go_loopw [2] (fun i wr=>i= .int .i64 0/\wr=w) (fun i _=>0)
  case atStart=>exact ⟨rfl,rfl⟩
  case round=>
   obtain ⟨rfl,hwr⟩:=hrel;subst hwr;go_wp2_with fail
   go_end0
   exact ⟨rfl,uh HF,Two.refl _ _ _⟩
 obtain ⟨g3,rfl,hg3,hg3w,_,_⟩:=RecAt.view ZF (by omega) hf.dk rfl (by omega);have Kb:=Z9 kb;have H2:=Z9 h2;have H3:Hid (g3 ≠ R):=Z9 (fun e=>h3 (by rw [e];rfl));have HF:=Z9 hf;have L2:Hid (∀ i,(Value.slice a2 m.sm.length p2).ownBlock=some i->i<w.heap.size):=Z9 (fun i e=>(RecAt.lt hf.sm e).2);clear kb h2 h3 hf;go_enter func71,ntmps71;go_wp2_with fail
 go_loopw [2] (fun i wr=> ∃ k:Nat,k<=m.dk.length/\i= .int .i64 k/\FullSmy n₀ wr v0 v1 (.slice a2 m.sm.length p2) (.slice (some ⟨g3,0,none⟩) m.dk.length p3) v4 (Zo m k) qs/\Two (Value.slice a2 m.sm.length p2).ownBlock (some g3) w wr) (fun i _=>m.dk.length-(intOf i).toNat)
 case atStart=>exact ⟨0,ZR _,rfl,uh HF,Two.refl _ _ _⟩
 case round=>
  obtain ⟨k,hk,rfl,hf1,htw⟩:=hrel;obtain ⟨e1,e2,e3,e4,e5,e6⟩:=YB m k;have Tw:=Z9 htw;have hgw:g3<wr.heap.size:=ZD hg3w htw.size;have hszr:=htw.size;have hkb1:=(uh Kb).two htw (uh H2) (fun e=>uh H3 (by cases e;rfl));have K1:=Z9 hkb1;clear htw hkb1;by_cases hlt:k<m.dk.length;rotate_left
  ·obtain rfl:k=m.dk.length:=by omega
   have c3:=(uh K1).cell (i:=3) (v:= .slice (some ⟨g3,0,none⟩) m.dk.length p3) rfl;have hno:¬ ((m.dk.length:Nat):Int)<(m.dk.length:Int):=by omega
   have HF1:=Z9 hf1;clear hf1;go_wp2_with fail
   go_end0
   exact ⟨rfl,uh HF1,uh Tw⟩
  have hstep:Zo m (k+1)=XV (Zo m k) k:=rfl;generalize Zo m k=m1 at *;have Hstep:=Z9 hstep;clear hstep;obtain ⟨c0,c1,c2,c3,c4,c5⟩:=(uh K1).c6;have hat:=MT (k:Int) hf1.smy (by rw [e5];exact hl);rw [e4,e5] at hat;have Hat:=Z9 hat;have HF1:=Z9 hf1;clear hat hf1;go_wp2_with fail;refine (uh Hat).mono ?_;rintro e w1 ⟨v',rfl,he,hb⟩;clear c0 c1 c2 c3 c4 c5 Hat;have hmem:=WS m1.sm (k:Int);have hlq:=TU m1.sm (k:Int) m.sm.length;have HN:Hid (atV m1.sm (k:Int) m.sm.length=[]->XV m1 k={ m1 with dk:=m1.dk.set k ((Z8 m1.dk k).1,-1,(Z8 m1.dk k).2.2) }):=Z9 (fun h=>Nl (by rw [e5];exact h));have HC:Hid (∀ e t,atV m1.sm (k:Int) m.sm.length=e::t->XV m1 k={ m1 with sm:=(ZP m1.sm (e::t)).set e.2.toNat (stS (Z8 (ZP m1.sm (e::t)) e.2.toNat) 3),dk:=m1.dk.set k ((Z8 m1.dk k).1,e.2,ZK (Z8 m1.dk k).2.2 e.1) }):=Z9 (fun e t h=>Ps (by rw [e5];exact h))
  have hmq:∀ x ∈ atV m1.sm (k:Int) m.sm.length,∃ j:Nat,j<m.sm.length/\x.2=(j:Int):=fun x hx=>by
   obtain ⟨j,hj,_,_,rfl⟩:=(hmem x m.sm.length).1 hx;exact ⟨j,hj,rfl⟩
  have Hm:=Z9 hmq;clear hmem hmq;generalize atV m1.sm (k:Int) m.sm.length=q at *;obtain ⟨qa,qc,rfl⟩:=EntsAt.shape he;have HE:=Z9 he;replace HF1:=Z9 ((uh HF1).below hb);replace K1:=bl K1 hb;replace Tw:=Z9 ((uh Tw).trans (Two.of_below hb));have hgw1:g3<w1.heap.size:=ZD hgw hb.size;have hwr1:=hb.size;clear he hb;obtain ⟨⟨o,wh,mk⟩,hrk⟩:=ZI (Z8 m1.dk k);rw [hrk] at HN HC;simp only at HN HC;have Hrk:=Z9 hrk;have hkd:k<m1.dk.length:=by omega
  have hset:∀ d,Z8 (m1.dk.set k d) k=d:=fun d=>by rw [ZC hkd,if_pos rfl]
  have Hset:=Z9 hset;clear hset;obtain ⟨_,hga,_,_,hc3,hz3⟩:=RecAt.view ZF (by omega) (uh HF1).dk e6.symm (by omega);cases hga;have d1:=hc3 k (by omega) 1 _ rfl;rw [hrk] at d1;have f1:=hz3 (k*3+1);have c3:=(uh K1).cell (i:=3) (v:= .slice (some ⟨g3,0,none⟩) m.dk.length p3) rfl;have hput:=(uh HF1).putD e6.symm (j:=k) (i:=1) (by omega) (by omega) (.int .i64 (-1)) (o,-1,mk) (by rw [hrk];rfl);have HF2:=Z9 hput;have hns:Two (Value.slice a2 m.sm.length p2).ownBlock (some g3) w1 (w1.setCell ⟨g3,k*3+1,none⟩ (.int .i64 (-1))):=Two.of_set w1 (.inr rfl) _ _;have K2:=Z9 ((uh K1).two hns (uh H2) (fun e=>uh H3 (by cases e;rfl)));have Tw2:=Z9 ((uh Tw).trans hns);have hlow2:∀ i,(Value.slice a2 m.sm.length p2).ownBlock=some i->i<wr.heap.size:=fun i e=>ZD (uh L2 i e) hszr;have Low2:=Z9 hlow2;have HE2:=Z9 (Two.ents (uh HE) hns hlow2 (fun i e=>by cases e;exact hgw));clear hput hns hlow2 hc3 hz3 hrk;go_upto_region 5 with fail;clear d1 f1 c3 K1 Tw HE HF1;generalize w1.setCell ⟨g3,k*3+1,none⟩ (.int .i64 (-1))=X at *;have hsm:∀ i,i ∈ [0]->True:=fun _ _=>trivial;clear hsm;go_wp2_with fail
  go_loopw [4] (fun i wi=> ∃ j:Nat,j<=q.length/\i= .int .i64 j/\FullSmy n₀ wi v0 v1 (.slice a2 m.sm.length p2) (.slice (some ⟨g3,0,none⟩) m.dk.length p3) v4 { m1 with sm:=ZP m1.sm (q.take j),dk:=m1.dk.set k (o,-1,mk) } qs/\Two (Value.slice a2 m.sm.length p2).ownBlock (some g3) X wi) (fun i _=>q.length-(intOf i).toNat)
  case atStart=>exact ⟨0,ZR _,rfl,by simpa [ZP] using uh HF2,Two.refl _ _ _⟩
  case round=>
   obtain ⟨wi,rfl⟩:∃ x,x=wr:=⟨wr,rfl⟩
   obtain ⟨j,hj,rfl,hf3,htw3⟩:=hrel;have HF3:=Z9 hf3;have Tw3:=Z9 htw3;have K3:=Z9 ((uh K2).two htw3 (uh H2) (fun e=>uh H3 (by cases e;rfl)));have HE3:=Z9 (Two.ents (uh HE2) htw3 (uh Low2) (fun i e=>by cases e;exact hgw));clear hf3 htw3;by_cases hjl:j<q.length
   ·obtain ⟨_,_,hqe,_,_,hr⟩:=EntsAt.pc (uh HE3)
    cases hqe
    rcases hr with e0 | ⟨eb,eo,rfl,hbw,hcl⟩
    ·rw [e0] at hjl;simp at hjl
    obtain ⟨c0,c1⟩:=hcl j hjl;obtain ⟨i0,hi0,hie⟩:=uh Hm _ (Wo hjl);rw [hie] at c1;have Htk:Hid (ZP m1.sm (q.take (j+1))=(ZP m1.sm (q.take j)).set i0 (stS (Z8 (ZP m1.sm (q.take j)) i0) 2)):=Z9 (by rw [KT hjl,RI,hie];simp);have hwl:(ZP m1.sm (q.take j)).length=m.sm.length:=by rw [Yj,e5]
    obtain ⟨g2,rfl,hg2,hg2w,hc2,hz2⟩:=RecAt.view ZV (by omega) (uh HF3).sm hwl.symm (by show 0<(ZP m1.sm (q.take j)).length;omega);have s0:=hc2 i0 (by show i0<(ZP m1.sm (q.take j)).length;omega) 0 _ rfl;have f0:=hz2 (i0*11);have hput:=(uh HF3).putS hwl.symm (j:=i0) (i:=0) (by show i0<(ZP m1.sm (q.take j)).length;omega) (by omega) (.int .i64 2) (stS (Z8 (ZP m1.sm (q.take j)) i0) 2) rfl;simp only [Nat.add_zero] at s0 hput;have HF4:=Z9 hput;have c2:=(uh K3).cell (i:=2) (v:= .slice (some ⟨g2,0,none⟩) m.sm.length p2) rfl;clear hcl hc2 hz2 hput hie c0 hwl;have hi1:(i0:Int)<(m.sm.length:Int):=by omega
    go_wp2_with fail;refine ZH (S:=fun w'=>w'.cell? ⟨R,2,none⟩=some (.slice (some ⟨g2,0,none⟩) m.sm.length p2)/\w'.cell? ⟨eb,eo+j*2+1,none⟩=some (.int .i64 (i0:Int))) (by kernel_rfl) (Va _ _) (by kernel_rfl) ⟨c2,c1⟩ (fun hHeld=> ?_);simp only [Vb,Vc,XY,Xo,Nat.zero_add,Nat.reduceAdd]
    iterate 11 refine tz ?_
    refine wpAnyH_done (by kernel_rfl) ?_ _;refine YQ rfl rfl ?_;go_simp;clear hHeld;go_wp2_with fail;go_roundw
    case rel=>exact ⟨j+1,by omega,by go_num,by rw [uh Htk];exact (uh HF4).below (Z0 _ _).drew,((uh Tw3).trans (Two.of_set _ (.inl rfl) _ _)).trans (Two.of_below (Z0 _ _).drew)⟩
    case measure=>exact ms
   ·obtain rfl:j=q.length:=by omega
    rw [List.take_length] at HF3;cases q with
    | nil=>
     clear HC;go_wp2_with fail;go_roundw
     case rel=>exact ⟨k+1,by omega,by go_num,by rw [uh Hstep,uh HN rfl];exact uh HF3,(uh Tw2).trans (uh Tw3)⟩
     case measure=>exact ms
    | cons e t=>
     obtain ⟨_,_,hqe,_,_,hr⟩:=EntsAt.pc (uh HE3);cases hqe
     rcases hr with e0 | ⟨eb,eo,rfl,hbw,hcl⟩
     ·cases e0
     obtain ⟨c0,c1⟩:=hcl 0 (by simp);obtain ⟨i0,hi0,hie⟩:=uh Hm e (by simp);have hp0:Z7 (e::t) 0=e:=rfl;rw [hp0] at c0 c1;rw [hie] at c1;simp only [Nat.zero_mul,Nat.add_zero] at c0 c1;have hcons:=uh HC e t rfl;rw [hie] at hcons;simp only [show ((i0:Int)).toNat=i0 by simp] at hcons;have Hcons:=Z9 hcons;obtain ⟨hd0,hhd⟩:=ZI (e.1);rw [hhd] at c0 Hcons;clear hcons hhd hie hp0 hcl HN HC;have hwl:(ZP m1.sm (e::t)).length=m.sm.length:=by rw [Yj,e5]
     obtain ⟨g2,rfl,hg2,hg2w,_,_⟩:=RecAt.view ZV (by omega) (uh HF3).sm hwl.symm (by show 0<(ZP m1.sm (e::t)).length;omega);have hD1:(m1.dk.set k (o,-1,mk)).length=m.dk.length:=by simp [e6]
     have hD2:∀ d,(m1.dk.set k d).length=m.dk.length:=fun d=>by simp [e6]
     have heb:=(EntsAt.lt (uh HE3) (k:=eb) rfl).1;have hg2r:=uh Low2 g2 rfl;have hlen:(e::t).length=t.length+1:=rfl;have hlpos:(0:Int)<((t.length+1:Nat):Int):=by omega
     rw [hlen] at *;obtain ⟨_,hga,_,_,hcd,hzd⟩:=RecAt.view ZF (by omega) (uh HF3).dk hD1.symm (by show 0<(m1.dk.set k (o,-1,mk)).length;omega);cases hga;have d1:=hcd k (by show k<(m1.dk.set k (o,-1,mk)).length;omega) 1 _ rfl;have f1:=hzd (k*3+1);have c3:=(uh K3).cell (i:=3) (v:= .slice (some ⟨g3,0,none⟩) m.dk.length p3) rfl;have hne2:(Value.slice (some ⟨g2,0,none⟩) m.sm.length p2).ownBlock ≠ some eb:=fun e9=>by have e8:g2=eb:=Option.some.inj e9;omega
     have hne3:(some g3:Option Nat) ≠ some eb:=fun e9=>by have e8:g3=eb:=Option.some.inj e9;omega
     have hput1:=(uh HF3).putD hD1.symm (j:=k) (i:=1) (by show k<(m1.dk.set k (o,-1,mk)).length;omega) (by omega) (.int .i64 (i0:Int)) (o,(i0:Int),mk) (by show XG (o,(i0:Int),mk)=(XG (Z8 (m1.dk.set k (o,-1,mk)) k)).set 1 _;rw [uh Hset];rfl);simp only [List.set_set] at hput1;have HF4:Hid (FullSmy n₀ (wi.setCell ⟨g3,k*3+1,none⟩ (.int .i64 (i0:Int))).drew v0 v1 (.slice (some ⟨g2,0,none⟩) m.sm.length p2) (.slice (some ⟨g3,0,none⟩) m.dk.length p3) v4 { m1 with sm:=ZP m1.sm (e::t),dk:=m1.dk.set k (o,(i0:Int),mk) } qs):=Z9 (hput1.below (Z0 _ _).drew);have T4:Two (Value.slice (some ⟨g2,0,none⟩) m.sm.length p2).ownBlock (some g3) wi (wi.setCell ⟨g3,k*3+1,none⟩ (.int .i64 (i0:Int))).drew:=(Two.of_set wi (.inr rfl) _ _).trans (Two.of_below (Z0 _ _).drew);have K4:=Z9 ((uh K3).two T4 (uh H2) (fun e9=>uh H3 (by cases e9;rfl)));have x0:=(T4.cell (a:=⟨eb,eo,none⟩) hbw hne2 hne3).trans c0;have x1:=(T4.cell (a:=⟨eb,eo+1,none⟩) hbw hne2 hne3).trans c1;have hbw4:eb<((wi.setCell ⟨g3,k*3+1,none⟩ (.int .i64 (i0:Int))).drew).heap.size:=ZD hbw T4.size;replace Tw3:=Z9 ((uh Tw3).trans T4);clear hput1 T4 hcd hzd HE3 HF3;go_wp2_with fail;refine ZH (S:=fun w'=>w'.cell? ⟨R,3,none⟩=some (.slice (some ⟨g3,0,none⟩) m.dk.length p3)/\w'.cell? ⟨eb,eo+1,none⟩=some (.int .i64 (i0:Int))) (by kernel_rfl) (Va _ _) (by kernel_rfl) ⟨c3,c1⟩ (fun hHeld=> ?_);simp only [Vb,Vc,XY,Xo,Nat.zero_add,Nat.reduceAdd]
     iterate 11 refine tz ?_
     refine wpAnyH_done (by kernel_rfl) ?_ _;refine YQ rfl rfl ?_;go_simp;clear hHeld;clear d1 f1 c3 c0 c1 hbw K3;generalize (wi.setCell ⟨g3,k*3+1,none⟩ (.int .i64 (i0:Int))).drew=Y at *;obtain ⟨_,hga,_,_,hcd,hzd⟩:=RecAt.view ZF (by omega) (uh HF4).dk (hD2 _).symm (by show 0<(m1.dk.set k _).length;rw [hD2];omega);cases hga;have d2:=hcd k (by show k<(m1.dk.set k _).length;rw [hD2];omega) 2 _ rfl
     have d2':Y.cell? ⟨g3,k*3+2,none⟩=some (.int .i64 mk):=by
      have h9:Z8 (m1.dk.set k (o,(i0:Int),mk)) k=(o,(i0:Int),mk):=uh Hset _;rw [show (({ m1 with sm:=ZP m1.sm (e::t),dk:=m1.dk.set k (o,(i0:Int),mk) } : Z3)).dk=m1.dk.set k (o,(i0:Int),mk) from rfl,h9] at d2;exact d2
     have f2:=hzd (k*3+2);have c3:=(uh K4).cell (i:=3) (v:= .slice (some ⟨g3,0,none⟩) m.dk.length p3) rfl;have hput2:=(uh HF4).putD (hD2 _).symm (j:=k) (i:=2) (by show k<(m1.dk.set k _).length;rw [hD2];omega) (by omega) (.int .i64 (ZK mk hd0)) (o,(i0:Int),ZK mk hd0) (by show XG (o,(i0:Int),ZK mk hd0)=(XG (Z8 (m1.dk.set k (o,(i0:Int),mk)) k)).set 2 _;rw [uh Hset];rfl);simp only [List.set_set] at hput2;have HF5:Hid (FullSmy n₀ (Y.setCell ⟨g3,k*3+2,none⟩ (.int .i64 (ZK mk hd0))).drew v0 v1 (.slice (some ⟨g2,0,none⟩) m.sm.length p2) (.slice (some ⟨g3,0,none⟩) m.dk.length p3) v4 { m1 with sm:=ZP m1.sm (e::t),dk:=m1.dk.set k (o,(i0:Int),ZK mk hd0) } qs):=Z9 (hput2.below (Z0 _ _).drew);have T5:Two (Value.slice (some ⟨g2,0,none⟩) m.sm.length p2).ownBlock (some g3) Y (Y.setCell ⟨g3,k*3+2,none⟩ (.int .i64 (ZK mk hd0))).drew:=(Two.of_set Y (.inr rfl) _ _).trans (Two.of_below (Z0 _ _).drew);have K5:=Z9 ((uh K4).two T5 (uh H2) (fun e9=>uh H3 (by cases e9;rfl)));have y1:=(T5.cell (a:=⟨eb,eo+1,none⟩) hbw4 hne2 hne3).trans x1;replace Tw3:=Z9 ((uh Tw3).trans T5);clear hput2 T5 hcd hzd HF4 d2;go_wp2_with fail;refine ZH (S:=fun w'=>w'.cell? ⟨R,3,none⟩=some (.slice (some ⟨g3,0,none⟩) m.dk.length p3)/\w'.cell? ⟨g3,k*3+2,none⟩=some (.int .i64 mk)/\w'.cell? ⟨eb,eo,none⟩=some (.int .i64 hd0)) (by kernel_rfl) (Va _ _) (by kernel_rfl) ⟨c3,d2',x0⟩ (fun hHeld=> ?_);simp only [Vb,Vc,XY,Xo,Nat.zero_add,Nat.reduceAdd]
     iterate 17 refine tz ?_
     refine rd 17 rfl (fun K hK=> ?_);go_simp;refine ck (Pj mk hd0 _) fun w9 hw9=> ?_;subst w9;refine hK.out _ _ hHeld (fun hHeld=> ?_);clear hK K
     (try simp only [Act.put,sA,sZ,sS])
     refine tp 18 ?_;refine tp 19 ?_;refine wpAnyH_done (by kernel_rfl) ?_ _;refine YQ rfl rfl ?_;go_simp;clear hHeld;clear d2' f2 c3 x0 x1 hbw4 K4;generalize (Y.setCell ⟨g3,k*3+2,none⟩ (.int .i64 (ZK mk hd0))).drew=Z at *;obtain ⟨_,hga,_,_,hc2,hz2⟩:=RecAt.view ZV (by omega) (uh HF5).sm hwl.symm (by show 0<(ZP m1.sm (e::t)).length;omega);cases hga;have s0:=hc2 i0 (by show i0<(ZP m1.sm (e::t)).length;omega) 0 _ rfl;have f0:=hz2 (i0*11);have c2:=(uh K5).cell (i:=2) (v:= .slice (some ⟨g2,0,none⟩) m.sm.length p2) rfl;have hput3:=(uh HF5).putS hwl.symm (j:=i0) (i:=0) (by show i0<(ZP m1.sm (e::t)).length;omega) (by omega) (.int .i64 3) (stS (Z8 (ZP m1.sm (e::t)) i0) 3) rfl;simp only [Nat.add_zero] at s0 hput3;have HF6:=Z9 hput3;have hi1:(i0:Int)<(m.sm.length:Int):=by omega
     clear hput3 hc2 hz2 HF5;go_wp2_with fail;refine ZH (S:=fun w'=>w'.cell? ⟨R,2,none⟩=some (.slice (some ⟨g2,0,none⟩) m.sm.length p2)/\w'.cell? ⟨eb,eo+1,none⟩=some (.int .i64 (i0:Int))) (by kernel_rfl) (Va _ _) (by kernel_rfl) ⟨c2,y1⟩ (fun hHeld=> ?_);simp only [Vb,Vc,XY,Xo,Nat.zero_add,Nat.reduceAdd]
     iterate 10 refine tz ?_
     refine wpAnyH_done (by kernel_rfl) ?_ _;refine YQ rfl rfl ?_;go_simp;clear hHeld;go_wp2_with fail;go_roundw
     case rel=>exact ⟨k+1,by omega,by go_num,by rw [uh Hstep,uh Hcons];exact (uh HF6).below (Z0 _ _).drew,((uh Tw2).trans (uh Tw3)).trans ((Two.of_set _ (.inl rfl) _ _).trans (Two.of_below (Z0 _ _).drew))⟩
     case measure=>exact ms
theorem Two.set_new {p q:Option Nat} (h:Two p q w w') {g:Nat} (hg:w.heap.size<=g) (o:Nat) (u:Value):Two p q w (w'.setCell ⟨g,o,none⟩ u):=
 ⟨h.os,h.tape,h.output,by simpa using h.size,fun i hi hp hq=>(heap_setCell_other w' _ i u (by show i ≠ g;omega)).trans (h.block i hi hp hq)⟩
theorem FullSmy.lt {n₀:Nat}  {qs:List (Z4 × Value)} (h:FullSmy n₀ w v0 v1 v2 v3 v4 m qs) {k:Nat} (e:v0.ownBlock=some k\/(∃ q ∈ qs,q.2.ownBlock=some k)\/v1.ownBlock=some k\/v2.ownBlock=some k\/v3.ownBlock=some k\/v4.ownBlock=some k):n₀<=k/\k<w.heap.size:=by
 rcases e with e | e | e | e | e | e
 ·exact h.hall.lt (.inl e)
 ·exact h.hall.lt (.inr e)
 ·exact RecAt.lt h.gd e
 ·exact RecAt.lt h.sm e
 ·exact RecAt.lt h.dk e
 ·exact RecAt.lt h.pc e
theorem J4 {R n₀:Nat}  {qs:List (Z4 × Value)} (kb:Blk w R 39 #[v0,v1,v2,v3,v4,.int .i64 m.now]) (hf:FullSmy n₀ w v0 v1 v2 v3 v4 m qs) (h2:v2.ownBlock ≠ some R) (h3:v3.ownBlock ≠ some R) (hl:m.sm.length<=800) (hd:m.dk.length<=1000) :
  Calls prog 30 #[.pointer (some ⟨R,0,none⟩)] w fun e w'=>e= .returned (.tuple #[.agg #[v0,v1,v2,v3,v4,.int .i64 m.now],.int .i64 0])/\FullSmy n₀ w' v0 v1 v2 v3 v4 (Zs m) qs/\Two v2.ownBlock v3.ownBlock w w':=by
 have hfl:=fun k e=>(hf.lt (k:=k) e).2;obtain ⟨a0,p0,rfl⟩:=hf.hall.shape;obtain ⟨a1,p1,rfl⟩:=RecAt.shape hf.gd;obtain ⟨a2,p2,rfl⟩:=RecAt.shape hf.sm;obtain ⟨a3,p3,rfl⟩:=RecAt.shape hf.dk;obtain ⟨a4,p4,rfl⟩:=RecAt.shape hf.pc;have Kb:=Z9 kb;have HF:=Z9 hf;have H2:=Z9 h2;have H3:=Z9 h3;have HL:=Z9 hfl;have hR:=kb.lt;clear kb hf h2 h3 hfl;go_enter func30,ntmps30;go_wp2_with fail;have Ba:Below w.heap.size w (w.alloc (.cells E6 39)):=ba _ _;have kz:=Blk.new w 39 E6;refine (J1 ((uh Kb).below Ba hR) ((uh HF).below Ba) (uh H2) (uh H3) hl hd).mono ?_;rintro e w1 ⟨rfl,hf1,ht1⟩;have T1:=(Two.of_below Ba).trans ht1;have kb1:=(uh Kb).two T1 (uh H2) (uh H3);have hnz:∀ k,(_\/_\/_\/_\/_\/_)->k ≠ w.heap.size:=fun k e=>by have:=uh HL k e;omega
 have kz1:=kz.two ht1 (fun e=>hnz _ (.inr (.inr (.inr (.inl e)))) rfl) (fun e=>hnz _ (.inr (.inr (.inr (.inr (.inl e))))) rfl);obtain ⟨c0,c1,c2,c3,c4,c5⟩:=kb1.c6;have o0:=kz1.cell (i:=0) (v:= .slice none 0 0) rfl;have f0:=kz1.free 0;have o1:=kz1.cell (i:=1) (v:= .slice none 0 0) rfl;have f1:=kz1.free 1;have o2:=kz1.cell (i:=2) (v:= .slice none 0 0) rfl;have f2:=kz1.free 2;have o3:=kz1.cell (i:=3) (v:= .slice none 0 0) rfl;have f3:=kz1.free 3;have o4:=kz1.cell (i:=4) (v:= .slice none 0 0) rfl;have f4:=kz1.free 4;have o5:=kz1.cell (i:=5) (v:= .int .i64 0) rfl;have f5:=kz1.free 5;have HF1:=Z9 hf1;have TT:=Z9 T1;have HN:=Z9 hnz;clear hf1 ht1 T1 kb1 kz1 kz Ba hnz;go_wp2_with fail;refine Y7 (v:= .tuple #[.agg #[.slice a0 qs.length p0,.slice a1 m.gd.length p1,.slice a2 m.sm.length p2,.slice a3 m.dk.length p3,.slice a4 m.pc.length p4,.int .i64 m.now],.int .i64 0]) (by simp [results,results30,go_sem, *]) rfl ⟨rfl,?_,?_⟩
 ·iterate 6 (refine FullSmy.set_off ?_ (uh HN) _ _)
  exact uh HF1
 ·iterate 6 (refine Two.set_new ?_ (ZY _) _ _)
  exact uh TT
theorem ON {R n₀:Nat}  {qs:List (Z4 × Value)} (kb:Blk w R 39 #[v0,v1,v2,v3,v4,.int .i64 m.now]) (hf:FullSmy n₀ w v0 v1 v2 v3 v4 m qs) (h2:v2.ownBlock ≠ some R) (h3:v3.ownBlock ≠ some R) {k:Nat} (hk:k<m.sm.length) (b:Int) :
  Calls prog 60 #[.pointer (some ⟨R,0,none⟩),.int .i64 (k:Int),.int .i64 b] w fun e w'=>e= .returned (.tuple #[])/\FullSmy n₀ w' v0 v1 v2 v3 v4 (setS m k (2,b,(Z8 m.sm k).2.2)) qs/\Two v2.ownBlock v3.ownBlock w w':=by
 obtain ⟨a2,p2,rfl⟩:=RecAt.shape hf.sm;obtain ⟨g2,rfl,hg2,hg2w,hc2,hz2⟩:=RecAt.view ZV (by omega) hf.sm rfl (by omega);have s0:=hc2 k hk 0 _ rfl;have f0:=hz2 (k*11);have c2:=kb.cell (i:=2) (v:= .slice (some ⟨g2,0,none⟩) m.sm.length p2) rfl;have hp1:=hf.putS rfl (j:=k) (i:=0) hk (by omega) (.int .i64 2) (stS (Z8 m.sm k) 2) rfl;have hlen:(m.sm.set k (stS (Z8 m.sm k) 2)).length=m.sm.length:=by simp
 have hs1:Z8 (m.sm.set k (stS (Z8 m.sm k) 2)) k=stS (Z8 m.sm k) 2:=by rw [ZC hk,if_pos rfl]
 have hp2:=hp1.putS hlen.symm (j:=k) (i:=1) (by show k<(m.sm.set k _).length;omega) (by omega) (.int .i64 b) (2,b,(Z8 m.sm k).2.2) (by show Zz (2,b,(Z8 m.sm k).2.2)=(Zz (Z8 (m.sm.set k (stS (Z8 m.sm k) 2)) k)).set 1 _;rw [hs1];rfl);obtain ⟨_,hga,_,_,hc3,hz3⟩:=RecAt.view ZV (by omega) hp1.sm hlen.symm (by show 0<(m.sm.set k _).length;omega);cases hga;have s1:=hc3 k (by show k<(m.sm.set k _).length;omega) 1 _ rfl;have f1:=hz3 (k*11+1);have hgR:g2 ≠ R:=fun e=>h2 (by rw [e];rfl);have c2':=(kb.other (a:=⟨g2,k*11,none⟩) (fun e=>hgR e.symm) (.int .i64 2)).cell (i:=2) (v:= .slice (some ⟨g2,0,none⟩) m.sm.length p2) rfl;simp only [Nat.add_zero,List.set_set] at s0 hp1 hp2 s1 f1;have HP2:=Z9 hp2;have hk1:(k:Int)<(m.sm.length:Int):=by omega
 clear hc2 hz2 hc3 hz3 hp1 hp2 hf kb hs1 hlen h2 h3 hgR;go_enter func60,ntmps60;go_wp2_with fail
 go_end0
 exact ⟨rfl,uh HP2,(Two.of_set w (.inl rfl) _ _).trans (Two.of_set _ (.inl rfl) _ _)⟩
theorem In  (h:Smy w v0 v1 v2 v3 v4 m) :
  cB 26 #[.agg #[v0,v1,v2,v3,v4,.int .i64 m.now]] w (.tuple #[.agg E6,.int .i64 3]):=by
 obtain ⟨a0,p0,a1,p1,a2,p2,a3,p3,a4,p4,rfl,rfl,rfl,rfl,rfl,_,_,_,_,_,_,_,_,_,_⟩:=h.five;clear h;go_enter func26,ntmps26;go_wp2_with fail;exact Y7 (v:= .tuple #[.agg E6,.int .i64 3]) (by simp [results,results26,go_sem]) rfl ⟨rfl,((ba _ _)).alloc (by simp) _⟩
end Go.Proofs.YtgdpaigcmoifbaaGreatDoor
