/- Part 22 of what the proof rests on. No condition but those that a theorem names. -/
import Derived.Test.YtamgfpdahadnfaaGreatDoorXf18
import Derived.Test.YtamgfpdahadnfaaGreatDoorXf19
set_option maxHeartbeats 8000000
set_option maxRecDepth 100000
namespace Go.Proofs.YtamgfpdahadnfaaGreatDoor
open Go.ChangeShapes Go.WideShapes Go.ChangeAt Go.RowKit Go.Sort
set_option linter.unusedVariables false
variable {w w' w0 w1 w2 w3 w₀ wr W W' X A B C : World} {v v0 v1 v2 v3 v4 u u0 u1 u2 u3 u4 : Value} {m : Z6}
structure Sane (m:Z6):Prop where
 hall:Y0 m.rm=true
 dk:(m.dk.length:Int)=ZW m.rm
 guilded:CY m
 few:m.sm.length<=12
theorem Sane.bench (h:Sane m) {b:Nat} (hb:b<m.dk.length):Ys m.rm (b:Int)=true:=JV h.hall (by omega) (by have:=h.dk;omega)
theorem Sane.eight (h:Sane m):m.dk.length<=8:=by have:=(Zq h.hall).2.2.2;have:=h.dk;omega
theorem Loose.sane (h:Loose m):Sane m:=by
 have hd:=h.head;unfold YG at hd;simp only [ZL,YZ] at hd;obtain ⟨h1,h2,h3,h4,_⟩:=hd;refine ⟨h1,h4,⟨h2,fun i hi hs=> ?_,fun i hi hs=>(h.limits hi hs).2.1⟩,h3⟩;have hp:=(h.limits hi hs).1;generalize Z8 m.sm i=s at *;obtain ⟨st,be,rk,my,gu,lo',hi',hd,ca,ut,wk⟩:=s;exact (Zj hp).2.2.2.2.1.1
theorem Sane.with (h:Sane m) {k:Nat} (hk:k<m.sm.length) (hs:(Z8 m.sm k).1 ≠ 0) (b:Int):Sane (Xu m (k:Int) b):=by
 have hset:∀ i,Z8 (Xu m (k:Int) b).sm i=if i=k then UB (Z8 m.sm k) b else Z8 m.sm i:=fun i=>by
  unfold Xu;simp only [Zy];exact ZI hk i
 refine ⟨h.hall,h.dk,⟨h.guilded.gd,fun i hi hne=> ?_,fun i hi hne=> ?_⟩,by unfold Xu;simpa using h.few⟩
 ·have hi':i<m.sm.length:=by unfold Xu at hi;simpa using hi
  rw [hset] at hne ⊢;by_cases e:i=k
  ·rw [if_pos e];exact h.guilded.lo k hk hs
  ·rw [if_neg e] at hne ⊢;exact h.guilded.lo i hi' hne
 ·have hi':i<m.sm.length:=by unfold Xu at hi;simpa using hi
  rw [hset] at hne ⊢;by_cases e:i=k
  ·rw [if_pos e];exact h.guilded.hi k hk hs
  ·rw [if_neg e] at hne ⊢;exact h.guilded.hi i hi' hne
theorem Sane.few' (h:Sane m) (hp:m.pc.length<=1000):Few m:=by
 obtain ⟨r1,r2,r3,r4⟩:=Zq h.hall;have hg:=(Vl h.guilded.gd).2;refine ⟨by omega,fun r hr=> ?_,by omega,by have:=h.few;omega,by have:=h.eight;omega,hp⟩;have hrb:=List.all_eq_true.1 r3 r hr;unfold Zc at hrb;simp only [ZL] at hrb;have:=ZJ hrb.2.1;omega
theorem CQ {room:Int} {k:Nat} (h:¬ (Xg m.rm k:Int)=room):usedIn m room (k+1)=usedIn m room k:=by show (if _ then _ else _)=_;rw [if_neg h]
theorem Fp {room:Int} {k:Nat} (h:(Xg m.rm k:Int)=room):usedIn m room (k+1)=((if (Z8 m.dk k).1 then max (usedIn m room k).1 (Zi m k (-1)) else (usedIn m room k).1),(usedIn m room k).2+Zi m k (-1)):=by show (if _ then _ else _)=_;rw [if_pos h]
theorem Oc  (room:Int) (h:Smy w v0 v1 v2 v3 v4 m) (hS:Sane m) :
  Calls Tryz.prog 264 #[.agg #[v0,v1,v2,v3,v4,.int .i64 m.now],.int .i64 room] w fun e w'=>e= .returned (.tuple #[.int .i64 (usedIn m room m.dk.length).1,.int .i64 (usedIn m room m.dk.length).2])/\Below w.heap.size w w':=by
 have Hv:=Z9 (h.alloc (.cells #[v0,v1,v2,v3,v4,.int .i64 m.now] 32));obtain ⟨a0,p0,a1,p1,a2,p2,a3,p3,a4,p4,rfl,rfl,rfl,rfl,rfl,_,_,_,_,_,_,_,_,_,_⟩:=h.five;clear h;have HS:=Z9 hS;obtain ⟨BB0,kb0⟩:=V9 w 32 (S6 a0 p0 a1 p1 a2 p2 a3 p3 a4 p4 m);have h8:=hS.eight;have hbd:=Pd m room hS.few;have Hbd:=Z9 hbd;clear hS hbd;go_enter Tryz.func264,Tryz.ntmps264;go_wp2_with fail
 go_loopw [6,7,8] (fun mo al i wr=> ∃ k:Nat,k<=m.dk.length/\i= .int .i64 k/\mo= .int .i64 (usedIn m room k).1/\al= .int .i64 (usedIn m room k).2/\Blk wr w.heap.size 32 (S6 a0 p0 a1 p1 a2 p2 a3 p3 a4 p4 m)/\Smy wr (.slice a0 m.rm.length p0) (.slice a1 m.gd.length p1) (.slice a2 m.sm.length p2) (.slice a3 m.dk.length p3) (.slice a4 m.pc.length p4) m/\Below w.heap.size w wr) (fun _ _ i _=>m.dk.length-(intOf i).toNat)
 case atStart=>exact ⟨0,Zz _,rfl,rfl,rfl,uh kb0,uh Hv,uh BB0⟩
 case round=>
  obtain ⟨k,hk,rfl,rfl,rfl,hkb,hv,hb0⟩:=hrel;obtain ⟨⟨u0,u1⟩,u2,u3⟩:=uh Hbd k;have kb:=Z9 hkb;have Hv1:=Z9 hv;have BB:=Z9 hb0;clear hkb hv hb0 kb0 BB0 Hv;obtain ⟨c0,c1,c2,c3,c4,c5⟩:=(uh kb).c6;by_cases hlt:k<m.dk.length
  ·have hlt1:(k:Int)<(m.dk.length:Int):=by omega
   have Hno:=Z9 (fun hh=>CQ (m:=m) (room:=room) (k:=k) hh);have Hyes:=Z9 (fun hh=>Fp (m:=m) (room:=room) (k:=k) hh);obtain ⟨⟨mo,al⟩,hmo⟩:∃ x,usedIn m room k=x:=⟨_,rfl⟩
   rw [hmo] at u0 u1 u2 u3 Hno Hyes ⊢;simp only at u0 u1 u2 u3 Hyes ⊢;clear hmo;go_wp2_with fail;refine ck (Qb (k:Int) (uh Hv1).rm ((uh HS).bench hlt)) fun w1 hb=> ?_;replace kb:=bl kb hb;replace Hv1:=Z9 ((uh Hv1).below hb);replace BB:=bt BB hb;clear hb c0 c1 c2 c3 c4 c5;obtain ⟨rn,hrn⟩:∃ r:Int,(Xg m.rm k:Int)=r:=⟨_,rfl⟩
   rw [hrn] at Hno Hyes ⊢;clear hrn;by_cases hr:rn=room;rotate_left
   ·have hrb:(rn ==room)=false:=by simpa using hr
    go_wp2_with fail;go_roundw
    case rel=>exact ⟨k+1,by omega,by go_num,by rw [uh Hno hr],by rw [uh Hno hr],uh kb,uh Hv1,uh BB⟩
    case measure=>exact ms
   have hrb:(rn ==room)=true:=by simpa using hr
   obtain ⟨c0,c1,c2,c3,c4,c5⟩:=(uh kb).c6;go_wp2_with fail;refine ck (TN (k:Int) (-1) (uh Hv1) (uh HS).guilded (by have:=(uh HS).few;omega)) fun w2 hb=> ?_;replace kb:=bl kb hb;replace Hv1:=Z9 ((uh Hv1).below hb);replace BB:=bt BB hb;clear hb c0 c1 c2 c3 c4 c5;have hub:=Tu m (k:Int) (-1);have hfew:=(uh HS).few;have hy:=uh Hyes hr;generalize Zi m (k:Int) (-1)=us at *;obtain ⟨_,_,hde,_,_,r3⟩:=(uh Hv1).dk;cases hde
   rcases r3 with e0 | ⟨db,off,rfl,hbw,hcl⟩
   ·rw [e0] at hlt;simp at hlt
   obtain ⟨d0,_,_⟩:=Y2 hcl hlt;clear hcl;obtain ⟨op,hop⟩:∃ o,(Z8 m.dk k).1=o:=⟨_,rfl⟩
   rw [hop] at d0 hy;have Hy:=Z9 hy;clear hop hy Hno Hyes;have c3:=(uh kb).cell (i:=3) (v:= .slice (some ⟨db,off,none⟩) m.dk.length p3) rfl;cases op
   ·go_wp2_with fail
    go_roundw
    case rel=>exact ⟨k+1,by omega,by go_num,by rw [uh Hy];rfl,by rw [uh Hy],uh kb,uh Hv1,uh BB⟩
    case measure=>exact ms
   ·go_wp2_with (go_at_call 124;refine (Tf _ _ _).mono ?_;rintro e w' ⟨rfl,h9⟩;subst w')
    go_roundw
    case rel=>exact ⟨k+1,by omega,by go_num,by rw [uh Hy];rfl,by rw [uh Hy],uh kb,uh Hv1,uh BB⟩
    case measure=>exact ms
  ·obtain rfl:k=m.dk.length:=by omega
   go_wp2_with fail
   go_ret2
   exact ⟨rfl,uh BB⟩
theorem Gt  {r:Nat} (h:Smy w v0 v1 v2 v3 v4 m) (hS:Sane m) (hr:r<m.rm.length) :
  Calls Tryz.prog 221 #[.agg #[v0,v1,v2,v3,v4,.int .i64 m.now],.int .i64 (r:Int)] w fun e w'=>e= .returned (.int .i64 (coalIn m r))/\Below w.heap.size w w':=by
 have Hv:=Z9 (h.alloc (.cells #[v0,v1,v2,v3,v4,.int .i64 m.now] 32));obtain ⟨a0,p0,a1,p1,a2,p2,a3,p3,a4,p4,rfl,rfl,rfl,rfl,rfl,_,_,_,_,_,_,_,_,_,_⟩:=h.five;clear h;have HS:=Z9 hS;obtain ⟨BB0,kb0⟩:=V9 w 32 (S6 a0 p0 a1 p1 a2 p2 a3 p3 a4 p4 m);have hr1:(r:Int)<(m.rm.length:Int):=by omega
 have Hc:Hid (coalIn m r=ON (ZN m.rm r) (usedIn m (r:Int) m.dk.length).1 (usedIn m (r:Int) m.dk.length).2):=Z9 rfl;rw [uh Hc];clear Hc hS;obtain ⟨⟨n,ps⟩,hrm⟩:∃ x,ZN m.rm r=x:=⟨_,rfl⟩
 obtain ⟨mo,hmo⟩:∃ x,(usedIn m (r:Int) m.dk.length).1=x:=⟨_,rfl⟩
 obtain ⟨al,hal⟩:∃ x,(usedIn m (r:Int) m.dk.length).2=x:=⟨_,rfl⟩
 rw [hrm,hmo,hal];have Hrm:=Z9 hrm;have Hmo:=Z9 hmo;have Hal:=Z9 hal;clear hrm hmo hal;go_enter Tryz.func221,Tryz.ntmps221;go_wp2_with fail;have hu:=Oc (r:Int) (uh Hv) (uh HS);rw [uh Hmo,uh Hal] at hu;refine hu.mono ?_;clear hu;rintro e w1 ⟨rfl,hb⟩;have kb:=Z9 ((uh kb0).below hb (uh kb0).lt);replace Hv:=Z9 ((uh Hv).below hb);have BB:=Z9 ((uh BB0).trans (hb.mono (uh BB0).size));clear hb kb0 BB0;obtain ⟨_,_,hre,_,_,r0⟩:=(uh Hv).rm;cases hre
 rcases r0 with e0 | ⟨rb,off,rfl,hbw,hcl⟩
 ·rw [e0] at hr;simp at hr
 obtain ⟨d0,pv,d1,hpv⟩:=hcl r hr;rw [uh Hrm] at d0 hpv;simp only at d0 hpv;have Hpv:=Z9 hpv;obtain ⟨pa,pc,rfl,_,_,_⟩:=hpv;have c0:=(uh kb).cell (i:=0) (v:= .slice (some ⟨rb,off,none⟩) m.rm.length p0) rfl;clear hcl;go_wp2_with fail;refine ck (PO n mo al (uh Hpv)) fun w2 hb=> ?_;replace BB:=bt BB hb;clear hb;go_wp2_with fail;go_ret;exact ⟨rfl,uh BB⟩
theorem Eo  (h:Smy w v0 v1 v2 v3 v4 m) (hS:Sane m) :
  Calls Tryz.prog 170 #[.agg #[v0,v1,v2,v3,v4,.int .i64 m.now]] w fun e w'=>e= .returned (.int .i64 (QO m))/\Below w.heap.size w w':=by
 have Hv:=Z9 (h.alloc (.cells #[v0,v1,v2,v3,v4,.int .i64 m.now] 32));obtain ⟨a0,p0,a1,p1,a2,p2,a3,p3,a4,p4,rfl,rfl,rfl,rfl,rfl,_,_,_,_,_,_,_,_,_,_⟩:=h.five;clear h;have HS:=Z9 hS;obtain ⟨BB0,kb0⟩:=V9 w 32 (S6 a0 p0 a1 p1 a2 p2 a3 p3 a4 p4 m);have h3:=(Zq hS.hall).2.1;have Hbd:=Z9 (OD m);clear hS;go_enter Tryz.func170,Tryz.ntmps170;go_wp2_with fail
 go_loopw [3,4] (fun n i wr=> ∃ k:Nat,k<=m.rm.length/\i= .int .i64 k/\n= .int .i64 (coalTo m k)/\Blk wr w.heap.size 32 (S6 a0 p0 a1 p1 a2 p2 a3 p3 a4 p4 m)/\Smy wr (.slice a0 m.rm.length p0) (.slice a1 m.gd.length p1) (.slice a2 m.sm.length p2) (.slice a3 m.dk.length p3) (.slice a4 m.pc.length p4) m/\Below w.heap.size w wr) (fun _ i _=>m.rm.length-(intOf i).toNat)
 case atStart=>exact ⟨0,Zz _,rfl,rfl,uh kb0,uh Hv,uh BB0⟩
 case round=>
  obtain ⟨k,hk,rfl,rfl,hkb,hv,hb0⟩:=hrel;obtain ⟨u0,u1⟩:=uh Hbd k;obtain ⟨u2,u3⟩:=uh Hbd (k+1);have hst:coalTo m (k+1)=coalTo m k+coalIn m k:=rfl;have kb:=Z9 hkb;have Hv1:=Z9 hv;have BB:=Z9 hb0;clear hkb hv hb0 kb0 BB0 Hv;obtain ⟨c0,c1,c2,c3,c4,c5⟩:=(uh kb).c6;by_cases hlt:k<m.rm.length
  ·have hlt1:(k:Int)<(m.rm.length:Int):=by omega
   go_wp2_with fail;refine ck (Gt (uh Hv1) (uh HS) hlt) fun w1 hb=> ?_;replace kb:=bl kb hb;replace Hv1:=Z9 ((uh Hv1).below hb);replace BB:=bt BB hb;rw [hst] at u2 u3;have Hst:=Z9 hst;clear hb c0 c1 c2 c3 c4 c5 hst;generalize coalIn m k=ci at *;generalize coalTo m k=ct at *;go_wp2_with fail;go_roundw
   case rel=>exact ⟨k+1,by omega,by go_num,by rw [uh Hst],uh kb,uh Hv1,uh BB⟩
   case measure=>exact ms
  ·obtain rfl:k=m.rm.length:=by omega
   go_wp2_with fail;go_ret;exact ⟨rfl,uh BB⟩
set_option linter.unusedSimpArgs false
theorem Od  {k:Nat} (b:Int) (h:Smy w v0 v1 v2 v3 v4 m) (hS:Sane m) (hp:m.pc.length<=1000) (hk:k<m.sm.length) (hs:(Z8 m.sm k).1 ≠ 0) :
  Calls Tryz.prog 108 #[.agg #[v0,v1,v2,v3,v4,.int .i64 m.now],.int .i64 (k:Int),.int .i64 b] w fun e w'=>e= .returned (.int .i64 (Zl m (k:Int) b))/\Below w.heap.size w w':=by
 have Hv:=Z9 (h.alloc (.cells #[v0,v1,v2,v3,v4,.int .i64 m.now] 32));obtain ⟨a0,p0,a1,p1,a2,p2,a3,p3,a4,p4,rfl,rfl,rfl,rfl,rfl,_,_,_,_,_,_,_,_,_,_⟩:=h.five;clear h;have HF:=Z9 (hS.few' hp);have HSW:=Z9 (hS.with hk hs b);have Hc:Hid (Zl m (k:Int) b=QO (Xu m (k:Int) b)):=Z9 rfl;rw [uh Hc];have hk1:(k:Int)<(m.sm.length:Int):=by omega
 clear hS hp hs Hc;have BB0:Hid (Below w.heap.size w (w.alloc (.cells (S6 a0 p0 a1 p1 a2 p2 a3 p3 a4 p4 m) 32))):=Z9 ((ba _ _));go_enter Tryz.func108,Tryz.ntmps108;go_wp2_with fail;refine (XL (uh Hv) (uh HF)).mono ?_;rintro e w1 ⟨y0,y1,y2,y3,y4,oq,rfl,ho,hb⟩;have k9:=ho.smy;obtain ⟨b0,q0,b1,q1,b2,q2,b3,q3,b4,q4,rfl,rfl,rfl,rfl,rfl,_,_,_,_,_,_,_,_,_,_⟩:=k9.five;have HO:=Z9 (ho.mono (n₁:=w.heap.size) (by simp));have BB:=Z9 ((uh BB0).trans (hb.mono (uh BB0).size));clear k9 ho hb BB0 Hv;go_upto_region 2 with fail;obtain ⟨W,hW,hba,ko⟩:=Yz w1 32 (S6 b0 q0 b1 q1 b2 q2 b3 q3 b4 q4 m);have LO:Hid (∀ i,We (.slice b0 m.rm.length q0) (.slice b1 m.gd.length q1) (.slice b2 m.sm.length q2) (.slice b3 m.dk.length q3) (.slice b4 m.pc.length q4) oq i->w.heap.size<=i/\i<w1.heap.size):=Z9 (fun i e=>(uh HO).own e);replace HO:=Z9 ((uh HO).below hba);replace BB:=bt BB hba;clear hba;rw [hW];clear hW;generalize w1.heap.size=ob at *;obtain ⟨g2,hga,_,_,hc2,hz2⟩:=RecAt.view ZT (by omega) (uh HO).sm rfl (by omega);cases hga;have hg2o:=(uh LO g2 (.inr (.inr (.inr (.inl rfl)))))
 have s1:=hc2 k hk 1 _ rfl;have f1:=hz2 (k*11+1);have hp1:=(uh HO).putS rfl (j:=k) (i:=1) hk (by omega) (.int .i64 b) (((Z8 m.sm k).1,b,(Z8 m.sm k).2.2)) rfl;have hlen:(m.sm.set k (((Z8 m.sm k).1,b,(Z8 m.sm k).2.2))).length=m.sm.length:=by simp
 have hs1:Z8 (m.sm.set k (((Z8 m.sm k).1,b,(Z8 m.sm k).2.2))) k=(((Z8 m.sm k).1,b,(Z8 m.sm k).2.2)):=by rw [ZI hk,if_pos rfl]
 have hp2:=hp1.putS hlen.symm (j:=k) (i:=0) (by show k<(m.sm.set k _).length;omega) (by omega) (.int .i64 2) (UB (Z8 m.sm k) b) (by show ZV (UB (Z8 m.sm k) b)=(ZV (Z8 (m.sm.set k (((Z8 m.sm k).1,b,(Z8 m.sm k).2.2))) k)).set 0 _;rw [hs1];rfl);obtain ⟨_,hga,_,_,hc3,hz3⟩:=RecAt.view ZT (by omega) hp1.sm hlen.symm (by show 0<(m.sm.set k _).length;omega);cases hga;have s2:=hc3 k (by show k<(m.sm.set k _).length;omega) 0 _ rfl;have f2:=hz3 (k*11);have x2:=(uh ko).cell (i:=2) (v:= .slice (some ⟨g2,0,none⟩) m.sm.length q2) rfl;have x3:=((uh ko).other (a:=⟨g2,k*11+1,none⟩) (by show ob ≠ g2;omega) (.int .i64 b)).cell (i:=2) (v:= .slice (some ⟨g2,0,none⟩) m.sm.length q2) rfl;simp only [Nat.add_zero,List.set_set] at hp2 s2 f2;have hwm:({ m with sm:=m.sm.set k (UB (Z8 m.sm k) b) } : Z6)=Xu m (k:Int) b:=by unfold Xu;simp
 rw [hwm] at hp2;have HP:=Z9 hp2.smy;clear hc2 hz2 hc3 hz3 hp1 hp2 hwm hs1 hlen HO;go_upto_region 4 with fail;clear s1 f1 s2 f2 x2 x3;replace ko:Hid (Blk ((W.setCell ⟨g2,k*11+1,none⟩ (.int .i64 b)).setCell ⟨g2,k*11,none⟩ (.int .i64 2)) ob 32 (S6 b0 q0 b1 q1 (some ⟨g2,0,none⟩) q2 b3 q3 b4 q4 m)):=Z9 (((uh ko).other (a:=⟨g2,k*11+1,none⟩) (by show ob ≠ g2;omega) _).other (a:=⟨g2,k*11,none⟩) (by show ob ≠ g2;omega) _);replace BB:Hid (Below w.heap.size w ((W.setCell ⟨g2,k*11+1,none⟩ (.int .i64 b)).setCell ⟨g2,k*11,none⟩ (.int .i64 2))):=Z9 (((uh BB).setCell (p:=⟨g2,k*11+1,none⟩) (by show w.heap.size<=g2;omega) _).setCell (p:=⟨g2,k*11,none⟩) (by show w.heap.size<=g2;omega) _);generalize (W.setCell ⟨g2,k*11+1,none⟩ (.int .i64 b)).setCell ⟨g2,k*11,none⟩ (.int .i64 2)=W3 at *;obtain ⟨c0,c1,c2,c3,c4,c5⟩:=(uh ko).c6;go_wp2_with fail;refine ck (Eo (m:=Xu m (k:Int) b) (uh HP) (uh HSW)) fun w5 hb=> ?_;replace BB:=bt BB hb;clear hb;go_wp2_with fail;go_ret;exact ⟨rfl,uh BB⟩
theorem Calls.same_below {P:Program} {f:FuncId} {args:Array Value}  (h:Calls P f args w fun e w'=>e= .returned v/\w'=w):Calls P f args w fun e w'=>e= .returned v/\Below w.heap.size w w':=
 h.mono fun e w' ⟨he,hw⟩=>⟨he,by rw [hw];exact Z1 _ _⟩
theorem Ss  {k b:Nat} (h:Smy w v0 v1 v2 v3 v4 m) (hk:k<m.sm.length) (hb:b<m.dk.length) (h7:b<=7) (y0:0<=(Z8 m.sm k).2.2.2.1) (y1:(Z8 m.sm k).2.2.2.1<=255) :
  Calls Tryz.prog 112 #[.agg #[v0,v1,v2,v3,v4,.int .i64 m.now],.int .i64 (k:Int),.int .i64 (b:Int)] w fun e w'=>e= .returned (.bool (YK m (k:Int) b))/\Below w.heap.size w w':=by
 have hm:YK m (k:Int) b=((Z8 m.dk b).1 && V0 (Z8 m.sm k).2.2.2.1 b):=rfl;rw [hm];clear hm;obtain ⟨a0,p0,rfl,_,_⟩:=IsRooms.shape h.rm;obtain ⟨a1,p1,rfl,_,_⟩:=IsRec.shape h.gd;obtain ⟨a4,p4,rfl,_,_⟩:=IsRec.shape h.pc;obtain ⟨a2,p2,rfl,_,_,r2⟩:=h.sm;obtain ⟨a3,p3,rfl,_,_,r3⟩:=h.dk;clear h
 rcases r2 with e0 | ⟨sb,so,rfl,hbs,hcs⟩
 ·rw [e0] at hk;simp at hk
 rcases r3 with e0 | ⟨db,dof,rfl,hbd,hcd⟩
 ·rw [e0] at hb;simp at hb
 obtain ⟨_,_,_,s3,_⟩:=Zx hcs hk;obtain ⟨d0,_,_⟩:=Y2 hcd hb;have hk1:(k:Int)<(m.sm.length:Int):=by omega
 have hb1:(b:Int)<(m.dk.length:Int):=by omega
 clear hcs hcd;generalize (Z8 m.sm k).2.2.2.1=my at *;generalize (Z8 m.dk b).1=op at *;cases op
 all_goals
  go_enter Tryz.func112,Tryz.ntmps112;go_wp2_with (go_at_call 60;refine (J4 my (b:Int) _ y0 y1 (by omega) (by omega)).mono ?_;rintro e w' ⟨rfl,h9⟩;subst w')
  go_ret;exact ⟨rfl,(ba _ _)⟩
theorem Rv  (h:Smy w v0 v1 v2 v3 v4 m) (hS:Sane m) :
  Calls Tryz.prog 107 #[.agg #[v0,v1,v2,v3,v4,.int .i64 m.now]] w fun e w'=>e= .returned (.bool (Xk m))/\Below w.heap.size w w':=by
 have Hv:=Z9 (h.alloc (.cells #[v0,v1,v2,v3,v4,.int .i64 m.now] 32));obtain ⟨a0,p0,a1,p1,a2,p2,a3,p3,a4,p4,rfl,rfl,rfl,rfl,rfl,_,_,_,_,_,_,_,_,_,_⟩:=h.five;clear h;obtain ⟨BB0,kb0⟩:=V9 w 32 (S6 a0 p0 a1 p1 a2 p2 a3 p3 a4 p4 m);have HS:=Z9 hS;have h8:=hS.eight;clear hS;have hyes:∀ k,k<m.dk.length->Ve m k=true->Xk m=true:=fun k hk hc=>List.any_eq_true.2 ⟨k,List.mem_range.2 hk,hc⟩
 have hno:(∀ k,k<m.dk.length->Ve m k=false)->Xk m=false:=fun hn=>by
  unfold Xk;rw [List.any_eq_false];intro k hk;rw [hn k (List.mem_range.1 hk)];simp
 have Hyes:=Z9 hyes;have Hno:=Z9 hno;clear hyes hno;go_enter Tryz.func107,Tryz.ntmps107;go_wp2_with fail
 go_loopw [3] (fun i wr=> ∃ k:Nat,k<=m.dk.length/\i= .int .i64 k/\(∀ j,j<k->Ve m j=false)/\Blk wr w.heap.size 32 (S6 a0 p0 a1 p1 a2 p2 a3 p3 a4 p4 m)/\Smy wr (.slice a0 m.rm.length p0) (.slice a1 m.gd.length p1) (.slice a2 m.sm.length p2) (.slice a3 m.dk.length p3) (.slice a4 m.pc.length p4) m/\Below w.heap.size w wr) (fun i _=>m.dk.length-(intOf i).toNat)
 case atStart=>exact ⟨0,Zz _,rfl,fun j hj=>by omega,uh kb0,uh Hv,uh BB0⟩
 case round=>
  obtain ⟨k,hk,rfl,hn,hkb,hv,hb0⟩:=hrel;have Hn:=Z9 hn;have kb:=Z9 hkb;have Hv1:=Z9 hv;have BB:=Z9 hb0;clear hkb hv hb0 kb0 BB0 Hv hn;obtain ⟨c0,c1,c2,c3,c4,c5⟩:=(uh kb).c6;by_cases hlt:k<m.dk.length
  ·have hlt1:(k:Int)<(m.dk.length:Int):=by omega
   have Hc:Hid (Ve m k=((Z8 m.dk k).1 && VI (Zi m (k:Int) (-1)) (Zb m.rm (k:Int)))):=Z9 rfl;obtain ⟨_,_,hde,_,_,r3⟩:=(uh Hv1).dk;cases hde
   rcases r3 with e0 | ⟨db,off,rfl,hbw,hcl⟩
   ·rw [e0] at hlt;simp at hlt
   obtain ⟨d0,_,_⟩:=Y2 hcl hlt;clear hcl;have hfo:=S8 ((uh HS).bench hlt);have Hu:=Z9 (fun (W:World) (hW:Below wr.heap.size wr W)=>TN (k:Int) (-1) ((uh Hv1).below hW) (uh HS).guilded (by have:=(uh HS).few;omega));have Hf:=Z9 (fun (W:World) (hW:Below wr.heap.size wr W)=>U6 (k:Int) ((uh Hv1).below hW).rm ((uh HS).bench hlt));rw [<-hfo] at Hf;clear hfo;generalize Zi m (k:Int) (-1)=us at *;generalize Zb m.rm (k:Int)=fo at *;generalize (Z8 m.dk k).1=op at *;have y0:=ZY c0;have y1:=ZY c1;have y2:=ZY c2;have y3:=ZY c3;have y4:=ZY c4;have y5:=ZY c5;have z0:=ZY d0;obtain ⟨mu,hmu⟩:∃ q,VI us fo=q:=⟨_,rfl⟩
   have Ht:=Z9 (fun (W:World)=>Calls.same_below (NS us fo W));rw [hmu] at Hc Ht;clear hmu;cases op
   ·go_wp2_with fail
    refine wq ?_
    repeat (go_big_quiet_step (first | exact ZX (uh Hu _ (Z0 _ _ _)) | exact ZX (uh Hf _ (Z0 _ _ _)) | exact ZX (uh Ht _)))
    refine wpQuiet_nil ?_;intro _ hw';obtain ⟨⟨dq,osq⟩,hw''⟩:=hw';subst hw'';go_wp2_with fail;go_roundw
    case rel=>exact ⟨k+1,by omega,by go_num,Yg (uh Hn) (uh Hc),(uh kb).below (Z0 _ _ _) (uh kb).lt,(uh Hv1).below (Z0 _ _ _),(uh BB).trans ((Z0 _ _ _).mono (uh BB).size)⟩
    case measure=>exact ms
   ·cases mu
    ·go_wp2_with fail
     refine wq ?_
     repeat (go_big_quiet_step (first | exact ZX (uh Hu _ (Z0 _ _ _)) | exact ZX (uh Hf _ (Z0 _ _ _)) | exact ZX (uh Ht _)))
     refine wpQuiet_nil ?_;intro _ hw';obtain ⟨⟨dq,osq⟩,hw''⟩:=hw';subst hw'';go_wp2_with fail;go_roundw
     case rel=>exact ⟨k+1,by omega,by go_num,Yg (uh Hn) (uh Hc),(uh kb).below (Z0 _ _ _) (uh kb).lt,(uh Hv1).below (Z0 _ _ _),(uh BB).trans ((Z0 _ _ _).mono (uh BB).size)⟩
     case measure=>exact ms
    ·go_wp2_with fail
     refine wq ?_
     repeat (go_big_quiet_step (first | exact ZX (uh Hu _ (Z0 _ _ _)) | exact ZX (uh Hf _ (Z0 _ _ _)) | exact ZX (uh Ht _)))
     refine wpQuiet_nil ?_;intro _ hw';obtain ⟨⟨dq,osq⟩,hw''⟩:=hw';subst hw'';go_wp2_with fail;go_ret;exact ⟨Z5 (uh Hyes k hlt (uh Hc)).symm,(uh BB).trans ((Z0 _ _ _).mono (uh BB).size)⟩
  ·obtain rfl:k=m.dk.length:=by omega
   go_wp2_with fail;go_ret;exact ⟨Z5 (uh Hno (uh Hn)).symm,uh BB⟩
structure QG (m:Z6) (k:Nat):Prop where
 lt:k<m.sm.length
 st:(Z8 m.sm k).1 ≠ 0
 y0:0<=(Z8 m.sm k).2.2.2.1
 y1:(Z8 m.sm k).2.2.2.1<=255
theorem zS {who:Int} {k:Nat} (h:Rj m who k=false):VE m who (k+1)=VE m who k:=by show (if _ then _ else _)=_;rw [h];rfl
theorem BN {who:Int} {k:Nat} (h:Rj m who k=true):VE m who (k+1)=VE m who k++[(k:Int)]:=by show (if _ then _ else _)=_;rw [h];rfl
theorem Rw  {who:Nat} (h:Smy w v0 v1 v2 v3 v4 m) (hS:Sane m) (hA:QG m who) :
  Calls Tryz.prog 106 #[.agg #[v0,v1,v2,v3,v4,.int .i64 m.now],.int .i64 (who:Int)] w fun e w'=> ∃ v',e= .returned v'/\NumsAt w.heap.size w' v' (YT m (who:Int))/\Below w.heap.size w w':=by
 have Hv:=Z9 (h.alloc (.cells #[v0,v1,v2,v3,v4,.int .i64 m.now] 32));obtain ⟨a0,p0,a1,p1,a2,p2,a3,p3,a4,p4,rfl,rfl,rfl,rfl,rfl,_,_,_,_,_,_,_,_,_,_⟩:=h.five;have HW:=Z9 h;clear h;obtain ⟨BB0,kb0⟩:=V9 w 32 (S6 a0 p0 a1 p1 a2 p2 a3 p3 a4 p4 m);have HS:=Z9 hS;have HA:=Z9 hA;have h8:=hS.eight;clear hS hA;have kb1:Hid (Blk ((w.alloc (.cells (S6 a0 p0 a1 p1 a2 p2 a3 p3 a4 p4 m) 32)).alloc (.cells #[] 2)) w.heap.size 32 (S6 a0 p0 a1 p1 a2 p2 a3 p3 a4 p4 m)):=Z9 ((uh kb0).alloc _);have BB1:Hid (Below w.heap.size w ((w.alloc (.cells (S6 a0 p0 a1 p1 a2 p2 a3 p3 a4 p4 m) 32)).alloc (.cells #[] 2))):=Z9 ((uh BB0).alloc (uh BB0).size _);have Hv0:=Z9 ((uh Hv).alloc (.cells #[] 2));have E0:Hid (NumsAt (w.heap.size+1) ((w.alloc (.cells (S6 a0 p0 a1 p1 a2 p2 a3 p3 a4 p4 m) 32)).alloc (.cells #[] 2)) (.slice (some ⟨w.heap.size+1,0,none⟩) 0 0) []):=Z9 (Y3 (by simp) (by simp));clear kb0 BB0 Hv;go_enter Tryz.func106,Tryz.ntmps106;go_wp2_with fail
 go_loopw [5,6] (fun l i wr=> ∃ k:Nat,k<=m.dk.length/\i= .int .i64 k/\NumsAt (w.heap.size+1) wr l (VE m (who:Int) k)/\Blk wr w.heap.size 32 (S6 a0 p0 a1 p1 a2 p2 a3 p3 a4 p4 m)/\Smy wr (.slice a0 m.rm.length p0) (.slice a1 m.gd.length p1) (.slice a2 m.sm.length p2) (.slice a3 m.dk.length p3) (.slice a4 m.pc.length p4) m/\Below w.heap.size w wr) (fun _ i _=>m.dk.length-(intOf i).toNat)
 case atStart=>exact ⟨0,Zz _,rfl,uh E0,uh kb1,uh Hv0,uh BB1⟩
 case round=>
  obtain ⟨k,hk,rfl,hl,hkb,hv,hb0⟩:=hrel;obtain ⟨la,lc,rfl⟩:=RecAt.shape hl;have HL:=Z9 hl;have kb:=Z9 hkb;have Hv1:=Z9 hv;have BB:=Z9 hb0;have hbl:=(uh kb).lt;have hfl:=OF m (who:Int) k;clear hkb hv hb0 kb1 BB1 Hv0 E0 hl;obtain ⟨c0,c1,c2,c3,c4,c5⟩:=(uh kb).c6;by_cases hlt:k<m.dk.length
  ·have hlt1:(k:Int)<(m.dk.length:Int):=by omega
   have Hc:Hid (Rj m (who:Int) k=(YK m (who:Int) k && Ww (Zu m (who:Int)) (Zi m (k:Int) (who:Int)) (Zb m.rm (k:Int)))):=Z9 rfl;have Hno:=Z9 (fun hh=>zS (m:=m) (who:=(who:Int)) (k:=k) hh);have Hyes:=Z9 (fun hh=>BN (m:=m) (who:=(who:Int)) (k:=k) hh);have hfo:=S8 ((uh HS).bench hlt);have Hma:=Z9 (fun (W:World) (hW:Below wr.heap.size wr W)=>Ss ((uh Hv1).below hW) (uh HA).lt hlt (by omega) (uh HA).y0 (uh HA).y1);have Hwa:=Z9 (fun (W:World) (hW:Below wr.heap.size wr W)=>Rs ((uh Hv1).below hW) (uh HS).guilded.gd (uh HA).lt ((uh HS).guilded.lo who (uh HA).lt (uh HA).st) ((uh HS).guilded.hi who (uh HA).lt (uh HA).st));have Hu:=Z9 (fun (W:World) (hW:Below wr.heap.size wr W)=>TN (k:Int) (who:Int) ((uh Hv1).below hW) (uh HS).guilded (by have:=(uh HS).few;omega));have Hf:=Z9 (fun (W:World) (hW:Below wr.heap.size wr W)=>U6 (k:Int) ((uh Hv1).below hW).rm ((uh HS).bench hlt));rw [<-hfo] at Hf;clear hfo;have Ht:=Z9 (fun (W:World)=>Calls.same_below (Up (Zu m (who:Int)) (Zi m (k:Int) (who:Int)) (Zb m.rm (k:Int)) W));generalize YK m (who:Int) k=ma at *;generalize Zu m (who:Int)=wa at *;generalize Zi m (k:Int) (who:Int)=us at *;generalize Zb m.rm (k:Int)=fo at *;generalize Ww wa us fo=fi at *;have y0:=ZY c0;have y1:=ZY c1;have y2:=ZY c2;have y3:=ZY c3;have y4:=ZY c4;have y5:=ZY c5;cases ma
   ·go_wp2_with fail
    refine wq ?_
    repeat (go_big_quiet_step (first | exact ZX (uh Hma _ (Z0 _ _ _)) | exact ZX (uh Hwa _ (Z0 _ _ _)) | exact ZX (uh Hu _ (Z0 _ _ _)) | exact ZX (uh Hf _ (Z0 _ _ _)) | exact ZX (uh Ht _)))
    refine wpQuiet_nil ?_;intro _ hw';obtain ⟨⟨dq,osq⟩,hw''⟩:=hw';subst hw'';go_wp2_with fail;go_roundw
    case rel=>exact ⟨k+1,by omega,by go_num,by rw [uh Hno (uh Hc)];exact RecAt.later (uh HL) (Z0 _ _ _),(uh kb).below (Z0 _ _ _) (uh kb).lt,(uh Hv1).below (Z0 _ _ _),(uh BB).trans ((Z0 _ _ _).mono (uh BB).size)⟩
    case measure=>exact ms
   cases fi
   ·go_wp2_with fail
    refine wq ?_
    repeat (go_big_quiet_step (first | exact ZX (uh Hma _ (Z0 _ _ _)) | exact ZX (uh Hwa _ (Z0 _ _ _)) | exact ZX (uh Hu _ (Z0 _ _ _)) | exact ZX (uh Hf _ (Z0 _ _ _)) | exact ZX (uh Ht _)))
    refine wpQuiet_nil ?_;intro _ hw';obtain ⟨⟨dq,osq⟩,hw''⟩:=hw';subst hw'';go_wp2_with fail;go_roundw
    case rel=>exact ⟨k+1,by omega,by go_num,by rw [uh Hno (uh Hc)];exact RecAt.later (uh HL) (Z0 _ _ _),(uh kb).below (Z0 _ _ _) (uh kb).lt,(uh Hv1).below (Z0 _ _ _),(uh BB).trans ((Z0 _ _ _).mono (uh BB).size)⟩
    case measure=>exact ms
   ·go_wp2_with fail
    refine wq ?_
    repeat (go_big_quiet_step (first | exact ZX (uh Hma _ (Z0 _ _ _)) | exact ZX (uh Hwa _ (Z0 _ _ _)) | exact ZX (uh Hu _ (Z0 _ _ _)) | exact ZX (uh Hf _ (Z0 _ _ _)) | exact ZX (uh Ht _)))
    refine wpQuiet_nil ?_;intro _ hw';obtain ⟨⟨dq,osq⟩,hw''⟩:=hw';subst hw'';clear c0 c1 c2 c3 c4 c5 y0 y1 y2 y3 y4 y5 Hma Hwa Hu Hf Ht;have hb9:=Z0 wr dq osq;replace HL:=Z9 (RecAt.later (uh HL) hb9);replace kb:=Z9 ((uh kb).below hb9 (uh kb).lt);replace Hv1:=Z9 ((uh Hv1).below hb9);replace BB:=Z9 ((uh BB).trans (hb9.mono (uh BB).size));clear hb9;generalize grow (redrawn wr dq) osq=X at *;have hsx:=(uh BB).size;go_wp2_with (at_builtin;refine ZE tyN rfl (.tmp 33) (.tmp 35) 30 Tryz.underlying30 rfl (w.heap.size+1) _ _ (VE m (who:Int) k) [(k:Int)] rfl rfl (RecAt.later (uh HL) ((ba _ _))) (WB (k:Int) rfl (Z2 _) (by omega)) (by simp;omega) (by simp;omega) ?_;intro u9 w9 hp9 hg9 hat9;have HP9:=Z9 hp9;have HG9:=Z9 hg9;clear hp9 hg9 hat9)
    have hlx:=(uh kb).lt;have hgo:∀ i,(Value.slice la (VE m (who:Int) k).length lc).ownBlock=some i->w.heap.size+1<=i:=fun i e=>(RecAt.lt (uh HL) e).1;have hb9:Below (w.heap.size+1) X w9:=((Z1 _ _).alloc hlx _).trans ((Z1 _ _).grown (uh HG9) (by simp;omega) hgo);have hb8:=(uh BB).trans (hb9.mono (Nat.le_succ _));go_wp2_with fail;go_roundw
    case rel=>exact ⟨k+1,by omega,by go_num,by rw [uh Hyes (uh Hc)];exact uh HP9,(uh kb).below hb9 (Nat.lt_succ_self _),(uh HW).below hb8,hb8⟩
    case measure=>exact ms
  ·obtain rfl:k=m.dk.length:=by omega
   go_wp2_with fail;go_ret;exact ⟨_,rfl,RecAt.mono (uh HL) (Nat.le_succ _),uh BB⟩
theorem zd {g:Nat} {zs:List Int} (h:∀ j,j<zs.length-> ∀ i u,(Sf (Z8 zs j))[i]?=some u->w.cell? ⟨g,j*1+i,none⟩=some u) {j:Nat} (hj:j<zs.length):w.cell? ⟨g,j,none⟩=some (.int .i64 (Z8 zs j)):=by
 have:=h j hj 0 _ rfl;simpa using this
theorem FO {who:Int} (h:Xk m=true\/(Xk m=false/\(YT m who).length=0)):Y1 m who=(YN m who m.dk.length).1:=by
 unfold Y1
 rcases h with e | ⟨e,e'⟩
 ·rw [e];rfl
 ·rw [e,e'];rfl
theorem FN {who:Int} (h:Xk m=false) (h':0<(YT m who).length):Y1 m who=(Xj m who (YT m who) (YT m who).length).1:=by
 unfold Y1;rw [h,decide_eq_true h'];rfl
theorem EE {who:Int} {k:Nat} (hm:YK m who k=true) (h:(YN m who k).1<0\/(YN m who k).2<XE (Zi m k who) (Zb m.rm k)):YN m who (k+1)=((k:Int),XE (Zi m k who) (Zb m.rm k)):=by
 show (if _ then _ else _)=_;rw [hm]
 rcases h with h | h
 ·rw [decide_eq_true h];rfl
 ·rw [decide_eq_true h,Bool.or_true];rfl
theorem Cf {who:Int} {k:Nat} (h:YK m who k=false\/(¬ (YN m who k).1<0/\ ¬ (YN m who k).2<XE (Zi m k who) (Zb m.rm k))):YN m who (k+1)=YN m who k:=by
 show (if _ then _ else _)=_
 rcases h with h | ⟨h,h'⟩
 ·rw [h];rfl
 ·rw [decide_eq_false h,decide_eq_false h',Bool.or_false,Bool.and_false];rfl
theorem Lz {who:Int} {f:List Int} : Xj m who f 1=(Z8 f 0,Zl m who (Z8 f 0)):=by
 cases f<;>rfl
theorem NY {who:Int} {f:List Int} {k:Nat} (h1:1<=k) (hk:k<f.length):Xj m who f (k+1)=XF m who (Xj m who f k) (Z8 f k):=by
 unfold Xj
 have e:f.take (k+1)=f.take k++[Z8 f k]:=by
  rw [List.take_add_one,List.getElem?_eq_getElem hk,Q2 hk];rfl
 rw [e,List.drop_append_of_le_length (by simp;omega),List.foldl_append];rfl
theorem DR {who:Nat} {f:List Int} {k:Nat} (h1:1<=k) (hk:k<f.length) (h:Zl m (who:Int) (Z8 f k)<(Xj m (who:Int) f k).2\/(Zl m (who:Int) (Z8 f k)=(Xj m (who:Int) f k).2/\Z8 f k=(Z8 m.sm who).2.1)):Xj m (who:Int) f (k+1)=(Z8 f k,Zl m (who:Int) (Z8 f k)):=by
 rw [NY h1 hk];unfold XF;exact if_pos h
theorem BC {who:Nat} {f:List Int} {k:Nat} (h1:1<=k) (hk:k<f.length) (h:¬ (Zl m (who:Int) (Z8 f k)<(Xj m (who:Int) f k).2\/(Zl m (who:Int) (Z8 f k)=(Xj m (who:Int) f k).2/\Z8 f k=(Z8 m.sm who).2.1))):Xj m (who:Int) f (k+1)=Xj m (who:Int) f k:=by
 rw [NY h1 hk];unfold XF;exact if_neg h
theorem V8  {who:Nat} (h:Smy w v0 v1 v2 v3 v4 m) (hS:Sane m) (hp:m.pc.length<=1000) (hA:QG m who) :
  Calls Tryz.prog 49 #[.agg #[v0,v1,v2,v3,v4,.int .i64 m.now],.int .i64 (who:Int)] w fun e w'=>e= .returned (.int .i64 (Y1 m (who:Int)))/\Below w.heap.size w w':=by
 have Hv:=Z9 (h.alloc (.cells #[v0,v1,v2,v3,v4,.int .i64 m.now] 32));obtain ⟨a0,p0,a1,p1,a2,p2,a3,p3,a4,p4,rfl,rfl,rfl,rfl,rfl,_,_,_,_,_,_,_,_,_,_⟩:=h.five;clear h;obtain ⟨BB0,kb0⟩:=V9 w 32 (S6 a0 p0 a1 p1 a2 p2 a3 p3 a4 p4 m);have HS:=Z9 hS;have HA:=Z9 hA;have HP:=Z9 hp;have h8:=hS.eight;clear hS hA hp;obtain ⟨c0,c1,c2,c3,c4,c5⟩:=(uh kb0).c6
 have hX:(Xk m=true\/(Xk m=false/\(YT m (who:Int)).length=0))\/(Xk m=false/\0<(YT m (who:Int)).length):=by
  cases Xk m
  ·by_cases h0:(YT m (who:Int)).length=0
   ·exact .inl (.inr ⟨rfl,h0⟩)
   ·exact .inr ⟨rfl,by omega⟩
  ·exact .inl (.inl rfl)
 rcases hX with hX | ⟨hcr,hle⟩
 ·rw [FO hX]
  rcases hX with hcr | ⟨hcr,hle⟩
  all_goals
   go_enter Tryz.func49,Tryz.ntmps49;go_wp2_with (first | (go_at_call 106;refine (Rw (uh Hv) (uh HS) (uh HA)).mono ?_;rintro e w1 ⟨fv,rfl,hf1,hb1⟩;obtain ⟨la,lc,rfl⟩:=RecAt.shape hf1;have HF:=Z9 hf1;have B1:=Z9 hb1;have kb1:=Z9 ((uh kb0).below hb1 (uh kb0).lt);have Hv1:=Z9 ((uh Hv).below hb1);have BB1:=Z9 ((uh BB0).trans (hb1.mono (uh BB0).size));clear hf1 hb1 kb0 Hv BB0 B1 c0 c1 c2 c3 c4 c5;have d0:=(uh kb1).cell (i:=0) (v:= .slice a0 m.rm.length p0) rfl;have d1:=(uh kb1).cell (i:=1) (v:= .slice a1 m.gd.length p1) rfl;have d2:=(uh kb1).cell (i:=2) (v:= .slice a2 m.sm.length p2) rfl;have d3:=(uh kb1).cell (i:=3) (v:= .slice a3 m.dk.length p3) rfl;have d4:=(uh kb1).cell (i:=4) (v:= .slice a4 m.pc.length p4) rfl;have d5:=(uh kb1).cell (i:=5) (v:= .int .i64 m.now) rfl) | (go_at_call 107;refine (Rv (uh Hv1) (uh HS)).mono ?_;rintro e w2 ⟨he,hb2⟩;rw [hcr] at he;subst he;have B2:=Z9 hb2;clear hb2) | fail)
   have kb2:=Z9 ((uh kb1).below (uh B2) (uh kb1).lt);have Hv2:=Z9 ((uh Hv1).below (uh B2));have BB2:=Z9 ((uh BB1).trans ((uh B2).mono (uh BB1).size));clear kb1 Hv1 BB1 B2 d0 d1 d2 d3 d4 d5 HF
   go_loopw [10,11,12] (fun bv mv i wr=> ∃ k:Nat,k<=m.dk.length/\bv= .int .i64 (YN m (who:Int) k).1/\mv= .int .i64 (YN m (who:Int) k).2/\i= .int .i64 k/\Blk wr w.heap.size 32 (S6 a0 p0 a1 p1 a2 p2 a3 p3 a4 p4 m)/\Smy wr (.slice a0 m.rm.length p0) (.slice a1 m.gd.length p1) (.slice a2 m.sm.length p2) (.slice a3 m.dk.length p3) (.slice a4 m.pc.length p4) m/\Below w.heap.size w wr) (fun _ _ i _=>m.dk.length-(intOf i).toNat)
   case atStart=>exact ⟨0,Zz _,rfl,rfl,rfl,uh kb2,uh Hv2,uh BB2⟩
   case round=>
    obtain ⟨k,hk,rfl,rfl,rfl,hkb,hv,hb0⟩:=hrel;have kb:=Z9 hkb;have Hv3:=Z9 hv;have BB:=Z9 hb0;clear hkb hv hb0 kb2 BB2 Hv2;obtain ⟨e0,e1,e2,e3,e4,e5⟩:=(uh kb).c6;by_cases hlt:k<m.dk.length
    ·have hlt1:(k:Int)<(m.dk.length:Int):=by omega
     have Hno:=Z9 (fun hh=>Cf (m:=m) (who:=(who:Int)) (k:=k) hh);have Hyes:=Z9 (fun ha hh=>EE (m:=m) (who:=(who:Int)) (k:=k) ha hh);have hfo:=S8 ((uh HS).bench hlt);have Hma:=Z9 (fun (W:World) (hW:Below wr.heap.size wr W)=>Ss ((uh Hv3).below hW) (uh HA).lt hlt (by omega) (uh HA).y0 (uh HA).y1);have Hu:=Z9 (fun (W:World) (hW:Below wr.heap.size wr W)=>TN (k:Int) (who:Int) ((uh Hv3).below hW) (uh HS).guilded (by have:=(uh HS).few;omega));have Hf:=Z9 (fun (W:World) (hW:Below wr.heap.size wr W)=>U6 (k:Int) ((uh Hv3).below hW).rm ((uh HS).bench hlt));rw [<-hfo] at Hf;clear hfo;have Ht:=Z9 (fun (W:World)=>Calls.same_below (NR (Zi m (k:Int) (who:Int)) (Zb m.rm (k:Int)) W));generalize YK m (who:Int) k=ma at *;generalize Zi m (k:Int) (who:Int)=us at *;generalize Zb m.rm (k:Int)=fo at *;generalize XE us fo=sp at *;obtain ⟨bt,hbt⟩:∃ q,(YN m (who:Int) k).1=q:=⟨_,rfl⟩
     obtain ⟨mt,hmt⟩:∃ q,(YN m (who:Int) k).2=q:=⟨_,rfl⟩
     rw [hbt,hmt] at Hno Hyes;rw [hbt,hmt];have Hbt:=Z9 hbt;have Hmt:=Z9 hmt;clear hbt hmt;have y0:=ZY e0;have y1:=ZY e1;have y2:=ZY e2;have y3:=ZY e3;have y4:=ZY e4;have y5:=ZY e5;cases ma
     ·go_wp2_with fail
      refine wq ?_
      repeat (go_big_quiet_step (first | exact ZX (uh Hu _ (Z0 _ _ _)) | exact ZX (uh Hf _ (Z0 _ _ _)) | exact ZX (uh Ht _)))
      refine wpQuiet_nil ?_;intro _ hw';obtain ⟨⟨dq,osq⟩,hw''⟩:=hw';subst hw'';go_wp2_with (go_at_call 112;refine (uh Hma _ (Z0 _ _ _)).mono ?_;rintro e w5 ⟨rfl,hb5⟩;have HX:=Z9 ((Z0 wr dq osq).trans (hb5.mono (Z0 _ _ _).size));clear hb5)
      go_roundw
      case rel=>exact ⟨k+1,by omega,by rw [uh Hno (.inl (by simp)),uh Hbt],by rw [uh Hno (.inl (by simp)),uh Hmt],by go_num,(uh kb).below (uh HX) (uh kb).lt,(uh Hv3).below (uh HX),(uh BB).trans ((uh HX).mono (uh BB).size)⟩
      case measure=>exact ms
     by_cases hb1:bt<0
     ·go_wp2_with fail
      refine wq ?_
      repeat (go_big_quiet_step (first | exact ZX (uh Hu _ (Z0 _ _ _)) | exact ZX (uh Hf _ (Z0 _ _ _)) | exact ZX (uh Ht _)))
      refine wpQuiet_nil ?_;intro _ hw';obtain ⟨⟨dq,osq⟩,hw''⟩:=hw';subst hw'';go_wp2_with (go_at_call 112;refine (uh Hma _ (Z0 _ _ _)).mono ?_;rintro e w5 ⟨rfl,hb5⟩;have HX:=Z9 ((Z0 wr dq osq).trans (hb5.mono (Z0 _ _ _).size));clear hb5)
      go_roundw
      case rel=>exact ⟨k+1,by omega,by rw [uh Hyes (by simp) (.inl hb1)],by rw [uh Hyes (by simp) (.inl hb1)],by go_num,(uh kb).below (uh HX) (uh kb).lt,(uh Hv3).below (uh HX),(uh BB).trans ((uh HX).mono (uh BB).size)⟩
      case measure=>exact ms
     by_cases hb2:mt<sp
     ·go_wp2_with fail
      refine wq ?_
      repeat (go_big_quiet_step (first | exact ZX (uh Hu _ (Z0 _ _ _)) | exact ZX (uh Hf _ (Z0 _ _ _)) | exact ZX (uh Ht _)))
      refine wpQuiet_nil ?_;intro _ hw';obtain ⟨⟨dq,osq⟩,hw''⟩:=hw';subst hw'';go_wp2_with (go_at_call 112;refine (uh Hma _ (Z0 _ _ _)).mono ?_;rintro e w5 ⟨rfl,hb5⟩;have HX:=Z9 ((Z0 wr dq osq).trans (hb5.mono (Z0 _ _ _).size));clear hb5)
      go_roundw
      case rel=>exact ⟨k+1,by omega,by rw [uh Hyes (by simp) (.inr hb2)],by rw [uh Hyes (by simp) (.inr hb2)],by go_num,(uh kb).below (uh HX) (uh kb).lt,(uh Hv3).below (uh HX),(uh BB).trans ((uh HX).mono (uh BB).size)⟩
      case measure=>exact ms
     ·go_wp2_with fail
      refine wq ?_
      repeat (go_big_quiet_step (first | exact ZX (uh Hu _ (Z0 _ _ _)) | exact ZX (uh Hf _ (Z0 _ _ _)) | exact ZX (uh Ht _)))
      refine wpQuiet_nil ?_;intro _ hw';obtain ⟨⟨dq,osq⟩,hw''⟩:=hw';subst hw'';go_wp2_with (go_at_call 112;refine (uh Hma _ (Z0 _ _ _)).mono ?_;rintro e w5 ⟨rfl,hb5⟩;have HX:=Z9 ((Z0 wr dq osq).trans (hb5.mono (Z0 _ _ _).size));clear hb5)
      go_roundw
      case rel=>exact ⟨k+1,by omega,by rw [uh Hno (.inr ⟨by omega,by omega⟩),uh Hbt],by rw [uh Hno (.inr ⟨by omega,by omega⟩),uh Hmt],by go_num,(uh kb).below (uh HX) (uh kb).lt,(uh Hv3).below (uh HX),(uh BB).trans ((uh HX).mono (uh BB).size)⟩
      case measure=>exact ms
    ·obtain rfl:k=m.dk.length:=by omega
     go_wp2_with fail;go_ret;exact ⟨rfl,uh BB⟩
 ·rw [FN hcr hle]
  have hlb:(YT m (who:Int)).length<=m.dk.length:=OF m (who:Int) m.dk.length;generalize hL:YT m (who:Int)=L at *;go_enter Tryz.func49,Tryz.ntmps49;go_wp2_with (first | (go_at_call 106;refine (Rw (uh Hv) (uh HS) (uh HA)).mono ?_;rintro e w1 ⟨fv,rfl,hf1,hb1⟩;rw [hL] at hf1;obtain ⟨la,lc,rfl⟩:=RecAt.shape hf1;obtain ⟨g,rfl,_,g1,hgc,_⟩:=RecAt.view YC (by omega) hf1 rfl hle;have C1:=Z9 (fun j hj=>zd hgc (j:=j) hj);have kb1:=Z9 ((uh kb0).below hb1 (uh kb0).lt);have Hv1:=Z9 ((uh Hv).below hb1);have BB1:=Z9 ((uh BB0).trans (hb1.mono (uh BB0).size));clear hf1 hb1 hgc kb0 Hv BB0 c0 c1 c2 c3 c4 c5;have d0:=(uh kb1).cell (i:=0) (v:= .slice a0 m.rm.length p0) rfl;have d1:=(uh kb1).cell (i:=1) (v:= .slice a1 m.gd.length p1) rfl;have d2:=(uh kb1).cell (i:=2) (v:= .slice a2 m.sm.length p2) rfl;have d3:=(uh kb1).cell (i:=3) (v:= .slice a3 m.dk.length p3) rfl;have d4:=(uh kb1).cell (i:=4) (v:= .slice a4 m.pc.length p4) rfl;have d5:=(uh kb1).cell (i:=5) (v:= .int .i64 m.now) rfl) | (go_at_call 107;refine (Rv (uh Hv1) (uh HS)).mono ?_;rintro e w2 ⟨he,hb2⟩;rw [hcr] at he;subst he;have kb2:=Z9 ((uh kb1).below hb2 (uh kb1).lt);have Hv2:=Z9 ((uh Hv1).below hb2);have BB2:=Z9 ((uh BB1).trans (hb2.mono (uh BB1).size));have C2:=Z9 (fun j hj=>(hb2.cell (p:=⟨g,j,none⟩) g1).trans (uh C1 j hj));have g2:=Zd g1 hb2.size;clear hb2 kb1 Hv1 BB1 C1 g1 d0 d1 d2 d3 d4 d5;have d0:=(uh kb2).cell (i:=0) (v:= .slice a0 m.rm.length p0) rfl;have d1:=(uh kb2).cell (i:=1) (v:= .slice a1 m.gd.length p1) rfl;have d2:=(uh kb2).cell (i:=2) (v:= .slice a2 m.sm.length p2) rfl;have d3:=(uh kb2).cell (i:=3) (v:= .slice a3 m.dk.length p3) rfl;have d4:=(uh kb2).cell (i:=4) (v:= .slice a4 m.pc.length p4) rfl;have d5:=(uh kb2).cell (i:=5) (v:= .int .i64 m.now) rfl;have x0:=uh C2 0 hle) | (go_at_call 108;refine (Od _ (uh Hv2) (uh HS) (uh HP) (uh HA).lt (uh HA).st).mono ?_;rintro e w3 ⟨rfl,hb3⟩;have B3:=Z9 hb3;clear hb3) | fail)
  have kb3:=Z9 ((uh kb2).below (uh B3) (uh kb2).lt);have Hv3:=Z9 ((uh Hv2).below (uh B3));have BB3:=Z9 ((uh BB2).trans ((uh B3).mono (uh BB2).size));have C3:=Z9 (fun j hj=>((uh B3).cell (p:=⟨g,j,none⟩) g2).trans (uh C2 j hj));have g3:=Zd g2 (uh B3).size;clear kb2 Hv2 BB2 B3 C2 g2 d0 d1 d2 d3 d4 d5 x0
  go_loopw [6,7,8] (fun bv lv i wr=> ∃ k:Nat,1<=k/\k<=L.length/\bv= .int .i64 (Xj m (who:Int) L k).1/\lv= .int .i64 (Xj m (who:Int) L k).2/\i= .int .i64 k/\(∀ j,j<L.length->wr.cell? ⟨g,j,none⟩=some (.int .i64 (Z8 L j)))/\g<wr.heap.size/\Blk wr w.heap.size 32 (S6 a0 p0 a1 p1 a2 p2 a3 p3 a4 p4 m)/\Smy wr (.slice a0 m.rm.length p0) (.slice a1 m.gd.length p1) (.slice a2 m.sm.length p2) (.slice a3 m.dk.length p3) (.slice a4 m.pc.length p4) m/\Below w.heap.size w wr) (fun _ _ i _=>L.length-(intOf i).toNat)
  case atStart=>exact ⟨1,Z2 _,by omega,by rw [Lz],by rw [Lz],rfl,uh C3,g3,uh kb3,uh Hv3,uh BB3⟩
  case round=>
   obtain ⟨k,hk1,hk,rfl,rfl,rfl,hc,hg,hkb,hv,hb0⟩:=hrel;have HC:=Z9 hc;have kb:=Z9 hkb;have Hv4:=Z9 hv;have BB:=Z9 hb0;clear hkb hv hb0 kb3 BB3 Hv3 hc C3 g3;obtain ⟨e0,e1,e2,e3,e4,e5⟩:=(uh kb).c6;by_cases hlt:k<L.length
   ·have hlt1:(k:Int)<(L.length:Int):=by omega
    have x0:=uh HC k hlt;obtain ⟨_,_,hse,_,_,r2⟩:=(uh Hv4).sm;cases hse;have hwl:=(uh HA).lt
    rcases r2 with e0 | ⟨sb,so,rfl,hbs,hcs⟩
    ·rw [e0] at hwl;simp at hwl
    obtain ⟨_,s1,_⟩:=Zx hcs hwl;clear hcs;have hwl1:(who:Int)<(m.sm.length:Int):=by omega
    have Hno:=Z9 (fun hh=>BC (m:=m) (who:=who) (k:=k) hk1 hlt hh);have Hyes:=Z9 (fun hh=>DR (m:=m) (who:=who) (k:=k) hk1 hlt hh);have Hw:=Z9 (fun (W:World) (hW:Below wr.heap.size wr W)=>Od (Z8 L k) ((uh Hv4).below hW) (uh HS) (uh HP) (uh HA).lt (uh HA).st);generalize Zl m (who:Int) (Z8 L k)=n at *;generalize Z8 L k=x at *;generalize (Z8 m.sm who).2.1=y at *;obtain ⟨bt,hbt⟩:∃ q,(Xj m (who:Int) L k).1=q:=⟨_,rfl⟩
    obtain ⟨lt,hmt⟩:∃ q,(Xj m (who:Int) L k).2=q:=⟨_,rfl⟩
    rw [hmt] at Hno Hyes;rw [hbt,hmt];have Hbt:=Z9 hbt;have Hmt:=Z9 hmt;clear hbt hmt;have y0:=ZY e0;have y1:=ZY e1;have y2:=ZY e2;have y3:=ZY e3;have y4:=ZY e4;have y5:=ZY e5;have z0:=ZY x0;have z1:=ZY s1;go_wp2_with fail;refine wq ?_
    repeat (go_big_quiet_step (first | exact ZX (uh Hw _ (Z0 _ _ _))))
    refine wpQuiet_nil ?_;intro _ hw';obtain ⟨⟨dq,osq⟩,hw''⟩:=hw';subst hw'';go_wp2_with fail;have hX:=Z9 (Z0 wr dq osq);have q0:=y0 dq osq;have q1:=y1 dq osq;have q2:=y2 dq osq;have q3:=y3 dq osq;have q4:=y4 dq osq;have q5:=y5 dq osq;have r0:=z0 dq osq;have r1:=z1 dq osq;clear z0 z1 x0 s1 y0 y1 y2 y3 y4 y5 e0 e1 e2 e3 e4 e5 Hw;have HC2:=Z9 (fun j hj=>((uh hX).cell (p:=⟨g,j,none⟩) hg).trans (uh HC j hj));have hg2:=Zd hg (uh hX).size;have kb9:=Z9 ((uh kb).below (uh hX) (uh kb).lt);have Hv9:=Z9 ((uh Hv4).below (uh hX));have BB9:=Z9 ((uh BB).trans ((uh hX).mono (uh BB).size));clear HC hg kb Hv4 BB hX hbs;generalize grow (redrawn wr dq) osq=X at *;have r2:=ZY r0;have r3:=ZY r1;have t0:=ZY q0;have t1:=ZY q1;have t2:=ZY q2;have t3:=ZY q3;have t4:=ZY q4;have t5:=ZY q5;by_cases hn:n<lt
    ·refine wq ?_
     repeat (go_big_quiet_step (fail))
     refine wpQuiet_nil ?_;intro _ hw';obtain ⟨⟨dq,osq⟩,hw''⟩:=hw';subst hw'';go_wp2_with fail;go_roundw
     case rel=>exact ⟨k+1,by omega,by omega,by rw [uh Hyes (by omega)],by rw [uh Hyes (by omega)],by go_num,fun j hj=>((Z0 X dq osq).cell (p:=⟨g,j,none⟩) hg2).trans (uh HC2 j hj),Zd hg2 (Z0 X dq osq).size,(uh kb9).below (Z0 X dq osq) (uh kb9).lt,(uh Hv9).below (Z0 X dq osq),(uh BB9).trans ((Z0 X dq osq).mono (uh BB9).size)⟩
     case measure=>exact ms
    by_cases he:n=lt
    ·subst he
     by_cases hxy:x=y
     ·subst hxy
      refine wq ?_
      repeat (go_big_quiet_step (fail))
      refine wpQuiet_nil ?_;intro _ hw';obtain ⟨⟨dq,osq⟩,hw''⟩:=hw';subst hw'';go_wp2_with fail;go_roundw
      case rel=>exact ⟨k+1,by omega,by omega,by rw [uh Hyes (by omega)],by rw [uh Hyes (by omega)],by go_num,fun j hj=>((Z0 X dq osq).cell (p:=⟨g,j,none⟩) hg2).trans (uh HC2 j hj),Zd hg2 (Z0 X dq osq).size,(uh kb9).below (Z0 X dq osq) (uh kb9).lt,(uh Hv9).below (Z0 X dq osq),(uh BB9).trans ((Z0 X dq osq).mono (uh BB9).size)⟩
      case measure=>exact ms
     ·refine wq ?_
      repeat (go_big_quiet_step (fail))
      refine wpQuiet_nil ?_;intro _ hw';obtain ⟨⟨dq,osq⟩,hw''⟩:=hw';subst hw'';go_wp2_with fail;go_roundw
      case rel=>exact ⟨k+1,by omega,by omega,by rw [uh Hno (by omega),uh Hbt],by rw [uh Hno (by omega),uh Hmt],by go_num,fun j hj=>((Z0 X dq osq).cell (p:=⟨g,j,none⟩) hg2).trans (uh HC2 j hj),Zd hg2 (Z0 X dq osq).size,(uh kb9).below (Z0 X dq osq) (uh kb9).lt,(uh Hv9).below (Z0 X dq osq),(uh BB9).trans ((Z0 X dq osq).mono (uh BB9).size)⟩
      case measure=>exact ms
    ·have e1:(n ==lt)=false:=by simpa using he
     have e2:decide (n=lt)=false:=Xn he;refine wq ?_
     repeat (go_big_quiet_step (fail))
     refine wpQuiet_nil ?_;intro _ hw';obtain ⟨⟨dq,osq⟩,hw''⟩:=hw';subst hw'';go_wp2_with fail;go_roundw
     case rel=>exact ⟨k+1,by omega,by omega,by rw [uh Hno (by omega),uh Hbt],by rw [uh Hno (by omega),uh Hmt],by go_num,fun j hj=>((Z0 X dq osq).cell (p:=⟨g,j,none⟩) hg2).trans (uh HC2 j hj),Zd hg2 (Z0 X dq osq).size,(uh kb9).below (Z0 X dq osq) (uh kb9).lt,(uh Hv9).below (Z0 X dq osq),(uh BB9).trans ((Z0 X dq osq).mono (uh BB9).size)⟩
     case measure=>exact ms
   ·obtain rfl:k=L.length:=by omega
    go_wp2_with fail;go_ret;exact ⟨rfl,uh BB⟩
def ZC (m:Z6) (b:Nat):Nat->Nat
 | 0=>0
 | k+1=>if (Z8 m.dk k).1 && !(k ==b) then ZC m b k ||| 2 ^ k else ZC m b k
theorem VX (m:Z6) (b:Nat):∀ k j:Nat,(ZC m b k).testBit j=(decide (j<k) && ((Z8 m.dk j).1 && !(j ==b)))
 | 0,j=>by simp [ZC]
 | k+1,j=>by
  have ih:=VX m b k j;unfold ZC;by_cases e:j=k
  ·subst e
   have hj:(ZC m b j).testBit j=false:=by rw [ih];simp
   split
   ·rename_i h
    rw [Nat.testBit_or,hj,Nat.testBit_two_pow_self,h];simp
   ·rename_i h
    rw [hj];have:((Z8 m.dk j).1 && !(j ==b))=false:=by simpa using h
    rw [this];simp
  ·have hd:decide (j<k+1)=decide (j<k):=by
    by_cases h:j<k
    ·rw [decide_eq_true h,decide_eq_true (by omega)]
    ·rw [decide_eq_false h,decide_eq_false (by omega)]
   rw [hd]
   split
   ·rw [Nat.testBit_or,ih,Nat.testBit_two_pow_of_ne (by omega),Bool.or_false]
   ·exact ih
theorem Mz (m:Z6) (b:Nat):∀ k:Nat,ZC m b k<2 ^ k
 | 0=>by simp [ZC]
 | k+1=>by
  have ih:=Mz m b k;have hp:2 ^ (k+1)=2*2 ^ k:=by rw [Nat.pow_succ];omega
  unfold ZC
  split
  ·exact Nat.or_lt_two_pow (by omega) (by omega)
  ·omega
theorem Rb {x:Nat} (h:x ≠ 0):∃ j,x.testBit j=true:=by
 refine Classical.byContradiction fun hn=>h ?_;apply Nat.eq_of_testBit_eq;intro i;rw [Nat.zero_testBit];cases hi:x.testBit i
 ·rfl
 ·exact absurd ⟨i,hi⟩ hn
theorem LA {s:Int} (h:0<=s) (j:Nat):V0 s (j:Int)=s.toNat.testBit j:=by
 obtain ⟨n,rfl⟩:=Int.eq_ofNat_of_zero_le h;unfold V0;rw [Nat.testBit_eq_decide_div_mod_eq];simp only [Zy]
 congr 1
 apply propext;constructor
 ·intro h
  exact_mod_cast h
 ·intro h
  exact_mod_cast h
def Zn (n:Nat):Int:=(2:Int) ^ n-1
theorem NX (n:Nat):Zn n=((2 ^ n-1:Nat):Int):=by
 have h:1<=2 ^ n:=Nat.one_le_two_pow;unfold Zn;rw [Int.natCast_sub h]
 push_cast
 rfl
theorem FA {n j:Nat} (h:j<n):V0 (Zn n) (j:Int)=true:=by
 rw [LA (by rw [NX];omega),NX,Zy,Nat.testBit_two_pow_sub_one];exact VN h
theorem P1 {n:Nat} (h1:1<=n) (h8:n<=8):1<=Zn n/\Zn n<=255:=by
 have key:∀ k:Fin 8,1<=Zn (k.val+1)/\Zn (k.val+1)<=255:=by unfold Zn;decide
 have:=key ⟨n-1,by omega⟩
 rwa [show n-1+1=n by omega] at this
def TP (op n:Nat) (may:Int):Int:=if may.toNat &&& op=0 then Zn n else may
theorem EC {op n:Nat} {may:Int} (h0:0<=may) (hop:op ≠ 0) (hn:∀ j,op.testBit j=true->j<n):∃ j,op.testBit j=true/\V0 (TP op n may) (j:Int)=true:=by
 unfold TP
 split
 ·obtain ⟨j,hj⟩:=Rb hop
  exact ⟨j,hj,FA (hn j hj)⟩
 ·rename_i h
  obtain ⟨j,hj⟩:=Rb h;rw [Nat.testBit_and] at hj;simp only [ZL] at hj;exact ⟨j,hj.2,by rw [LA h0];exact hj.1⟩
theorem Aq {op n:Nat} {may:Int} (h1:1<=n) (h8:n<=8) (m0:1<=may) (m1:may<=255):1<=TP op n may/\TP op n may<=255:=by
 unfold TP
 split
 ·exact P1 h1 h8
 ·exact ⟨m0,m1⟩
def closeX (op:Nat) (m:Z6) (w:Nat):Z6:=XU m w (TP op m.dk.length (Z8 m.sm w).2.2.2.1)
def OC (op:Nat) (m:Z6) (w:Nat):Int:=Y1 (closeX op m w) (w:Int)
def Xv (op:Nat) (m:Z6) (w:Nat):Z6:=setS (closeX op m w) w (putS (closeX op m w) (Z8 (closeX op m w).sm w) (OC op m w))
def YS (op:Nat) (m:Z6) (q:List Z4):Nat->Z6
 | 0=>m
 | k+1=>Xv op (YS op m q k) (Z7 q k).2.toNat
structure Shut (m0:Z6) (b:Nat) (P:Nat->Prop) (m:Z6):Prop where
 rm:m.rm=m0.rm
 gd:m.gd=m0.gd
 pc:m.pc=m0.pc
 now:m.now=m0.now
 dk:m.dk=(Zk m0 b false).dk
 len:m.sm.length=m0.sm.length
 here:∀ i,i<m.sm.length->Yb m (Z8 m.sm i)=true
 seat:∀ i,i<m.sm.length-> ¬ P i->XQ m (Z8 m.sm i)=true
 left:∀ i,P i->i<m.sm.length/\ZR (Z8 m.sm i)=true/\(Z8 m.sm i).2.1=(b:Int)/\WE (Yn (Z8 m.sm i)) (YJ m (b:Int))=true
theorem TS {b:Nat} (hb:b<m.dk.length) (o:Bool) (j:Nat):Z8 (Zk m b o).dk j=if j=b then (o,(Z8 m.dk b).2) else Z8 m.dk j:=ZI hb j
theorem XR (m:Z6) (b:Nat) (o:Bool):(Zk m b o).dk.length=m.dk.length:=by unfold Zk;simp
theorem Q4 {b:Nat} (hb:b<m.dk.length) (o:Bool) (j:Nat):(Z8 (Zk m b o).dk j).2=(Z8 m.dk j).2:=by
 rw [TS hb];by_cases e:j=b
 ·rw [if_pos e,e]
 ·rw [if_neg e]
theorem E7 {m0:Z6} (h:Loose m0) {b:Nat} (hb:b<m0.dk.length):Shut m0 b (fun i=>i<m0.sm.length/\(Z8 m0.sm i).2.1=(b:Int)/\ZR (Z8 m0.sm i)=true) (Zk m0 b false):=by
 refine ⟨rfl,rfl,rfl,rfl,rfl,rfl,fun i hi=> ?_,fun i hi hn=> ?_,fun i hp=> ?_⟩
 ·rw [Wx (m:=m0) (m':=Zk m0 b false) rfl (XR _ _ _)]
  exact h.here i hi
 ·cases hp:ZR (Z8 m0.sm i)
  ·exact Uy hp
  ·obtain ⟨a0,a1,a2,a3,a4⟩:=h.at (i:=i) hi hp
   have hne:(Z8 m0.sm i).2.1.toNat ≠ b:=by
    intro e;exact hn ⟨hi,by omega,hp⟩
   refine Nt (m:=Zk m0 b false) (s:=Z8 m0.sm i) ?_ a3 ?_
   ·rw [TS hb,if_neg hne];exact a2
   ·rw [Q4 hb];exact a4
 ·obtain ⟨hi,e,hp⟩:=hp
  obtain ⟨a0,a1,a2,a3,a4⟩:=h.at (i:=i) hi hp;refine ⟨hi,hp,e,?_⟩;rw [e] at a4;show WE _ (Z8 (Zk m0 b false).dk ((b:Int)).toNat).2.2=true;rw [Q4 hb];exact a4
theorem Shut.bare {m0 m:Z6} {b:Nat} {P:Nat->Prop} (h:Shut m0 b P m) (h0:Loose m0) (hb:b<m0.dk.length) (hop:ZC m0 b m0.dk.length ≠ 0):Loose { m with sm:=[] }:=by
 have hl:m.dk.length=m0.dk.length:=by rw [h.dk,XR]
 refine ⟨?_,?_,?_,fun i hi=>absurd hi (Nat.not_lt_zero _),fun i hi=>absurd hi (Nat.not_lt_zero _),?_⟩
 ·have:=h0.head
  unfold YG at this ⊢;simp only [ZL,YZ] at this ⊢;rw [h.rm,h.gd,h.pc,h.now,hl];exact ⟨this.1,this.2.1,by simp,this.2.2.2⟩
 ·intro j hj
  show VB (Z8 m.dk j)=true;have hj':j<m.dk.length:=hj;have:=h0.desk j (by omega);unfold VB at this ⊢;rw [h.dk,Q4 hb];exact this
 ·intro j hj
  have:=h0.pace j (by rw [<-h.pc];exact hj);unfold Wm at this ⊢;simp only;rw [h.pc,h.rm];exact this
 ·obtain ⟨j,hj⟩:=Rb hop
  rw [VX] at hj;simp only [ZL,YZ,Bool.not_eq_true',beq_eq_false_iff_ne] at hj;refine ⟨j,(by show j<m.dk.length;omega),?_⟩;show (Z8 m.dk j).1=true;rw [h.dk,TS hb,if_neg hj.2.2];exact hj.2.1
theorem Shut.pres {m0 m:Z6} {b:Nat} {P:Nat->Prop} (h:Shut m0 b P m) {i:Nat} (hp:P i):YY (Z8 m.sm i)=true/\(Z8 m.sm i).2.2.2.2.1<m.gd.length:=by
 obtain ⟨hi,hp1,_⟩:=h.left i hp
 rcases XP.1 (h.here i hi) with e | e
 ·rw [e] at hp1;cases hp1
 ·exact ⟨e.1,e.2.1⟩
theorem Shut.sane {m0 m:Z6} {b:Nat} {P:Nat->Prop} (h:Shut m0 b P m) (h0:Loose m0):Sane m:=by
 have s0:=h0.sane
 have lim:∀ i,i<m.sm.length->(Z8 m.sm i).1 ≠ 0->YY (Z8 m.sm i)=true/\(Z8 m.sm i).2.2.2.2.1<m.gd.length:=fun i hi hs=>by
  rcases XP.1 (h.here i hi) with e | e
  ·rw [e] at hs;exact absurd rfl hs
  ·exact ⟨e.1,e.2.1⟩
 refine ⟨by rw [h.rm];exact s0.hall,by rw [h.rm,h.dk,XR];exact s0.dk,⟨by rw [h.gd];exact s0.guilded.gd,fun i hi hs=> ?_,fun i hi hs=>(lim i hi hs).2⟩,by rw [h.len];exact s0.few⟩;have hp:=(lim i hi hs).1;generalize Z8 m.sm i=s at *;obtain ⟨st,be,rk,my,gu,lo',hi',hd,ca,ut,wk⟩:=s;exact (Zj hp).2.2.2.2.1.1
theorem Sx {k:Nat} (hk:k<m.sm.length) (may:Int) (i:Nat):Z8 (XU m k may).sm i=if i=k then U7 (Z8 m.sm k) may else Z8 m.sm i:=ZI hk i
theorem Shut.may {m0 m:Z6} {b:Nat} {P:Nat->Prop} (h:Shut m0 b P m) {w:Nat} (hw:P w) {may:Int} (y0:1<=may) (y1:may<=255):Shut m0 b P (XU m w may):=by
 obtain ⟨hwl,hp,hbe,hba⟩:=h.left w hw;obtain ⟨hpb,hg⟩:=h.pres hw;have hlen:(XU m w may).sm.length=m.sm.length:=by unfold XU setS;simp
 refine ⟨h.rm,h.gd,h.pc,h.now,h.dk,by rw [hlen];exact h.len,fun i hi=> ?_,fun i hi hn=> ?_,fun i hi=> ?_⟩
 ·rw [Wx (m:=m) (m':=XU m w may) rfl rfl,Sx hwl]
  split
  ·refine XP.2 (.inr ⟨Kg hpb y0 y1,hg,?_⟩)
   rcases XP.1 (h.here w hwl) with e | e
   ·rw [e] at hp;cases hp
   ·exact e.2.2
  ·exact h.here i (by omega)
 ·rw [Sx hwl,if_neg (fun e=>hn (by rw [e];exact hw))]
  exact h.seat i (by omega) hn
 ·obtain ⟨a,b1,c,d⟩:=h.left i hi
  refine ⟨by omega,?_⟩;rw [Sx hwl]
  split
  ·rename_i e
   subst e;exact ⟨b1,c,d⟩
  ·exact ⟨b1,c,d⟩
theorem Shut.chosen {m0 m:Z6} {b:Nat} {P:Nat->Prop} (h:Shut m0 b P m) (h0:Loose m0) (hb:b<m0.dk.length) (hop:ZC m0 b m0.dk.length ≠ 0) {w:Nat} (hw:P w):∃ j:Nat,j<m.dk.length/\OC (ZC m0 b m0.dk.length) m w=(j:Int)/\YK (closeX (ZC m0 b m0.dk.length) m w) (w:Int) j=true:=by
 obtain ⟨hwl,hp,hbe,hba⟩:=h.left w hw;obtain ⟨hpb,hg⟩:=h.pres hw;have hl:m.dk.length=m0.dk.length:=by rw [h.dk,XR]
 rcases VR (closeX (ZC m0 b m0.dk.length) m w) (w:Int) with ⟨_,hn⟩ | ⟨j,hj,e,hm⟩
 ·exfalso
  have hy:0<=(Z8 m.sm w).2.2.2.1:=by
   generalize Z8 m.sm w=s at *;obtain ⟨st,be,rk,my,gu,lo',hi',hd,ca,ut,wk⟩:=s;have:=(Zj hpb).2.2.2.1.1;show 0<=my;omega
  obtain ⟨j,hj,hbit⟩:=EC (op:=ZC m0 b m0.dk.length) (n:=m.dk.length) hy hop (fun j hj=>by
   rw [VX] at hj;simp only [ZL,YZ] at hj
   omega)
  rw [VX] at hj;simp only [ZL,YZ,Bool.not_eq_true',beq_eq_false_iff_ne] at hj;have:=hn j (by show j<m.dk.length;omega);unfold YK at this
  rw [show (Z8 (closeX (ZC m0 b m0.dk.length) m w).dk j).1=true from by
   show (Z8 m.dk j).1=true;rw [h.dk,TS hb,if_neg hj.2.2]
   exact hj.2.1,Zy,show Z8 (closeX (ZC m0 b m0.dk.length) m w).sm w=U7 (Z8 m.sm w) (TP (ZC m0 b m0.dk.length) m.dk.length (Z8 m.sm w).2.2.2.1) from by
    unfold closeX
    rw [Sx hwl,if_pos rfl]] at this
  rw [show (U7 (Z8 m.sm w) (TP (ZC m0 b m0.dk.length) m.dk.length (Z8 m.sm w).2.2.2.1)).2.2.2.1=TP (ZC m0 b m0.dk.length) m.dk.length (Z8 m.sm w).2.2.2.1 from rfl,hbit] at this;cases this
 ·exact ⟨j,hj,e,hm⟩
theorem Shut.closeX {m0 m:Z6} {b:Nat} {P:Nat->Prop} (h:Shut m0 b P m) (h0:Loose m0) {w:Nat} (hw:P w) (op:Nat):Shut m0 b P (closeX op m w):=by
 obtain ⟨hpb,hg⟩:=h.pres hw;have hl:m.dk.length=m0.dk.length:=by rw [h.dk,XR]
 have h8:=VQ h0;obtain ⟨j,hj,_⟩:=h0.openD
 have hy:1<=(Z8 m.sm w).2.2.2.1/\(Z8 m.sm w).2.2.2.1<=255:=by
  generalize Z8 m.sm w=s at *;obtain ⟨st,be,rk,my,gu,lo',hi',hd,ca,ut,wk⟩:=s;exact (Zj hpb).2.2.2.1
 obtain ⟨y0,y1⟩:=Aq (op:=op) (n:=m.dk.length) (by omega) (by omega) hy.1 hy.2;exact h.may hw y0 y1
theorem Shut.step {m0 m:Z6} {b:Nat} {P:Nat->Prop} (h:Shut m0 b P m) (h0:Loose m0) (hb:b<m0.dk.length) (hop:ZC m0 b m0.dk.length ≠ 0) {w:Nat} (hw:P w) :
  Shut m0 b (fun i=>P i/\i ≠ w) (Xv (ZC m0 b m0.dk.length) m w):=by
 obtain ⟨j,hj,ej,hm⟩:=h.chosen h0 hb hop hw;have hx:=h.closeX h0 hw (ZC m0 b m0.dk.length);unfold Xv;rw [ej];generalize Go.Proofs.YtamgfpdahadnfaaGreatDoor.closeX (ZC m0 b m0.dk.length) m w=x at *;have hjx:j<x.dk.length:=by rw [hx.dk,<-h.dk];exact hj
 obtain ⟨hwl,hp,hbe,hba⟩:=hx.left w hw;obtain ⟨hpb,hg⟩:=hx.pres hw;unfold YK at hm;simp only [ZL,Zy] at hm;have hbl:b<x.dk.length:=by rw [hx.dk,XR];exact hb
 have hk:=Mo (m:={ x with sm:=[] }) (hx.bare h0 hb hop) (s:=Z8 x.sm w) (b:=j) hpb hp hg (by omega) (by rw [hbe];show (b:Int)<x.dk.length;omega) (by rw [hbe];exact hba) hjx hm.1 hm.2;have k1:Yb x (putS x (Z8 x.sm w) (j:Int))=true:=hk.1;have k2:XQ x (putS x (Z8 x.sm w) (j:Int))=true:=hk.2;have hat:∀ i,Z8 (setS x w (putS x (Z8 x.sm w) (j:Int))).sm i=if i=w then putS x (Z8 x.sm w) (j:Int) else Z8 x.sm i:=fun i=>ZI hwl i
 have hlen:(setS x w (putS x (Z8 x.sm w) (j:Int))).sm.length=x.sm.length:=by unfold setS;simp
 refine ⟨hx.rm,hx.gd,hx.pc,hx.now,hx.dk,by rw [hlen];exact hx.len,fun i hi=> ?_,fun i hi hn=> ?_,fun i hi=> ?_⟩
 ·rw [Wx (m:=x) (m':=setS x w (putS x (Z8 x.sm w) (j:Int))) rfl rfl,hat]
  split
  ·exact k1
  ·exact hx.here i (by omega)
 ·show XQ x (Z8 (setS x w (putS x (Z8 x.sm w) (j:Int))).sm i)=true
  rw [hat]
  split
  ·exact k2
  ·rename_i e
   exact hx.seat i (by omega) (fun hpi=>hn ⟨hpi,e⟩)
 ·obtain ⟨hpi,e⟩:=hi
  obtain ⟨a,b1,c,d⟩:=hx.left i hpi;refine ⟨by omega,?_⟩;rw [hat,if_neg e];exact ⟨b1,c,d⟩
theorem Shut.weak {m0 m:Z6} {b:Nat} {P Q:Nat->Prop} (h:Shut m0 b P m) (h1:∀ i,P i->Q i) (h2:∀ i,Q i->P i):Shut m0 b Q m:=
 ⟨h.rm,h.gd,h.pc,h.now,h.dk,h.len,h.here,fun i hi hn=>h.seat i hi (fun hp=>hn (h1 i hp)),fun i hi=>h.left i (h2 i hi)⟩
def PZ (q:List Z4) (k:Nat) (i:Nat):Prop:= ∃ j,k<=j/\j<q.length/\(Z7 q j).2=(i:Int)
theorem SK {m0:Z6} (h0:Loose m0) {b:Nat} (hb:b<m0.dk.length) (hop:ZC m0 b m0.dk.length ≠ 0):∀ k,k<=(atV m0.sm b m0.sm.length).length->
  Shut m0 b (PZ (atV m0.sm b m0.sm.length) k) (YS (ZC m0 b m0.dk.length) (Zk m0 b false) (atV m0.sm b m0.sm.length) k)
 | 0,_=>by
  refine (E7 h0 hb).weak (fun i hi=> ?_) (fun i hi=> ?_)
  ·have hm:(Yn (Z8 m0.sm i),(i:Int)) ∈ atV m0.sm b m0.sm.length:=(Yi m0.sm b _ m0.sm.length).2 ⟨i,hi.1,hi.2.1,hi.2.2,rfl⟩
   obtain ⟨j,hj,e⟩:=Sy hm;exact ⟨j,Zz _,hj,by rw [e]⟩
  ·obtain ⟨j,_,hj,e⟩:=hi
   obtain ⟨i',hi',h1,h2,e2⟩:=(Yi m0.sm b _ m0.sm.length).1 (XV hj);rw [e2] at e
   have:i'=i:=by
    have e3:(i':Int)=(i:Int):=e;omega
   subst this;exact ⟨hi',h1,h2⟩
 | k+1,hk=>by
  have ih:=SK h0 hb hop k (by omega);obtain ⟨i',hi',h1,h2,e2⟩:=(Yi m0.sm b _ m0.sm.length).1 (XV (show k<(atV m0.sm b m0.sm.length).length by omega));have hw:PZ (atV m0.sm b m0.sm.length) k i':=⟨k,Z2 _,by omega,by rw [e2]⟩
  have:=ih.step h0 hb hop hw;unfold YS;rw [e2];show Shut m0 b _ (Xv _ _ ((i':Int)).toNat);rw [Zy];refine this.weak (fun i hi=> ?_) (fun i hi=> ?_)
  ·obtain ⟨⟨j,hj,hjl,e⟩,hne⟩:=hi
   refine ⟨j,?_,hjl,e⟩
   rcases Nat.lt_or_ge k j with hlt | hge
   ·omega
   ·exfalso
    have:j=k:=by omega
    subst this;rw [e2] at e;apply hne;have:(i':Int)=(i:Int):=e;omega
  ·obtain ⟨j,hj,hjl,e⟩:=hi
   refine ⟨⟨j,by omega,hjl,e⟩,fun hii=> ?_⟩;subst hii;have hpw:=SW m0.sm b m0.sm.length;have hat:∀ n (hn:n<(atV m0.sm b m0.sm.length).length),Z7 (atV m0.sm b m0.sm.length) n=(atV m0.sm b m0.sm.length)[n]:=fun n hn=>by unfold Z7;simp [List.getD,hn]
   have:=List.pairwise_iff_getElem.1 hpw k j (by omega) hjl (by omega);rw [<-hat k (by omega),<-hat j hjl] at this;apply this;rw [e2,e]
theorem Qi {m0:Z6} (h0:Loose m0) {b:Nat} (hb:b<m0.dk.length) (hop:ZC m0 b m0.dk.length ≠ 0):Loose (YS (ZC m0 b m0.dk.length) (Zk m0 b false) (atV m0.sm b m0.sm.length) (atV m0.sm b m0.sm.length).length):=by
 have h:=SK h0 hb hop _ (Z2 _)
 have hno:∀ i,¬ PZ (atV m0.sm b m0.sm.length) (atV m0.sm b m0.sm.length).length i:=fun i hi=>by
  obtain ⟨j,h1,h2,_⟩:=hi;omega
 generalize YS (ZC m0 b m0.dk.length) (Zk m0 b false) (atV m0.sm b m0.sm.length) (atV m0.sm b m0.sm.length).length=x at *;have hb':=h.bare h0 hb hop;refine ⟨?_,hb'.desk,hb'.pace,h.here,fun i hi=>h.seat i hi (hno i),hb'.openD⟩;have:=hb'.head;unfold YG at this ⊢;simp only [ZL,YZ] at this ⊢;exact ⟨this.1,this.2.1,by rw [h.len];exact YO h0,this.2.2.2⟩
def Yr (m:Z6) (b:Int):Z6 × Int:=
 if ZF m then (if YP m b then (if (Z8 m.dk b.toNat).1 then (if ZC m b.toNat m.dk.length=0 then (m,5) else
  (ZP (YS (ZC m b.toNat m.dk.length) (Zk m b.toNat false) (atV m.sm b m.sm.length) (atV m.sm b m.sm.length).length),0)) else (m,2)) else (m,1)) else (Yc,3)
theorem Pm {b:Int} (h:YP m b=true):∃ k:Nat,b=(k:Int)/\k<m.dk.length:=by
 have:=ZJ (show inB b 0 ((m.dk.length:Int)-1)=true from h);exact ⟨b.toNat,by omega,by omega⟩
theorem Pp (h:ZF m=true) (b:Int):ZF (Yr m b).1=true:=by
 unfold Yr;rw [h];simp only [if_true]
 split
 ·rename_i hb
  obtain ⟨k,rfl,hk⟩:=Pm hb;rw [Zy]
  split
  ·split
   ·exact h
   ·rename_i hop
    exact YE (Qi (ZM h) hk hop)
  ·exact h
 ·exact h
end Go.Proofs.YtamgfpdahadnfaaGreatDoor
