/- Part 13 of what the proof rests on. No condition but those that a theorem names. -/
import Derived.Test.YtamgfpdahadnfaaGreatDoorXh12
set_option maxHeartbeats 8000000
set_option maxRecDepth 100000
namespace Go.Proofs.YtamgfpdahadnfaaGreatDoor
open Go.ChangeShapes Go.WideShapes Go.ChangeAt Go.RowKit Go.Sort
set_option linter.unusedVariables false
variable {w w' w0 w1 w2 w3 w₀ wr W W' X A B C : World} {v v0 v1 v2 v3 v4 u u0 u1 u2 u3 u4 : Value} {m : Z6}
theorem CM {room:Int} {k:Nat} (h:¬ (Xo m.rm k:Int)=room):YV m room (k+1)=YV m room k:=by show (if _ then _ else _)=_;rw [if_neg h]
theorem Fk {room:Int} {k:Nat} (h:(Xo m.rm k:Int)=room):YV m room (k+1)=((if (Z8 m.dk k).1 then max (YV m room k).1 (Zc m k (-1)) else (YV m room k).1),(YV m room k).2+Zc m k (-1)):=by show (if _ then _ else _)=_;rw [if_pos h]
theorem N5  (room:Int) (h:Smy w v0 v1 v2 v3 v4 m) (hS:Sane m) :
  Calls Tryz.prog 264 #[.agg #[v0,v1,v2,v3,v4,.int .i64 m.now],.int .i64 room] w fun e w'=>e= .returned (.tuple #[.int .i64 (YV m room m.dk.length).1,.int .i64 (YV m room m.dk.length).2])/\Below w.heap.size w w':=by
 have Hv:=Z9 (h.alloc (.cells #[v0,v1,v2,v3,v4,.int .i64 m.now] 32));obtain ⟨a0,p0,a1,p1,a2,p2,a3,p3,a4,p4,rfl,rfl,rfl,rfl,rfl,_,_,_,_,_,_,_,_,_,_⟩:=h.five;clear h;have HS:=Z9 hS;obtain ⟨BB0,kb0⟩:=Wd w 32 (S6 a0 p0 a1 p1 a2 p2 a3 p3 a4 p4 m);have h8:=hS.eight;have hbd:=Pa m room hS.few;have Hbd:=Z9 hbd;clear hS hbd;go_enter Tryz.func264,Tryz.ntmps264;go_wp2_with fail
 go_loopw [6,7,8] (fun mo al i wr=> ∃ k:Nat,k<=m.dk.length/\i= .int .i64 k/\mo= .int .i64 (YV m room k).1/\al= .int .i64 (YV m room k).2/\Blk wr w.heap.size 32 (S6 a0 p0 a1 p1 a2 p2 a3 p3 a4 p4 m)/\Smy wr (.slice a0 m.rm.length p0) (.slice a1 m.gd.length p1) (.slice a2 m.sm.length p2) (.slice a3 m.dk.length p3) (.slice a4 m.pc.length p4) m/\Below w.heap.size w wr) (fun _ _ i _=>m.dk.length-(intOf i).toNat)
 case atStart=>exact ⟨0,ZA _,rfl,rfl,rfl,uh kb0,uh Hv,uh BB0⟩
 case round=>
  obtain ⟨k,hk,rfl,rfl,rfl,hkb,hv,hb0⟩:=hrel;obtain ⟨⟨u0,u1⟩,u2,u3⟩:=uh Hbd k;have kb:=Z9 hkb;have Hv1:=Z9 hv;have BB:=Z9 hb0;clear hkb hv hb0 kb0 BB0 Hv;obtain ⟨c0,c1,c2,c3,c4,c5⟩:=(uh kb).c6;by_cases hlt:k<m.dk.length
  ·have hlt1:(k:Int)<(m.dk.length:Int):=by omega
   have Hno:=Z9 (fun hh=>CM (m:=m) (room:=room) (k:=k) hh);have Hyes:=Z9 (fun hh=>Fk (m:=m) (room:=room) (k:=k) hh);obtain ⟨⟨mo,al⟩,hmo⟩:∃ x,YV m room k=x:=⟨_,rfl⟩
   rw [hmo] at u0 u1 u2 u3 Hno Hyes ⊢;simp only at u0 u1 u2 u3 Hyes ⊢;clear hmo;go_wp2_with fail;refine ck (Qc (k:Int) (uh Hv1).rm ((uh HS).bench hlt)) fun w1 hb=> ?_;replace kb:=bl kb hb;replace Hv1:=Z9 ((uh Hv1).below hb);replace BB:=bt BB hb;clear hb c0 c1 c2 c3 c4 c5;obtain ⟨rn,hrn⟩:∃ r:Int,(Xo m.rm k:Int)=r:=⟨_,rfl⟩
   rw [hrn] at Hno Hyes ⊢;clear hrn;by_cases hr:rn=room;rotate_left
   ·have hrb:(rn ==room)=false:=by simpa using hr
    go_wp2_with fail;go_roundw
    case rel=>exact ⟨k+1,by omega,by go_num,by rw [uh Hno hr],by rw [uh Hno hr],uh kb,uh Hv1,uh BB⟩
    case measure=>exact ms
   have hrb:(rn ==room)=true:=by simpa using hr
   obtain ⟨c0,c1,c2,c3,c4,c5⟩:=(uh kb).c6;go_wp2_with fail;refine ck (TN (k:Int) (-1) (uh Hv1) (uh HS).guilded (by have:=(uh HS).few;omega)) fun w2 hb=> ?_;replace kb:=bl kb hb;replace Hv1:=Z9 ((uh Hv1).below hb);replace BB:=bt BB hb;clear hb c0 c1 c2 c3 c4 c5;have hub:=Tx m (k:Int) (-1);have hfew:=(uh HS).few;have hy:=uh Hyes hr;generalize Zc m (k:Int) (-1)=us at *;obtain ⟨_,_,hde,_,_,r3⟩:=(uh Hv1).dk;cases hde
   rcases r3 with e0 | ⟨db,off,rfl,hbw,hcl⟩
   ·rw [e0] at hlt;simp at hlt
   obtain ⟨d0,_,_⟩:=Y4 hcl hlt;clear hcl;obtain ⟨op,hop⟩:∃ o,(Z8 m.dk k).1=o:=⟨_,rfl⟩
   rw [hop] at d0 hy;have Hy:=Z9 hy;clear hop hy Hno Hyes;have c3:=(uh kb).cell (i:=3) (v:= .slice (some ⟨db,off,none⟩) m.dk.length p3) rfl;cases op
   ·go_wp2_with fail
    go_roundw
    case rel=>exact ⟨k+1,by omega,by go_num,by rw [uh Hy];rfl,by rw [uh Hy],uh kb,uh Hv1,uh BB⟩
    case measure=>exact ms
   ·go_wp2_with (go_at_call 124;refine (Th _ _ _).mono ?_;rintro e w' ⟨rfl,h9⟩;subst w')
    go_roundw
    case rel=>exact ⟨k+1,by omega,by go_num,by rw [uh Hy];rfl,by rw [uh Hy],uh kb,uh Hv1,uh BB⟩
    case measure=>exact ms
  ·obtain rfl:k=m.dk.length:=by omega
   go_wp2_with fail
   go_ret2
   exact ⟨rfl,uh BB⟩
theorem Gu  {r:Nat} (h:Smy w v0 v1 v2 v3 v4 m) (hS:Sane m) (hr:r<m.rm.length) :
  Calls Tryz.prog 221 #[.agg #[v0,v1,v2,v3,v4,.int .i64 m.now],.int .i64 (r:Int)] w fun e w'=>e= .returned (.int .i64 (TC m r))/\Below w.heap.size w w':=by
 have Hv:=Z9 (h.alloc (.cells #[v0,v1,v2,v3,v4,.int .i64 m.now] 32));obtain ⟨a0,p0,a1,p1,a2,p2,a3,p3,a4,p4,rfl,rfl,rfl,rfl,rfl,_,_,_,_,_,_,_,_,_,_⟩:=h.five;clear h;have HS:=Z9 hS;obtain ⟨BB0,kb0⟩:=Wd w 32 (S6 a0 p0 a1 p1 a2 p2 a3 p3 a4 p4 m);have hr1:(r:Int)<(m.rm.length:Int):=by omega
 have Hc:Hid (TC m r=OJ (ZR m.rm r) (YV m (r:Int) m.dk.length).1 (YV m (r:Int) m.dk.length).2):=Z9 rfl;rw [uh Hc];clear Hc hS;obtain ⟨⟨n,ps⟩,hrm⟩:∃ x,ZR m.rm r=x:=⟨_,rfl⟩
 obtain ⟨mo,hmo⟩:∃ x,(YV m (r:Int) m.dk.length).1=x:=⟨_,rfl⟩
 obtain ⟨al,hal⟩:∃ x,(YV m (r:Int) m.dk.length).2=x:=⟨_,rfl⟩
 rw [hrm,hmo,hal];have Hrm:=Z9 hrm;have Hmo:=Z9 hmo;have Hal:=Z9 hal;clear hrm hmo hal;go_enter Tryz.func221,Tryz.ntmps221;go_wp2_with fail;have hu:=N5 (r:Int) (uh Hv) (uh HS);rw [uh Hmo,uh Hal] at hu;refine hu.mono ?_;clear hu;rintro e w1 ⟨rfl,hb⟩;have kb:=Z9 ((uh kb0).below hb (uh kb0).lt);replace Hv:=Z9 ((uh Hv).below hb);have BB:=Z9 ((uh BB0).trans (hb.mono (uh BB0).size));clear hb kb0 BB0;obtain ⟨_,_,hre,_,_,r0⟩:=(uh Hv).rm;cases hre
 rcases r0 with e0 | ⟨rb,off,rfl,hbw,hcl⟩
 ·rw [e0] at hr;simp at hr
 obtain ⟨d0,pv,d1,hpv⟩:=hcl r hr;rw [uh Hrm] at d0 hpv;simp only at d0 hpv;have Hpv:=Z9 hpv;obtain ⟨pa,pc,rfl,_,_,_⟩:=hpv;have c0:=(uh kb).cell (i:=0) (v:= .slice (some ⟨rb,off,none⟩) m.rm.length p0) rfl;clear hcl;go_wp2_with fail;refine ck (PQ n mo al (uh Hpv)) fun w2 hb=> ?_;replace BB:=bt BB hb;clear hb;go_wp2_with fail;go_ret;exact ⟨rfl,uh BB⟩
theorem El  (h:Smy w v0 v1 v2 v3 v4 m) (hS:Sane m) :
  Calls Tryz.prog 170 #[.agg #[v0,v1,v2,v3,v4,.int .i64 m.now]] w fun e w'=>e= .returned (.int .i64 (Pp m))/\Below w.heap.size w w':=by
 have Hv:=Z9 (h.alloc (.cells #[v0,v1,v2,v3,v4,.int .i64 m.now] 32));obtain ⟨a0,p0,a1,p1,a2,p2,a3,p3,a4,p4,rfl,rfl,rfl,rfl,rfl,_,_,_,_,_,_,_,_,_,_⟩:=h.five;clear h;have HS:=Z9 hS;obtain ⟨BB0,kb0⟩:=Wd w 32 (S6 a0 p0 a1 p1 a2 p2 a3 p3 a4 p4 m);have h3:=(Zo hS.hall).2.1;have Hbd:=Z9 (Oz m);clear hS;go_enter Tryz.func170,Tryz.ntmps170;go_wp2_with fail
 go_loopw [3,4] (fun n i wr=> ∃ k:Nat,k<=m.rm.length/\i= .int .i64 k/\n= .int .i64 (VC m k)/\Blk wr w.heap.size 32 (S6 a0 p0 a1 p1 a2 p2 a3 p3 a4 p4 m)/\Smy wr (.slice a0 m.rm.length p0) (.slice a1 m.gd.length p1) (.slice a2 m.sm.length p2) (.slice a3 m.dk.length p3) (.slice a4 m.pc.length p4) m/\Below w.heap.size w wr) (fun _ i _=>m.rm.length-(intOf i).toNat)
 case atStart=>exact ⟨0,ZA _,rfl,rfl,uh kb0,uh Hv,uh BB0⟩
 case round=>
  obtain ⟨k,hk,rfl,rfl,hkb,hv,hb0⟩:=hrel;obtain ⟨u0,u1⟩:=uh Hbd k;obtain ⟨u2,u3⟩:=uh Hbd (k+1);have hst:VC m (k+1)=VC m k+TC m k:=rfl;have kb:=Z9 hkb;have Hv1:=Z9 hv;have BB:=Z9 hb0;clear hkb hv hb0 kb0 BB0 Hv;obtain ⟨c0,c1,c2,c3,c4,c5⟩:=(uh kb).c6;by_cases hlt:k<m.rm.length
  ·have hlt1:(k:Int)<(m.rm.length:Int):=by omega
   go_wp2_with fail;refine ck (Gu (uh Hv1) (uh HS) hlt) fun w1 hb=> ?_;replace kb:=bl kb hb;replace Hv1:=Z9 ((uh Hv1).below hb);replace BB:=bt BB hb;rw [hst] at u2 u3;have Hst:=Z9 hst;clear hb c0 c1 c2 c3 c4 c5 hst;generalize TC m k=ci at *;generalize VC m k=ct at *;go_wp2_with fail;go_roundw
   case rel=>exact ⟨k+1,by omega,by go_num,by rw [uh Hst],uh kb,uh Hv1,uh BB⟩
   case measure=>exact ms
  ·obtain rfl:k=m.rm.length:=by omega
   go_wp2_with fail;go_ret;exact ⟨rfl,uh BB⟩
set_option linter.unusedSimpArgs false
theorem N6  {k:Nat} (b:Int) (h:Smy w v0 v1 v2 v3 v4 m) (hS:Sane m) (hp:m.pc.length<=1000) (hk:k<m.sm.length) (hs:(Z8 m.sm k).1 ≠ 0) :
  Calls Tryz.prog 108 #[.agg #[v0,v1,v2,v3,v4,.int .i64 m.now],.int .i64 (k:Int),.int .i64 b] w fun e w'=>e= .returned (.int .i64 (Za m (k:Int) b))/\Below w.heap.size w w':=by
 have Hv:=Z9 (h.alloc (.cells #[v0,v1,v2,v3,v4,.int .i64 m.now] 32));obtain ⟨a0,p0,a1,p1,a2,p2,a3,p3,a4,p4,rfl,rfl,rfl,rfl,rfl,_,_,_,_,_,_,_,_,_,_⟩:=h.five;clear h;have HF:=Z9 (hS.few' hp);have HSW:=Z9 (hS.with hk hs b);have Hc:Hid (Za m (k:Int) b=Pp (WD m (k:Int) b)):=Z9 rfl;rw [uh Hc];have hk1:(k:Int)<(m.sm.length:Int):=by omega
 clear hS hp hs Hc;have BB0:Hid (Below w.heap.size w (w.alloc (.cells (S6 a0 p0 a1 p1 a2 p2 a3 p3 a4 p4 m) 32))):=Z9 ((ba _ _));go_enter Tryz.func108,Tryz.ntmps108;go_wp2_with fail;refine (XT (uh Hv) (uh HF)).mono ?_;rintro e w1 ⟨y0,y1,y2,y3,y4,oq,rfl,ho,hb⟩;have k9:=ho.smy;obtain ⟨b0,q0,b1,q1,b2,q2,b3,q3,b4,q4,rfl,rfl,rfl,rfl,rfl,_,_,_,_,_,_,_,_,_,_⟩:=k9.five;have HO:=Z9 (ho.mono (n₁:=w.heap.size) (by simp));have BB:=Z9 ((uh BB0).trans (hb.mono (uh BB0).size));clear k9 ho hb BB0 Hv;go_upto_region 2 with fail;obtain ⟨W,hW,hba,ko⟩:=YF w1 32 (S6 b0 q0 b1 q1 b2 q2 b3 q3 b4 q4 m);have LO:Hid (∀ i,Wg (.slice b0 m.rm.length q0) (.slice b1 m.gd.length q1) (.slice b2 m.sm.length q2) (.slice b3 m.dk.length q3) (.slice b4 m.pc.length q4) oq i->w.heap.size<=i/\i<w1.heap.size):=Z9 (fun i e=>(uh HO).own e);replace HO:=Z9 ((uh HO).below hba);replace BB:=bt BB hba;clear hba;rw [hW];clear hW;generalize w1.heap.size=ob at *;obtain ⟨g2,hga,_,_,hc2,hz2⟩:=RecAt.view ZX (by omega) (uh HO).sm rfl (by omega);cases hga;have hg2o:=(uh LO g2 (.inr (.inr (.inr (.inl rfl)))))
 have s1:=hc2 k hk 1 _ rfl;have f1:=hz2 (k*11+1);have hp1:=(uh HO).putS rfl (j:=k) (i:=1) hk (by omega) (.int .i64 b) (((Z8 m.sm k).1,b,(Z8 m.sm k).2.2)) rfl;have hlen:(m.sm.set k (((Z8 m.sm k).1,b,(Z8 m.sm k).2.2))).length=m.sm.length:=by simp
 have hs1:Z8 (m.sm.set k (((Z8 m.sm k).1,b,(Z8 m.sm k).2.2))) k=(((Z8 m.sm k).1,b,(Z8 m.sm k).2.2)):=by rw [ZJ hk,if_pos rfl]
 have hp2:=hp1.putS hlen.symm (j:=k) (i:=0) (by show k<(m.sm.set k _).length;omega) (by omega) (.int .i64 2) (QO (Z8 m.sm k) b) (by show ZU (QO (Z8 m.sm k) b)=(ZU (Z8 (m.sm.set k (((Z8 m.sm k).1,b,(Z8 m.sm k).2.2))) k)).set 0 _;rw [hs1];rfl);obtain ⟨_,hga,_,_,hc3,hz3⟩:=RecAt.view ZX (by omega) hp1.sm hlen.symm (by show 0<(m.sm.set k _).length;omega);cases hga;have s2:=hc3 k (by show k<(m.sm.set k _).length;omega) 0 _ rfl;have f2:=hz3 (k*11);have x2:=(uh ko).cell (i:=2) (v:= .slice (some ⟨g2,0,none⟩) m.sm.length q2) rfl;have x3:=((uh ko).other (a:=⟨g2,k*11+1,none⟩) (by show ob ≠ g2;omega) (.int .i64 b)).cell (i:=2) (v:= .slice (some ⟨g2,0,none⟩) m.sm.length q2) rfl;simp only [Nat.add_zero,List.set_set] at hp2 s2 f2;have hwm:({ m with sm:=m.sm.set k (QO (Z8 m.sm k) b) } : Z6)=WD m (k:Int) b:=by unfold WD;simp
 rw [hwm] at hp2;have HP:=Z9 hp2.smy;clear hc2 hz2 hc3 hz3 hp1 hp2 hwm hs1 hlen HO;go_upto_region 4 with fail;clear s1 f1 s2 f2 x2 x3;replace ko:Hid (Blk ((W.setCell ⟨g2,k*11+1,none⟩ (.int .i64 b)).setCell ⟨g2,k*11,none⟩ (.int .i64 2)) ob 32 (S6 b0 q0 b1 q1 (some ⟨g2,0,none⟩) q2 b3 q3 b4 q4 m)):=Z9 (((uh ko).other (a:=⟨g2,k*11+1,none⟩) (by show ob ≠ g2;omega) _).other (a:=⟨g2,k*11,none⟩) (by show ob ≠ g2;omega) _);replace BB:Hid (Below w.heap.size w ((W.setCell ⟨g2,k*11+1,none⟩ (.int .i64 b)).setCell ⟨g2,k*11,none⟩ (.int .i64 2))):=Z9 (((uh BB).setCell (p:=⟨g2,k*11+1,none⟩) (by show w.heap.size<=g2;omega) _).setCell (p:=⟨g2,k*11,none⟩) (by show w.heap.size<=g2;omega) _);generalize (W.setCell ⟨g2,k*11+1,none⟩ (.int .i64 b)).setCell ⟨g2,k*11,none⟩ (.int .i64 2)=W3 at *;obtain ⟨c0,c1,c2,c3,c4,c5⟩:=(uh ko).c6;go_wp2_with fail;refine ck (El (m:=WD m (k:Int) b) (uh HP) (uh HSW)) fun w5 hb=> ?_;replace BB:=bt BB hb;clear hb;go_wp2_with fail;go_ret;exact ⟨rfl,uh BB⟩
theorem Calls.same_below {P:Program} {f:FuncId} {args:Array Value}  (h:Calls P f args w fun e w'=>e= .returned v/\w'=w):Calls P f args w fun e w'=>e= .returned v/\Below w.heap.size w w':=
 h.mono fun e w' ⟨he,hw⟩=>⟨he,by rw [hw];exact Z1 _ _⟩
theorem Sy  {k b:Nat} (h:Smy w v0 v1 v2 v3 v4 m) (hk:k<m.sm.length) (hb:b<m.dk.length) (h7:b<=7) (y0:0<=(Z8 m.sm k).2.2.2.1) (y1:(Z8 m.sm k).2.2.2.1<=255) :
  Calls Tryz.prog 112 #[.agg #[v0,v1,v2,v3,v4,.int .i64 m.now],.int .i64 (k:Int),.int .i64 (b:Int)] w fun e w'=>e= .returned (.bool (Yw m (k:Int) b))/\Below w.heap.size w w':=by
 have hm:Yw m (k:Int) b=((Z8 m.dk b).1 && WI (Z8 m.sm k).2.2.2.1 b):=rfl;rw [hm];clear hm;obtain ⟨a0,p0,rfl,_,_⟩:=IsRooms.shape h.rm;obtain ⟨a1,p1,rfl,_,_⟩:=IsRec.shape h.gd;obtain ⟨a4,p4,rfl,_,_⟩:=IsRec.shape h.pc;obtain ⟨a2,p2,rfl,_,_,r2⟩:=h.sm;obtain ⟨a3,p3,rfl,_,_,r3⟩:=h.dk;clear h
 rcases r2 with e0 | ⟨sb,so,rfl,hbs,hcs⟩
 ·rw [e0] at hk;simp at hk
 rcases r3 with e0 | ⟨db,dof,rfl,hbd,hcd⟩
 ·rw [e0] at hb;simp at hb
 obtain ⟨_,_,_,s3,_⟩:=Zw hcs hk;obtain ⟨d0,_,_⟩:=Y4 hcd hb;have hk1:(k:Int)<(m.sm.length:Int):=by omega
 have hb1:(b:Int)<(m.dk.length:Int):=by omega
 clear hcs hcd;generalize (Z8 m.sm k).2.2.2.1=my at *;generalize (Z8 m.dk b).1=op at *;cases op
 all_goals
  go_enter Tryz.func112,Tryz.ntmps112;go_wp2_with (go_at_call 60;refine (JZ my (b:Int) _ y0 y1 (by omega) (by omega)).mono ?_;rintro e w' ⟨rfl,h9⟩;subst w')
  go_ret;exact ⟨rfl,(ba _ _)⟩
theorem Rw  (h:Smy w v0 v1 v2 v3 v4 m) (hS:Sane m) :
  Calls Tryz.prog 107 #[.agg #[v0,v1,v2,v3,v4,.int .i64 m.now]] w fun e w'=>e= .returned (.bool (WJ m))/\Below w.heap.size w w':=by
 have Hv:=Z9 (h.alloc (.cells #[v0,v1,v2,v3,v4,.int .i64 m.now] 32));obtain ⟨a0,p0,a1,p1,a2,p2,a3,p3,a4,p4,rfl,rfl,rfl,rfl,rfl,_,_,_,_,_,_,_,_,_,_⟩:=h.five;clear h;obtain ⟨BB0,kb0⟩:=Wd w 32 (S6 a0 p0 a1 p1 a2 p2 a3 p3 a4 p4 m);have HS:=Z9 hS;have h8:=hS.eight;clear hS;have hyes:∀ k,k<m.dk.length->Sm m k=true->WJ m=true:=fun k hk hc=>List.any_eq_true.2 ⟨k,List.mem_range.2 hk,hc⟩
 have hno:(∀ k,k<m.dk.length->Sm m k=false)->WJ m=false:=fun hn=>by
  unfold WJ;rw [List.any_eq_false];intro k hk;rw [hn k (List.mem_range.1 hk)];simp
 have Hyes:=Z9 hyes;have Hno:=Z9 hno;clear hyes hno;go_enter Tryz.func107,Tryz.ntmps107;go_wp2_with fail
 go_loopw [3] (fun i wr=> ∃ k:Nat,k<=m.dk.length/\i= .int .i64 k/\(∀ j,j<k->Sm m j=false)/\Blk wr w.heap.size 32 (S6 a0 p0 a1 p1 a2 p2 a3 p3 a4 p4 m)/\Smy wr (.slice a0 m.rm.length p0) (.slice a1 m.gd.length p1) (.slice a2 m.sm.length p2) (.slice a3 m.dk.length p3) (.slice a4 m.pc.length p4) m/\Below w.heap.size w wr) (fun i _=>m.dk.length-(intOf i).toNat)
 case atStart=>exact ⟨0,ZA _,rfl,fun j hj=>by omega,uh kb0,uh Hv,uh BB0⟩
 case round=>
  obtain ⟨k,hk,rfl,hn,hkb,hv,hb0⟩:=hrel;have Hn:=Z9 hn;have kb:=Z9 hkb;have Hv1:=Z9 hv;have BB:=Z9 hb0;clear hkb hv hb0 kb0 BB0 Hv hn;obtain ⟨c0,c1,c2,c3,c4,c5⟩:=(uh kb).c6;by_cases hlt:k<m.dk.length
  ·have hlt1:(k:Int)<(m.dk.length:Int):=by omega
   have Hc:Hid (Sm m k=((Z8 m.dk k).1 && VK (Zc m (k:Int) (-1)) (Zd m.rm (k:Int)))):=Z9 rfl;obtain ⟨_,_,hde,_,_,r3⟩:=(uh Hv1).dk;cases hde
   rcases r3 with e0 | ⟨db,off,rfl,hbw,hcl⟩
   ·rw [e0] at hlt;simp at hlt
   obtain ⟨d0,_,_⟩:=Y4 hcl hlt;clear hcl;have hfo:=Ta ((uh HS).bench hlt);have Hu:=Z9 (fun (W:World) (hW:Below wr.heap.size wr W)=>TN (k:Int) (-1) ((uh Hv1).below hW) (uh HS).guilded (by have:=(uh HS).few;omega));have Hf:=Z9 (fun (W:World) (hW:Below wr.heap.size wr W)=>U8 (k:Int) ((uh Hv1).below hW).rm ((uh HS).bench hlt));rw [<-hfo] at Hf;clear hfo;generalize Zc m (k:Int) (-1)=us at *;generalize Zd m.rm (k:Int)=fo at *;generalize (Z8 m.dk k).1=op at *;have y0:=ZW c0;have y1:=ZW c1;have y2:=ZW c2;have y3:=ZW c3;have y4:=ZW c4;have y5:=ZW c5;have z0:=ZW d0;obtain ⟨mu,hmu⟩:∃ q,VK us fo=q:=⟨_,rfl⟩
   have Ht:=Z9 (fun (W:World)=>Calls.same_below (NH us fo W));rw [hmu] at Hc Ht;clear hmu;cases op
   ·go_wp2_with fail
    refine wq ?_
    repeat (go_big_quiet_step (first | exact ZY (uh Hu _ (Z0 _ _ _)) | exact ZY (uh Hf _ (Z0 _ _ _)) | exact ZY (uh Ht _)))
    refine wpQuiet_nil ?_;intro _ hw';obtain ⟨⟨dq,osq⟩,hw''⟩:=hw';subst hw'';go_wp2_with fail;go_roundw
    case rel=>exact ⟨k+1,by omega,by go_num,Yh (uh Hn) (uh Hc),(uh kb).below (Z0 _ _ _) (uh kb).lt,(uh Hv1).below (Z0 _ _ _),(uh BB).trans ((Z0 _ _ _).mono (uh BB).size)⟩
    case measure=>exact ms
   ·cases mu
    ·go_wp2_with fail
     refine wq ?_
     repeat (go_big_quiet_step (first | exact ZY (uh Hu _ (Z0 _ _ _)) | exact ZY (uh Hf _ (Z0 _ _ _)) | exact ZY (uh Ht _)))
     refine wpQuiet_nil ?_;intro _ hw';obtain ⟨⟨dq,osq⟩,hw''⟩:=hw';subst hw'';go_wp2_with fail;go_roundw
     case rel=>exact ⟨k+1,by omega,by go_num,Yh (uh Hn) (uh Hc),(uh kb).below (Z0 _ _ _) (uh kb).lt,(uh Hv1).below (Z0 _ _ _),(uh BB).trans ((Z0 _ _ _).mono (uh BB).size)⟩
     case measure=>exact ms
    ·go_wp2_with fail
     refine wq ?_
     repeat (go_big_quiet_step (first | exact ZY (uh Hu _ (Z0 _ _ _)) | exact ZY (uh Hf _ (Z0 _ _ _)) | exact ZY (uh Ht _)))
     refine wpQuiet_nil ?_;intro _ hw';obtain ⟨⟨dq,osq⟩,hw''⟩:=hw';subst hw'';go_wp2_with fail;go_ret;exact ⟨Z5 (uh Hyes k hlt (uh Hc)).symm,(uh BB).trans ((Z0 _ _ _).mono (uh BB).size)⟩
  ·obtain rfl:k=m.dk.length:=by omega
   go_wp2_with fail;go_ret;exact ⟨Z5 (uh Hno (uh Hn)).symm,uh BB⟩
structure QJ (m:Z6) (k:Nat):Prop where
 lt:k<m.sm.length
 st:(Z8 m.sm k).1 ≠ 0
 y0:0<=(Z8 m.sm k).2.2.2.1
 y1:(Z8 m.sm k).2.2.2.1<=255
theorem zZ {who:Int} {k:Nat} (h:NS m who k=false):UT m who (k+1)=UT m who k:=by show (if _ then _ else _)=_;rw [h];rfl
theorem BJ {who:Int} {k:Nat} (h:NS m who k=true):UT m who (k+1)=UT m who k++[(k:Int)]:=by show (if _ then _ else _)=_;rw [h];rfl
theorem Rx  {who:Nat} (h:Smy w v0 v1 v2 v3 v4 m) (hS:Sane m) (hA:QJ m who) :
  Calls Tryz.prog 106 #[.agg #[v0,v1,v2,v3,v4,.int .i64 m.now],.int .i64 (who:Int)] w fun e w'=> ∃ v',e= .returned v'/\NumsAt w.heap.size w' v' (YN m (who:Int))/\Below w.heap.size w w':=by
 have Hv:=Z9 (h.alloc (.cells #[v0,v1,v2,v3,v4,.int .i64 m.now] 32));obtain ⟨a0,p0,a1,p1,a2,p2,a3,p3,a4,p4,rfl,rfl,rfl,rfl,rfl,_,_,_,_,_,_,_,_,_,_⟩:=h.five;have HW:=Z9 h;clear h;obtain ⟨BB0,kb0⟩:=Wd w 32 (S6 a0 p0 a1 p1 a2 p2 a3 p3 a4 p4 m);have HS:=Z9 hS;have HA:=Z9 hA;have h8:=hS.eight;clear hS hA;have kb1:Hid (Blk ((w.alloc (.cells (S6 a0 p0 a1 p1 a2 p2 a3 p3 a4 p4 m) 32)).alloc (.cells #[] 2)) w.heap.size 32 (S6 a0 p0 a1 p1 a2 p2 a3 p3 a4 p4 m)):=Z9 ((uh kb0).alloc _);have BB1:Hid (Below w.heap.size w ((w.alloc (.cells (S6 a0 p0 a1 p1 a2 p2 a3 p3 a4 p4 m) 32)).alloc (.cells #[] 2))):=Z9 ((uh BB0).alloc (uh BB0).size _);have Hv0:=Z9 ((uh Hv).alloc (.cells #[] 2));have E0:Hid (NumsAt (w.heap.size+1) ((w.alloc (.cells (S6 a0 p0 a1 p1 a2 p2 a3 p3 a4 p4 m) 32)).alloc (.cells #[] 2)) (.slice (some ⟨w.heap.size+1,0,none⟩) 0 0) []):=Z9 (Y8 (by simp) (by simp));clear kb0 BB0 Hv;go_enter Tryz.func106,Tryz.ntmps106;go_wp2_with fail
 go_loopw [5,6] (fun l i wr=> ∃ k:Nat,k<=m.dk.length/\i= .int .i64 k/\NumsAt (w.heap.size+1) wr l (UT m (who:Int) k)/\Blk wr w.heap.size 32 (S6 a0 p0 a1 p1 a2 p2 a3 p3 a4 p4 m)/\Smy wr (.slice a0 m.rm.length p0) (.slice a1 m.gd.length p1) (.slice a2 m.sm.length p2) (.slice a3 m.dk.length p3) (.slice a4 m.pc.length p4) m/\Below w.heap.size w wr) (fun _ i _=>m.dk.length-(intOf i).toNat)
 case atStart=>exact ⟨0,ZA _,rfl,uh E0,uh kb1,uh Hv0,uh BB1⟩
 case round=>
  obtain ⟨k,hk,rfl,hl,hkb,hv,hb0⟩:=hrel;obtain ⟨la,lc,rfl⟩:=RecAt.shape hl;have HL:=Z9 hl;have kb:=Z9 hkb;have Hv1:=Z9 hv;have BB:=Z9 hb0;have hbl:=(uh kb).lt;have hfl:=OB m (who:Int) k;clear hkb hv hb0 kb1 BB1 Hv0 E0 hl;obtain ⟨c0,c1,c2,c3,c4,c5⟩:=(uh kb).c6;by_cases hlt:k<m.dk.length
  ·have hlt1:(k:Int)<(m.dk.length:Int):=by omega
   have Hc:Hid (NS m (who:Int) k=(Yw m (who:Int) k && Ws (Zs m (who:Int)) (Zc m (k:Int) (who:Int)) (Zd m.rm (k:Int)))):=Z9 rfl;have Hno:=Z9 (fun hh=>zZ (m:=m) (who:=(who:Int)) (k:=k) hh);have Hyes:=Z9 (fun hh=>BJ (m:=m) (who:=(who:Int)) (k:=k) hh);have hfo:=Ta ((uh HS).bench hlt);have Hma:=Z9 (fun (W:World) (hW:Below wr.heap.size wr W)=>Sy ((uh Hv1).below hW) (uh HA).lt hlt (by omega) (uh HA).y0 (uh HA).y1);have Hwa:=Z9 (fun (W:World) (hW:Below wr.heap.size wr W)=>Ru ((uh Hv1).below hW) (uh HS).guilded.gd (uh HA).lt ((uh HS).guilded.lo who (uh HA).lt (uh HA).st) ((uh HS).guilded.hi who (uh HA).lt (uh HA).st));have Hu:=Z9 (fun (W:World) (hW:Below wr.heap.size wr W)=>TN (k:Int) (who:Int) ((uh Hv1).below hW) (uh HS).guilded (by have:=(uh HS).few;omega));have Hf:=Z9 (fun (W:World) (hW:Below wr.heap.size wr W)=>U8 (k:Int) ((uh Hv1).below hW).rm ((uh HS).bench hlt));rw [<-hfo] at Hf;clear hfo;have Ht:=Z9 (fun (W:World)=>Calls.same_below (Uv (Zs m (who:Int)) (Zc m (k:Int) (who:Int)) (Zd m.rm (k:Int)) W));generalize Yw m (who:Int) k=ma at *;generalize Zs m (who:Int)=wa at *;generalize Zc m (k:Int) (who:Int)=us at *;generalize Zd m.rm (k:Int)=fo at *;generalize Ws wa us fo=fi at *;have y0:=ZW c0;have y1:=ZW c1;have y2:=ZW c2;have y3:=ZW c3;have y4:=ZW c4;have y5:=ZW c5;cases ma
   ·go_wp2_with fail
    refine wq ?_
    repeat (go_big_quiet_step (first | exact ZY (uh Hma _ (Z0 _ _ _)) | exact ZY (uh Hwa _ (Z0 _ _ _)) | exact ZY (uh Hu _ (Z0 _ _ _)) | exact ZY (uh Hf _ (Z0 _ _ _)) | exact ZY (uh Ht _)))
    refine wpQuiet_nil ?_;intro _ hw';obtain ⟨⟨dq,osq⟩,hw''⟩:=hw';subst hw'';go_wp2_with fail;go_roundw
    case rel=>exact ⟨k+1,by omega,by go_num,by rw [uh Hno (uh Hc)];exact RecAt.later (uh HL) (Z0 _ _ _),(uh kb).below (Z0 _ _ _) (uh kb).lt,(uh Hv1).below (Z0 _ _ _),(uh BB).trans ((Z0 _ _ _).mono (uh BB).size)⟩
    case measure=>exact ms
   cases fi
   ·go_wp2_with fail
    refine wq ?_
    repeat (go_big_quiet_step (first | exact ZY (uh Hma _ (Z0 _ _ _)) | exact ZY (uh Hwa _ (Z0 _ _ _)) | exact ZY (uh Hu _ (Z0 _ _ _)) | exact ZY (uh Hf _ (Z0 _ _ _)) | exact ZY (uh Ht _)))
    refine wpQuiet_nil ?_;intro _ hw';obtain ⟨⟨dq,osq⟩,hw''⟩:=hw';subst hw'';go_wp2_with fail;go_roundw
    case rel=>exact ⟨k+1,by omega,by go_num,by rw [uh Hno (uh Hc)];exact RecAt.later (uh HL) (Z0 _ _ _),(uh kb).below (Z0 _ _ _) (uh kb).lt,(uh Hv1).below (Z0 _ _ _),(uh BB).trans ((Z0 _ _ _).mono (uh BB).size)⟩
    case measure=>exact ms
   ·go_wp2_with fail
    refine wq ?_
    repeat (go_big_quiet_step (first | exact ZY (uh Hma _ (Z0 _ _ _)) | exact ZY (uh Hwa _ (Z0 _ _ _)) | exact ZY (uh Hu _ (Z0 _ _ _)) | exact ZY (uh Hf _ (Z0 _ _ _)) | exact ZY (uh Ht _)))
    refine wpQuiet_nil ?_;intro _ hw';obtain ⟨⟨dq,osq⟩,hw''⟩:=hw';subst hw'';clear c0 c1 c2 c3 c4 c5 y0 y1 y2 y3 y4 y5 Hma Hwa Hu Hf Ht;have hb9:=Z0 wr dq osq;replace HL:=Z9 (RecAt.later (uh HL) hb9);replace kb:=Z9 ((uh kb).below hb9 (uh kb).lt);replace Hv1:=Z9 ((uh Hv1).below hb9);replace BB:=Z9 ((uh BB).trans (hb9.mono (uh BB).size));clear hb9;generalize grow (redrawn wr dq) osq=X at *;have hsx:=(uh BB).size;go_wp2_with (at_builtin;refine ZH tyN rfl (.tmp 33) (.tmp 35) 30 Tryz.underlying30 rfl (w.heap.size+1) _ _ (UT m (who:Int) k) [(k:Int)] rfl rfl (RecAt.later (uh HL) ((ba _ _))) (Wy (k:Int) rfl (Z2 _) (by omega)) (by simp;omega) (by simp;omega) ?_;intro u9 w9 hp9 hg9 hat9;have HP9:=Z9 hp9;have HG9:=Z9 hg9;clear hp9 hg9 hat9)
    have hlx:=(uh kb).lt;have hgo:∀ i,(Value.slice la (UT m (who:Int) k).length lc).ownBlock=some i->w.heap.size+1<=i:=fun i e=>(RecAt.lt (uh HL) e).1;have hb9:Below (w.heap.size+1) X w9:=((Z1 _ _).alloc hlx _).trans ((Z1 _ _).grown (uh HG9) (by simp;omega) hgo);have hb8:=(uh BB).trans (hb9.mono (Nat.le_succ _));go_wp2_with fail;go_roundw
    case rel=>exact ⟨k+1,by omega,by go_num,by rw [uh Hyes (uh Hc)];exact uh HP9,(uh kb).below hb9 (Nat.lt_succ_self _),(uh HW).below hb8,hb8⟩
    case measure=>exact ms
  ·obtain rfl:k=m.dk.length:=by omega
   go_wp2_with fail;go_ret;exact ⟨_,rfl,RecAt.mono (uh HL) (Nat.le_succ _),uh BB⟩
def Y1 (m:Z6) (b:Nat):Nat->Nat
 | 0=>0
 | k+1=>if (Z8 m.dk k).1 && !(k ==b) then Y1 m b k ||| 2 ^ k else Y1 m b k
theorem QX (m:Z6) (b:Nat):∀ k j:Nat,(Y1 m b k).testBit j=(decide (j<k) && ((Z8 m.dk j).1 && !(j ==b)))
 | 0,j=>by simp [Y1]
 | k+1,j=>by
  have ih:=QX m b k j;unfold Y1;by_cases e:j=k
  ·subst e
   have hj:(Y1 m b j).testBit j=false:=by rw [ih];simp
   split
   ·rename_i h
    rw [Nat.testBit_or,hj,Nat.testBit_two_pow_self,h];simp
   ·rename_i h
    rw [hj];have:((Z8 m.dk j).1 && !(j ==b))=false:=by simpa using h
    rw [this];simp
  ·have hd:decide (j<k+1)=decide (j<k):=by
    by_cases h:j<k
    ·rw [decide_eq_true h,decide_eq_true (by omega)]
    ·rw [decide_eq_false h,decide_eq_false (by omega)]
   rw [hd]
   split
   ·rw [Nat.testBit_or,ih,Nat.testBit_two_pow_of_ne (by omega),Bool.or_false]
   ·exact ih
theorem Mj (m:Z6) (b:Nat):∀ k:Nat,Y1 m b k<2 ^ k
 | 0=>by simp [Y1]
 | k+1=>by
  have ih:=Mj m b k;have hp:2 ^ (k+1)=2*2 ^ k:=by rw [Nat.pow_succ];omega
  unfold Y1
  split
  ·exact Nat.or_lt_two_pow (by omega) (by omega)
  ·omega
theorem Lp {x:Nat} (h:x ≠ 0):∃ j,x.testBit j=true:=by
 refine Classical.byContradiction fun hn=>h ?_;apply Nat.eq_of_testBit_eq;intro i;rw [Nat.zero_testBit];cases hi:x.testBit i
 ·rfl
 ·exact absurd ⟨i,hi⟩ hn
theorem FJ {s:Int} (h:0<=s) (j:Nat):WI s (j:Int)=s.toNat.testBit j:=by
 obtain ⟨n,rfl⟩:=Int.eq_ofNat_of_zero_le h;unfold WI;rw [Nat.testBit_eq_decide_div_mod_eq];simp only [Zz]
 congr 1
 apply propext;constructor
 ·intro h
  exact_mod_cast h
 ·intro h
  exact_mod_cast h
def Ys (n:Nat):Int:=(2:Int) ^ n-1
theorem NM (n:Nat):Ys n=((2 ^ n-1:Nat):Int):=by
 have h:1<=2 ^ n:=Nat.one_le_two_pow;unfold Ys;rw [Int.natCast_sub h]
 push_cast
 rfl
theorem Fv {n j:Nat} (h:j<n):WI (Ys n) (j:Int)=true:=by
 rw [FJ (by rw [NM];omega),NM,Zz,Nat.testBit_two_pow_sub_one];exact Vx h
theorem Li {n:Nat} (h1:1<=n) (h8:n<=8):1<=Ys n/\Ys n<=255:=by
 have key:∀ k:Fin 8,1<=Ys (k.val+1)/\Ys (k.val+1)<=255:=by unfold Ys;decide
 have:=key ⟨n-1,by omega⟩
 rwa [show n-1+1=n by omega] at this
def RD (op n:Nat) (may:Int):Int:=if may.toNat &&& op=0 then Ys n else may
theorem Ez {op n:Nat} {may:Int} (h0:0<=may) (hop:op ≠ 0) (hn:∀ j,op.testBit j=true->j<n):∃ j,op.testBit j=true/\WI (RD op n may) (j:Int)=true:=by
 unfold RD
 split
 ·obtain ⟨j,hj⟩:=Lp hop
  exact ⟨j,hj,Fv (hn j hj)⟩
 ·rename_i h
  obtain ⟨j,hj⟩:=Lp h;rw [Nat.testBit_and] at hj;simp only [ZM] at hj;exact ⟨j,hj.2,by rw [FJ h0];exact hj.1⟩
theorem At {op n:Nat} {may:Int} (h1:1<=n) (h8:n<=8) (m0:1<=may) (m1:may<=255):1<=RD op n may/\RD op n may<=255:=by
 unfold RD
 split
 ·exact Li h1 h8
 ·exact ⟨m0,m1⟩
def closeX (op:Nat) (m:Z6) (w:Nat):Z6:=Y3 m w (RD op m.dk.length (Z8 m.sm w).2.2.2.1)
def I2 (op:Nat) (m:Z6) (w:Nat):Int:=YQ (closeX op m w) (w:Int)
def Vl (op:Nat) (m:Z6) (w:Nat):Z6:=setS (closeX op m w) w (putS (closeX op m w) (Z8 (closeX op m w).sm w) (I2 op m w))
def Yd (op:Nat) (m:Z6) (q:List Z4):Nat->Z6
 | 0=>m
 | k+1=>Vl op (Yd op m q k) (Z7 q k).2.toNat
structure Shut (m0:Z6) (b:Nat) (P:Nat->Prop) (m:Z6):Prop where
 rm:m.rm=m0.rm
 gd:m.gd=m0.gd
 pc:m.pc=m0.pc
 now:m.now=m0.now
 dk:m.dk=(Yc m0 b false).dk
 len:m.sm.length=m0.sm.length
 here:∀ i,i<m.sm.length->XV m (Z8 m.sm i)=true
 seat:∀ i,i<m.sm.length-> ¬ P i->XL m (Z8 m.sm i)=true
 left:∀ i,P i->i<m.sm.length/\ZL (Z8 m.sm i)=true/\(Z8 m.sm i).2.1=(b:Int)/\WE (Xq (Z8 m.sm i)) (Xy m (b:Int))=true
theorem Nc {b:Nat} (hb:b<m.dk.length) (o:Bool) (j:Nat):Z8 (Yc m b o).dk j=if j=b then (o,(Z8 m.dk b).2) else Z8 m.dk j:=ZJ hb j
theorem Ut (m:Z6) (b:Nat) (o:Bool):(Yc m b o).dk.length=m.dk.length:=by unfold Yc;simp
theorem OZ {b:Nat} (hb:b<m.dk.length) (o:Bool) (j:Nat):(Z8 (Yc m b o).dk j).2=(Z8 m.dk j).2:=by
 rw [Nc hb];by_cases e:j=b
 ·rw [if_pos e,e]
 ·rw [if_neg e]
theorem EY {m0:Z6} (h:Loose m0) {b:Nat} (hb:b<m0.dk.length):Shut m0 b (fun i=>i<m0.sm.length/\(Z8 m0.sm i).2.1=(b:Int)/\ZL (Z8 m0.sm i)=true) (Yc m0 b false):=by
 refine ⟨rfl,rfl,rfl,rfl,rfl,rfl,fun i hi=> ?_,fun i hi hn=> ?_,fun i hp=> ?_⟩
 ·rw [Wu (m:=m0) (m':=Yc m0 b false) rfl (Ut _ _ _)]
  exact h.here i hi
 ·cases hp:ZL (Z8 m0.sm i)
  ·exact UD hp
  ·obtain ⟨a0,a1,a2,a3,a4⟩:=h.at (i:=i) hi hp
   have hne:(Z8 m0.sm i).2.1.toNat ≠ b:=by
    intro e;exact hn ⟨hi,by omega,hp⟩
   refine Nb (m:=Yc m0 b false) (s:=Z8 m0.sm i) ?_ a3 ?_
   ·rw [Nc hb,if_neg hne];exact a2
   ·rw [OZ hb];exact a4
 ·obtain ⟨hi,e,hp⟩:=hp
  obtain ⟨a0,a1,a2,a3,a4⟩:=h.at (i:=i) hi hp;refine ⟨hi,hp,e,?_⟩;rw [e] at a4;show WE _ (Z8 (Yc m0 b false).dk ((b:Int)).toNat).2.2=true;rw [OZ hb];exact a4
theorem Shut.bare {m0 m:Z6} {b:Nat} {P:Nat->Prop} (h:Shut m0 b P m) (h0:Loose m0) (hb:b<m0.dk.length) (hop:Y1 m0 b m0.dk.length ≠ 0):Loose { m with sm:=[] }:=by
 have hl:m.dk.length=m0.dk.length:=by rw [h.dk,Ut]
 refine ⟨?_,?_,?_,fun i hi=>absurd hi (Nat.not_lt_zero _),fun i hi=>absurd hi (Nat.not_lt_zero _),?_⟩
 ·have:=h0.head
  unfold YD at this ⊢;simp only [ZM,YW] at this ⊢;rw [h.rm,h.gd,h.pc,h.now,hl];exact ⟨this.1,this.2.1,by simp,this.2.2.2⟩
 ·intro j hj
  show Vy (Z8 m.dk j)=true;have hj':j<m.dk.length:=hj;have:=h0.desk j (by omega);unfold Vy at this ⊢;rw [h.dk,OZ hb];exact this
 ·intro j hj
  have:=h0.pace j (by rw [<-h.pc];exact hj);unfold V4 at this ⊢;simp only;rw [h.pc,h.rm];exact this
 ·obtain ⟨j,hj⟩:=Lp hop
  rw [QX] at hj;simp only [ZM,YW,Bool.not_eq_true',beq_eq_false_iff_ne] at hj;refine ⟨j,(by show j<m.dk.length;omega),?_⟩;show (Z8 m.dk j).1=true;rw [h.dk,Nc hb,if_neg hj.2.2];exact hj.2.1
theorem Shut.pres {m0 m:Z6} {b:Nat} {P:Nat->Prop} (h:Shut m0 b P m) {i:Nat} (hp:P i):Zh (Z8 m.sm i)=true/\(Z8 m.sm i).2.2.2.2.1<m.gd.length:=by
 obtain ⟨hi,hp1,_⟩:=h.left i hp
 rcases Xk.1 (h.here i hi) with e | e
 ·rw [e] at hp1;cases hp1
 ·exact ⟨e.1,e.2.1⟩
theorem Shut.sane {m0 m:Z6} {b:Nat} {P:Nat->Prop} (h:Shut m0 b P m) (h0:Loose m0):Sane m:=by
 have s0:=h0.sane
 have lim:∀ i,i<m.sm.length->(Z8 m.sm i).1 ≠ 0->Zh (Z8 m.sm i)=true/\(Z8 m.sm i).2.2.2.2.1<m.gd.length:=fun i hi hs=>by
  rcases Xk.1 (h.here i hi) with e | e
  ·rw [e] at hs;exact absurd rfl hs
  ·exact ⟨e.1,e.2.1⟩
 refine ⟨by rw [h.rm];exact s0.hall,by rw [h.rm,h.dk,Ut];exact s0.dk,⟨by rw [h.gd];exact s0.guilded.gd,fun i hi hs=> ?_,fun i hi hs=>(lim i hi hs).2⟩,by rw [h.len];exact s0.few⟩;have hp:=(lim i hi hs).1;generalize Z8 m.sm i=s at *;obtain ⟨st,be,rk,my,gu,lo',hi',hd,ca,ut,wk⟩:=s;exact (Zi hp).2.2.2.2.1.1
theorem Na {k:Nat} (hk:k<m.sm.length) (may:Int) (i:Nat):Z8 (Y3 m k may).sm i=if i=k then Wk (Z8 m.sm k) may else Z8 m.sm i:=ZJ hk i
theorem Shut.may {m0 m:Z6} {b:Nat} {P:Nat->Prop} (h:Shut m0 b P m) {w:Nat} (hw:P w) {may:Int} (y0:1<=may) (y1:may<=255):Shut m0 b P (Y3 m w may):=by
 obtain ⟨hwl,hp,hbe,hba⟩:=h.left w hw;obtain ⟨hpb,hg⟩:=h.pres hw;have hlen:(Y3 m w may).sm.length=m.sm.length:=by unfold Y3 setS;simp
 refine ⟨h.rm,h.gd,h.pc,h.now,h.dk,by rw [hlen];exact h.len,fun i hi=> ?_,fun i hi hn=> ?_,fun i hi=> ?_⟩
 ·rw [Wu (m:=m) (m':=Y3 m w may) rfl rfl,Na hwl]
  split
  ·refine Xk.2 (.inr ⟨QZ hpb y0 y1,hg,?_⟩)
   rcases Xk.1 (h.here w hwl) with e | e
   ·rw [e] at hp;cases hp
   ·exact e.2.2
  ·exact h.here i (by omega)
 ·rw [Na hwl,if_neg (fun e=>hn (by rw [e];exact hw))]
  exact h.seat i (by omega) hn
 ·obtain ⟨a,b1,c,d⟩:=h.left i hi
  refine ⟨by omega,?_⟩;rw [Na hwl]
  split
  ·rename_i e
   subst e;exact ⟨b1,c,d⟩
  ·exact ⟨b1,c,d⟩
theorem Shut.chosen {m0 m:Z6} {b:Nat} {P:Nat->Prop} (h:Shut m0 b P m) (h0:Loose m0) (hb:b<m0.dk.length) (hop:Y1 m0 b m0.dk.length ≠ 0) {w:Nat} (hw:P w):∃ j:Nat,j<m.dk.length/\I2 (Y1 m0 b m0.dk.length) m w=(j:Int)/\Yw (closeX (Y1 m0 b m0.dk.length) m w) (w:Int) j=true:=by
 obtain ⟨hwl,hp,hbe,hba⟩:=h.left w hw;obtain ⟨hpb,hg⟩:=h.pres hw;have hl:m.dk.length=m0.dk.length:=by rw [h.dk,Ut]
 rcases VS (closeX (Y1 m0 b m0.dk.length) m w) (w:Int) with ⟨_,hn⟩ | ⟨j,hj,e,hm⟩
 ·exfalso
  have hy:0<=(Z8 m.sm w).2.2.2.1:=by
   generalize Z8 m.sm w=s at *;obtain ⟨st,be,rk,my,gu,lo',hi',hd,ca,ut,wk⟩:=s;have:=(Zi hpb).2.2.2.1.1;show 0<=my;omega
  obtain ⟨j,hj,hbit⟩:=Ez (op:=Y1 m0 b m0.dk.length) (n:=m.dk.length) hy hop (fun j hj=>by
   rw [QX] at hj;simp only [ZM,YW] at hj
   omega)
  rw [QX] at hj;simp only [ZM,YW,Bool.not_eq_true',beq_eq_false_iff_ne] at hj;have:=hn j (by show j<m.dk.length;omega);unfold Yw at this
  rw [show (Z8 (closeX (Y1 m0 b m0.dk.length) m w).dk j).1=true from by
   show (Z8 m.dk j).1=true;rw [h.dk,Nc hb,if_neg hj.2.2]
   exact hj.2.1,Zz,show Z8 (closeX (Y1 m0 b m0.dk.length) m w).sm w=Wk (Z8 m.sm w) (RD (Y1 m0 b m0.dk.length) m.dk.length (Z8 m.sm w).2.2.2.1) from by
    unfold closeX
    rw [Na hwl,if_pos rfl]] at this
  rw [show (Wk (Z8 m.sm w) (RD (Y1 m0 b m0.dk.length) m.dk.length (Z8 m.sm w).2.2.2.1)).2.2.2.1=RD (Y1 m0 b m0.dk.length) m.dk.length (Z8 m.sm w).2.2.2.1 from rfl,hbit] at this;cases this
 ·exact ⟨j,hj,e,hm⟩
theorem Shut.closeX {m0 m:Z6} {b:Nat} {P:Nat->Prop} (h:Shut m0 b P m) (h0:Loose m0) {w:Nat} (hw:P w) (op:Nat):Shut m0 b P (closeX op m w):=by
 obtain ⟨hpb,hg⟩:=h.pres hw;have hl:m.dk.length=m0.dk.length:=by rw [h.dk,Ut]
 have h8:=VR h0;obtain ⟨j,hj,_⟩:=h0.openD
 have hy:1<=(Z8 m.sm w).2.2.2.1/\(Z8 m.sm w).2.2.2.1<=255:=by
  generalize Z8 m.sm w=s at *;obtain ⟨st,be,rk,my,gu,lo',hi',hd,ca,ut,wk⟩:=s;exact (Zi hpb).2.2.2.1
 obtain ⟨y0,y1⟩:=At (op:=op) (n:=m.dk.length) (by omega) (by omega) hy.1 hy.2;exact h.may hw y0 y1
theorem Shut.step {m0 m:Z6} {b:Nat} {P:Nat->Prop} (h:Shut m0 b P m) (h0:Loose m0) (hb:b<m0.dk.length) (hop:Y1 m0 b m0.dk.length ≠ 0) {w:Nat} (hw:P w) :
  Shut m0 b (fun i=>P i/\i ≠ w) (Vl (Y1 m0 b m0.dk.length) m w):=by
 obtain ⟨j,hj,ej,hm⟩:=h.chosen h0 hb hop hw;have hx:=h.closeX h0 hw (Y1 m0 b m0.dk.length);unfold Vl;rw [ej];generalize Go.Proofs.YtamgfpdahadnfaaGreatDoor.closeX (Y1 m0 b m0.dk.length) m w=x at *;have hjx:j<x.dk.length:=by rw [hx.dk,<-h.dk];exact hj
 obtain ⟨hwl,hp,hbe,hba⟩:=hx.left w hw;obtain ⟨hpb,hg⟩:=hx.pres hw;unfold Yw at hm;simp only [ZM,Zz] at hm;have hbl:b<x.dk.length:=by rw [hx.dk,Ut];exact hb
 have hk:=Pv (m:={ x with sm:=[] }) (hx.bare h0 hb hop) (s:=Z8 x.sm w) (b:=j) hpb hp hg (by omega) (by rw [hbe];show (b:Int)<x.dk.length;omega) (by rw [hbe];exact hba) hjx hm.1 hm.2;have k1:XV x (putS x (Z8 x.sm w) (j:Int))=true:=hk.1;have k2:XL x (putS x (Z8 x.sm w) (j:Int))=true:=hk.2;have hat:∀ i,Z8 (setS x w (putS x (Z8 x.sm w) (j:Int))).sm i=if i=w then putS x (Z8 x.sm w) (j:Int) else Z8 x.sm i:=fun i=>ZJ hwl i
 have hlen:(setS x w (putS x (Z8 x.sm w) (j:Int))).sm.length=x.sm.length:=by unfold setS;simp
 refine ⟨hx.rm,hx.gd,hx.pc,hx.now,hx.dk,by rw [hlen];exact hx.len,fun i hi=> ?_,fun i hi hn=> ?_,fun i hi=> ?_⟩
 ·rw [Wu (m:=x) (m':=setS x w (putS x (Z8 x.sm w) (j:Int))) rfl rfl,hat]
  split
  ·exact k1
  ·exact hx.here i (by omega)
 ·show XL x (Z8 (setS x w (putS x (Z8 x.sm w) (j:Int))).sm i)=true
  rw [hat]
  split
  ·exact k2
  ·rename_i e
   exact hx.seat i (by omega) (fun hpi=>hn ⟨hpi,e⟩)
 ·obtain ⟨hpi,e⟩:=hi
  obtain ⟨a,b1,c,d⟩:=hx.left i hpi;refine ⟨by omega,?_⟩;rw [hat,if_neg e];exact ⟨b1,c,d⟩
theorem Shut.weak {m0 m:Z6} {b:Nat} {P Q:Nat->Prop} (h:Shut m0 b P m) (h1:∀ i,P i->Q i) (h2:∀ i,Q i->P i):Shut m0 b Q m:=
 ⟨h.rm,h.gd,h.pc,h.now,h.dk,h.len,h.here,fun i hi hn=>h.seat i hi (fun hp=>hn (h1 i hp)),fun i hi=>h.left i (h2 i hi)⟩
def IL (q:List Z4) (k:Nat) (i:Nat):Prop:= ∃ j,k<=j/\j<q.length/\(Z7 q j).2=(i:Int)
theorem Jv {m0:Z6} (h0:Loose m0) {b:Nat} (hb:b<m0.dk.length) (hop:Y1 m0 b m0.dk.length ≠ 0):∀ k,k<=(atV m0.sm b m0.sm.length).length->
  Shut m0 b (IL (atV m0.sm b m0.sm.length) k) (Yd (Y1 m0 b m0.dk.length) (Yc m0 b false) (atV m0.sm b m0.sm.length) k)
 | 0,_=>by
  refine (EY h0 hb).weak (fun i hi=> ?_) (fun i hi=> ?_)
  ·have hm:(Xq (Z8 m0.sm i),(i:Int)) ∈ atV m0.sm b m0.sm.length:=(XF m0.sm b _ m0.sm.length).2 ⟨i,hi.1,hi.2.1,hi.2.2,rfl⟩
   obtain ⟨j,hj,e⟩:=SD hm;exact ⟨j,ZA _,hj,by rw [e]⟩
  ·obtain ⟨j,_,hj,e⟩:=hi
   obtain ⟨i',hi',h1,h2,e2⟩:=(XF m0.sm b _ m0.sm.length).1 (WZ hj);rw [e2] at e
   have:i'=i:=by
    have e3:(i':Int)=(i:Int):=e;omega
   subst this;exact ⟨hi',h1,h2⟩
 | k+1,hk=>by
  have ih:=Jv h0 hb hop k (by omega);obtain ⟨i',hi',h1,h2,e2⟩:=(XF m0.sm b _ m0.sm.length).1 (WZ (show k<(atV m0.sm b m0.sm.length).length by omega));have hw:IL (atV m0.sm b m0.sm.length) k i':=⟨k,Z2 _,by omega,by rw [e2]⟩
  have:=ih.step h0 hb hop hw;unfold Yd;rw [e2];show Shut m0 b _ (Vl _ _ ((i':Int)).toNat);rw [Zz];refine this.weak (fun i hi=> ?_) (fun i hi=> ?_)
  ·obtain ⟨⟨j,hj,hjl,e⟩,hne⟩:=hi
   refine ⟨j,?_,hjl,e⟩
   rcases Nat.lt_or_ge k j with hlt | hge
   ·omega
   ·exfalso
    have:j=k:=by omega
    subst this;rw [e2] at e;apply hne;have:(i':Int)=(i:Int):=e;omega
  ·obtain ⟨j,hj,hjl,e⟩:=hi
   refine ⟨⟨j,by omega,hjl,e⟩,fun hii=> ?_⟩;subst hii;have hpw:=S0 m0.sm b m0.sm.length;have hat:∀ n (hn:n<(atV m0.sm b m0.sm.length).length),Z7 (atV m0.sm b m0.sm.length) n=(atV m0.sm b m0.sm.length)[n]:=fun n hn=>by unfold Z7;simp [List.getD,hn]
   have:=List.pairwise_iff_getElem.1 hpw k j (by omega) hjl (by omega);rw [<-hat k (by omega),<-hat j hjl] at this;apply this;rw [e2,e]
theorem EX {m0:Z6} (h0:Loose m0) {b:Nat} (hb:b<m0.dk.length) (hop:Y1 m0 b m0.dk.length ≠ 0):Loose (Yd (Y1 m0 b m0.dk.length) (Yc m0 b false) (atV m0.sm b m0.sm.length) (atV m0.sm b m0.sm.length).length):=by
 have h:=Jv h0 hb hop _ (Z2 _)
 have hno:∀ i,¬ IL (atV m0.sm b m0.sm.length) (atV m0.sm b m0.sm.length).length i:=fun i hi=>by
  obtain ⟨j,h1,h2,_⟩:=hi;omega
 generalize Yd (Y1 m0 b m0.dk.length) (Yc m0 b false) (atV m0.sm b m0.sm.length) (atV m0.sm b m0.sm.length).length=x at *;have hb':=h.bare h0 hb hop;refine ⟨?_,hb'.desk,hb'.pace,h.here,fun i hi=>h.seat i hi (hno i),hb'.openD⟩;have:=hb'.head;unfold YD at this ⊢;simp only [ZM,YW] at this ⊢;exact ⟨this.1,this.2.1,by rw [h.len];exact Yz h0,this.2.2.2⟩
def V3 (m:Z6) (b:Int):Z6 × Int:=
 if ZI m then (if Ug m b then (if (Z8 m.dk b.toNat).1 then (if Y1 m b.toNat m.dk.length=0 then (m,5) else
  (ZN (Yd (Y1 m b.toNat m.dk.length) (Yc m b.toNat false) (atV m.sm b m.sm.length) (atV m.sm b m.sm.length).length),0)) else (m,2)) else (m,1)) else (Yj,3)
theorem FG {b:Int} (h:Ug m b=true):∃ k:Nat,b=(k:Int)/\k<m.dk.length:=by
 have:=ZO (show inB b 0 ((m.dk.length:Int)-1)=true from h);exact ⟨b.toNat,by omega,by omega⟩
theorem I3 (h:ZI m=true) (b:Int):ZI (V3 m b).1=true:=by
 unfold V3;rw [h];simp only [if_true]
 split
 ·rename_i hb
  obtain ⟨k,rfl,hk⟩:=FG hb;rw [Zz]
  split
  ·split
   ·exact h
   ·rename_i hop
    exact YK (EX (ZK h) hk hop)
  ·exact h
 ·exact h
open Go.ChangeShapes Go.WideShapes Go.ChangeAt Go.RowKit Go.Sort Go.Shelf
set_option maxRecDepth 100000
theorem Fz {F:Nat->TypeId->Array Value->Prop} {R:Nat}  {qs:List (ZZ × Value)} {q:Int->Addr} (K:Ny F w W R v0 v1 v2 v3 v4 m qs) (he:Errs w q) (hm:ZI m=true) {who may:Int} {k0 k1:Nat} (h0:W.cell? ⟨k0,0,none⟩=some (.int .i64 who)) (h1:W.cell? ⟨k1,0,none⟩=some (.int .i64 may)):Calls Tryz.prog 71 #[.pointer (some ⟨R,0,none⟩),.pointer (some ⟨k0,0,none⟩),.pointer (some ⟨k1,0,none⟩)] W fun e W'=>PChg F w R q (VB m who may) (XU m who may) e W':=by
 have HC:=Z9 (DK K he hm who may);clear K;go_enter Tryz.func71,Tryz.ntmps71;go_wp2_with fail;refine (uh HC).mono ?_;rintro e w1 ⟨hb,hF,h9⟩;clear h0 h1
 rcases h9 with ⟨hc0,rfl,hx⟩ | ⟨hc0,rfl⟩
 ·go_wp2_with fail
  go_end0
  exact ⟨hb,hF,.inl ⟨hc0,rfl,hx⟩⟩
 ·go_wp2_with fail
  exact ⟨rfl,hb,hF,.inr ⟨hc0,rfl⟩⟩
theorem DM {R:Nat}  {qs:List (ZZ × Value)} {q:Int->Addr} (K:Nx w W R v0 v1 v2 v3 v4 m qs) (he:Errs w q) (hm:ZI m=true) {who may:Int} {cb k0 k1:Nat} (hc:W.cell? ⟨cb,0,none⟩=some (.func (Fn.func 71) #[] #[.pointer (some ⟨k0,0,none⟩),.pointer (some ⟨k1,0,none⟩)])) (h0:W.cell? ⟨k0,0,none⟩=some (.int .i64 who)) (h1:W.cell? ⟨k1,0,none⟩=some (.int .i64 may)):Calls Tryz.prog 130 #[.pointer (some ⟨R,0,none⟩),.pointer (some ⟨cb,0,none⟩)] W fun e W'=>Chg w R q (VB m who may) (XU m who may) e W':=by
 have hmf:∀ (fn:Fn) (first cap:Array Value) (w:World),(Instr.makeFunc fn first cap).run Tryz.prog w= .ok (.func fn first cap) w:=fun _ _ _ _=>rfl;have HE:=Z9 he;have HM:=Z9 hm;have hRl:=K.hR;clear he hm;have hba:Below W.heap.size W (W.alloc (.cells #[.nilIface] 62)):=ba _ _;have kw:Hid (Blk (W.alloc (.cells #[.nilIface] 62)) W.heap.size 62 #[.nilIface]):=Z9 (Blk.new _ _ _);replace hc:=(hba.cell (World.block_lt_of_cell? _ _ hc)).trans hc;replace h0:=(hba.cell (World.block_lt_of_cell? _ _ h0)).trans h0;replace h1:=(hba.cell (World.block_lt_of_cell? _ _ h1)).trans h1;have hsz:w.heap.size<=W.heap.size:=K.bb.size;have HO:Hid (R ≠ W.heap.size/\ ∀ k,Wg v0 v1 v2 v3 v4 qs k->k ≠ W.heap.size):=Z9 ⟨by have:=K.blk.lt;omega,fun k e=>by have:=(K.full.own e).2;omega⟩;replace K:=K.next hba;clear hba
 go_enter_defers Tryz.func130,Tryz.ntmps130
 go_wp2_with fail;generalize W.alloc (.cells #[.nilIface] 62)=W1 at *;generalize W.heap.size=bw at *;have KY:Ny (fun k t cs=>k=bw/\t=62/\cs=#[.nilIface]) w W1 R v0 v1 v2 v3 v4 m qs:=⟨K,fun k t cs hF=>by obtain ⟨rfl,rfl,rfl⟩:=hF;exact ⟨uh kw,(uh HO).1.symm,fun e=>(uh HO).2 _ e rfl⟩⟩
 refine (Fz KY (uh HE) (uh HM) h0 h1).mono ?_;rintro e w1 ⟨hb,hF,h9⟩;have kw1:=hF bw _ _ ⟨rfl,rfl,rfl⟩;have c9:=kw1.cell (i:=0) (v:= .nilIface) rfl;have f9:=kw1.free 0;have Hb:=Z9 hb;clear hF kw KY K hc HO hb h0 h1
 rcases h9 with ⟨hc0,rfl,u0,u1,u2,u3,u4,rs,KN⟩ | ⟨hc0,rfl⟩
 ·obtain ⟨_,hnR,hnO⟩:=KN.fx bw _ _ ⟨rfl,rfl,rfl⟩
  have HK:Hid (Nx w (w1.setCell ⟨bw,0,none⟩ .nilIface) R u0 u1 u2 u3 u4 (VB m who may) rs):=Z9 ⟨KN.full.set_off (fun k e e2=>hnO (by rw [<-e2];exact e)) _ _,KN.blk.other (a:=⟨bw,0,none⟩) (fun e=>hnR e.symm) _,KN.nx.own,KN.bb.setCell (p:=⟨bw,0,none⟩) hsz _,KN.nx.hR⟩;clear KN hnR hnO kw1;go_wp2_with fail;refine leaves_cons (f:=131) (args:=#[.pointer (some ⟨bw,0,none⟩)]) (by simp) (by simp [go_sem]) ?_;refine (P7 ⟨bw,0,none⟩ _).mono ?_;rintro e u' w'' ⟨rfl,rfl,rfl⟩;have c8:(w1.setCell ⟨bw,0,none⟩ .nilIface).cell? ⟨bw,0,none⟩=some .nilIface:=by simp [c9,f9,go_sem]
  have hfin:Chg w R q (VB m who may) (XU m who may) (.returned .nilIface) (w1.setCell ⟨bw,0,none⟩ .nilIface):=⟨(uh HK).bb,.inl ⟨hc0,rfl,u0,u1,u2,u3,u4,rs,uh HK⟩⟩
  simp [Leaves,settle,results,Tryz.results130,go_sem,c8,hfin]
 ·have hfin:Chg w R q (VB m who may) (XU m who may) (.returned (YJ (q (XU m who may)))) (w1.setCell ⟨bw,0,none⟩ (YJ (q (XU m who may)))):=⟨(uh Hb).setCell (p:=⟨bw,0,none⟩) hsz _,.inr ⟨hc0,rfl⟩⟩
  have HC8:=Z9 (Oy bw (q (XU m who may)) w1 c9 f9);have c8:(w1.setCell ⟨bw,0,none⟩ (YJ (q (XU m who may)))).cell? ⟨bw,0,none⟩=some (YJ (q (XU m who may))):=by simp [c9,f9,go_sem]
  clear kw1;go_wp2_with fail;refine leaves_cons (f:=131) (args:=#[.pointer (some ⟨bw,0,none⟩)]) (by simp) (by simp [go_sem]) ?_;refine (uh HC8).mono ?_;rintro e u' w'' ⟨rfl,rfl,rfl⟩;simp [Leaves,settle,results,Tryz.results130,go_sem,c8,hfin]
theorem Nm  {q:Int->Addr} (who may:Int) (he:Errs w q) (h:Smy w v0 v1 v2 v3 v4 m):Calls Tryz.prog 23 #[.agg #[v0,v1,v2,v3,v4,.int .i64 m.now],.int .i64 who,.int .i64 may] w fun e w'=>TX w.heap.size (XW m who may).1 (XW m who may).2 e w'/\Below w.heap.size w w':=by
 have HE:=Z9 he;clear he;obtain ⟨a0,p0,a1,p1,a2,p2,a3,p3,a4,p4,rfl,rfl,rfl,rfl,rfl,K⟩:=Bx.new h;clear h;replace K:=K.alloc (.cells #[.int .i64 who] 2);replace K:=K.alloc (.cells #[.int .i64 may] 2);replace K:=K.alloc (.cells E6 32)
 have kc0:Hid (Blk ((((w.alloc (.cells (S6 a0 p0 a1 p1 a2 p2 a3 p3 a4 p4 m) 32)).alloc (.cells #[.int .i64 who] 2)).alloc (.cells #[.int .i64 may] 2)).alloc (.cells E6 32)) (w.heap.size+1) 2 #[.int .i64 who]):=Z9 (by
  have k:=Blk.new (w.alloc (.cells (S6 a0 p0 a1 p1 a2 p2 a3 p3 a4 p4 m) 32)) 2 #[.int .i64 who];rw [ZB] at k
  exact (k.alloc _).alloc _)
 have kc1:Hid (Blk ((((w.alloc (.cells (S6 a0 p0 a1 p1 a2 p2 a3 p3 a4 p4 m) 32)).alloc (.cells #[.int .i64 who] 2)).alloc (.cells #[.int .i64 may] 2)).alloc (.cells E6 32)) (w.heap.size+1+1) 2 #[.int .i64 may]):=Z9 (by
  have k:=Blk.new ((w.alloc (.cells (S6 a0 p0 a1 p1 a2 p2 a3 p3 a4 p4 m) 32)).alloc (.cells #[.int .i64 who] 2)) 2 #[.int .i64 may];rw [ZB,ZB] at k
  exact k.alloc _)
 have kr:Hid (Blk ((((w.alloc (.cells (S6 a0 p0 a1 p1 a2 p2 a3 p3 a4 p4 m) 32)).alloc (.cells #[.int .i64 who] 2)).alloc (.cells #[.int .i64 may] 2)).alloc (.cells E6 32)) (w.heap.size+1+1+1) 32 E6):=Z9 (by
  have k:=Blk.new (((w.alloc (.cells (S6 a0 p0 a1 p1 a2 p2 a3 p3 a4 p4 m) 32)).alloc (.cells #[.int .i64 who] 2)).alloc (.cells #[.int .i64 may] 2)) 32 E6;rw [ZB,ZB,ZB] at k
  exact k)
 replace HE:=Z9 ((uh HE).below K.bb);have hsz:((((w.alloc (.cells (S6 a0 p0 a1 p1 a2 p2 a3 p3 a4 p4 m) 32)).alloc (.cells #[.int .i64 who] 2)).alloc (.cells #[.int .i64 may] 2)).alloc (.cells E6 32)).heap.size=(w.heap.size+1+1+1+1):=by simp
 obtain ⟨⟨M,cd⟩,hD⟩:∃ D,Ua m (VB m who may) (XU m who may)=D:=⟨_,rfl⟩
 rw [zD,hD];have HD:=Z9 hD;clear hD;go_enter Tryz.func23,Tryz.ntmps23;go_upto_region 1 with fail;generalize ((((w.alloc (.cells (S6 a0 p0 a1 p1 a2 p2 a3 p3 a4 p4 m) 32)).alloc (.cells #[.int .i64 who] 2)).alloc (.cells #[.int .i64 may] 2)).alloc (.cells E6 32))=W1 at *;obtain ⟨c0,c1,c2,c3,c4,c5⟩:=K.cells;go_wp2_with fail;refine (TB (X:=VB m who may) (c:=XU m who may) (uh HE) K.smy (fun cb w1 W R v0 v1 v2 v3 v4 rs h0 h1 h2 h3=>DM h3 ((uh HE).below h0) h2 ((h3.bb.cell (World.block_lt_of_cell? _ _ h1)).trans h1) (h3.bb.cell (World.block_lt_of_cell? _ _ (((uh kc0).below h0 (uh kc0).lt).cell (i:=0) (v:= .int .i64 who) rfl)) |>.trans (((uh kc0).below h0 (uh kc0).lt).cell (i:=0) rfl)) (h3.bb.cell (World.block_lt_of_cell? _ _ (((uh kc1).below h0 (uh kc1).lt).cell (i:=0) (v:= .int .i64 may) rfl)) |>.trans (((uh kc1).below h0 (uh kc1).lt).cell (i:=0) rfl)))).mono ?_;rintro e w2 ⟨⟨u0,u1,u2,u3,u4,rs,he9,hf⟩,hb⟩;rw [uh HD] at he9 hf;simp only at he9 hf;subst he9;have HF:=Z9 hf;clear hf c0 c1 c2 c3 c4 c5;replace K:=K.next hb;replace kr:=bl kr hb;clear hb;obtain ⟨e0,g0,e1,g1,e2,g2,e3,g3,e4,g4,rfl,rfl,rfl,rfl,rfl⟩:=WN (uh HF);obtain ⟨o0,o1,o2,o3,o4,o5⟩:=(uh kr).c6;obtain ⟨f0,f1,f2,f3,f4,f5⟩:=(uh kr).f6;go_wp2_with fail;refine ZS (v:= .tuple #[.agg (S6 e0 g0 e1 g1 e2 g2 e3 g3 e4 g4 M),.int .i64 cd]) (by simp [results,Tryz.results23,go_sem, *]) rfl ⟨?_,?_⟩
 ·refine ⟨_,_,_,_,_,rs,rfl,?_⟩
  refine FullSmy.mono (n₀:=(w.heap.size+1+1+1+1)) ?_ (by omega)
  iterate 6 (refine FullSmy.set_off ?_ (fun k e=>by have:=((uh HF).own e).1;omega) _ _)
  exact (uh HF).mono (Nat.le_of_eq hsz.symm)
 ·iterate 6 (refine YS ?_ (by show _<=w.heap.size+1+1+1;omega) _)
  exact K.bb
def cnt (p:Nat->Bool):Nat->Nat
 | 0=>0
 | n+1=>cnt p n+(if p n then 1 else 0)
theorem zQ (p:Nat->Bool):∀ n,cnt p n<=n
 | 0=>Z2 _
 | n+1=>by
  have:=zQ p n;unfold cnt
  split<;>omega
theorem Ls {p q:Nat->Bool} : ∀ n,(∀ i,i<n->p i=true->q i=true)->cnt p n<=cnt q n
 | 0,_=>Z2 _
 | n+1,h=>by
  have ih:=Ls n (fun i hi=>h i (by omega));have hn:=h n (by omega);unfold cnt;cases hp:p n
  ·simp;omega
  ·rw [hn hp];simp;exact ih
theorem Po {p q:Nat->Bool} {x:Nat} (hp:p x=true) (hq:q x=false):∀ n,x<n->(∀ i,i<n->q i=true->p i=true)->cnt q n+1<=cnt p n
 | 0,hx,_=>by omega
 | n+1,hx,h=>by
  unfold cnt;by_cases e:x=n
  ·subst e
   have:=Ls (p:=q) (q:=p) x (fun i hi=>h i (by omega));rw [hp,hq];simp;exact this
  ·have ih:=Po hp hq n (by omega) (fun i hi=>h i (by omega))
   have hn:=h n (by omega);cases hqn:q n
   ·simp;omega
   ·rw [hn hqn];simp;exact ih
theorem C0 (q:Nat->Bool) (y:Nat):∀ n,cnt q n<=cnt (fun i=>q i && !(i ==y)) n+1
 | 0=>by simp [cnt]
 | n+1=>by
  unfold cnt;by_cases e:n=y
  ·subst e
   have:=Ls (p:=q) (q:=fun i=>q i && !(i ==n)) n (fun i hi hqi=>by
    simp only [hqi,Bool.true_and,Bool.not_eq_true',beq_eq_false_iff_ne];omega)
   simp only [beq_self_eq_true,Bool.not_true,Bool.and_false]
   split<;>simp<;>omega
  ·have ih:=C0 q y n
   have he:(n ==y)=false:=by simpa using e
   simp only [he,Bool.not_false,Bool.and_true];omega
theorem zR {p q:Nat->Bool} {x y n:Nat} (hx:x<n) (hp:p x=true) (hq:q x=false) (h:∀ i,i<n->i ≠ y->q i=true->p i=true):cnt q n<=cnt p n:=by
 have h1:=C0 q y n
 have h2:=Po (p:=p) (q:=fun i=>q i && !(i ==y)) hp (by simp [hq]) n hx (fun i hi hqi=>by
  simp only [ZM,Bool.not_eq_true',beq_eq_false_iff_ne] at hqi
  exact h i hi hqi.2 hqi.1)
 omega
def VG (m:Z6) (b:Nat):Bool:=(Z8 m.dk b).1 && decide ((atV m.sm b m.sm.length).length=0)
def QF (m:Z6) (i:Nat):Bool:=ZL (Z8 m.sm i) && !Ws (Zs m (i:Int)) 0 (Zd m.rm (Z8 m.sm i).2.1)
def LH (m:Z6) (w b:Nat):Bool:=VG m b && (Yw m (w:Int) b && Ws (Zs m (w:Int)) 0 (Zd m.rm (b:Int)))
def Vo (m:Z6) (w:Nat):Nat->Option Nat
 | 0=>none
 | k+1=>match Vo m w k with
  | some b=>some b
  | none=>if LH m w k then some k else none
def PC (m:Z6) (w:Nat):Option Nat:=if QF m w then Vo m w m.dk.length else none
def Tj (m:Z6):Nat->Option (Nat × Nat)
 | 0=>none
 | k+1=>match Tj m k with
  | some r=>some r
  | none=>(PC m k).map fun b=>(k,b)
def UM (m:Z6):Option (Nat × Nat):=if ZI m then Tj m m.sm.length else none
def Ok (m:Z6) (w b:Nat):Bool:=(Z8 m.sm w).1 ==2 && Yw m (w:Int) b
def U4 (m:Z6) (b:Nat):Nat->Option Nat
 | 0=>none
 | k+1=>match U4 m b k with
  | some w=>some w
  | none=>if Ok m k b then some k else none
def Pb (m:Z6) (b:Nat):Option Nat:=if VG m b then U4 m b m.sm.length else none
def Wm (m:Z6):Nat->Option (Nat × Nat)
 | 0=>none
 | k+1=>match Wm m k with
  | some r=>some r
  | none=>(Pb m k).map fun w=>(w,k)
def Ve (m:Z6):Option (Nat × Nat):=if ZI m then Wm m m.dk.length else none
def Up (m:Z6):Option (Nat × Nat):=match UM m with
 | some r=>some r
 | none=>Ve m
theorem JL {w b:Nat} : ∀ {k},Vo m w k=some b->b<k/\LH m w b=true
 | 0,h=>by cases h
 | k+1,h=>by
  unfold Vo at h;cases hg:Vo m w k with
  | some b'=>
   rw [hg] at h;cases h;have:=JL hg;exact ⟨by omega,this.2⟩
  | none=>
   rw [hg] at h;simp only at h
   split at h
   ·rename_i hh
    cases h;exact ⟨by omega,hh⟩
   ·cases h
theorem GJ {w b:Nat} : ∀ {k},Tj m k=some (w,b)->w<k/\QF m w=true/\b<m.dk.length/\LH m w b=true
 | 0,h=>by cases h
 | k+1,h=>by
  unfold Tj at h;cases hg:Tj m k with
  | some r=>
   rw [hg] at h;cases h;have:=GJ hg;exact ⟨by omega,this.2⟩
  | none=>
   rw [hg] at h;simp only [Option.map_eq_some_iff,Prod.mk.injEq] at h;obtain ⟨b',hb',rfl,rfl⟩:=h;unfold PC at hb'
   split at hb'
   ·rename_i hh
    have:=JL hb';exact ⟨by omega,hh,this⟩
   ·cases hb'
theorem Ku {w b:Nat} : ∀ {k},U4 m b k=some w->w<k/\Ok m w b=true
 | 0,h=>by cases h
 | k+1,h=>by
  unfold U4 at h;cases hg:U4 m b k with
  | some w'=>
   rw [hg] at h;cases h;have:=Ku hg;exact ⟨by omega,this.2⟩
  | none=>
   rw [hg] at h;simp only at h
   split at h
   ·rename_i hh
    cases h;exact ⟨by omega,hh⟩
   ·cases h
theorem MU {w b:Nat} : ∀ {k},Wm m k=some (w,b)->b<k/\VG m b=true/\w<m.sm.length/\Ok m w b=true
 | 0,h=>by cases h
 | k+1,h=>by
  unfold Wm at h;cases hg:Wm m k with
  | some r=>
   rw [hg] at h;cases h;have:=MU hg;exact ⟨by omega,this.2⟩
  | none=>
   rw [hg] at h;simp only [Option.map_eq_some_iff,Prod.mk.injEq] at h;obtain ⟨b',hb',rfl,rfl⟩:=h;unfold Pb at hb'
   split at hb'
   ·rename_i hh
    have:=Ku hb';exact ⟨by omega,hh,this⟩
   ·cases hb'
def TH (m:Z6) (w b:Nat):Z6:=setS m w (putS m (Z8 m.sm w) (b:Int))
def Uq (m:Z6) (w b:Nat):Z6:=ZN (TH m w b)
structure Moves (m:Z6) (w b:Nat):Prop where
 right:ZI m=true
 who:w<m.sm.length
 bench:b<m.dk.length
 pres:ZL (Z8 m.sm w)=true
 may:Yw m (w:Int) b=true
 idle:VG m b=true
 why:(QF m w=true/\Ws (Zs m (w:Int)) 0 (Zd m.rm (b:Int))=true)\/(Z8 m.sm w).1=2
theorem Cc {w b:Nat} (h:UM m=some (w,b)):Moves m w b:=by
 unfold UM at h
 split at h
 ·rename_i hr
  obtain ⟨h1,h2,h3,h4⟩:=GJ h;unfold LH at h4;simp only [ZM] at h4;have h2':=h2;unfold QF at h2';simp only [ZM] at h2';exact ⟨hr,h1,h3,h2'.1,h4.2.1,h4.1,.inl ⟨h2,h4.2.2⟩⟩
 ·cases h
theorem EC {w b:Nat} (h:Ve m=some (w,b)):Moves m w b:=by
 unfold Ve at h
 split at h
 ·rename_i hr
  obtain ⟨h1,h2,h3,h4⟩:=MU h;unfold Ok at h4;simp only [ZM,beq_iff_eq] at h4;exact ⟨hr,h3,h1,by unfold ZL;rw [h4.1];rfl,h4.2,h2,.inr h4.1⟩
 ·cases h
theorem RE {w b:Nat} (h:Up m=some (w,b)):Moves m w b:=by
 unfold Up at h;cases hm:UM m with
 | some r=>rw [hm] at h;cases h;exact Cc hm
 | none=>rw [hm] at h;exact EC h
theorem Moves.loose {w b:Nat} (h:Moves m w b):Loose (TH m w b):=by
 have hlo:=ZK h.right;obtain ⟨p,g1,b1⟩:=hlo.limits h.who (by intro e;have:=h.pres;unfold ZL at this;rw [e] at this;cases this);obtain ⟨a0,a1,a2,a3,a4⟩:=hlo.at h.who h.pres;have hm:=h.may;unfold Yw at hm;simp only [ZM,Zz] at hm;have:=Pv (m:=m) hlo (s:=Z8 m.sm w) (b:=b) p h.pres g1 a0 a1 a4 h.bench hm.1 hm.2;exact hlo.setS h.who this.1 this.2
theorem Moves.keeps {w b:Nat} (h:Moves m w b):ZI (Uq m w b)=true:=YK h.loose
theorem IU {ss:List Z3} {b:Int} {n:Nat} : (atV ss b n).length=0 ↔ ∀ i,i<n-> ¬ ((Z8 ss i).2.1=b/\ZL (Z8 ss i)=true):=by
 constructor
 ·intro h i hi hp
  have hm:(Xq (Z8 ss i),(i:Int)) ∈ atV ss b n:=(XF ss b _ n).2 ⟨i,hi,hp.1,hp.2,rfl⟩;rw [List.length_eq_zero_iff.1 h] at hm;cases hm
 ·intro h
  rw [List.length_eq_zero_iff];refine List.eq_nil_iff_forall_not_mem.2 fun e he=> ?_;obtain ⟨i,hi,h1,h2,_⟩:=(XF ss b e n).1 he;exact h i hi ⟨h1,h2⟩
theorem PG {w b:Nat} (hw:w<m.sm.length) (i:Nat):Z8 (TH m w b).sm i=if i=w then putS m (Z8 m.sm w) (b:Int) else Z8 m.sm i:=ZJ hw i
theorem Us (m:Z6) (w b:Nat):(TH m w b).sm.length=m.sm.length:=by unfold TH setS;simp
theorem UE {i:Nat} (hi:i<m.sm.length):(Z8 (ZN m).sm i).2=(Z8 m.sm i).2:=by
 unfold ZN;rw [XB m hi]
 split<;>rfl
theorem CL {i:Nat} (hi:i<m.sm.length):ZL (Z8 (ZN m).sm i)=ZL (Z8 m.sm i):=(WA m m.dk.length i hi).2.1
theorem CI (m:Z6) {b:Nat} (hb:b<m.dk.length):VG (ZN m) b=VG m b:=by
 unfold VG ZN;rw [O9,V1 m b _ (Nat.le_refl _),if_pos hb]
 congr 1
 unfold WH
 split<;>rfl
theorem Bg (m:Z6) {i:Nat} (hi:i<m.sm.length):QF (ZN m) i=QF m i:=by
 have h1:Zs (ZN m) (i:Int)=Zs m (i:Int):=by
  unfold Zs PY;rw [Zz,UE hi,show (ZN m).gd=m.gd from (ZG m m.dk.length).2.1]
 unfold QF;rw [CL hi,h1,UE hi,show (ZN m).rm=m.rm from (ZG m m.dk.length).1]
def NX (m:Z6):Nat:=cnt (VG m) m.dk.length
def Jp (m:Z6):Nat:=cnt (QF m) m.sm.length
def R1 (m:Z6):Nat:=13*NX m+Jp m
theorem FQ {p q:Nat->Bool} (n:Nat) (h:∀ i,i<n->p i=q i):cnt p n=cnt q n:=
 Nat.le_antisymm (Ls n fun i hi hp=>by rw [<-h i hi];exact hp) (Ls n fun i hi hp=>by rw [h i hi];exact hp)
theorem Fi (m:Z6):NX (ZN m)=NX m:=by
 unfold NX;rw [show (ZN m).dk.length=m.dk.length from (ZG m m.dk.length).2.2.2.2.2];exact FQ _ fun i hi=>CI m hi
theorem CK (m:Z6):Jp (ZN m)=Jp m:=by
 unfold Jp;rw [show (ZN m).sm.length=m.sm.length from (ZG m m.dk.length).2.2.2.2.1];exact FQ _ fun i hi=>Bg m hi
theorem AK {w b:Nat} (hw:w<m.sm.length) (hp:ZL (Z8 m.sm w)=true):VG (TH m w b) b=false:=by
 unfold VG;rw [decide_eq_false,Bool.and_false];intro h;refine IU.1 h w (by rw [Us];exact hw) ?_;rw [PG hw,if_pos rfl];exact ⟨rfl,hp⟩
theorem G7 {w b j:Nat} (hw:w<m.sm.length) (hj:(Z8 m.sm w).2.1 ≠ (j:Int)) (h:VG (TH m w b) j=true):VG m j=true:=by
 unfold VG at h ⊢;simp only [ZM,YW] at h ⊢;refine ⟨h.1,IU.2 fun i hi hp=> ?_⟩;have:=IU.1 h.2 i (by rw [Us];exact hi);rw [PG hw] at this;by_cases e:i=w
 ·subst e;exact hj hp.1
 ·rw [if_neg e] at this;exact this hp
theorem zo {w b i:Nat} (hw:w<m.sm.length) (hi:i ≠ w):QF (TH m w b) i=QF m i:=by
 unfold QF Zs;rw [Zz,PG hw,if_neg hi];rfl
theorem AL {w b:Nat} (hw:w<m.sm.length) (h:Ws (Zs m (w:Int)) 0 (Zd m.rm (b:Int))=true):QF (TH m w b) w=false:=by
 unfold QF Zs;rw [Zz,PG hw,if_pos rfl]
 have e:PY (TH m w b).gd (putS m (Z8 m.sm w) (b:Int))=Zs m (w:Int):=by
  unfold Zs;rw [Zz];rfl
 rw [e];show (_ && !Ws _ 0 (Zd m.rm (b:Int)))=false;rw [h];simp
theorem Fp (h:ZI m=true) {w:Nat} (hw:w<m.sm.length) (h2:(Z8 m.sm w).1=2):∃ i,i<m.sm.length/\i ≠ w/\(Z8 m.sm i).2.1=(Z8 m.sm w).2.1/\ZL (Z8 m.sm i)=true:=by
 have hlo:=ZK h;have hp:ZL (Z8 m.sm w)=true:=by unfold ZL;rw [h2];rfl
 obtain ⟨a0,a1,_⟩:=hlo.at hw hp;obtain ⟨b,hb⟩:∃ b:Nat,(Z8 m.sm w).2.1=(b:Int):=⟨(Z8 m.sm w).2.1.toNat,by omega⟩
 have hbl:b<m.dk.length:=by omega
 have hok:Ya m b=true:=by
  unfold ZI at h;simp only [ZM] at h;exact IT h.2 hbl
 rw [<-Kq] at hok;unfold U3 at hok
 split at hok
 ·simp only [YW,List.length_eq_zero_iff] at hok
  have:(w:Int) ∈ ZQ (atB (b:Int)) m.sm m.sm.length:=(WC _ _ _ _).2 ⟨w,hw,rfl,by unfold atB;rw [h2,hb];simp⟩;rw [hok] at this;cases this
 ·simp only [ZM,YW] at hok
  have hx:Z8 (ZQ (Y0 (b:Int)) m.sm m.sm.length) 0 ∈ ZQ (Y0 (b:Int)) m.sm m.sm.length:=Vu (by omega);obtain ⟨i,hi,_,hwk⟩:=(WC _ _ _ _).1 hx;unfold Y0 at hwk;simp only [ZM,beq_iff_eq] at hwk;exact ⟨i,hi,fun e=>by subst e;omega,by rw [hb];exact hwk.2,by unfold ZL;rw [hwk.1];rfl⟩
theorem Moves.falls {w b:Nat} (h:Moves m w b):R1 (Uq m w b)<R1 m:=by
 unfold R1 Uq;rw [Fi,CK];have hlo:=ZK h.right;have h12:=Yz hlo;obtain ⟨a0,a1,_⟩:=hlo.at h.who h.pres;have hmb:=zQ (QF (TH m w b)) m.sm.length;have hbusy:=AK (b:=b) h.who h.pres
 rcases h.why with ⟨hmis,hfit⟩ | hwait
 ·have e1:NX (TH m w b)<=NX m:=zR (y:=(Z8 m.sm w).2.1.toNat) h.bench h.idle hbusy fun i hi hne hq=>G7 h.who (by omega) hq
  have e2:Jp (TH m w b)+1<=Jp m:=by
   unfold Jp;rw [Us];refine Po hmis (AL h.who hfit) _ h.who fun i hi hq=> ?_;by_cases e:i=w
   ·subst e;exact hmis
   ·rw [zo h.who e] at hq;exact hq
  omega
 ·have e1:NX (TH m w b)+1<=NX m:=by
   refine Po h.idle hbusy _ h.bench fun j hj hq=> ?_;by_cases e:(Z8 m.sm w).2.1=(j:Int)
   ·exfalso
    obtain ⟨i,hi,hiw,hbe,hpr⟩:=Fp h.right h.who hwait;unfold VG at hq;simp only [ZM,YW] at hq;have:=IU.1 hq.2 i (by rw [Us];exact hi);rw [PG h.who,if_neg hiw] at this;exact this ⟨by rw [hbe,e],hpr⟩
   ·exact G7 h.who e hq
  have e2:Jp (TH m w b)<=12:=by
   unfold Jp;rw [Us];omega
  omega
def Uo:Nat->Z6->Z6
 | 0,m=>m
 | k+1,m=>match Up m with
  | none=>m
  | some (w,b)=>Uo k (Uq m w b)
def TF (m:Z6):Z6:=Uo (R1 m+1) m
theorem N9:∀ (j k:Nat) (m:Z6),R1 m<j->R1 m<k->Uo j m=Uo k m
 | 0,_,_,h,_=>by omega
 | _+1,0,_,_,h=>by omega
 | j+1,k+1,m,hj,hk=>by
  show (match Up m with | none=>m | some (w,b)=>Uo j (Uq m w b))=(match Up m with | none=>m | some (w,b)=>Uo k (Uq m w b))
  cases hm:Up m with
  | none=>rfl
  | some r=>
   obtain ⟨w,b⟩:=r;have hf:=(RE hm).falls;exact N9 j k (Uq m w b) (by omega) (by omega)
theorem Gy (h:Up m=none):TF m=m:=by
 unfold TF Uo;rw [h]
theorem J0 {w b:Nat} (h:Up m=some (w,b)):TF m=TF (Uq m w b):=by
 have hf:=(RE h).falls
 have:TF m=Uo (R1 m) (Uq m w b):=by
  show (match Up m with | none=>m | some (w,b)=>Uo (R1 m) (Uq m w b))=_;rw [h]
 rw [this];exact N9 _ _ _ (by omega) (by omega)
theorem Py:∀ (k:Nat) (m:Z6),ZI m=true->ZI (Uo k m)=true
 | 0,m,h=>h
 | k+1,m,h=>by
  unfold Uo;cases hm:Up m with
  | none=>exact h
  | some r=>
   obtain ⟨w,b⟩:=r;exact Py k (Uq m w b) (RE hm).keeps
theorem Gz (h:ZI m=true):ZI (TF m)=true:=Py _ m h
def VV (m:Z6):Z6:=if ZI m then TF m else Yj
theorem Nd {k:Nat} (hk:k<m.sm.length) (x:Z3):Z8 (setS m k x).sm k=x:=by unfold setS;rw [ZJ hk,if_pos rfl]
theorem Uu (m:Z6) (k:Nat) (x:Z3):(setS m k x).sm.length=m.sm.length:=by unfold setS;simp
theorem Q9 (m:Z6):(ZN m).sm.length=m.sm.length:=(ZG m m.dk.length).2.2.2.2.1
theorem EO (m:Z6) (who rank:Int):(ZI m=false/\XE m who rank=(Yj,3))\/(ZI m=true/\ ∃ c:Int,c ≠ 0/\XE m who rank=(m,c))\/
  (ZI m=true/\ ∃ X,XE m who rank=(X,0)/\ZI X=true/\ ∃ k:Nat,who=(k:Int)/\k<X.sm.length/\(Z8 X.sm k).2.2.1=rank):=by
 cases h:ZI m
 ·left;unfold XE;rw [h];exact ⟨rfl,rfl⟩
 right;have hr:=Ms h who rank;unfold XE at hr ⊢;rw [h] at hr ⊢;simp only [if_true] at hr ⊢;cases hw:WU m who
 ·rw [if_neg (by simp)];exact .inl ⟨by trivial,1,by omega,rfl⟩
 rw [hw] at hr;simp only [if_true] at hr ⊢;obtain ⟨k,rfl,hk,hs⟩:=Yl hw;rw [Zz] at hr ⊢;cases hq:(Zr (Z8 m.sm k) rank).2
 ·rw [if_neg (by simp)];exact .inl ⟨by trivial,3,by omega,rfl⟩
 rw [hq] at hr;simp only [if_true] at hr ⊢;refine .inr ⟨by trivial,_,rfl,hr,k,rfl,by rw [Q9,Uu];exact hk,?_⟩;rw [show ∀ s:Z3,s.2.2.1=(s.2).2.1 from fun _=>rfl,UE (by rw [Uu];exact hk),Nd hk];unfold Zr at hq ⊢
 split at hq
 ·rename_i a
  split at hq
  ·rename_i b;rw [if_pos a,if_pos b];rfl
  ·cases hq
 ·cases hq
theorem GC (m:Z6) (who lo hi:Int):(ZI m=false/\XD m who lo hi=(Yj,3))\/(ZI m=true/\ ∃ c:Int,c ≠ 0/\XD m who lo hi=(m,c))\/
  (ZI m=true/\ ∃ X,XD m who lo hi=(X,0)/\ZI X=true/\ ∃ k:Nat,who=(k:Int)/\k<X.sm.length/\(Z8 X.sm k).2.2.2.2.2.1=lo/\(Z8 X.sm k).2.2.2.2.2.2.1=hi):=by
 cases h:ZI m
 ·left;unfold XD;rw [h];exact ⟨rfl,rfl⟩
 right;have hr:=Oa h who lo hi;unfold XD at hr ⊢;rw [h] at hr ⊢;simp only [if_true] at hr ⊢;cases hw:WU m who
 ·rw [if_neg (by simp)];exact .inl ⟨by trivial,1,by omega,rfl⟩
 rw [hw] at hr;simp only [if_true] at hr ⊢;obtain ⟨k,rfl,hk,hs⟩:=Yl hw;rw [Zz] at hr ⊢;cases hq:Yx lo hi
 ·rw [if_neg (by simp)];exact .inl ⟨by trivial,3,by omega,rfl⟩
 rw [hq] at hr;simp only [if_true] at hr ⊢;have ht:=UE (m:=setS m k (Jk (Z8 m.sm k) lo hi)) (i:=k) (by rw [Uu];exact hk);rw [Nd hk] at ht;refine .inr ⟨by trivial,_,rfl,hr,k,rfl,by rw [Q9,Uu];exact hk,?_,?_⟩
 ·rw [show ∀ s:Z3,s.2.2.2.2.2.1=(s.2).2.2.2.2.1 from fun _=>rfl,ht];rfl
 ·rw [show ∀ s:Z3,s.2.2.2.2.2.2.1=(s.2).2.2.2.2.2.1 from fun _=>rfl,ht];rfl
theorem Fy (m:Z6) (who may:Int):(ZI m=false/\XW m who may=(Yj,3))\/(ZI m=true/\ ∃ c:Int,c ≠ 0/\XW m who may=(m,c))\/
  (ZI m=true/\ ∃ X,XW m who may=(X,0)/\ZI X=true/\ ∃ k:Nat,who=(k:Int)/\k<X.sm.length/\(Z8 X.sm k).2.2.2.1=may):=by
 cases h:ZI m
 ·left;unfold XW;rw [h];exact ⟨rfl,rfl⟩
 right;have hr:=NN h who may;unfold XW at hr ⊢;rw [h] at hr ⊢;simp only [if_true] at hr ⊢;cases hw:WU m who
 ·rw [if_neg (by simp)];exact .inl ⟨by trivial,1,by omega,rfl⟩
 rw [hw] at hr;simp only [if_true] at hr ⊢;obtain ⟨k,rfl,hk,hs⟩:=Yl hw;rw [Zz] at hr ⊢;cases hq:inB may 1 255
 ·rw [if_neg (by simp)];exact .inl ⟨by trivial,3,by omega,rfl⟩
 rw [hq] at hr;simp only [if_true] at hr ⊢;have hkx:k<(Y3 m k may).sm.length:=by unfold Y3;rw [Uu];exact hk
 split at hr
 ·rename_i a
  rw [if_pos a]
  split at hr
  ·rename_i c;rw [if_pos c];exact .inl ⟨by trivial,2,by omega,rfl⟩
  ·rename_i c
   rw [if_neg c];refine .inr ⟨by trivial,_,rfl,hr,k,rfl,by rw [Q9,Uu];exact hkx,?_⟩;rw [show ∀ s:Z3,s.2.2.2.1=(s.2).2.2.1 from fun _=>rfl,UE (by rw [Uu];exact hkx),Nd hkx];rfl
 ·rename_i a
  rw [if_neg a];refine .inr ⟨by trivial,_,rfl,hr,k,rfl,by rw [Q9];exact hkx,?_⟩;rw [show ∀ s:Z3,s.2.2.2.1=(s.2).2.2.1 from fun _=>rfl,UE hkx];unfold Y3;rw [Nd hk];rfl
end Go.Proofs.YtamgfpdahadnfaaGreatDoor
