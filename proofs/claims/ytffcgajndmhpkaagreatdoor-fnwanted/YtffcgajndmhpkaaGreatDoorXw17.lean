/- Part 17 of what the proof rests on. No condition but those that a theorem names. -/
import Derived.Test.YtffcgajndmhpkaaGreatDoorXw16
set_option maxHeartbeats 8000000
set_option maxRecDepth 100000
namespace Go.Proofs.YtffcgajndmhpkaaGreatDoor
open Go.ChangeShapes Go.WideShapes Go.ChangeAt Go.RowKit Go.Sort
set_option linter.unusedVariables false
variable {w w' w0 w1 w2 w3 w₀ wr W W' X A B C : World} {v v0 v1 v2 v3 v4 u u0 u1 u2 u3 u4 : Value} {m : Z4}
theorem Fy {room:Int} {k:Nat} (h:¬ (Yw m.rooms k:Int)=room):ZJ m room (k+1)=ZJ m room k:=by show (if _ then _ else _)=_;rw [if_neg h]
theorem IL {room:Int} {k:Nat} (h:(Yw m.rooms k:Int)=room):ZJ m room (k+1)=((if (Z8 m.desks k).1 then max (ZJ m room k).1 (Ze m k (-1)) else (ZJ m room k).1),(ZJ m room k).2+Ze m k (-1)):=by show (if _ then _ else _)=_;rw [if_pos h]
theorem SV  (room:Int) (h:Smy w v0 v1 v2 v3 v4 m) (hS:Sane m) :
  Calls Tryz.prog 63 #[.agg #[v0,v1,v2,v3,v4,.int .i64 m.now],.int .i64 room] w fun e w'=>e= .returned (.tuple #[.int .i64 (ZJ m room m.desks.length).1,.int .i64 (ZJ m room m.desks.length).2])/\Below w.heap.size w w':=by
 have Hv:=Z9 (h.alloc (.cells #[v0,v1,v2,v3,v4,.int .i64 m.now] 32))
 obtain ⟨a0,p0,a1,p1,a2,p2,a3,p3,a4,p4,rfl,rfl,rfl,rfl,rfl,_,_,_,_,_,_,_,_,_,_⟩:=h.five
 clear h
 have HS:=Z9 hS
 obtain ⟨BB0,kb0⟩:=WZ w 32 (S6 a0 p0 a1 p1 a2 p2 a3 p3 a4 p4 m)
 have h8:=hS.eight
 have hbd:=Wo m room hS.few
 have Hbd:=Z9 hbd
 clear hS hbd
 go_enter Tryz.func63,Tryz.ntmps63
 go_wp2_with fail
 go_loopw [6,7,8] (fun mo al i wr=> ∃ k:Nat,k<=m.desks.length/\i= .int .i64 k/\mo= .int .i64 (ZJ m room k).1/\al= .int .i64 (ZJ m room k).2/\Blk wr w.heap.size 32 (S6 a0 p0 a1 p1 a2 p2 a3 p3 a4 p4 m)/\Smy wr (.slice a0 m.rooms.length p0) (.slice a1 m.guilds.length p1) (.slice a2 m.smiths.length p2) (.slice a3 m.desks.length p3) (.slice a4 m.paces.length p4) m/\Below w.heap.size w wr) (fun _ _ i _=>m.desks.length-(intOf i).toNat)
 case atStart=>exact ⟨0,Nat.zero_le _,rfl,rfl,rfl,uh kb0,uh Hv,uh BB0⟩
 case round=>
  obtain ⟨k,hk,rfl,rfl,rfl,hkb,hv,hb0⟩:=hrel
  obtain ⟨⟨u0,u1⟩,u2,u3⟩:=uh Hbd k
  have kb:=Z9 hkb
  have Hv1:=Z9 hv
  have BB:=Z9 hb0
  clear hkb hv hb0 kb0 BB0 Hv
  obtain ⟨c0,c1,c2,c3,c4,c5⟩:=(uh kb).c6
  by_cases hlt:k<m.desks.length
  ·have hlt1:(k:Int)<(m.desks.length:Int):=by omega
   have Hno:=Z9 (fun hh=>Fy (m:=m) (room:=room) (k:=k) hh)
   have Hyes:=Z9 (fun hh=>IL (m:=m) (room:=room) (k:=k) hh)
   obtain ⟨⟨mo,al⟩,hmo⟩:∃ x,ZJ m room k=x:=⟨_,rfl⟩
   rw [hmo] at u0 u1 u2 u3 Hno Hyes ⊢
   simp only at u0 u1 u2 u3 Hyes ⊢
   clear hmo
   go_wp2_with fail
   refine ck (TM (k:Int) (uh Hv1).rooms ((uh HS).bench hlt)) fun w1 hb=> ?_
   replace kb:=bl kb hb
   replace Hv1:=Z9 ((uh Hv1).below hb)
   replace BB:=bt BB hb
   clear hb c0 c1 c2 c3 c4 c5
   obtain ⟨rn,hrn⟩:∃ r:Int,(Yw m.rooms k:Int)=r:=⟨_,rfl⟩
   rw [hrn] at Hno Hyes ⊢
   clear hrn
   by_cases hr:rn=room
   rotate_left
   ·have hrb:(rn ==room)=false:=by simpa using hr
    go_wp2_with fail
    go_roundw
    case rel=>exact ⟨k+1,by omega,by go_num,by rw [uh Hno hr],by rw [uh Hno hr],uh kb,uh Hv1,uh BB⟩
    case measure=>exact ms
   have hrb:(rn ==room)=true:=by simpa using hr
   obtain ⟨c0,c1,c2,c3,c4,c5⟩:=(uh kb).c6
   go_wp2_with fail
   refine ck (V2 (k:Int) (-1) (uh Hv1) (uh HS).guilded (by have:=(uh HS).few;omega)) fun w2 hb=> ?_
   replace kb:=bl kb hb
   replace Hv1:=Z9 ((uh Hv1).below hb)
   replace BB:=bt BB hb
   clear hb c0 c1 c2 c3 c4 c5
   have hub:=Tn m (k:Int) (-1)
   have hfew:=(uh HS).few
   have hy:=uh Hyes hr
   generalize Ze m (k:Int) (-1)=us at *
   obtain ⟨_,_,hde,_,_,r3⟩:=(uh Hv1).desks
   cases hde
   rcases r3 with e0 | ⟨db,off,rfl,hbw,hcl⟩
   ·rw [e0] at hlt;simp at hlt
   obtain ⟨d0,_,_⟩:=Zp hcl hlt
   clear hcl
   obtain ⟨op,hop⟩:∃ o,(Z8 m.desks k).1=o:=⟨_,rfl⟩
   rw [hop] at d0 hy
   have Hy:=Z9 hy
   clear hop hy Hno Hyes
   have c3:=(uh kb).cell (i:=3) (v:= .slice (some ⟨db,off,none⟩) m.desks.length p3) rfl
   cases op
   ·go_wp2_with fail
    go_roundw
    case rel=>exact ⟨k+1,by omega,by go_num,by rw [uh Hy];rfl,by rw [uh Hy],uh kb,uh Hv1,uh BB⟩
    case measure=>exact ms
   ·go_wp2_with (go_at_call 124;refine (Ss _ _ _).mono ?_;rintro e w' ⟨rfl,h9⟩;subst w')
    go_roundw
    case rel=>exact ⟨k+1,by omega,by go_num,by rw [uh Hy];rfl,by rw [uh Hy],uh kb,uh Hv1,uh BB⟩
    case measure=>exact ms
  ·obtain rfl:k=m.desks.length:=by omega
   go_wp2_with fail
   go_ret2
   exact ⟨rfl,uh BB⟩
theorem JL  {r:Nat} (h:Smy w v0 v1 v2 v3 v4 m) (hS:Sane m) (hr:r<m.rooms.length) :
  Calls Tryz.prog 320 #[.agg #[v0,v1,v2,v3,v4,.int .i64 m.now],.int .i64 (r:Int)] w fun e w'=>e= .returned (.int .i64 (Qm m r))/\Below w.heap.size w w':=by
 have Hv:=Z9 (h.alloc (.cells #[v0,v1,v2,v3,v4,.int .i64 m.now] 32))
 obtain ⟨a0,p0,a1,p1,a2,p2,a3,p3,a4,p4,rfl,rfl,rfl,rfl,rfl,_,_,_,_,_,_,_,_,_,_⟩:=h.five
 clear h
 have HS:=Z9 hS
 obtain ⟨BB0,kb0⟩:=WZ w 32 (S6 a0 p0 a1 p1 a2 p2 a3 p3 a4 p4 m)
 have hr1:(r:Int)<(m.rooms.length:Int):=by omega
 have Hc:Hid (Qm m r=LJ (Z0 m.rooms r) (ZJ m (r:Int) m.desks.length).1 (ZJ m (r:Int) m.desks.length).2):=Z9 rfl
 rw [uh Hc]
 clear Hc hS
 obtain ⟨⟨n,ps⟩,hrm⟩:∃ x,Z0 m.rooms r=x:=⟨_,rfl⟩
 obtain ⟨mo,hmo⟩:∃ x,(ZJ m (r:Int) m.desks.length).1=x:=⟨_,rfl⟩
 obtain ⟨al,hal⟩:∃ x,(ZJ m (r:Int) m.desks.length).2=x:=⟨_,rfl⟩
 rw [hrm,hmo,hal]
 have Hrm:=Z9 hrm
 have Hmo:=Z9 hmo
 have Hal:=Z9 hal
 clear hrm hmo hal
 go_enter Tryz.func320,Tryz.ntmps320
 go_wp2_with fail
 have hu:=SV (r:Int) (uh Hv) (uh HS)
 rw [uh Hmo,uh Hal] at hu
 refine hu.mono ?_
 clear hu
 rintro e w1 ⟨rfl,hb⟩
 have kb:=Z9 ((uh kb0).below hb (uh kb0).lt)
 replace Hv:=Z9 ((uh Hv).below hb)
 have BB:=Z9 ((uh BB0).trans (hb.mono (uh BB0).size))
 clear hb kb0 BB0
 obtain ⟨_,_,hre,_,_,r0⟩:=(uh Hv).rooms
 cases hre
 rcases r0 with e0 | ⟨rb,off,rfl,hbw,hcl⟩
 ·rw [e0] at hr;simp at hr
 obtain ⟨d0,pv,d1,hpv⟩:=hcl r hr
 rw [uh Hrm] at d0 hpv
 simp only at d0 hpv
 have Hpv:=Z9 hpv
 obtain ⟨pa,pc,rfl,_,_,_⟩:=hpv
 have c0:=(uh kb).cell (i:=0) (v:= .slice (some ⟨rb,off,none⟩) m.rooms.length p0) rfl
 clear hcl
 go_wp2_with fail
 refine ck (Rz n mo al (uh Hpv)) fun w2 hb=> ?_
 replace BB:=bt BB hb
 clear hb
 go_wp2_with fail
 go_ret
 exact ⟨rfl,uh BB⟩
theorem GU  (h:Smy w v0 v1 v2 v3 v4 m) (hS:Sane m) :
  Calls Tryz.prog 317 #[.agg #[v0,v1,v2,v3,v4,.int .i64 m.now]] w fun e w'=>e= .returned (.int .i64 (Lr m))/\Below w.heap.size w w':=by
 have Hv:=Z9 (h.alloc (.cells #[v0,v1,v2,v3,v4,.int .i64 m.now] 32))
 obtain ⟨a0,p0,a1,p1,a2,p2,a3,p3,a4,p4,rfl,rfl,rfl,rfl,rfl,_,_,_,_,_,_,_,_,_,_⟩:=h.five
 clear h
 have HS:=Z9 hS
 obtain ⟨BB0,kb0⟩:=WZ w 32 (S6 a0 p0 a1 p1 a2 p2 a3 p3 a4 p4 m)
 have h3:=(Zy hS.hall).2.1
 have Hbd:=Z9 (Mg m)
 clear hS
 go_enter Tryz.func317,Tryz.ntmps317
 go_wp2_with fail
 go_loopw [3,4] (fun n i wr=> ∃ k:Nat,k<=m.rooms.length/\i= .int .i64 k/\n= .int .i64 (UH m k)/\Blk wr w.heap.size 32 (S6 a0 p0 a1 p1 a2 p2 a3 p3 a4 p4 m)/\Smy wr (.slice a0 m.rooms.length p0) (.slice a1 m.guilds.length p1) (.slice a2 m.smiths.length p2) (.slice a3 m.desks.length p3) (.slice a4 m.paces.length p4) m/\Below w.heap.size w wr) (fun _ i _=>m.rooms.length-(intOf i).toNat)
 case atStart=>exact ⟨0,Nat.zero_le _,rfl,rfl,uh kb0,uh Hv,uh BB0⟩
 case round=>
  obtain ⟨k,hk,rfl,rfl,hkb,hv,hb0⟩:=hrel
  obtain ⟨u0,u1⟩:=uh Hbd k
  obtain ⟨u2,u3⟩:=uh Hbd (k+1)
  have hst:UH m (k+1)=UH m k+Qm m k:=rfl
  have kb:=Z9 hkb
  have Hv1:=Z9 hv
  have BB:=Z9 hb0
  clear hkb hv hb0 kb0 BB0 Hv
  obtain ⟨c0,c1,c2,c3,c4,c5⟩:=(uh kb).c6
  by_cases hlt:k<m.rooms.length
  ·have hlt1:(k:Int)<(m.rooms.length:Int):=by omega
   go_wp2_with fail
   refine ck (JL (uh Hv1) (uh HS) hlt) fun w1 hb=> ?_
   replace kb:=bl kb hb
   replace Hv1:=Z9 ((uh Hv1).below hb)
   replace BB:=bt BB hb
   rw [hst] at u2 u3
   have Hst:=Z9 hst
   clear hb c0 c1 c2 c3 c4 c5 hst
   generalize Qm m k=ci at *
   generalize UH m k=ct at *
   go_wp2_with fail
   go_roundw
   case rel=>exact ⟨k+1,by omega,by go_num,by rw [uh Hst],uh kb,uh Hv1,uh BB⟩
   case measure=>exact ms
  ·obtain rfl:k=m.rooms.length:=by omega
   go_wp2_with fail
   go_ret
   exact ⟨rfl,uh BB⟩
set_option linter.unusedSimpArgs false
theorem PZ  {k:Nat} (b:Int) (h:Smy w v0 v1 v2 v3 v4 m) (hS:Sane m) (hp:m.paces.length<=1000) (hk:k<m.smiths.length) (hs:(Z8 m.smiths k).1 ≠ 0) :
  Calls Tryz.prog 301 #[.agg #[v0,v1,v2,v3,v4,.int .i64 m.now],.int .i64 (k:Int),.int .i64 b] w fun e w'=>e= .returned (.int .i64 (Ym m (k:Int) b))/\Below w.heap.size w w':=by
 have Hv:=Z9 (h.alloc (.cells #[v0,v1,v2,v3,v4,.int .i64 m.now] 32))
 obtain ⟨a0,p0,a1,p1,a2,p2,a3,p3,a4,p4,rfl,rfl,rfl,rfl,rfl,_,_,_,_,_,_,_,_,_,_⟩:=h.five
 clear h
 have HF:=Z9 (hS.few' hp)
 have HSW:=Z9 (hS.with hk hs b)
 have Hc:Hid (Ym m (k:Int) b=Lr (Tq m (k:Int) b)):=Z9 rfl
 rw [uh Hc]
 have hk1:(k:Int)<(m.smiths.length:Int):=by omega
 clear hS hp hs Hc
 have BB0:Hid (Below w.heap.size w (w.alloc (.cells (S6 a0 p0 a1 p1 a2 p2 a3 p3 a4 p4 m) 32))):=Z9 ((ba _ _))
 go_enter Tryz.func301,Tryz.ntmps301
 go_wp2_with fail
 refine (YE (uh Hv) (uh HF)).mono ?_
 rintro e w1 ⟨y0,y1,y2,y3,y4,oq,rfl,ho,hb⟩
 have k9:=ho.smy
 obtain ⟨b0,q0,b1,q1,b2,q2,b3,q3,b4,q4,rfl,rfl,rfl,rfl,rfl,_,_,_,_,_,_,_,_,_,_⟩:=k9.five
 have HO:=Z9 (ho.mono (n₁:=w.heap.size) (by simp))
 have BB:=Z9 ((uh BB0).trans (hb.mono (uh BB0).size))
 clear k9 ho hb BB0 Hv
 go_upto_region 2 with fail
 obtain ⟨W,hW,hba,ko⟩:=YO w1 32 (S6 b0 q0 b1 q1 b2 q2 b3 q3 b4 q4 m)
 have LO:Hid (∀ i,WW (.slice b0 m.rooms.length q0) (.slice b1 m.guilds.length q1) (.slice b2 m.smiths.length q2) (.slice b3 m.desks.length q3) (.slice b4 m.paces.length q4) oq i->w.heap.size<=i/\i<w1.heap.size):=Z9 (fun i e=>(uh HO).own e)
 replace HO:=Z9 ((uh HO).below hba)
 replace BB:=bt BB hba
 clear hba
 rw [hW]
 clear hW
 generalize w1.heap.size=ob at *
 obtain ⟨g2,hga,_,_,hc2,hz2⟩:=RecAt.view ZT (by omega) (uh HO).smiths rfl (by omega)
 cases hga
 have hg2o:=(uh LO g2 (.inr (.inr (.inr (.inl rfl)))))
 have s1:=hc2 k hk 1 _ rfl
 have f1:=hz2 (k*11+1)
 have hp1:=(uh HO).putS rfl (j:=k) (i:=1) hk (by omega) (.int .i64 b) (((Z8 m.smiths k).1,b,(Z8 m.smiths k).2.2)) rfl
 have hlen:(m.smiths.set k (((Z8 m.smiths k).1,b,(Z8 m.smiths k).2.2))).length=m.smiths.length:=by simp
 have hs1:Z8 (m.smiths.set k (((Z8 m.smiths k).1,b,(Z8 m.smiths k).2.2))) k=(((Z8 m.smiths k).1,b,(Z8 m.smiths k).2.2)):=by rw [ZK hk,if_pos rfl]
 have hp2:=hp1.putS hlen.symm (j:=k) (i:=0) (by show k<(m.smiths.set k _).length;omega) (by omega) (.int .i64 2) (Q6 (Z8 m.smiths k) b) (by show ZV (Q6 (Z8 m.smiths k) b)=(ZV (Z8 (m.smiths.set k (((Z8 m.smiths k).1,b,(Z8 m.smiths k).2.2))) k)).set 0 _;rw [hs1];rfl)
 obtain ⟨_,hga,_,_,hc3,hz3⟩:=RecAt.view ZT (by omega) hp1.smiths hlen.symm (by show 0<(m.smiths.set k _).length;omega)
 cases hga
 have s2:=hc3 k (by show k<(m.smiths.set k _).length;omega) 0 _ rfl
 have f2:=hz3 (k*11)
 have x2:=(uh ko).cell (i:=2) (v:= .slice (some ⟨g2,0,none⟩) m.smiths.length q2) rfl
 have x3:=((uh ko).other (a:=⟨g2,k*11+1,none⟩) (by show ob ≠ g2;omega) (.int .i64 b)).cell (i:=2) (v:= .slice (some ⟨g2,0,none⟩) m.smiths.length q2) rfl
 simp only [Nat.add_zero,List.set_set] at hp2 s2 f2
 have hwm:({ m with smiths:=m.smiths.set k (Q6 (Z8 m.smiths k) b) } : Z4)=Tq m (k:Int) b:=by unfold Tq;simp
 rw [hwm] at hp2
 have HP:=Z9 hp2.smy
 clear hc2 hz2 hc3 hz3 hp1 hp2 hwm hs1 hlen HO
 go_upto_region 4 with fail
 clear s1 f1 s2 f2 x2 x3
 replace ko:Hid (Blk ((W.setCell ⟨g2,k*11+1,none⟩ (.int .i64 b)).setCell ⟨g2,k*11,none⟩ (.int .i64 2)) ob 32 (S6 b0 q0 b1 q1 (some ⟨g2,0,none⟩) q2 b3 q3 b4 q4 m)):=Z9 (((uh ko).other (a:=⟨g2,k*11+1,none⟩) (by show ob ≠ g2;omega) _).other (a:=⟨g2,k*11,none⟩) (by show ob ≠ g2;omega) _)
 replace BB:Hid (Below w.heap.size w ((W.setCell ⟨g2,k*11+1,none⟩ (.int .i64 b)).setCell ⟨g2,k*11,none⟩ (.int .i64 2))):=Z9 (((uh BB).setCell (p:=⟨g2,k*11+1,none⟩) (by show w.heap.size<=g2;omega) _).setCell (p:=⟨g2,k*11,none⟩) (by show w.heap.size<=g2;omega) _)
 generalize (W.setCell ⟨g2,k*11+1,none⟩ (.int .i64 b)).setCell ⟨g2,k*11,none⟩ (.int .i64 2)=W3 at *
 obtain ⟨c0,c1,c2,c3,c4,c5⟩:=(uh ko).c6
 go_wp2_with fail
 refine ck (GU (m:=Tq m (k:Int) b) (uh HP) (uh HSW)) fun w5 hb=> ?_
 replace BB:=bt BB hb
 clear hb
 go_wp2_with fail
 go_ret
 exact ⟨rfl,uh BB⟩
theorem Calls.same_below {P:Program} {f:FuncId} {args:Array Value}  (h:Calls P f args w fun e w'=>e= .returned v/\w'=w):Calls P f args w fun e w'=>e= .returned v/\Below w.heap.size w w':=
 h.mono fun e w' ⟨he,hw⟩=>⟨he,by rw [hw];exact Below.refl _ _⟩
theorem TL  {k b:Nat} (h:Smy w v0 v1 v2 v3 v4 m) (hk:k<m.smiths.length) (hb:b<m.desks.length) (h7:b<=7) (y0:0<=(Z8 m.smiths k).2.2.2.1) (y1:(Z8 m.smiths k).2.2.2.1<=255) :
  Calls Tryz.prog 304 #[.agg #[v0,v1,v2,v3,v4,.int .i64 m.now],.int .i64 (k:Int),.int .i64 (b:Int)] w fun e w'=>e= .returned (.bool (Yb m (k:Int) b))/\Below w.heap.size w w':=by
 have hm:Yb m (k:Int) b=((Z8 m.desks b).1 && We (Z8 m.smiths k).2.2.2.1 b):=rfl
 rw [hm]
 clear hm
 obtain ⟨a0,p0,rfl,_,_⟩:=IsRooms.shape h.rooms
 obtain ⟨a1,p1,rfl,_,_⟩:=IsRec.shape h.guilds
 obtain ⟨a4,p4,rfl,_,_⟩:=IsRec.shape h.paces
 obtain ⟨a2,p2,rfl,_,_,r2⟩:=h.smiths
 obtain ⟨a3,p3,rfl,_,_,r3⟩:=h.desks
 clear h
 rcases r2 with e0 | ⟨sb,so,rfl,hbs,hcs⟩
 ·rw [e0] at hk;simp at hk
 rcases r3 with e0 | ⟨db,dof,rfl,hbd,hcd⟩
 ·rw [e0] at hb;simp at hb
 obtain ⟨_,_,_,s3,_⟩:=ZC hcs hk
 obtain ⟨d0,_,_⟩:=Zp hcd hb
 have hk1:(k:Int)<(m.smiths.length:Int):=by omega
 have hb1:(b:Int)<(m.desks.length:Int):=by omega
 clear hcs hcd
 generalize (Z8 m.smiths k).2.2.2.1=my at *
 generalize (Z8 m.desks b).1=op at *
 cases op
 all_goals
  go_enter Tryz.func304,Tryz.ntmps304
  go_wp2_with (go_at_call 106;refine (Mr my (b:Int) _ y0 y1 (by omega) (by omega)).mono ?_;rintro e w' ⟨rfl,h9⟩;subst w')
  go_ret
  exact ⟨rfl,(ba _ _)⟩
theorem SW  (h:Smy w v0 v1 v2 v3 v4 m) (hS:Sane m) :
  Calls Tryz.prog 300 #[.agg #[v0,v1,v2,v3,v4,.int .i64 m.now]] w fun e w'=>e= .returned (.bool (VO m))/\Below w.heap.size w w':=by
 have Hv:=Z9 (h.alloc (.cells #[v0,v1,v2,v3,v4,.int .i64 m.now] 32))
 obtain ⟨a0,p0,a1,p1,a2,p2,a3,p3,a4,p4,rfl,rfl,rfl,rfl,rfl,_,_,_,_,_,_,_,_,_,_⟩:=h.five
 clear h
 obtain ⟨BB0,kb0⟩:=WZ w 32 (S6 a0 p0 a1 p1 a2 p2 a3 p3 a4 p4 m)
 have HS:=Z9 hS
 have h8:=hS.eight
 clear hS
 have hyes:∀ k,k<m.desks.length->Rc m k=true->VO m=true:=fun k hk hc=>List.any_eq_true.2 ⟨k,List.mem_range.2 hk,hc⟩
 have hno:(∀ k,k<m.desks.length->Rc m k=false)->VO m=false:=fun hn=>by
  unfold VO
  rw [List.any_eq_false]
  intro k hk
  rw [hn k (List.mem_range.1 hk)]
  simp
 have Hyes:=Z9 hyes
 have Hno:=Z9 hno
 clear hyes hno
 go_enter Tryz.func300,Tryz.ntmps300
 go_wp2_with fail
 go_loopw [3] (fun i wr=> ∃ k:Nat,k<=m.desks.length/\i= .int .i64 k/\(∀ j,j<k->Rc m j=false)/\Blk wr w.heap.size 32 (S6 a0 p0 a1 p1 a2 p2 a3 p3 a4 p4 m)/\Smy wr (.slice a0 m.rooms.length p0) (.slice a1 m.guilds.length p1) (.slice a2 m.smiths.length p2) (.slice a3 m.desks.length p3) (.slice a4 m.paces.length p4) m/\Below w.heap.size w wr) (fun i _=>m.desks.length-(intOf i).toNat)
 case atStart=>exact ⟨0,Nat.zero_le _,rfl,fun j hj=>by omega,uh kb0,uh Hv,uh BB0⟩
 case round=>
  obtain ⟨k,hk,rfl,hn,hkb,hv,hb0⟩:=hrel
  have Hn:=Z9 hn
  have kb:=Z9 hkb
  have Hv1:=Z9 hv
  have BB:=Z9 hb0
  clear hkb hv hb0 kb0 BB0 Hv hn
  obtain ⟨c0,c1,c2,c3,c4,c5⟩:=(uh kb).c6
  by_cases hlt:k<m.desks.length
  ·have hlt1:(k:Int)<(m.desks.length:Int):=by omega
   have Hc:Hid (Rc m k=((Z8 m.desks k).1 && Ot (Ze m (k:Int) (-1)) (YU m.rooms (k:Int)))):=Z9 rfl
   obtain ⟨_,_,hde,_,_,r3⟩:=(uh Hv1).desks
   cases hde
   rcases r3 with e0 | ⟨db,off,rfl,hbw,hcl⟩
   ·rw [e0] at hlt;simp at hlt
   obtain ⟨d0,_,_⟩:=Zp hcl hlt
   clear hcl
   have hfo:=SK ((uh HS).bench hlt)
   have Hu:=Z9 (fun (W:World) (hW:Below wr.heap.size wr W)=>V2 (k:Int) (-1) ((uh Hv1).below hW) (uh HS).guilded (by have:=(uh HS).few;omega))
   have Hf:=Z9 (fun (W:World) (hW:Below wr.heap.size wr W)=>V3 (k:Int) ((uh Hv1).below hW).rooms ((uh HS).bench hlt))
   rw [<-hfo] at Hf
   clear hfo
   generalize Ze m (k:Int) (-1)=us at *
   generalize YU m.rooms (k:Int)=fo at *
   generalize (Z8 m.desks k).1=op at *
   have y0:=cell_regrown c0
   have y1:=cell_regrown c1
   have y2:=cell_regrown c2
   have y3:=cell_regrown c3
   have y4:=cell_regrown c4
   have y5:=cell_regrown c5
   have z0:=cell_regrown d0
   obtain ⟨mu,hmu⟩:∃ q,Ot us fo=q:=⟨_,rfl⟩
   have Ht:=Z9 (fun (W:World)=>Calls.same_below (PE us fo W))
   rw [hmu] at Hc Ht
   clear hmu
   cases op
   ·go_wp2_with fail
    refine wq ?_
    repeat (go_big_quiet_step (first | exact Calls.regrown_of (uh Hu _ (below_regrown _ _ _)) | exact Calls.regrown_of (uh Hf _ (below_regrown _ _ _)) | exact Calls.regrown_of (uh Ht _)))
    refine wpQuiet_nil ?_
    intro _ hw'
    obtain ⟨⟨dq,osq⟩,hw''⟩:=hw'
    subst hw''
    go_wp2_with fail
    go_roundw
    case rel=>exact ⟨k+1,by omega,by go_num,YF (uh Hn) (uh Hc),(uh kb).below (below_regrown _ _ _) (uh kb).lt,(uh Hv1).below (below_regrown _ _ _),(uh BB).trans ((below_regrown _ _ _).mono (uh BB).size)⟩
    case measure=>exact ms
   ·cases mu
    ·go_wp2_with fail
     refine wq ?_
     repeat (go_big_quiet_step (first | exact Calls.regrown_of (uh Hu _ (below_regrown _ _ _)) | exact Calls.regrown_of (uh Hf _ (below_regrown _ _ _)) | exact Calls.regrown_of (uh Ht _)))
     refine wpQuiet_nil ?_
     intro _ hw'
     obtain ⟨⟨dq,osq⟩,hw''⟩:=hw'
     subst hw''
     go_wp2_with fail
     go_roundw
     case rel=>exact ⟨k+1,by omega,by go_num,YF (uh Hn) (uh Hc),(uh kb).below (below_regrown _ _ _) (uh kb).lt,(uh Hv1).below (below_regrown _ _ _),(uh BB).trans ((below_regrown _ _ _).mono (uh BB).size)⟩
     case measure=>exact ms
    ·go_wp2_with fail
     refine wq ?_
     repeat (go_big_quiet_step (first | exact Calls.regrown_of (uh Hu _ (below_regrown _ _ _)) | exact Calls.regrown_of (uh Hf _ (below_regrown _ _ _)) | exact Calls.regrown_of (uh Ht _)))
     refine wpQuiet_nil ?_
     intro _ hw'
     obtain ⟨⟨dq,osq⟩,hw''⟩:=hw'
     subst hw''
     go_wp2_with fail
     go_ret
     exact ⟨Z5 (uh Hyes k hlt (uh Hc)).symm,(uh BB).trans ((below_regrown _ _ _).mono (uh BB).size)⟩
  ·obtain rfl:k=m.desks.length:=by omega
   go_wp2_with fail
   go_ret
   exact ⟨Z5 (uh Hno (uh Hn)).symm,uh BB⟩
structure Sh (m:Z4) (k:Nat):Prop where
 lt:k<m.smiths.length
 st:(Z8 m.smiths k).1 ≠ 0
 y0:0<=(Z8 m.smiths k).2.2.2.1
 y1:(Z8 m.smiths k).2.2.2.1<=255
theorem C9 {who:Int} {k:Nat} (h:Mh m who k=false):U3 m who (k+1)=U3 m who k:=by show (if _ then _ else _)=_;rw [h];rfl
theorem Ey {who:Int} {k:Nat} (h:Mh m who k=true):U3 m who (k+1)=U3 m who k++[(k:Int)]:=by show (if _ then _ else _)=_;rw [h];rfl
theorem SX  {who:Nat} (h:Smy w v0 v1 v2 v3 v4 m) (hS:Sane m) (hA:Sh m who) :
  Calls Tryz.prog 299 #[.agg #[v0,v1,v2,v3,v4,.int .i64 m.now],.int .i64 (who:Int)] w fun e w'=> ∃ v',e= .returned v'/\NumsAt w.heap.size w' v' (X8 m (who:Int))/\Below w.heap.size w w':=by
 have Hv:=Z9 (h.alloc (.cells #[v0,v1,v2,v3,v4,.int .i64 m.now] 32))
 obtain ⟨a0,p0,a1,p1,a2,p2,a3,p3,a4,p4,rfl,rfl,rfl,rfl,rfl,_,_,_,_,_,_,_,_,_,_⟩:=h.five
 have HW:=Z9 h
 clear h
 obtain ⟨BB0,kb0⟩:=WZ w 32 (S6 a0 p0 a1 p1 a2 p2 a3 p3 a4 p4 m)
 have HS:=Z9 hS
 have HA:=Z9 hA
 have h8:=hS.eight
 clear hS hA
 have kb1:Hid (Blk ((w.alloc (.cells (S6 a0 p0 a1 p1 a2 p2 a3 p3 a4 p4 m) 32)).alloc (.cells #[] 2)) w.heap.size 32 (S6 a0 p0 a1 p1 a2 p2 a3 p3 a4 p4 m)):=Z9 ((uh kb0).alloc _)
 have BB1:Hid (Below w.heap.size w ((w.alloc (.cells (S6 a0 p0 a1 p1 a2 p2 a3 p3 a4 p4 m) 32)).alloc (.cells #[] 2))):=Z9 ((uh BB0).alloc (uh BB0).size _)
 have Hv0:=Z9 ((uh Hv).alloc (.cells #[] 2))
 have E0:Hid (NumsAt (w.heap.size+1) ((w.alloc (.cells (S6 a0 p0 a1 p1 a2 p2 a3 p3 a4 p4 m) 32)).alloc (.cells #[] 2)) (.slice (some ⟨w.heap.size+1,0,none⟩) 0 0) []):=Z9 (Zd (by simp) (by simp))
 clear kb0 BB0 Hv
 go_enter Tryz.func299,Tryz.ntmps299
 go_wp2_with fail
 go_loopw [5,6] (fun l i wr=> ∃ k:Nat,k<=m.desks.length/\i= .int .i64 k/\NumsAt (w.heap.size+1) wr l (U3 m (who:Int) k)/\Blk wr w.heap.size 32 (S6 a0 p0 a1 p1 a2 p2 a3 p3 a4 p4 m)/\Smy wr (.slice a0 m.rooms.length p0) (.slice a1 m.guilds.length p1) (.slice a2 m.smiths.length p2) (.slice a3 m.desks.length p3) (.slice a4 m.paces.length p4) m/\Below w.heap.size w wr) (fun _ i _=>m.desks.length-(intOf i).toNat)
 case atStart=>exact ⟨0,Nat.zero_le _,rfl,uh E0,uh kb1,uh Hv0,uh BB1⟩
 case round=>
  obtain ⟨k,hk,rfl,hl,hkb,hv,hb0⟩:=hrel
  obtain ⟨la,lc,rfl⟩:=RecAt.shape hl
  have HL:=Z9 hl
  have kb:=Z9 hkb
  have Hv1:=Z9 hv
  have BB:=Z9 hb0
  have hbl:=(uh kb).lt
  have hfl:=Qo m (who:Int) k
  clear hkb hv hb0 kb1 BB1 Hv0 E0 hl
  obtain ⟨c0,c1,c2,c3,c4,c5⟩:=(uh kb).c6
  by_cases hlt:k<m.desks.length
  ·have hlt1:(k:Int)<(m.desks.length:Int):=by omega
   have Hc:Hid (Mh m (who:Int) k=(Yb m (who:Int) k && VM (Zo m (who:Int)) (Ze m (k:Int) (who:Int)) (YU m.rooms (k:Int)))):=Z9 rfl
   have Hno:=Z9 (fun hh=>C9 (m:=m) (who:=(who:Int)) (k:=k) hh)
   have Hyes:=Z9 (fun hh=>Ey (m:=m) (who:=(who:Int)) (k:=k) hh)
   have hfo:=SK ((uh HS).bench hlt)
   have Hma:=Z9 (fun (W:World) (hW:Below wr.heap.size wr W)=>TL ((uh Hv1).below hW) (uh HA).lt hlt (by omega) (uh HA).y0 (uh HA).y1)
   have Hwa:=Z9 (fun (W:World) (hW:Below wr.heap.size wr W)=>SU ((uh Hv1).below hW) (uh HS).guilded.guilds (uh HA).lt ((uh HS).guilded.lo who (uh HA).lt (uh HA).st) ((uh HS).guilded.hi who (uh HA).lt (uh HA).st))
   have Hu:=Z9 (fun (W:World) (hW:Below wr.heap.size wr W)=>V2 (k:Int) (who:Int) ((uh Hv1).below hW) (uh HS).guilded (by have:=(uh HS).few;omega))
   have Hf:=Z9 (fun (W:World) (hW:Below wr.heap.size wr W)=>V3 (k:Int) ((uh Hv1).below hW).rooms ((uh HS).bench hlt))
   rw [<-hfo] at Hf
   clear hfo
   have Ht:=Z9 (fun (W:World)=>Calls.same_below (Vm (Zo m (who:Int)) (Ze m (k:Int) (who:Int)) (YU m.rooms (k:Int)) W))
   generalize Yb m (who:Int) k=ma at *
   generalize Zo m (who:Int)=wa at *
   generalize Ze m (k:Int) (who:Int)=us at *
   generalize YU m.rooms (k:Int)=fo at *
   generalize VM wa us fo=fi at *
   have y0:=cell_regrown c0
   have y1:=cell_regrown c1
   have y2:=cell_regrown c2
   have y3:=cell_regrown c3
   have y4:=cell_regrown c4
   have y5:=cell_regrown c5
   cases ma
   ·go_wp2_with fail
    refine wq ?_
    repeat (go_big_quiet_step (first | exact Calls.regrown_of (uh Hma _ (below_regrown _ _ _)) | exact Calls.regrown_of (uh Hwa _ (below_regrown _ _ _)) | exact Calls.regrown_of (uh Hu _ (below_regrown _ _ _)) | exact Calls.regrown_of (uh Hf _ (below_regrown _ _ _)) | exact Calls.regrown_of (uh Ht _)))
    refine wpQuiet_nil ?_
    intro _ hw'
    obtain ⟨⟨dq,osq⟩,hw''⟩:=hw'
    subst hw''
    go_wp2_with fail
    go_roundw
    case rel=>exact ⟨k+1,by omega,by go_num,by rw [uh Hno (uh Hc)];exact RecAt.later (uh HL) (below_regrown _ _ _),(uh kb).below (below_regrown _ _ _) (uh kb).lt,(uh Hv1).below (below_regrown _ _ _),(uh BB).trans ((below_regrown _ _ _).mono (uh BB).size)⟩
    case measure=>exact ms
   cases fi
   ·go_wp2_with fail
    refine wq ?_
    repeat (go_big_quiet_step (first | exact Calls.regrown_of (uh Hma _ (below_regrown _ _ _)) | exact Calls.regrown_of (uh Hwa _ (below_regrown _ _ _)) | exact Calls.regrown_of (uh Hu _ (below_regrown _ _ _)) | exact Calls.regrown_of (uh Hf _ (below_regrown _ _ _)) | exact Calls.regrown_of (uh Ht _)))
    refine wpQuiet_nil ?_
    intro _ hw'
    obtain ⟨⟨dq,osq⟩,hw''⟩:=hw'
    subst hw''
    go_wp2_with fail
    go_roundw
    case rel=>exact ⟨k+1,by omega,by go_num,by rw [uh Hno (uh Hc)];exact RecAt.later (uh HL) (below_regrown _ _ _),(uh kb).below (below_regrown _ _ _) (uh kb).lt,(uh Hv1).below (below_regrown _ _ _),(uh BB).trans ((below_regrown _ _ _).mono (uh BB).size)⟩
    case measure=>exact ms
   ·go_wp2_with fail
    refine wq ?_
    repeat (go_big_quiet_step (first | exact Calls.regrown_of (uh Hma _ (below_regrown _ _ _)) | exact Calls.regrown_of (uh Hwa _ (below_regrown _ _ _)) | exact Calls.regrown_of (uh Hu _ (below_regrown _ _ _)) | exact Calls.regrown_of (uh Hf _ (below_regrown _ _ _)) | exact Calls.regrown_of (uh Ht _)))
    refine wpQuiet_nil ?_
    intro _ hw'
    obtain ⟨⟨dq,osq⟩,hw''⟩:=hw'
    subst hw''
    clear c0 c1 c2 c3 c4 c5 y0 y1 y2 y3 y4 y5 Hma Hwa Hu Hf Ht
    have hb9:=below_regrown wr dq osq
    replace HL:=Z9 (RecAt.later (uh HL) hb9)
    replace kb:=Z9 ((uh kb).below hb9 (uh kb).lt)
    replace Hv1:=Z9 ((uh Hv1).below hb9)
    replace BB:=Z9 ((uh BB).trans (hb9.mono (uh BB).size))
    clear hb9
    generalize grow (redrawn wr dq) osq=X at *
    have hsx:=(uh BB).size
    go_wp2_with (at_builtin;refine ZO tyN rfl (.tmp 33) (.tmp 35) 30 Tryz.underlying30 rfl (w.heap.size+1) _ _ (U3 m (who:Int) k) [(k:Int)] rfl rfl (RecAt.later (uh HL) ((ba _ _))) (V6 (k:Int) rfl (Nat.le_refl _) (by omega)) (by simp;omega) (by simp;omega) ?_;intro u9 w9 hp9 hg9 hat9;have HP9:=Z9 hp9;have HG9:=Z9 hg9;clear hp9 hg9 hat9)
    have hlx:=(uh kb).lt
    have hgo:∀ i,(Value.slice la (U3 m (who:Int) k).length lc).ownBlock=some i->w.heap.size+1<=i:=fun i e=>(RecAt.lt (uh HL) e).1
    have hb9:Below (w.heap.size+1) X w9:=((Below.refl _ _).alloc hlx _).trans ((Below.refl _ _).grown (uh HG9) (by simp;omega) hgo)
    have hb8:=(uh BB).trans (hb9.mono (Nat.le_succ _))
    go_wp2_with fail
    go_roundw
    case rel=>exact ⟨k+1,by omega,by go_num,by rw [uh Hyes (uh Hc)];exact uh HP9,(uh kb).below hb9 (Nat.lt_succ_self _),(uh HW).below hb8,hb8⟩
    case measure=>exact ms
  ·obtain rfl:k=m.desks.length:=by omega
   go_wp2_with fail
   go_ret
   exact ⟨_,rfl,RecAt.mono (uh HL) (Nat.le_succ _),uh BB⟩
end Go.Proofs.YtffcgajndmhpkaaGreatDoor
