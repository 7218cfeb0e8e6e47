/- Part 45 of what the proof rests on. No condition but those that a theorem names. -/
import Derived.Test.YtffcgajndmhpkaaGreatDoorXw28
import Derived.Test.YtffcgajndmhpkaaGreatDoorXw44
import Derived.LaidMore
import Derived.Stop.Joined
import Derived.Stop.LaidErr
import Derived.Stop.LaidTwo
import Derived.LaidSub
import Derived.LaidHandle
namespace Go.Proofs.YtffcgajndmhpkaaGreatDoor
open Go.ChangeShapes Go.WideShapes Go.ChangeAt Go.RowKit Go.Sort Go.Shelf
open Draw (Row IsRow DS row_later FE CU)
set_option linter.unusedVariables false
set_option linter.unusedSimpArgs false
set_option maxRecDepth 100000
set_option maxHeartbeats 8000000 in
theorem L8 (a0:Option Addr) (len0 cap0:Nat) (z0:List Int) (w:World) (w0:IsRow .u8 w a0 len0 cap0 z0) (her:∃ q,Errs w q) :
  Calls Tryz.prog 4 #[.slice a0 len0 cap0] w fun e w'=>e= .returned (.bool true)/\Below w.heap.size w w':=by
 obtain ⟨qe,her⟩:=her
 have HEr:=Z9 her
 clear her
 by_cases hbig:4096<len0
 ·go_enter Tryz.func4,Tryz.ntmps4
  go_wp2_with fail
  refine (FE _ _ _ _ hbig).mono ?_
  rintro e w' ⟨rfl,rfl⟩
  go_wp2_with fail
  go_ret
  exact ⟨rfl,Below.refl _ _⟩
 have Hr:=Z9 (DS w0 (by omega))
 clear w0
 go_enter Tryz.func4,Tryz.ntmps4
 go_wp2_with fail
 refine (CU _ _ _ _ (by omega)).mono ?_
 rintro e w' ⟨rfl,hw'⟩
 subst w'
 go_wp2_with fail
 refine (NU _ _ _ _ (uh Hr)).mono ?_
 rintro e w1 ⟨M,u0,u1,u2,u3,u4,room,rq,rfl,hf,hb⟩
 obtain ⟨b0,q0,b1,q1,b2,q2,b3,q3,b4,q4,rfl,rfl,rfl,rfl,rfl,K1⟩:=Bx.put hf.smy hb
 replace Hr:=Z9 (row_later (uh Hr) hb)
 clear hb hf
 go_upto_region 4 with fail
 have hb:Below w1.heap.size w1 (w1.alloc (.cells (S6 b0 q0 b1 q1 b2 q2 b3 q3 b4 q4 M) 32)):=ba _ _
 replace Hr:=Z9 (row_later (uh Hr) hb)
 clear hb
 generalize w1.alloc (.cells (S6 b0 q0 b1 q1 b2 q2 b3 q3 b4 q4 M) 32)=W1 at *
 generalize w1.heap.size=mb at *
 obtain ⟨p,hp⟩:∃ c,Yp M room=c:=⟨_,rfl⟩
 have Hp:=Z9 hp
 clear hp
 obtain ⟨c0,c1,c2,c3,c4,c5⟩:=K1.cells
 go_wp2_with fail
 clear c0 c1 c2 c3 c4 c5
 refine ck (Og (uh Hp) K1.smy) fun w2 hb=> ?_
 replace K1:=K1.next hb
 replace Hr:=Z9 (row_later (uh Hr) hb)
 clear hb
 go_wp2_with fail
 refine (Pr _ _ _ _ (uh Hr)).mono ?_
 rintro e w3 ⟨Q,u0,u1,u2,u3,u4,r,pc,rq2,rfl,hf,hb⟩
 obtain ⟨d0,t0,d1,t1,d2,t2,d3,t3,d4,t4,rfl,rfl,rfl,rfl,rfl,K2⟩:=Bx.put hf.smy (K1.bb.trans (hb.mono K1.bb.size))
 replace K1:=K1.next hb
 clear hb hf Hr
 go_upto_region 6 with fail
 have hb:Below w3.heap.size w3 (w3.alloc (.cells (S6 d0 t0 d1 t1 d2 t2 d3 t3 d4 t4 Q) 32)):=ba _ _
 replace K1:=K1.next hb
 clear hb
 generalize w3.alloc (.cells (S6 d0 t0 d1 t1 d2 t2 d3 t3 d4 t4 Q) 32)=W3 at *
 generalize w3.heap.size=qb at *
 obtain ⟨⟨X,c⟩,hV⟩:∃ v,Yf Q r pc=v:=⟨_,rfl⟩
 have hI:=Pu r pc ((uh HEr).below K2.bb) K2.smy
 rw [hV] at hI
 have HI:=Z9 hI
 have HV:=Z9 hV
 clear hV hI
 obtain ⟨c0,c1,c2,c3,c4,c5⟩:=K2.cells
 go_wp2_with fail
 clear c0 c1 c2 c3 c4 c5
 refine (uh HI).mono ?_
 rintro e w4 ⟨⟨y0,y1,y2,y3,y4,rs,rfl,ho⟩,hb⟩
 obtain ⟨f0,s0,f1,s1,f2,s2,f3,s3,f4,s4,rfl,rfl,rfl,rfl,rfl,KX⟩:=Bx.put ho.smy (K2.bb.trans (hb.mono K2.bb.size))
 replace K1:=K1.next hb
 replace K2:=K2.next hb
 clear ho hb HI
 go_upto_region 7 with fail
 have hb:Below w4.heap.size w4 (w4.alloc (.cells (S6 f0 s0 f1 s1 f2 s2 f3 s3 f4 s4 X) 32)):=ba _ _
 replace K1:=K1.next hb
 replace K2:=K2.next hb
 clear hb
 generalize w4.alloc (.cells (S6 f0 s0 f1 s1 f2 s2 f3 s3 f4 s4 X) 32)=W4 at *
 generalize w4.heap.size=xb at *
 obtain ⟨c0,c1,c2,c3,c4,c5⟩:=K1.cells
 go_wp2_with fail
 clear c0 c1 c2 c3 c4 c5
 refine ck (O7 (uh Hp) K1.smy) fun w5 hb=> ?_
 replace K1:=K1.next hb
 replace K2:=K2.next hb
 replace KX:=KX.next hb
 clear hb
 have hS:=Ty r pc K2.smy
 rw [uh HV] at hS
 have HS:=Z9 hS
 clear hS
 obtain ⟨c0,c1,c2,c3,c4,c5⟩:=K2.cells
 go_wp2_with fail
 clear c0 c1 c2 c3 c4 c5
 refine (uh HS).mono ?_
 rintro e w6 ⟨⟨y0,y1,y2,y3,y4,rs2,rfl,ho⟩,hb⟩
 obtain ⟨g0,j0,g1,j1,g2,j2,g3,j3,g4,j4,rfl,rfl,rfl,rfl,rfl,KY⟩:=Bx.put ho.smy (K2.bb.trans (hb.mono K2.bb.size))
 replace K1:=K1.next hb
 replace K2:=K2.next hb
 replace KX:=KX.next hb
 clear ho hb HS
 go_upto_region 10 with fail
 have hb:Below w6.heap.size w6 (w6.alloc (.cells (S6 g0 j0 g1 j1 g2 j2 g3 j3 g4 j4 X) 32)):=ba _ _
 replace K1:=K1.next hb
 replace K2:=K2.next hb
 replace KX:=KX.next hb
 clear hb
 generalize w6.alloc (.cells (S6 g0 j0 g1 j1 g2 j2 g3 j3 g4 j4 X) 32)=W6 at *
 generalize w6.heap.size=yb at *
 obtain ⟨x0,x1,x2,x3,x4,x5⟩:=KX.cells
 obtain ⟨yy0,yy1,yy2,yy3,yy4,yy5⟩:=KY.cells
 go_wp2_with fail
 clear x0 x1 x2 x3 x4 x5 yy0 yy1 yy2 yy3 yy4 yy5
 refine ck (Ve KX.smy KY.smy) fun w7 hb=> ?_
 replace K1:=K1.next hb
 replace K2:=K2.next hb
 replace KX:=KX.next hb
 clear KY
 clear hb
 go_upto_if 62 with fail
 have HK1:=Z9 K1
 have hsz7:=K1.bb.size
 go_cut [] (fun wc=>Below w7.heap.size w7 wc)
 case first=>
  clear HK1 K1
  rcases Js Q r pc with ⟨hk0,hv⟩ | ⟨hk0,c',hc,hv⟩ | ⟨hk0,k,hrk,hkp,hv⟩
  ·
   obtain ⟨hX,hcc⟩:=Prod.mk.inj ((uh HV).symm.trans hv)
   subst hX hcc
   have Hok:=Z9 hk0
   clear HV hv hk0
   obtain ⟨c0,c1,c2,c3,c4,c5⟩:=K2.cells
   go_wp2_with fail
   clear c0 c1 c2 c3 c4 c5
   refine ck (XX (uh Hok) K2.smy) fun w8 hb=> ?_
   go_wp2_with fail
   go_meet
   exact hb
  ·
   obtain ⟨hX,hcc⟩:=Prod.mk.inj ((uh HV).symm.trans hv)
   subst hX hcc
   have Hok:=Z9 hk0
   clear HV hv hk0
   have hcd:decide (c=0)=false:=decide_eq_false hc
   have hcb:(c ==0)=false:=beq_eq_false_iff_ne.mpr hc
   obtain ⟨c0,c1,c2,c3,c4,c5⟩:=K2.cells
   go_wp2_with fail
   clear c0 c1 c2 c3 c4 c5
   refine ck (XX (uh Hok) K2.smy) fun w8 hb=> ?_
   replace K2:=K2.next hb
   replace KX:=KX.next hb
   have HB:=Z9 hb
   clear hb
   obtain ⟨c0,c1,c2,c3,c4,c5⟩:=K2.cells
   obtain ⟨x0,x1,x2,x3,x4,x5⟩:=KX.cells
   go_wp2_with fail
   clear c0 c1 c2 c3 c4 c5 x0 x1 x2 x3 x4 x5
   refine ck (Ve KX.smy K2.smy) fun w9 hb=> ?_
   replace HB:=Z9 ((uh HB).trans (hb.mono (uh HB).size))
   clear hb
   go_wp2_with fail
   go_meet
   exact uh HB
  ·
   obtain ⟨hX,hcc⟩:=Prod.mk.inj ((uh HV).symm.trans hv)
   subst hX hcc hrk
   have Hok:=Z9 hk0
   clear HV hv hk0
   have ht:=MR (ZY (uh Hok))
   have Ht:=Z9 ht
   clear ht
   have hkp1:(k:Int)<(Q.paces.length:Int):=by omega
   obtain ⟨c0,c1,c2,c3,c4,c5⟩:=K2.cells
   go_wp2_with fail
   clear c0 c1 c2 c3 c4 c5
   refine (O5 _ _ _ _ _ _ _ K2.smy).mono ?_
   rw [uh Ht]
   rintro e w8 ⟨y0,y1,y2,y3,y4,rs3,rfl,ho,hb⟩
   obtain ⟨h0,l0,h1,l1,h2,l2,h3,l3,h4,l4,rfl,rfl,rfl,rfl,rfl,KZ⟩:=Bx.put ho.smy hb
   have HKX:=Z9 KX
   have HB:=Z9 hb
   have hzp:=Z9 (show (ZX Q).paces=Q.paces from (ZQ Q Q.desks.length).2.2.1)
   have HF:=Z9 ho
   have hzown:=Z9 (fun (k:Nat) e=>ho.own (k:=k) e)
   clear ho hb KX K2 Ht Hok
   go_upto_region 14 with fail
   obtain ⟨W8,hW8,hb,kz⟩:=YO w8 32 #[.slice h0 (ZX Q).rooms.length l0,.slice h1 (ZX Q).guilds.length l1,.slice h2 (ZX Q).smiths.length l2,.slice h3 (ZX Q).desks.length l3,.slice h4 (ZX Q).paces.length l4,.int .i64 (ZX Q).now]
   replace HF:=Z9 ((uh HF).below hb)
   replace HB:=Z9 ((uh HB).trans (hb.mono (uh HB).size))
   clear hb KZ
   rw [hW8]
   clear hW8
   generalize w8.heap.size=zb at *
   have hkz:k<(ZX Q).paces.length:=by rw [uh hzp];exact hkp
   have hkz1:(k:Int)<((ZX Q).paces.length:Int):=by omega
   have hpz:0<(ZX Q).paces.length:=by omega
   obtain ⟨g4,hga,hg4,hg4w,hc4,hz4⟩:=RecAt.view Zb (by omega) (uh HF).paces rfl hpz
   subst hga
   have n0:=hc4 k hkz 0 _ rfl
   have fz:=hz4 k
   simp only [Nat.mul_one,Nat.add_zero] at n0
   have hg9:g4<zb:=(uh hzown g4 (.inr (.inr (.inr (.inr (.inr rfl)))))).2
   have z4:=(uh kz).cell (i:=4) (v:= .slice (some ⟨g4,0,none⟩) (ZX Q).paces.length l4) rfl
   have HBf:Hid (Below w7.heap.size w7 (W8.setCell ⟨g4,k,none⟩ (.int .i64 pc))):=Z9 ((uh HB).setCell (p:=⟨g4,k,none⟩) hg4 _)
   have kzf:=Z9 ((uh kz).other (a:=⟨g4,k,none⟩) (by show zb ≠ g4;omega) (.int .i64 pc))
   have HFf:=Z9 ((uh HF).putP rfl hkz pc)
   clear hc4 hz4 hzown hg9 HF HB kz hzp
   go_upto_region 15 with fail
   clear n0 fz z4
   generalize W8.setCell ⟨g4,k,none⟩ (.int .i64 pc)=W9 at *
   have KXf:=(uh HKX).next (uh HBf)
   obtain ⟨x0,x1,x2,x3,x4,x5⟩:=KXf.cells
   obtain ⟨z0,z1,z2,z3,z4,z5⟩:=(uh kzf).c6
   go_wp2_with fail
   clear x0 x1 x2 x3 x4 x5 z0 z1 z2 z3 z4 z5
   refine ck (Ve (m:=Xq (ZX Q) k pc) KXf.smy (uh HFf).smy) fun w9 hb=> ?_
   go_wp2_with fail
   go_meet
   exact (uh HBf).trans (hb.mono (uh HBf).size)
 case rest=>
  have hb:=hcut
  clear hcut K1 K2 KX HV
  have K:=(uh HK1).next hb
  clear hb HK1
  rcases L9 M room with hn | ⟨hok,rr,jj,hro,hrl,hjl,hpv,hall,hlow,hfb,hps4⟩
  ·have hp9:p= -1:=(uh Hp).symm.trans hn
   subst hp9
   clear Hp hn
   go_wp2_with fail
   go_ret
   exact ⟨rfl,K.bb⟩
  have hp9:p=(jj:Int):=(uh Hp).symm.trans hpv
  subst hp9 hro
  clear Hp hpv
  have Hok:=Z9 hok
  have HLo:=Z9 (ZY hok)
  have HA:=Z9 hall
  have HW:=Z9 hlow
  have Hfb:=Z9 hfb
  clear hok hall hlow hfb
  have hrl1:(rr:Int)<(M.rooms.length:Int):=by omega
  obtain ⟨_,_,hre,_,_,r0⟩:=K.smy.rooms
  cases hre
  rcases r0 with e0 | ⟨rb,off,rfl,hbw,hcl⟩
  ·rw [e0] at hrl;simp at hrl
  obtain ⟨_,pv,d1,hpv⟩:=hcl rr hrl
  obtain ⟨pa,pcap,rfl,_,_,hpr⟩:=hpv
  rcases hpr with e0 | ⟨pbk,po,rfl,hpw,hpc⟩
  ·rw [e0] at hjl;simp at hjl
  obtain ⟨pl,hpl⟩:∃ q,(Z0 M.rooms rr).2.length=q:=⟨_,rfl⟩
  have Hpl:=Z9 hpl
  have hpj:=(hpc jj hjl).1
  have hfj:=uh Hfb jj hjl
  obtain ⟨fo,hfo⟩:∃ q,(Z7 (Z0 M.rooms rr).2 jj).1=q:=⟨_,rfl⟩
  rw [hfo] at hpj hfj
  have Hfo:=Z9 hfo
  have Hpc:=Z9 hpc
  rw [hpl] at d1 hjl hps4
  clear hcl hpc hpl hfo
  have hjl1:(jj:Int)<(pl:Int):=by omega
  obtain ⟨hf1,hf2⟩:=hfj
  obtain ⟨c0,_,_,_,_,_⟩:=K.cells
  go_wp2_with fail
  clear c0 d1
  have HPJ:=Z9 hpj
  have HK9:=Z9 K
  go_loopw [16] (fun i wr=> ∃ b:Nat,b<=M.desks.length/\i= .int .i64 b/\Below wc.heap.size wc wr) (fun i _=>M.desks.length-(intOf i).toNat)
  case atStart=>exact ⟨0,Nat.zero_le _,rfl,Below.refl _ _⟩
  case round=>
   obtain ⟨b,hb0,rfl,hR0⟩:=hrel
   clear K hpj
   have K:=(uh HK9).next hR0
   have hpj:=Sn hR0 (uh HPJ)
   obtain ⟨_,_,_,c3,_,_⟩:=K.cells
   by_cases hlt:b<M.desks.length
   rotate_left
   ·obtain rfl:b=M.desks.length:=by omega
    obtain ⟨nd,hnd⟩:∃ q,XU M (rr:Int)=q:=⟨_,rfl⟩
    have Hnd:=Z9 hnd
    have hn9:Hid (0<jj->4*(Z7 (Z0 M.rooms rr).2 (jj-1)).1<5*nd):=Z9 (by rw [<-hnd];exact uh HW)
    clear hnd
    by_cases hj0:jj=0
    ·subst hj0
     clear hn9 Hnd
     go_upto_region 28 with fail
     refine wq ?_
     repeat (go_big_quiet_step (fail))
     refine wqn fun wq hbq=> ?_
     go_wp2_with fail
     go_ret
     exact ⟨rfl,K.bb.trans (hbq.mono K.bb.size)⟩
    have hj1:((jj:Int) ==0)=false:=beq_eq_false_iff_ne.mpr (by omega)
    have hj2:decide ((jj:Int)=0)=false:=decide_eq_false (by omega)
    obtain ⟨j9,hj9⟩:∃ j9:Nat,jj=j9+1:=⟨jj-1,by omega⟩
    have hjm:(jj:Int)-1=(j9:Int):=by omega
    have hj9l:j9<pl:=by omega
    have hj9l1:(j9:Int)<(pl:Int):=by omega
    have hq:=Sn hR0 (uh Hpc j9 (by rw [uh Hpl];omega)).1
    have hf9:=uh Hfb j9 (by rw [uh Hpl];omega)
    have hgt:=uh hn9 (by omega)
    rw [show jj-1=j9 by omega] at hgt
    obtain ⟨fp,hfp⟩:∃ q,(Z7 (Z0 M.rooms rr).2 j9).1=q:=⟨_,rfl⟩
    rw [hfp] at hq hf9 hgt
    clear hfp
    obtain ⟨hf91,hf92⟩:=hf9
    have hnd9 : -1<=nd/\nd<=12288:=by
     have:=Wo M (rr:Int) (Zk (uh HLo)) M.desks.length
     rw [<-uh Hnd]
     unfold XU
     split<;>omega
    obtain ⟨hnd1,hnd2⟩:=hnd9
    have hgd:decide (4*fp<5*nd)=true:=decide_eq_true hgt
    have HN:=Z9 (fun (Y:World) (hY:Below wr.heap.size wr Y)=>OW (uh Hnd) (K.smy.below hY))
    obtain ⟨c0,c1,c2,c3,c4,c5⟩:=K.cells
    have k0:=cell_regrown c0
    have k1:=cell_regrown c1
    have k2:=cell_regrown c2
    have k3:=cell_regrown c3
    have k4:=cell_regrown c4
    have k5:=cell_regrown c5
    have k6:=cell_regrown hq
    clear hn9 Hnd hj9
    go_upto_region 28 with fail
    refine wq ?_
    repeat (go_big_quiet_step (exact Calls.regrown_of (uh HN _ (below_regrown _ _ _))))
    refine wqn fun wq hbq=> ?_
    go_wp2_with fail
    go_ret
    exact ⟨rfl,K.bb.trans (hbq.mono K.bb.size)⟩
   have hlt1:(b:Int)<(M.desks.length:Int):=by omega
   obtain ⟨_,_,hse,_,_,r3⟩:=K.smy.desks
   cases hse
   rcases r3 with e0 | ⟨db,dof,rfl,hbw3,hcl3⟩
   ·rw [e0] at hlt;simp at hlt
   obtain ⟨op,hop⟩:∃ q,(Z8 M.desks b).1=q:=⟨_,rfl⟩
   have dk:=hcl3 b hlt 0 (.bool op) (by rw [<-hop];rfl)
   simp only [Nat.add_zero] at dk
   clear hcl3
   obtain ⟨rb2,hrb2⟩:∃ q,Yw M.rooms b=q:=⟨_,rfl⟩
   have hrv:MD M.rooms (b:Int)=(rb2:Int):=by rw [<-hrb2];exact Gf ((uh HLo).sane.bench hlt)
   have HRo:=Z9 (fun (Y:World) (hY:Below wr.heap.size wr Y)=>Calls.int_of (O2 (b:Int) (K.smy.below hY).rooms) hrv)
   obtain ⟨us,hus⟩:∃ q,Ze M (b:Int) (-1)=q:=⟨_,rfl⟩
   have hua:SA M (b:Int)=us:=by
    unfold SA WX
    rw [uh Hok,Zv (by omega) (by omega)]
    exact hus
   have HU:=Z9 (fun (Y:World) (hY:Below wr.heap.size wr Y)=>O6 hua (K.smy.below hY))
   have hub:=Tn M (b:Int) (-1)
   have htw:=Zk (uh HLo)
   rw [hus] at hub
   have hub1:us<=12288:=by omega
   have hub0:0<=us:=hub.1
   have hA9:=uh HA b hlt
   rw [hrb2,uh Hfo,uh Hpl,hus] at hA9
   have HA9:=Z9 hA9
   clear hA9 hrv hrb2 hus hua hub htw hop c3
   obtain ⟨c0,c1,c2,c3,c4,c5⟩:=K.cells
   have k0:=cell_regrown c0
   have k1:=cell_regrown c1
   have k2:=cell_regrown c2
   have k3:=cell_regrown c3
   have k4:=cell_regrown c4
   have k5:=cell_regrown c5
   have k6:=cell_regrown hpj
   have k7:=cell_regrown dk
   go_upto_region 26 with fail
   by_cases hro:rb2=rr
   rotate_left
   ·have hne1:((rb2:Int) ==(rr:Int))=false:=beq_eq_false_iff_ne.mpr (by omega)
    have hne2:decide ((rb2:Int)=(rr:Int))=false:=decide_eq_false (by omega)
    refine wq ?_
    repeat (go_big_quiet_step (first | exact Calls.regrown_of (uh HRo _ (below_regrown _ _ _)) | exact Calls.regrown_of (uh HU _ (below_regrown _ _ _))))
    refine wqn fun wq hbq=> ?_
    go_wp2_with fail
    go_roundw
    case rel=>exact ⟨b+1,by omega,by go_num,hR0.trans (hbq.mono hR0.size)⟩
    case measure=>exact ms
   subst hro
   cases op
   ·clear HA9
    refine wq ?_
    repeat (go_big_quiet_step (first | exact Calls.regrown_of (uh HRo _ (below_regrown _ _ _)) | exact Calls.regrown_of (uh HU _ (below_regrown _ _ _))))
    refine wqn fun wq hbq=> ?_
    go_wp2_with fail
    go_roundw
    case rel=>exact ⟨b+1,by omega,by go_num,hR0.trans (hbq.mono hR0.size)⟩
    case measure=>exact ms
   by_cases hgt:4*fo<5*us
   ·have hll:jj+1=pl:=by
     by_cases e:jj+1=pl
     ·exact e
     ·have:=uh HA9 rfl e;omega
    have hlz:(pl:Int)-1=(jj:Int):=by omega
    have hgd:decide (4*fo<5*us)=true:=decide_eq_true hgt
    have hl1:((jj:Int) ==(pl:Int)-1)=true:=beq_iff_eq.mpr (by omega)
    have hl2:decide ((jj:Int)=(pl:Int)-1)=true:=decide_eq_true (by omega)
    clear HA9 hll
    refine wq ?_
    repeat (go_big_quiet_step (first | exact Calls.regrown_of (uh HRo _ (below_regrown _ _ _)) | exact Calls.regrown_of (uh HU _ (below_regrown _ _ _))))
    refine wqn fun wq hbq=> ?_
    go_wp2_with fail
    go_roundw
    case rel=>exact ⟨b+1,by omega,by go_num,hR0.trans (hbq.mono hR0.size)⟩
    case measure=>exact ms
   have hgd:decide (4*fo<5*us)=false:=decide_eq_false hgt
   clear HA9
   refine wq ?_
   repeat (go_big_quiet_step (first | exact Calls.regrown_of (uh HRo _ (below_regrown _ _ _)) | exact Calls.regrown_of (uh HU _ (below_regrown _ _ _))))
   refine wqn fun wq hbq=> ?_
   go_wp2_with fail
   go_roundw
   case rel=>exact ⟨b+1,by omega,by go_num,hR0.trans (hbq.mono hR0.size)⟩
   case measure=>exact ms
open Go.ChangeShapes Go.WideShapes Go.ChangeAt Go.RowKit
set_option maxRecDepth 100000
theorem Bl : "*" ++ "errors.errorString" = "*errors.errorString" := by decide
theorem DR (u : TypeId) (h : Tryz.prog.typeName? 3 u = some "*errors.errorString") : u = 320 :=
 typeName_ptr_named (nm := "errors.errorString") (by rw [Bl]; kernel_rfl) (by kernel_rfl) (by decide) u (by rw [Bl]; exact h)
theorem Bc : (Tryz.prog.cutTypes.find? (·.1 == "internal/reflectlite.rtype")).map (·.2) = some 222 := by kernel_rfl
theorem BQ:((List.range Tryz.prog.types.size).filter fun t=>Tryz.prog.rowNamed t [101,114,114,111,114])=[74]:=by kernel_rfl
theorem Bi : Tryz.prog.globalNamed "errors.errorType" = some 2 := by kernel_rfl
theorem Kv {a b:Addr} {x:Option (Array Value)} (h:x=some #[Xv a]) (k:x=some #[Xv b]):a=b:=by
 rw [h] at k
 simpa using k
theorem Tb {n : String} {g : Nat} {text : List UInt8} {r : List (String × DataW Unit)} {W : World} (h : laidMet Tryz.prog ((n, .iface "*errors.errorString" (.ptr (.agg [.lit (.string text)]))) :: r) W)
  (hg:Tryz.prog.globalNamed n=some g) (ht:(Tryz.prog.globals[g]?).map (·.type)=some 74):∃ a,W.var? Tryz.prog n=some #[Xv a]/\W.cell? ⟨g,0,none⟩=some (Xv a):=by
 obtain ⟨a,s,hv,_⟩:=laid_sentinel h hg ht Tryz.underlying74 DR Tryz.underlying320 Tryz.underlying351 rfl rfl Tryz.underlying9 (by kernel_rfl) (by kernel_rfl)
 exact ⟨a,hv,by rw [World.var?_cell hg hv 0];rfl⟩
theorem Xa {n0 n1 : String} {g0 g1 : Nat} {text0 text1 : List UInt8} {r : List (String × DataW Unit)} {W : World} {a0 a1 : Addr} (h : laidMet Tryz.prog ((n0, .iface "*errors.errorString" (.ptr (.agg [.lit (.string text0)]))) :: (n1, .iface "*errors.errorString" (.ptr (.agg [.lit (.string text1)]))) :: r) W)
  (hg0:Tryz.prog.globalNamed n0=some g0) (ht0:(Tryz.prog.globals[g0]?).map (·.type)=some 74) (hg1:Tryz.prog.globalNamed n1=some g1) (ht1:(Tryz.prog.globals[g1]?).map (·.type)=some 74)
  (v0:W.var? Tryz.prog n0=some #[Xv a0]) (v1:W.var? Tryz.prog n1=some #[Xv a1]):a0 ≠ a1/\(∃ c t,W.heap[a0.block]?=some (.cells c t (0,0)))/\(∃ c t,W.heap[a1.block]?=some (.cells c t (0,0))):=by
 obtain ⟨b0,b1,s0,s1,c0,c1,t0,t1,hv0,hv1,_,_,_,_,_,_,hne,hb0,hb1⟩:=laid_sentinels2 h hg0 ht0 hg1 ht1 Tryz.underlying74 DR Tryz.underlying320 Tryz.underlying351 rfl rfl Tryz.underlying9 (by kernel_rfl) (by kernel_rfl)
 obtain rfl:=Kv hv0 v0
 obtain rfl:=Kv hv1 v1
 exact ⟨hne,⟨c0,t0,hb0⟩,⟨c1,t1,hb1⟩⟩
theorem Ul : Tryz.prog.globalNamed "loop.example/g00553/impl.errNone" = some 1 := by kernel_rfl
theorem UC:(Tryz.prog.globals[1]?).map (·.type)=some 74:=by kernel_rfl
theorem U6 : Tryz.prog.globalNamed "loop.example/g00553/impl.errState" = some 3 := by kernel_rfl
theorem Vq:(Tryz.prog.globals[3]?).map (·.type)=some 74:=by kernel_rfl
theorem U5 : Tryz.prog.globalNamed "loop.example/g00553/impl.errRange" = some 0 := by kernel_rfl
theorem Vp:(Tryz.prog.globals[0]?).map (·.type)=some 74:=by kernel_rfl
theorem Uj : Tryz.prog.globalNamed "loop.example/g00553/impl.errFull" = some 4 := by kernel_rfl
theorem UA:(Tryz.prog.globals[4]?).map (·.type)=some 74:=by kernel_rfl
theorem Uk : Tryz.prog.globalNamed "loop.example/g00553/impl.errLast" = some 5 := by kernel_rfl
theorem UB:(Tryz.prog.globals[5]?).map (·.type)=some 74:=by kernel_rfl
theorem BL {W : World} (h : laidMetH Tryz.prog (("errors.errorType", Rows.laid_errors_errorType) :: [("loop.example/g00553/impl.errNone", Rows.laid_loop_example_g00553_impl_errNone), ("loop.example/g00553/impl.errState", Rows.laid_loop_example_g00553_impl_errState), ("loop.example/g00553/impl.errRange", Rows.laid_loop_example_g00553_impl_errRange), ("loop.example/g00553/impl.errFull", Rows.laid_loop_example_g00553_impl_errFull), ("loop.example/g00553/impl.errLast", Rows.laid_loop_example_g00553_impl_errLast)]) W) : ∃ q, Errs W q := by
 have h' : laidMet Tryz.prog [("loop.example/g00553/impl.errNone", Rows.laid_loop_example_g00553_impl_errNone), ("loop.example/g00553/impl.errState", Rows.laid_loop_example_g00553_impl_errState), ("loop.example/g00553/impl.errRange", Rows.laid_loop_example_g00553_impl_errRange), ("loop.example/g00553/impl.errFull", Rows.laid_loop_example_g00553_impl_errFull), ("loop.example/g00553/impl.errLast", Rows.laid_loop_example_g00553_impl_errLast)] W ∧ handlesMet Tryz.prog [("errors.errorType", Rows.laid_errors_errorType)] W := h
 obtain ⟨h0,hh⟩:=h'
 have ct:W.cell? ⟨2,0,none⟩=some (rty 74):=by
  obtain ⟨name,u,ty,e1,e2,e3,e4,e5⟩:=hh _ (List.mem_singleton.2 rfl)
  have en:name=[101,114,114,111,114]:=(Option.some.inj e1).symm
  subst en
  obtain rfl:=Option.some.inj (Bc.symm.trans e2)
  have hm:ty ∈ (List.range Tryz.prog.types.size).filter fun t=>Tryz.prog.rowNamed t [101,114,114,111,114]:=List.mem_filter.2 ⟨List.mem_range.2 e3,e4⟩
  rw [BQ] at hm
  obtain rfl:=List.mem_singleton.1 hm
  have h9:typeHandle Tryz.prog 74= .pointer (some ⟨6,74,none⟩):=by kernel_rfl
  rw [h9] at e5
  rw [World.var?_cell Bi e5 0]
  rfl
 have h13 : laidMet Tryz.prog [("loop.example/g00553/impl.errNone", Rows.laid_loop_example_g00553_impl_errNone), ("loop.example/g00553/impl.errRange", Rows.laid_loop_example_g00553_impl_errRange)] W := by
  have k := h0.filter (fun x => x.1 != "loop.example/g00553/impl.errState" && x.1 != "loop.example/g00553/impl.errFull" && x.1 != "loop.example/g00553/impl.errLast")
  rwa [show List.filter (fun x => x.1 != "loop.example/g00553/impl.errState" && x.1 != "loop.example/g00553/impl.errFull" && x.1 != "loop.example/g00553/impl.errLast") [("loop.example/g00553/impl.errNone", Rows.laid_loop_example_g00553_impl_errNone), ("loop.example/g00553/impl.errState", Rows.laid_loop_example_g00553_impl_errState), ("loop.example/g00553/impl.errRange", Rows.laid_loop_example_g00553_impl_errRange), ("loop.example/g00553/impl.errFull", Rows.laid_loop_example_g00553_impl_errFull), ("loop.example/g00553/impl.errLast", Rows.laid_loop_example_g00553_impl_errLast)] = [("loop.example/g00553/impl.errNone", Rows.laid_loop_example_g00553_impl_errNone), ("loop.example/g00553/impl.errRange", Rows.laid_loop_example_g00553_impl_errRange)] from by kernel_rfl] at k
 have h14 : laidMet Tryz.prog [("loop.example/g00553/impl.errNone", Rows.laid_loop_example_g00553_impl_errNone), ("loop.example/g00553/impl.errFull", Rows.laid_loop_example_g00553_impl_errFull)] W := by
  have k := h0.filter (fun x => x.1 != "loop.example/g00553/impl.errState" && x.1 != "loop.example/g00553/impl.errRange" && x.1 != "loop.example/g00553/impl.errLast")
  rwa [show List.filter (fun x => x.1 != "loop.example/g00553/impl.errState" && x.1 != "loop.example/g00553/impl.errRange" && x.1 != "loop.example/g00553/impl.errLast") [("loop.example/g00553/impl.errNone", Rows.laid_loop_example_g00553_impl_errNone), ("loop.example/g00553/impl.errState", Rows.laid_loop_example_g00553_impl_errState), ("loop.example/g00553/impl.errRange", Rows.laid_loop_example_g00553_impl_errRange), ("loop.example/g00553/impl.errFull", Rows.laid_loop_example_g00553_impl_errFull), ("loop.example/g00553/impl.errLast", Rows.laid_loop_example_g00553_impl_errLast)] = [("loop.example/g00553/impl.errNone", Rows.laid_loop_example_g00553_impl_errNone), ("loop.example/g00553/impl.errFull", Rows.laid_loop_example_g00553_impl_errFull)] from by kernel_rfl] at k
 have h15 : laidMet Tryz.prog [("loop.example/g00553/impl.errNone", Rows.laid_loop_example_g00553_impl_errNone), ("loop.example/g00553/impl.errLast", Rows.laid_loop_example_g00553_impl_errLast)] W := by
  have k := h0.filter (fun x => x.1 != "loop.example/g00553/impl.errState" && x.1 != "loop.example/g00553/impl.errRange" && x.1 != "loop.example/g00553/impl.errFull")
  rwa [show List.filter (fun x => x.1 != "loop.example/g00553/impl.errState" && x.1 != "loop.example/g00553/impl.errRange" && x.1 != "loop.example/g00553/impl.errFull") [("loop.example/g00553/impl.errNone", Rows.laid_loop_example_g00553_impl_errNone), ("loop.example/g00553/impl.errState", Rows.laid_loop_example_g00553_impl_errState), ("loop.example/g00553/impl.errRange", Rows.laid_loop_example_g00553_impl_errRange), ("loop.example/g00553/impl.errFull", Rows.laid_loop_example_g00553_impl_errFull), ("loop.example/g00553/impl.errLast", Rows.laid_loop_example_g00553_impl_errLast)] = [("loop.example/g00553/impl.errNone", Rows.laid_loop_example_g00553_impl_errNone), ("loop.example/g00553/impl.errLast", Rows.laid_loop_example_g00553_impl_errLast)] from by kernel_rfl] at k
 have h24 : laidMet Tryz.prog [("loop.example/g00553/impl.errState", Rows.laid_loop_example_g00553_impl_errState), ("loop.example/g00553/impl.errFull", Rows.laid_loop_example_g00553_impl_errFull)] W := by
  have k := h0.filter (fun x => x.1 != "loop.example/g00553/impl.errNone" && x.1 != "loop.example/g00553/impl.errRange" && x.1 != "loop.example/g00553/impl.errLast")
  rwa [show List.filter (fun x => x.1 != "loop.example/g00553/impl.errNone" && x.1 != "loop.example/g00553/impl.errRange" && x.1 != "loop.example/g00553/impl.errLast") [("loop.example/g00553/impl.errNone", Rows.laid_loop_example_g00553_impl_errNone), ("loop.example/g00553/impl.errState", Rows.laid_loop_example_g00553_impl_errState), ("loop.example/g00553/impl.errRange", Rows.laid_loop_example_g00553_impl_errRange), ("loop.example/g00553/impl.errFull", Rows.laid_loop_example_g00553_impl_errFull), ("loop.example/g00553/impl.errLast", Rows.laid_loop_example_g00553_impl_errLast)] = [("loop.example/g00553/impl.errState", Rows.laid_loop_example_g00553_impl_errState), ("loop.example/g00553/impl.errFull", Rows.laid_loop_example_g00553_impl_errFull)] from by kernel_rfl] at k
 have h25 : laidMet Tryz.prog [("loop.example/g00553/impl.errState", Rows.laid_loop_example_g00553_impl_errState), ("loop.example/g00553/impl.errLast", Rows.laid_loop_example_g00553_impl_errLast)] W := by
  have k := h0.filter (fun x => x.1 != "loop.example/g00553/impl.errNone" && x.1 != "loop.example/g00553/impl.errRange" && x.1 != "loop.example/g00553/impl.errFull")
  rwa [show List.filter (fun x => x.1 != "loop.example/g00553/impl.errNone" && x.1 != "loop.example/g00553/impl.errRange" && x.1 != "loop.example/g00553/impl.errFull") [("loop.example/g00553/impl.errNone", Rows.laid_loop_example_g00553_impl_errNone), ("loop.example/g00553/impl.errState", Rows.laid_loop_example_g00553_impl_errState), ("loop.example/g00553/impl.errRange", Rows.laid_loop_example_g00553_impl_errRange), ("loop.example/g00553/impl.errFull", Rows.laid_loop_example_g00553_impl_errFull), ("loop.example/g00553/impl.errLast", Rows.laid_loop_example_g00553_impl_errLast)] = [("loop.example/g00553/impl.errState", Rows.laid_loop_example_g00553_impl_errState), ("loop.example/g00553/impl.errLast", Rows.laid_loop_example_g00553_impl_errLast)] from by kernel_rfl] at k
 have h35 : laidMet Tryz.prog [("loop.example/g00553/impl.errRange", Rows.laid_loop_example_g00553_impl_errRange), ("loop.example/g00553/impl.errLast", Rows.laid_loop_example_g00553_impl_errLast)] W := by
  have k := h0.filter (fun x => x.1 != "loop.example/g00553/impl.errNone" && x.1 != "loop.example/g00553/impl.errState" && x.1 != "loop.example/g00553/impl.errFull")
  rwa [show List.filter (fun x => x.1 != "loop.example/g00553/impl.errNone" && x.1 != "loop.example/g00553/impl.errState" && x.1 != "loop.example/g00553/impl.errFull") [("loop.example/g00553/impl.errNone", Rows.laid_loop_example_g00553_impl_errNone), ("loop.example/g00553/impl.errState", Rows.laid_loop_example_g00553_impl_errState), ("loop.example/g00553/impl.errRange", Rows.laid_loop_example_g00553_impl_errRange), ("loop.example/g00553/impl.errFull", Rows.laid_loop_example_g00553_impl_errFull), ("loop.example/g00553/impl.errLast", Rows.laid_loop_example_g00553_impl_errLast)] = [("loop.example/g00553/impl.errRange", Rows.laid_loop_example_g00553_impl_errRange), ("loop.example/g00553/impl.errLast", Rows.laid_loop_example_g00553_impl_errLast)] from by kernel_rfl] at k
 obtain ⟨a1,v1,c1⟩:=Tb h0 Ul UC
 obtain ⟨a2,v2,c2⟩:=Tb h0.tail U6 Vq
 obtain ⟨a3,v3,c3⟩:=Tb h0.tail.tail U5 Vp
 obtain ⟨a4,v4,c4⟩:=Tb h0.tail.tail.tail Uj UA
 obtain ⟨a5,v5,c5⟩:=Tb h0.tail.tail.tail.tail Uk UB
 obtain ⟨n12,b12a,b12b⟩:=Xa h0 Ul UC U6 Vq v1 v2
 obtain ⟨n13,b13a,b13b⟩:=Xa h13 Ul UC U5 Vp v1 v3
 obtain ⟨n14,b14a,b14b⟩:=Xa h14 Ul UC Uj UA v1 v4
 obtain ⟨n15,b15a,b15b⟩:=Xa h15 Ul UC Uk UB v1 v5
 obtain ⟨n23,b23a,b23b⟩:=Xa h0.tail U6 Vq U5 Vp v2 v3
 obtain ⟨n24,b24a,b24b⟩:=Xa h24 U6 Vq Uj UA v2 v4
 obtain ⟨n25,b25a,b25b⟩:=Xa h25 U6 Vq Uk UB v2 v5
 obtain ⟨n34,b34a,b34b⟩:=Xa h0.tail.tail U5 Vp Uj UA v3 v4
 obtain ⟨n35,b35a,b35b⟩:=Xa h35 U5 Vp Uk UB v3 v5
 obtain ⟨n45,b45a,b45b⟩:=Xa h0.tail.tail.tail Uj UA Uk UB v4 v5
 exact ⟨fun i=>if i=1 then a1 else if i=2 then a2 else if i=3 then a3 else if i=4 then a4 else a5,c1,c2,c3,c4,c5,ct,b12a,b12b,b23b,b34b,b45b,n12,n13,n14,n15,n23,n24,n25,n34,n35,n45⟩
end Go.Proofs.YtffcgajndmhpkaaGreatDoor
