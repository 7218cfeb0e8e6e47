/- Part 41 of what the proof rests on. No condition but those that a theorem names. -/
import Derived.Test.YtjhijildaceadaaGreatDoorXg40
import Derived.LaidMore
import Derived.Stop.Joined
import Derived.Stop.LaidErr
import Derived.Stop.LaidTwo
import Derived.LaidSub
import Derived.LaidHandle
namespace Go.Proofs.YtjhijildaceadaaGreatDoor
open Go.ChangeShapes Go.WideShapes Go.ChangeAt Go.RowKit Go.Sort Go.Shelf
open Draw (Row IsRow EV row_later GI DY)
set_option linter.unusedVariables false
set_option linter.unusedSimpArgs false
set_option maxRecDepth 100000
attribute [local go_sem ↓] Rn Tb
set_option maxHeartbeats 16000000 in
theorem JI (a0:Option Addr) (len0 cap0:Nat) (z0:List Int) (w:World) (w0:IsRow .u8 w a0 len0 cap0 z0) (her:∃ q,Errs w q) :
  Calls Tryz.prog 7 #[.slice a0 len0 cap0] w fun e w'=>e= .returned (.bool true)/\Below w.heap.size w w':=by
 obtain ⟨qe,her⟩:=her
 have HEr:=Z9 her
 clear her
 by_cases hbig:4096<len0
 ·go_enter Tryz.func7,Tryz.ntmps7
  go_wp2_with fail
  refine (GI _ _ _ _ hbig).mono ?_
  rintro e w' ⟨rfl,rfl⟩
  go_wp2_with fail
  go_ret
  exact ⟨rfl,Below.refl _ _⟩
 have Hr:=Z9 (EV w0 (by omega))
 clear w0
 go_enter Tryz.func7,Tryz.ntmps7
 go_wp2_with fail
 refine (DY _ _ _ _ (by omega)).mono ?_
 rintro e w' ⟨rfl,hw'⟩
 subst w'
 go_wp2_with fail
 refine (Ms _ _ _ _ (uh Hr)).mono ?_
 rintro e w1 ⟨M,u0,u1,u2,u3,u4,who,rq,rfl,hf,hb⟩
 obtain ⟨b0,q0,b1,q1,b2,q2,b3,q3,b4,q4,rfl,rfl,rfl,rfl,rfl,K⟩:=Bx.put hf.smy hb
 clear hf hb
 go_upto_region 4 with fail
 generalize w1.alloc (.cells (S6 b0 q0 b1 q1 b2 q2 b3 q3 b4 q4 M) 32)=W1 at *
 generalize w1.heap.size=mb at *
 obtain ⟨⟨X,c⟩,hV⟩:∃ v,Xn M who=v:=⟨_,rfl⟩
 have hI:=Mz who ((uh HEr).below K.bb) K.smy
 rw [hV] at hI
 have HI:=Z9 hI
 have HV:=Z9 hV
 clear hV hI
 obtain ⟨c0,c1,c2,c3,c4,c5⟩:=K.cells
 go_wp2_with fail
 clear c0 c1 c2 c3 c4 c5
 refine (uh HI).mono ?_
 rintro e w2 ⟨⟨y0,y1,y2,y3,y4,rsx,rfl,ho⟩,hb⟩
 obtain ⟨ax0,px0,ax1,px1,ax2,px2,ax3,px3,ax4,px4,rfl,rfl,rfl,rfl,rfl,Kx⟩:=Bx.put ho.smy (K.bb.trans (hb.mono K.bb.size))
 replace K:=(K.next hb).alloc (.cells (S6 ax0 px0 ax1 px1 ax2 px2 ax3 px3 ax4 px4 X) 32)
 clear ho hb
 go_upto_region 5 with fail
 generalize w2.alloc (.cells (S6 ax0 px0 ax1 px1 ax2 px2 ax3 px3 ax4 px4 X) 32)=W2 at *
 generalize w2.heap.size=xb at *
 clear HI
 go_wp2_with fail
 refine (NQ _ _ _ _ (row_later (uh Hr) K.bb)).mono ?_
 rintro e w3 ⟨Q,u0,u1,u2,u3,u4,one,rq2,rfl,hf,hb⟩
 obtain ⟨g0,h0,g1,h1,g2,h2,g3,h3,g4,h4,rfl,rfl,rfl,rfl,rfl,KQ⟩:=Bx.put hf.smy (K.bb.trans (hb.mono K.bb.size))
 replace K:=(K.next hb).alloc (.cells (S6 g0 h0 g1 h1 g2 h2 g3 h3 g4 h4 Q) 32)
 replace Kx:=(Kx.next hb).alloc (.cells (S6 g0 h0 g1 h1 g2 h2 g3 h3 g4 h4 Q) 32)
 clear hf hb Hr
 go_upto_region 6 with fail
 generalize w3.alloc (.cells (S6 g0 h0 g1 h1 g2 h2 g3 h3 g4 h4 Q) 32)=W3 at *
 generalize w3.heap.size=qb at *
 obtain ⟨⟨Y,g⟩,hU⟩:∃ v,Yf Q one=v:=⟨_,rfl⟩
 have hI:=NS one ((uh HEr).below KQ.bb) KQ.smy
 rw [hU] at hI
 have HI:=Z9 hI
 have HU:=Z9 hU
 clear hU hI
 obtain ⟨c0,c1,c2,c3,c4,c5⟩:=KQ.cells
 go_wp2_with fail
 clear c0 c1 c2 c3 c4 c5
 refine (uh HI).mono ?_
 rintro e w4 ⟨⟨y0,y1,y2,y3,y4,rsy,rfl,ho⟩,hb⟩
 obtain ⟨ay0,py0,ay1,py1,ay2,py2,ay3,py3,ay4,py4,rfl,rfl,rfl,rfl,rfl,Ky⟩:=Bx.put ho.smy (KQ.bb.trans (hb.mono KQ.bb.size))
 replace K:=(K.next hb).alloc (.cells (S6 ay0 py0 ay1 py1 ay2 py2 ay3 py3 ay4 py4 Y) 32)
 replace Kx:=(Kx.next hb).alloc (.cells (S6 ay0 py0 ay1 py1 ay2 py2 ay3 py3 ay4 py4 Y) 32)
 replace KQ:=(KQ.next hb).alloc (.cells (S6 ay0 py0 ay1 py1 ay2 py2 ay3 py3 ay4 py4 Y) 32)
 clear ho hb
 go_upto_region 7 with fail
 generalize w4.alloc (.cells (S6 ay0 py0 ay1 py1 ay2 py2 ay3 py3 ay4 py4 Y) 32)=W4 at *
 generalize w4.heap.size=yb at *
 clear HI
 have hS:=Sd who K.smy
 rw [uh HV] at hS
 have HS:=Z9 hS
 clear hS
 obtain ⟨c0,c1,c2,c3,c4,c5⟩:=K.cells
 go_wp2_with fail
 clear c0 c1 c2 c3 c4 c5
 refine (uh HS).mono ?_
 rintro e w5 ⟨⟨y0,y1,y2,y3,y4,rsz,rfl,ho⟩,hb⟩
 obtain ⟨az0,pz0,az1,pz1,az2,pz2,az3,pz3,az4,pz4,rfl,rfl,rfl,rfl,rfl,Kz⟩:=Bx.put ho.smy (K.bb.trans (hb.mono K.bb.size))
 replace K:=(K.next hb).alloc (.cells (S6 az0 pz0 az1 pz1 az2 pz2 az3 pz3 az4 pz4 X) 32)
 replace Kx:=(Kx.next hb).alloc (.cells (S6 az0 pz0 az1 pz1 az2 pz2 az3 pz3 az4 pz4 X) 32)
 replace KQ:=(KQ.next hb).alloc (.cells (S6 az0 pz0 az1 pz1 az2 pz2 az3 pz3 az4 pz4 X) 32)
 replace Ky:=(Ky.next hb).alloc (.cells (S6 az0 pz0 az1 pz1 az2 pz2 az3 pz3 az4 pz4 X) 32)
 clear ho hb
 go_upto_region 8 with fail
 generalize w5.alloc (.cells (S6 az0 pz0 az1 pz1 az2 pz2 az3 pz3 az4 pz4 X) 32)=W5 at *
 generalize w5.heap.size=zb at *
 clear HS
 obtain ⟨x0,x1,x2,x3,x4,x5⟩:=Kx.cells
 obtain ⟨yy0,yy1,yy2,yy3,yy4,yy5⟩:=Kz.cells
 go_wp2_with fail
 clear x0 x1 x2 x3 x4 x5 yy0 yy1 yy2 yy3 yy4 yy5
 refine (Xy Kx.smy Kz.smy).mono ?_
 rintro e w6 ⟨rfl,hb⟩
 replace K:=K.next hb
 replace Kx:=Kx.next hb
 replace KQ:=KQ.next hb
 replace Ky:=Ky.next hb
 clear hb
 clear Kz
 have hS:=SM one KQ.smy
 rw [uh HU] at hS
 have HS:=Z9 hS
 clear hS
 obtain ⟨c0,c1,c2,c3,c4,c5⟩:=KQ.cells
 go_wp2_with fail
 clear c0 c1 c2 c3 c4 c5
 refine (uh HS).mono ?_
 rintro e w7 ⟨⟨y0,y1,y2,y3,y4,rsv,rfl,ho⟩,hb⟩
 obtain ⟨av0,pv0,av1,pv1,av2,pv2,av3,pv3,av4,pv4,rfl,rfl,rfl,rfl,rfl,Kv⟩:=Bx.put ho.smy (KQ.bb.trans (hb.mono KQ.bb.size))
 replace K:=(K.next hb).alloc (.cells (S6 av0 pv0 av1 pv1 av2 pv2 av3 pv3 av4 pv4 Y) 32)
 replace Kx:=(Kx.next hb).alloc (.cells (S6 av0 pv0 av1 pv1 av2 pv2 av3 pv3 av4 pv4 Y) 32)
 replace KQ:=(KQ.next hb).alloc (.cells (S6 av0 pv0 av1 pv1 av2 pv2 av3 pv3 av4 pv4 Y) 32)
 replace Ky:=(Ky.next hb).alloc (.cells (S6 av0 pv0 av1 pv1 av2 pv2 av3 pv3 av4 pv4 Y) 32)
 clear ho hb
 go_upto_region 11 with fail
 generalize w7.alloc (.cells (S6 av0 pv0 av1 pv1 av2 pv2 av3 pv3 av4 pv4 Y) 32)=W7 at *
 generalize w7.heap.size=vb at *
 clear HS
 obtain ⟨x0,x1,x2,x3,x4,x5⟩:=Ky.cells
 obtain ⟨yy0,yy1,yy2,yy3,yy4,yy5⟩:=Kv.cells
 go_wp2_with fail
 clear x0 x1 x2 x3 x4 x5 yy0 yy1 yy2 yy3 yy4 yy5
 refine (Xy Ky.smy Kv.smy).mono ?_
 rintro e w8 ⟨rfl,hb⟩
 replace K:=K.next hb
 replace Kx:=Kx.next hb
 replace KQ:=KQ.next hb
 replace Ky:=Ky.next hb
 clear hb
 clear Kv
 go_upto_region 13 with fail
 go_cut [101] (fun s wc=>s= .bool false/\Below w8.heap.size w8 wc)
 case first=>
  obtain ⟨okq,hokq⟩:∃ o,ZP Q=o:=⟨_,rfl⟩
  have Hokq:=Z9 hokq
  clear hokq
  rcases KI Q one with ⟨hk0,hv⟩ | ⟨hk0,c',hc,hv⟩ | ⟨hk0,X',hv,hr,hl,k,hxk,hk,hz⟩
  ·obtain rfl:okq=false:=(uh Hokq).symm.trans hk0
   obtain ⟨rfl,rfl⟩:=Prod.mk.inj ((uh HU).symm.trans hv)
   clear HU HV hv hk0
   obtain ⟨c0,c1,c2,c3,c4,c5⟩:=KQ.cells
   go_wp2_with fail
   clear c0 c1 c2 c3 c4 c5
   refine (Yb (uh Hokq) KQ.smy).mono ?_
   rintro e w9 ⟨rfl,hb⟩
   go_wp2_with fail
   go_meet
   exact ⟨rfl,hb⟩
  ·obtain rfl:okq=true:=(uh Hokq).symm.trans hk0
   obtain ⟨hX,hcc⟩:=Prod.mk.inj ((uh HU).symm.trans hv)
   subst hX hcc
   clear HU HV hv hk0
   have hcd:decide (g=0)=false:=decide_eq_false hc
   obtain ⟨c0,c1,c2,c3,c4,c5⟩:=KQ.cells
   go_wp2_with fail
   clear c0 c1 c2 c3 c4 c5
   refine (Yb (uh Hokq) KQ.smy).mono ?_
   rintro e w9 ⟨rfl,hb⟩
   have HB:=Z9 hb
   replace KQ:=KQ.next hb
   replace Ky:=Ky.next hb
   clear hb
   obtain ⟨c0,c1,c2,c3,c4,c5⟩:=KQ.cells
   obtain ⟨x0,x1,x2,x3,x4,x5⟩:=Ky.cells
   go_wp2_with fail
   clear c0 c1 c2 c3 c4 c5 x0 x1 x2 x3 x4 x5
   refine (Xy Ky.smy KQ.smy).mono ?_
   rintro e w10 ⟨rfl,hb⟩
   go_wp2_with fail
   go_meet
   exact ⟨rfl,(uh HB).trans (hb.mono (uh HB).size)⟩
  ·obtain rfl:okq=true:=(uh Hokq).symm.trans hk0
   obtain ⟨hX,hcc⟩:=Prod.mk.inj ((uh HU).symm.trans hv)
   subst hX hcc hxk
   clear HU HV hv hk0
   have hlk:k<Y.smiths.length:=by omega
   have hlk1:(k:Int)<(Y.smiths.length:Int):=by omega
   clear hl
   obtain ⟨_,_,hse,_,_,r2s⟩:=Ky.smy.smiths
   cases hse
   rcases r2s with e0 | ⟨sbs,ofs,rfl,hbws,hcls⟩
   ·exfalso;have h9:=hlk;rw [e0] at h9;simp at h9
   obtain ⟨s0,s1,s2,s3,s4,s5,s6,s7,s8,s9,s10⟩:=ZK hcls hlk
   clear hcls
   rw [hz] at s0 s1 s2 s3 s4 s5 s6 s7 s8 s9 s10
   simp only [XC] at s0 s1 s2 s3 s4 s5 s6 s7 s8 s9 s10
   clear hz
   have HR:=Z9 hr
   clear hr
   obtain ⟨x0,x1,x2,x3,x4,x5⟩:=Ky.cells
   go_wp2_with fail
   refine (WJ _ _ _ _ _ _ _ _ (uh HR) Ky.smy).mono ?_
   rintro e w9 ⟨rfl,hb⟩
   go_wp2_with fail
   go_meet
   exact ⟨rfl,hb⟩
 case rest=>
  obtain ⟨rfl,hb⟩:=hcut
  replace K:=K.next hb
  replace Kx:=Kx.next hb
  clear hb KQ Ky HU
  obtain ⟨ok,hok⟩:∃ o,ZP M=o:=⟨_,rfl⟩
  have Hok:=Z9 hok
  clear hok
  obtain ⟨c0,c1,c2,c3,c4,c5⟩:=K.cells
  go_wp2_with fail
  clear c0 c1 c2 c3 c4 c5
  refine (Yb (uh Hok) K.smy).mono ?_
  rintro e w11 ⟨rfl,hb⟩
  replace K:=K.next hb
  replace Kx:=Kx.next hb
  clear hb
  rcases Ji M who with ⟨hk0,hv⟩ | ⟨hk0,c',hc,hv⟩ | ⟨hk0,X',hv,hr,hl,k,hxk,hk,hst,hall⟩
  ·obtain rfl:ok=false:=(uh Hok).symm.trans hk0
   obtain ⟨rfl,rfl⟩:=Prod.mk.inj ((uh HV).symm.trans hv)
   clear HV hv hk0
   obtain ⟨x0,x1,x2,x3,x4,x5⟩:=Kx.cells
   go_wp2_with fail
   clear x0 x1 x2 x3 x4 x5
   refine (Xy Kx.smy (Zd 0 _).smy).mono ?_
   rintro e w12 ⟨rfl,hb⟩
   replace K:=K.next hb
   clear hb
   go_wp2_with fail
   go_ret
   exact ⟨rfl,K.bb⟩
  ·obtain rfl:ok=true:=(uh Hok).symm.trans hk0
   obtain ⟨hX,hcc⟩:=Prod.mk.inj ((uh HV).symm.trans hv)
   subst hX hcc
   clear HV hv hk0
   have hcd:decide (c=0)=false:=decide_eq_false hc
   obtain ⟨c0,c1,c2,c3,c4,c5⟩:=K.cells
   obtain ⟨x0,x1,x2,x3,x4,x5⟩:=Kx.cells
   go_wp2_with fail
   clear c0 c1 c2 c3 c4 c5 x0 x1 x2 x3 x4 x5
   refine (Xy Kx.smy K.smy).mono ?_
   rintro e w12 ⟨rfl,hb⟩
   replace K:=K.next hb
   clear hb
   go_wp2_with fail
   go_ret
   exact ⟨rfl,K.bb⟩
  ·obtain rfl:ok=true:=(uh Hok).symm.trans hk0
   obtain ⟨hX,hcc⟩:=Prod.mk.inj ((uh HV).symm.trans hv)
   subst hX hcc hxk
   clear HV hv hk0
   have hlM:M.smiths.length<=12:=Y3 (ZU (uh Hok))
   have hlI:(M.smiths.length:Int)<=12:=by omega
   have HR:=Z9 hr
   have HA:=Z9 hall
   have HT:=Z9 hst
   have hXl:Hid (X.smiths.length=M.smiths.length):=Z9 hl
   clear hr hall hst hl
   go_wp2_with fail
   go_loopw [15] (fun i wr=> ∃ j:Nat,j<=M.smiths.length/\i= .int .i64 j/\Below w11.heap.size w11 wr) (fun i _=>M.smiths.length-(intOf i).toNat)
   case atStart=>exact ⟨0,Nat.zero_le _,rfl,Below.refl _ _⟩
   case round=>
    obtain ⟨j,hj,rfl,hb⟩:=hrel
    have HB:=Z9 hb
    clear hb
    have hltX:∀ i,i<M.smiths.length->i<X.smiths.length:=fun i hi=>by rw [uh hXl];exact hi
    by_cases hlt:j<M.smiths.length
    ·
     have hlt1:(j:Int)<(M.smiths.length:Int):=by omega
     have hltn:=hltX j hlt
     have hlt2:(j:Int)<(X.smiths.length:Int):=by omega
     clear hltX
     obtain ⟨h2,hpr⟩:=uh HA j hlt
     obtain ⟨_,_,hse,_,_,r2p⟩:=K.smy.smiths
     cases hse
     rcases r2p with e0 | ⟨sbp,ofp,rfl,hbwp,hclp⟩
     ·exfalso;have h9:=hlt;rw [e0] at h9;simp at h9
     obtain ⟨p0,p1,p2,p3,p4,p5,p6,p7,p8,p9,p10⟩:=ZK hclp hlt
     clear hclp
     obtain ⟨_,_,hse,_,_,r2s⟩:=Kx.smy.smiths
     cases hse
     rcases r2s with e0 | ⟨sbs,ofs,rfl,hbws,hcls⟩
     ·exfalso;have h9:=hltn;rw [e0] at h9;simp at h9
     obtain ⟨s0,s1,s2,s3,s4,s5,s6,s7,s8,s9,s10⟩:=ZK hcls hltn
     clear hcls
     obtain ⟨⟨st,be,rk,my,gu,lo,hi,hd,ca,ut,wk⟩,hrk⟩:∃ d,Z8 M.smiths j=d:=⟨_,rfl⟩
     obtain ⟨⟨st2,be2,rk2,my2,gu2,lo2,hi2,hd2,ca2,ut2,wk2⟩,hrx⟩:∃ d,Z8 X.smiths j=d:=⟨_,rfl⟩
     rw [hrk] at p0 p1 p2 p3 p4 p5 p6 p7 p8 p9 p10 h2 hpr
     rw [hrx] at s0 s1 s2 s3 s4 s5 s6 s7 s8 s9 s10 h2 hpr
     simp only [Prod.mk.injEq] at h2
     obtain ⟨h1,h3,h4,h5,h6,h7,h8,h9,h10,h11⟩:=h2
     subst h1 h3 h4 h5 h6 h7 h8 h9 h10 h11
     simp only at p0 p1 p2 p3 p4 p5 p6 p7 p8 p9 p10 s0 s1 s2 s3 s4 s5 s6 s7 s8 s9 s10
     clear hrk hrx
     have HPs:=Z9 (And.intro p0 (And.intro p1 (And.intro p2 (And.intro p3 (And.intro p4 (And.intro p5 (And.intro p6 (And.intro p7 (And.intro p8 (And.intro p9 p10))))))))))
     have HSs:=Z9 (And.intro s0 (And.intro s1 (And.intro s2 (And.intro s3 (And.intro s4 (And.intro s5 (And.intro s6 (And.intro s7 (And.intro s8 (And.intro s9 s10))))))))))
     have Hpr:=Z9 hpr
     clear p0 p1 p2 p3 p4 p5 p6 p7 p8 p9 p10 s0 s1 s2 s3 s4 s5 s6 s7 s8 s9 s10 hpr
     obtain ⟨p0,p1,p2,p3,p4,p5,p6,p7,p8,p9,p10⟩:=uh HPs
     replace p0:=((uh HB).cell (World.block_lt_of_cell? _ _ p0)).trans p0
     replace p1:=((uh HB).cell (World.block_lt_of_cell? _ _ p1)).trans p1
     replace p2:=((uh HB).cell (World.block_lt_of_cell? _ _ p2)).trans p2
     replace p3:=((uh HB).cell (World.block_lt_of_cell? _ _ p3)).trans p3
     replace p4:=((uh HB).cell (World.block_lt_of_cell? _ _ p4)).trans p4
     replace p5:=((uh HB).cell (World.block_lt_of_cell? _ _ p5)).trans p5
     replace p6:=((uh HB).cell (World.block_lt_of_cell? _ _ p6)).trans p6
     replace p7:=((uh HB).cell (World.block_lt_of_cell? _ _ p7)).trans p7
     replace p8:=((uh HB).cell (World.block_lt_of_cell? _ _ p8)).trans p8
     replace p9:=((uh HB).cell (World.block_lt_of_cell? _ _ p9)).trans p9
     replace p10:=((uh HB).cell (World.block_lt_of_cell? _ _ p10)).trans p10
     have c2:=(K.next (uh HB)).blk.cell (i:=2) (v:= .slice (some ⟨sbp,ofp,none⟩) M.smiths.length q2) rfl
     go_upto_region 23 with fail
     obtain ⟨V1,hV1,hba,ka⟩:=ZA wr 43 (I11 st be2 rk2 my2 gu2 lo2 hi2 hd2 ca2 ut2 wk2)
     replace HB:=bt HB hba
     clear hba c2 p0 p1 p2 p3 p4 p5 p6 p7 p8 p9 p10
     rw [hV1]
     clear hV1
     generalize wr.heap.size=ab at *
     obtain ⟨s0,s1,s2,s3,s4,s5,s6,s7,s8,s9,s10⟩:=uh HSs
     replace s0:=((uh HB).cell (World.block_lt_of_cell? _ _ s0)).trans s0
     replace s1:=((uh HB).cell (World.block_lt_of_cell? _ _ s1)).trans s1
     replace s2:=((uh HB).cell (World.block_lt_of_cell? _ _ s2)).trans s2
     replace s3:=((uh HB).cell (World.block_lt_of_cell? _ _ s3)).trans s3
     replace s4:=((uh HB).cell (World.block_lt_of_cell? _ _ s4)).trans s4
     replace s5:=((uh HB).cell (World.block_lt_of_cell? _ _ s5)).trans s5
     replace s6:=((uh HB).cell (World.block_lt_of_cell? _ _ s6)).trans s6
     replace s7:=((uh HB).cell (World.block_lt_of_cell? _ _ s7)).trans s7
     replace s8:=((uh HB).cell (World.block_lt_of_cell? _ _ s8)).trans s8
     replace s9:=((uh HB).cell (World.block_lt_of_cell? _ _ s9)).trans s9
     replace s10:=((uh HB).cell (World.block_lt_of_cell? _ _ s10)).trans s10
     have x2:=(Kx.next (uh HB)).blk.cell (i:=2) (v:= .slice (some ⟨sbs,ofs,none⟩) X.smiths.length px2) rfl
     go_upto_region 24 with fail
     obtain ⟨V2,hV2,hba,kb⟩:=ZA V1 43 (I11 st2 be2 rk2 my2 gu2 lo2 hi2 hd2 ca2 ut2 wk2)
     have hne:ab ≠ V1.heap.size:=by have:=(uh ka).lt;omega
     have hbb:=(uh HB).size
     replace HB:=bt HB hba
     replace ka:=bl ka hba
     clear hba x2 s0 s1 s2 s3 s4 s5 s6 s7 s8 s9 s10
     rw [hV2]
     clear hV2
     generalize V1.heap.size=bb at *
     have e0:=(uh ka).cell (i:=0) (v:= .int .i64 st) rfl
     have g0:=(uh kb).cell (i:=0) (v:= .int .i64 st2) rfl
     have f0:=(uh kb).free 0
     go_upto_region 25 with fail
     replace ka:=Z9 ((uh ka).other (a:=⟨bb,0,none⟩) hne (.int .i64 st))
     replace kb:=Z9 ((uh kb).set 0 (.int .i64 st))
     replace HB:=Z9 ((uh HB).setCell (p:=⟨bb,0,none⟩) hbb (.int .i64 st))
     simp only [List.setIfInBounds_toArray,List.set_cons_zero] at kb
     clear e0 g0 f0
     generalize V2.setCell ⟨bb,0,none⟩ (.int .i64 st)=V3 at *
     go_cut [159] (fun s wc=>s= .bool false/\Below V3.heap.size V3 wc)
     case first=>
      clear HR HT hXl hltn
      obtain ⟨e0,e1,e2,e3,e4,e5,e6,e7,e8,e9,e10⟩:=(uh ka).c11
      obtain ⟨g0,g1,g2,g3,g4,g5,g6,g7,g8,g9,g10⟩:=(uh kb).c11
      have hsb:VB (st,be2,rk2,my2,gu2,lo2,hi2,hd2,ca2,ut2,wk2) (st,be2,rk2,my2,gu2,lo2,hi2,hd2,ca2,ut2,wk2)=true:=by simp [VB]
      by_cases hjk:j=k
      ·have hjd:decide ((j:Int)=(k:Int))=true:=decide_eq_true (by omega)
       have hjx:((j:Int) !=(k:Int))=false:=by simp;omega
       have re0:=cell_regrown e0
       have re1:=cell_regrown e1
       have re2:=cell_regrown e2
       have re3:=cell_regrown e3
       have re4:=cell_regrown e4
       have re5:=cell_regrown e5
       have re6:=cell_regrown e6
       have re7:=cell_regrown e7
       have re8:=cell_regrown e8
       have re9:=cell_regrown e9
       have re10:=cell_regrown e10
       have rg0:=cell_regrown g0
       have rg1:=cell_regrown g1
       have rg2:=cell_regrown g2
       have rg3:=cell_regrown g3
       have rg4:=cell_regrown g4
       have rg5:=cell_regrown g5
       have rg6:=cell_regrown g6
       have rg7:=cell_regrown g7
       have rg8:=cell_regrown g8
       have rg9:=cell_regrown g9
       have rg10:=cell_regrown g10
       refine wp_region_quiet_below (by kernel_rfl) (by kernel_rfl) ?_
       repeat (go_big_quiet_step (fail))
       refine wpQuiet_nil ?_
       intro _ hw'
       obtain ⟨⟨dq,osq⟩,hw''⟩:=hw'
       subst hw''
       have hbq:Below V3.heap.size V3 (Go.Sort.grow (Go.redrawn V3 dq) osq):=below_regrown V3 dq osq
       generalize Go.Sort.grow (Go.redrawn V3 dq) osq=wq at *
       go_wp2_with fail
       go_meet
       exact ⟨rfl,hbq⟩
      ·have hjx:((j:Int) !=(k:Int))=true:=by simp;omega
       have hjd:decide ((j:Int)=(k:Int))=false:=decide_eq_false (by omega)
       obtain ⟨pq,hpq⟩:∃ q,ZT (st,be2,rk2,my2,gu2,lo2,hi2,hd2,ca2,ut2,wk2)=q:=⟨_,rfl⟩
       have HP1:=Z9 hpq
       have HP2:=Z9 ((uh Hpr hjk).trans hpq)
       clear hpq hjk Hpr
       obtain ⟨p0,p1,p2,p3,p4,p5,p6,p7,p8,p9,p10⟩:=uh HPs
       replace p0:=((uh HB).cell (World.block_lt_of_cell? _ _ p0)).trans p0
       replace p1:=((uh HB).cell (World.block_lt_of_cell? _ _ p1)).trans p1
       replace p2:=((uh HB).cell (World.block_lt_of_cell? _ _ p2)).trans p2
       replace p3:=((uh HB).cell (World.block_lt_of_cell? _ _ p3)).trans p3
       replace p4:=((uh HB).cell (World.block_lt_of_cell? _ _ p4)).trans p4
       replace p5:=((uh HB).cell (World.block_lt_of_cell? _ _ p5)).trans p5
       replace p6:=((uh HB).cell (World.block_lt_of_cell? _ _ p6)).trans p6
       replace p7:=((uh HB).cell (World.block_lt_of_cell? _ _ p7)).trans p7
       replace p8:=((uh HB).cell (World.block_lt_of_cell? _ _ p8)).trans p8
       replace p9:=((uh HB).cell (World.block_lt_of_cell? _ _ p9)).trans p9
       replace p10:=((uh HB).cell (World.block_lt_of_cell? _ _ p10)).trans p10
       obtain ⟨s0,s1,s2,s3,s4,s5,s6,s7,s8,s9,s10⟩:=uh HSs
       replace s0:=((uh HB).cell (World.block_lt_of_cell? _ _ s0)).trans s0
       replace s1:=((uh HB).cell (World.block_lt_of_cell? _ _ s1)).trans s1
       replace s2:=((uh HB).cell (World.block_lt_of_cell? _ _ s2)).trans s2
       replace s3:=((uh HB).cell (World.block_lt_of_cell? _ _ s3)).trans s3
       replace s4:=((uh HB).cell (World.block_lt_of_cell? _ _ s4)).trans s4
       replace s5:=((uh HB).cell (World.block_lt_of_cell? _ _ s5)).trans s5
       replace s6:=((uh HB).cell (World.block_lt_of_cell? _ _ s6)).trans s6
       replace s7:=((uh HB).cell (World.block_lt_of_cell? _ _ s7)).trans s7
       replace s8:=((uh HB).cell (World.block_lt_of_cell? _ _ s8)).trans s8
       replace s9:=((uh HB).cell (World.block_lt_of_cell? _ _ s9)).trans s9
       replace s10:=((uh HB).cell (World.block_lt_of_cell? _ _ s10)).trans s10
       have c2:=(K.next (uh HB)).blk.cell (i:=2) (v:= .slice (some ⟨sbp,ofp,none⟩) M.smiths.length q2) rfl
       have x2:=(Kx.next (uh HB)).blk.cell (i:=2) (v:= .slice (some ⟨sbs,ofs,none⟩) X.smiths.length px2) rfl
       have kc2:=cell_regrown c2
       have kx2:=cell_regrown x2
       have rp0:=cell_regrown p0
       have rp1:=cell_regrown p1
       have rp2:=cell_regrown p2
       have rp3:=cell_regrown p3
       have rp4:=cell_regrown p4
       have rp5:=cell_regrown p5
       have rp6:=cell_regrown p6
       have rp7:=cell_regrown p7
       have rp8:=cell_regrown p8
       have rp9:=cell_regrown p9
       have rp10:=cell_regrown p10
       have rs0:=cell_regrown s0
       have rs1:=cell_regrown s1
       have rs2:=cell_regrown s2
       have rs3:=cell_regrown s3
       have rs4:=cell_regrown s4
       have rs5:=cell_regrown s5
       have rs6:=cell_regrown s6
       have rs7:=cell_regrown s7
       have rs8:=cell_regrown s8
       have rs9:=cell_regrown s9
       have rs10:=cell_regrown s10
       have re0:=cell_regrown e0
       have re1:=cell_regrown e1
       have re2:=cell_regrown e2
       have re3:=cell_regrown e3
       have re4:=cell_regrown e4
       have re5:=cell_regrown e5
       have re6:=cell_regrown e6
       have re7:=cell_regrown e7
       have re8:=cell_regrown e8
       have re9:=cell_regrown e9
       have re10:=cell_regrown e10
       have rg0:=cell_regrown g0
       have rg1:=cell_regrown g1
       have rg2:=cell_regrown g2
       have rg3:=cell_regrown g3
       have rg4:=cell_regrown g4
       have rg5:=cell_regrown g5
       have rg6:=cell_regrown g6
       have rg7:=cell_regrown g7
       have rg8:=cell_regrown g8
       have rg9:=cell_regrown g9
       have rg10:=cell_regrown g10
       clear K Kx HPs HSs ka kb HB HEr
       refine wp_region_quiet_below (by kernel_rfl) (by kernel_rfl) ?_
       repeat (go_big_quiet_step (exact Calls.regrown_of (Gg (by first | exact uh HP1 | exact uh HP2) _)))
       refine wpQuiet_nil ?_
       intro _ hw'
       obtain ⟨⟨dq,osq⟩,hw''⟩:=hw'
       subst hw''
       have hbq:Below V3.heap.size V3 (Go.Sort.grow (Go.redrawn V3 dq) osq):=below_regrown V3 dq osq
       generalize Go.Sort.grow (Go.redrawn V3 dq) osq=wq at *
       go_wp2_with fail
       go_meet
       exact ⟨rfl,hbq⟩
     case rest=>
      obtain ⟨rfl,hb⟩:=hcut
      replace HB:=bt HB hb
      clear hb
      go_wp2_with fail
      go_roundw
      case rel=>exact ⟨j+1,by omega,by go_num,uh HB⟩
      case measure=>simp [intOf];omega
    ·
     obtain rfl:j=M.smiths.length:=by omega
     have hkX:=hltX k hk
     have hkX1:(k:Int)<(X.smiths.length:Int):=by omega
     clear hltX
     have KR:=Kx.next (uh HB)
     obtain ⟨_,_,c2,_,_,_⟩:=(K.next (uh HB)).cells
     obtain ⟨x0,x1,x2,x3,x4,x5⟩:=KR.cells
     go_wp2_with fail
     refine (WJ _ _ _ _ _ _ _ _ (uh HR) KR.smy).mono ?_
     rintro e w12 ⟨rfl,hb⟩
     clear c2 x0 x1 x2 x3 x4 x5
     replace KR:=KR.next hb
     clear hb
     obtain ⟨_,_,hse,_,_,r9⟩:=KR.smy.smiths
     cases hse
     rcases r9 with e0 | ⟨sb9,of9,rfl,hbw9,hcl9⟩
     ·rw [e0] at hkX;simp at hkX
     have s0:=(ZK hcl9 hkX).1
     rw [uh HT] at s0
     clear hcl9
     obtain ⟨_,_,x2,_,_,_⟩:=KR.cells
     go_wp2_with fail
     go_ret
     exact ⟨rfl,KR.bb⟩
end Go.Proofs.YtjhijildaceadaaGreatDoor
namespace Go.Proofs.YtjhijildaceadaaGreatDoor
open Go.ChangeShapes Go.WideShapes Go.ChangeAt Go.RowKit
set_option linter.unusedVariables false
set_option maxRecDepth 100000
theorem Cw : "*" ++ "errors.errorString" = "*errors.errorString" := by decide
theorem EU (u : TypeId) (h : Tryz.prog.typeName? 3 u = some "*errors.errorString") : u = 344 :=
 typeName_ptr_named (nm := "errors.errorString") (by rw [Cw]; kernel_rfl) (by kernel_rfl) (by decide) u (by rw [Cw]; exact h)
theorem Cl : (Tryz.prog.cutTypes.find? (·.1 == "internal/reflectlite.rtype")).map (·.2) = some 268 := by kernel_rfl
theorem CY:((List.range Tryz.prog.types.size).filter fun t=>Tryz.prog.rowNamed t [101,114,114,111,114])=[97]:=by kernel_rfl
theorem Ct : Tryz.prog.globalNamed "errors.errorType" = some 5 := by kernel_rfl
theorem Lu {a b:Addr} {x:Option (Array Value)} (h:x=some #[XW a]) (k:x=some #[XW b]):a=b:=by
 rw [h] at k
 simpa using k
theorem TE {n : String} {g : Nat} {text : List UInt8} {r : List (String × DataW Unit)} {W : World} (h : laidMet Tryz.prog ((n, .iface "*errors.errorString" (.ptr (.agg [.lit (.string text)]))) :: r) W)
  (hg:Tryz.prog.globalNamed n=some g) (ht:(Tryz.prog.globals[g]?).map (·.type)=some 97):∃ a,W.var? Tryz.prog n=some #[XW a]/\W.cell? ⟨g,0,none⟩=some (XW a):=by
 obtain ⟨a,s,hv,_⟩:=laid_sentinel h hg ht Tryz.underlying97 EU Tryz.underlying344 Tryz.underlying371 rfl rfl Tryz.underlying9 (by kernel_rfl) (by kernel_rfl)
 exact ⟨a,hv,by rw [World.var?_cell hg hv 0];rfl⟩
theorem Xk {n0 n1 : String} {g0 g1 : Nat} {text0 text1 : List UInt8} {r : List (String × DataW Unit)} {W : World} {a0 a1 : Addr} (h : laidMet Tryz.prog ((n0, .iface "*errors.errorString" (.ptr (.agg [.lit (.string text0)]))) :: (n1, .iface "*errors.errorString" (.ptr (.agg [.lit (.string text1)]))) :: r) W)
  (hg0:Tryz.prog.globalNamed n0=some g0) (ht0:(Tryz.prog.globals[g0]?).map (·.type)=some 97) (hg1:Tryz.prog.globalNamed n1=some g1) (ht1:(Tryz.prog.globals[g1]?).map (·.type)=some 97)
  (v0:W.var? Tryz.prog n0=some #[XW a0]) (v1:W.var? Tryz.prog n1=some #[XW a1]):a0 ≠ a1/\(∃ c t,W.heap[a0.block]?=some (.cells c t (0,0)))/\(∃ c t,W.heap[a1.block]?=some (.cells c t (0,0))):=by
 obtain ⟨b0,b1,s0,s1,c0,c1,t0,t1,hv0,hv1,_,_,_,_,_,_,hne,hb0,hb1⟩:=laid_sentinels2 h hg0 ht0 hg1 ht1 Tryz.underlying97 EU Tryz.underlying344 Tryz.underlying371 rfl rfl Tryz.underlying9 (by kernel_rfl) (by kernel_rfl)
 obtain rfl:=Lu hv0 v0
 obtain rfl:=Lu hv1 v1
 exact ⟨hne,⟨c0,t0,hb0⟩,⟨c1,t1,hb1⟩⟩
theorem UD : Tryz.prog.globalNamed "loop.example/g00553/impl.errNone" = some 4 := by kernel_rfl
theorem US:(Tryz.prog.globals[4]?).map (·.type)=some 97:=by kernel_rfl
theorem Vn : Tryz.prog.globalNamed "loop.example/g00553/impl.errState" = some 1 := by kernel_rfl
theorem VI:(Tryz.prog.globals[1]?).map (·.type)=some 97:=by kernel_rfl
theorem Vm : Tryz.prog.globalNamed "loop.example/g00553/impl.errRange" = some 0 := by kernel_rfl
theorem VH:(Tryz.prog.globals[0]?).map (·.type)=some 97:=by kernel_rfl
theorem UB : Tryz.prog.globalNamed "loop.example/g00553/impl.errFull" = some 3 := by kernel_rfl
theorem UQ:(Tryz.prog.globals[3]?).map (·.type)=some 97:=by kernel_rfl
theorem UC : Tryz.prog.globalNamed "loop.example/g00553/impl.errLast" = some 2 := by kernel_rfl
theorem UR:(Tryz.prog.globals[2]?).map (·.type)=some 97:=by kernel_rfl
theorem CT {W : World} (h : laidMetH Tryz.prog (("errors.errorType", Rows.laid_errors_errorType) :: [("loop.example/g00553/impl.errNone", Rows.laid_loop_example_g00553_impl_errNone), ("loop.example/g00553/impl.errState", Rows.laid_loop_example_g00553_impl_errState), ("loop.example/g00553/impl.errRange", Rows.laid_loop_example_g00553_impl_errRange), ("loop.example/g00553/impl.errFull", Rows.laid_loop_example_g00553_impl_errFull), ("loop.example/g00553/impl.errLast", Rows.laid_loop_example_g00553_impl_errLast)]) W) : ∃ q, Errs W q := by
 have h' : laidMet Tryz.prog [("loop.example/g00553/impl.errNone", Rows.laid_loop_example_g00553_impl_errNone), ("loop.example/g00553/impl.errState", Rows.laid_loop_example_g00553_impl_errState), ("loop.example/g00553/impl.errRange", Rows.laid_loop_example_g00553_impl_errRange), ("loop.example/g00553/impl.errFull", Rows.laid_loop_example_g00553_impl_errFull), ("loop.example/g00553/impl.errLast", Rows.laid_loop_example_g00553_impl_errLast)] W ∧ handlesMet Tryz.prog [("errors.errorType", Rows.laid_errors_errorType)] W := h
 obtain ⟨h0,hh⟩:=h'
 have ct:W.cell? ⟨5,0,none⟩=some (rty 97):=by
  obtain ⟨name,u,ty,e1,e2,e3,e4,e5⟩:=hh _ (List.mem_singleton.2 rfl)
  have en:name=[101,114,114,111,114]:=(Option.some.inj e1).symm
  subst en
  obtain rfl:=Option.some.inj (Cl.symm.trans e2)
  have hm:ty ∈ (List.range Tryz.prog.types.size).filter fun t=>Tryz.prog.rowNamed t [101,114,114,111,114]:=List.mem_filter.2 ⟨List.mem_range.2 e3,e4⟩
  rw [CY] at hm
  obtain rfl:=List.mem_singleton.1 hm
  have h9:typeHandle Tryz.prog 97= .pointer (some ⟨6,97,none⟩):=by kernel_rfl
  rw [h9] at e5
  rw [World.var?_cell Ct e5 0]
  rfl
 have h13 : laidMet Tryz.prog [("loop.example/g00553/impl.errNone", Rows.laid_loop_example_g00553_impl_errNone), ("loop.example/g00553/impl.errRange", Rows.laid_loop_example_g00553_impl_errRange)] W := by
  have k := h0.filter (fun x => x.1 != "loop.example/g00553/impl.errState" && x.1 != "loop.example/g00553/impl.errFull" && x.1 != "loop.example/g00553/impl.errLast")
  rwa [show List.filter (fun x => x.1 != "loop.example/g00553/impl.errState" && x.1 != "loop.example/g00553/impl.errFull" && x.1 != "loop.example/g00553/impl.errLast") [("loop.example/g00553/impl.errNone", Rows.laid_loop_example_g00553_impl_errNone), ("loop.example/g00553/impl.errState", Rows.laid_loop_example_g00553_impl_errState), ("loop.example/g00553/impl.errRange", Rows.laid_loop_example_g00553_impl_errRange), ("loop.example/g00553/impl.errFull", Rows.laid_loop_example_g00553_impl_errFull), ("loop.example/g00553/impl.errLast", Rows.laid_loop_example_g00553_impl_errLast)] = [("loop.example/g00553/impl.errNone", Rows.laid_loop_example_g00553_impl_errNone), ("loop.example/g00553/impl.errRange", Rows.laid_loop_example_g00553_impl_errRange)] from by kernel_rfl] at k
 have h14 : laidMet Tryz.prog [("loop.example/g00553/impl.errNone", Rows.laid_loop_example_g00553_impl_errNone), ("loop.example/g00553/impl.errFull", Rows.laid_loop_example_g00553_impl_errFull)] W := by
  have k := h0.filter (fun x => x.1 != "loop.example/g00553/impl.errState" && x.1 != "loop.example/g00553/impl.errRange" && x.1 != "loop.example/g00553/impl.errLast")
  rwa [show List.filter (fun x => x.1 != "loop.example/g00553/impl.errState" && x.1 != "loop.example/g00553/impl.errRange" && x.1 != "loop.example/g00553/impl.errLast") [("loop.example/g00553/impl.errNone", Rows.laid_loop_example_g00553_impl_errNone), ("loop.example/g00553/impl.errState", Rows.laid_loop_example_g00553_impl_errState), ("loop.example/g00553/impl.errRange", Rows.laid_loop_example_g00553_impl_errRange), ("loop.example/g00553/impl.errFull", Rows.laid_loop_example_g00553_impl_errFull), ("loop.example/g00553/impl.errLast", Rows.laid_loop_example_g00553_impl_errLast)] = [("loop.example/g00553/impl.errNone", Rows.laid_loop_example_g00553_impl_errNone), ("loop.example/g00553/impl.errFull", Rows.laid_loop_example_g00553_impl_errFull)] from by kernel_rfl] at k
 have h15 : laidMet Tryz.prog [("loop.example/g00553/impl.errNone", Rows.laid_loop_example_g00553_impl_errNone), ("loop.example/g00553/impl.errLast", Rows.laid_loop_example_g00553_impl_errLast)] W := by
  have k := h0.filter (fun x => x.1 != "loop.example/g00553/impl.errState" && x.1 != "loop.example/g00553/impl.errRange" && x.1 != "loop.example/g00553/impl.errFull")
  rwa [show List.filter (fun x => x.1 != "loop.example/g00553/impl.errState" && x.1 != "loop.example/g00553/impl.errRange" && x.1 != "loop.example/g00553/impl.errFull") [("loop.example/g00553/impl.errNone", Rows.laid_loop_example_g00553_impl_errNone), ("loop.example/g00553/impl.errState", Rows.laid_loop_example_g00553_impl_errState), ("loop.example/g00553/impl.errRange", Rows.laid_loop_example_g00553_impl_errRange), ("loop.example/g00553/impl.errFull", Rows.laid_loop_example_g00553_impl_errFull), ("loop.example/g00553/impl.errLast", Rows.laid_loop_example_g00553_impl_errLast)] = [("loop.example/g00553/impl.errNone", Rows.laid_loop_example_g00553_impl_errNone), ("loop.example/g00553/impl.errLast", Rows.laid_loop_example_g00553_impl_errLast)] from by kernel_rfl] at k
 have h24 : laidMet Tryz.prog [("loop.example/g00553/impl.errState", Rows.laid_loop_example_g00553_impl_errState), ("loop.example/g00553/impl.errFull", Rows.laid_loop_example_g00553_impl_errFull)] W := by
  have k := h0.filter (fun x => x.1 != "loop.example/g00553/impl.errNone" && x.1 != "loop.example/g00553/impl.errRange" && x.1 != "loop.example/g00553/impl.errLast")
  rwa [show List.filter (fun x => x.1 != "loop.example/g00553/impl.errNone" && x.1 != "loop.example/g00553/impl.errRange" && x.1 != "loop.example/g00553/impl.errLast") [("loop.example/g00553/impl.errNone", Rows.laid_loop_example_g00553_impl_errNone), ("loop.example/g00553/impl.errState", Rows.laid_loop_example_g00553_impl_errState), ("loop.example/g00553/impl.errRange", Rows.laid_loop_example_g00553_impl_errRange), ("loop.example/g00553/impl.errFull", Rows.laid_loop_example_g00553_impl_errFull), ("loop.example/g00553/impl.errLast", Rows.laid_loop_example_g00553_impl_errLast)] = [("loop.example/g00553/impl.errState", Rows.laid_loop_example_g00553_impl_errState), ("loop.example/g00553/impl.errFull", Rows.laid_loop_example_g00553_impl_errFull)] from by kernel_rfl] at k
 have h25 : laidMet Tryz.prog [("loop.example/g00553/impl.errState", Rows.laid_loop_example_g00553_impl_errState), ("loop.example/g00553/impl.errLast", Rows.laid_loop_example_g00553_impl_errLast)] W := by
  have k := h0.filter (fun x => x.1 != "loop.example/g00553/impl.errNone" && x.1 != "loop.example/g00553/impl.errRange" && x.1 != "loop.example/g00553/impl.errFull")
  rwa [show List.filter (fun x => x.1 != "loop.example/g00553/impl.errNone" && x.1 != "loop.example/g00553/impl.errRange" && x.1 != "loop.example/g00553/impl.errFull") [("loop.example/g00553/impl.errNone", Rows.laid_loop_example_g00553_impl_errNone), ("loop.example/g00553/impl.errState", Rows.laid_loop_example_g00553_impl_errState), ("loop.example/g00553/impl.errRange", Rows.laid_loop_example_g00553_impl_errRange), ("loop.example/g00553/impl.errFull", Rows.laid_loop_example_g00553_impl_errFull), ("loop.example/g00553/impl.errLast", Rows.laid_loop_example_g00553_impl_errLast)] = [("loop.example/g00553/impl.errState", Rows.laid_loop_example_g00553_impl_errState), ("loop.example/g00553/impl.errLast", Rows.laid_loop_example_g00553_impl_errLast)] from by kernel_rfl] at k
 have h35 : laidMet Tryz.prog [("loop.example/g00553/impl.errRange", Rows.laid_loop_example_g00553_impl_errRange), ("loop.example/g00553/impl.errLast", Rows.laid_loop_example_g00553_impl_errLast)] W := by
  have k := h0.filter (fun x => x.1 != "loop.example/g00553/impl.errNone" && x.1 != "loop.example/g00553/impl.errState" && x.1 != "loop.example/g00553/impl.errFull")
  rwa [show List.filter (fun x => x.1 != "loop.example/g00553/impl.errNone" && x.1 != "loop.example/g00553/impl.errState" && x.1 != "loop.example/g00553/impl.errFull") [("loop.example/g00553/impl.errNone", Rows.laid_loop_example_g00553_impl_errNone), ("loop.example/g00553/impl.errState", Rows.laid_loop_example_g00553_impl_errState), ("loop.example/g00553/impl.errRange", Rows.laid_loop_example_g00553_impl_errRange), ("loop.example/g00553/impl.errFull", Rows.laid_loop_example_g00553_impl_errFull), ("loop.example/g00553/impl.errLast", Rows.laid_loop_example_g00553_impl_errLast)] = [("loop.example/g00553/impl.errRange", Rows.laid_loop_example_g00553_impl_errRange), ("loop.example/g00553/impl.errLast", Rows.laid_loop_example_g00553_impl_errLast)] from by kernel_rfl] at k
 obtain ⟨a1,v1,c1⟩:=TE h0 UD US
 obtain ⟨a2,v2,c2⟩:=TE h0.tail Vn VI
 obtain ⟨a3,v3,c3⟩:=TE h0.tail.tail Vm VH
 obtain ⟨a4,v4,c4⟩:=TE h0.tail.tail.tail UB UQ
 obtain ⟨a5,v5,c5⟩:=TE h0.tail.tail.tail.tail UC UR
 obtain ⟨n12,b12a,b12b⟩:=Xk h0 UD US Vn VI v1 v2
 obtain ⟨n13,b13a,b13b⟩:=Xk h13 UD US Vm VH v1 v3
 obtain ⟨n14,b14a,b14b⟩:=Xk h14 UD US UB UQ v1 v4
 obtain ⟨n15,b15a,b15b⟩:=Xk h15 UD US UC UR v1 v5
 obtain ⟨n23,b23a,b23b⟩:=Xk h0.tail Vn VI Vm VH v2 v3
 obtain ⟨n24,b24a,b24b⟩:=Xk h24 Vn VI UB UQ v2 v4
 obtain ⟨n25,b25a,b25b⟩:=Xk h25 Vn VI UC UR v2 v5
 obtain ⟨n34,b34a,b34b⟩:=Xk h0.tail.tail Vm VH UB UQ v3 v4
 obtain ⟨n35,b35a,b35b⟩:=Xk h35 Vm VH UC UR v3 v5
 obtain ⟨n45,b45a,b45b⟩:=Xk h0.tail.tail.tail UB UQ UC UR v4 v5
 exact ⟨fun i=>if i=1 then a1 else if i=2 then a2 else if i=3 then a3 else if i=4 then a4 else a5,c1,c2,c3,c4,c5,ct,b12a,b12b,b23b,b34b,b45b,n12,n13,n14,n15,n23,n24,n25,n34,n35,n45⟩
end Go.Proofs.YtjhijildaceadaaGreatDoor
