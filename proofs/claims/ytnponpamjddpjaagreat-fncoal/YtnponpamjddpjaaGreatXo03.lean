/- Part 3 of what the proof rests on besides. No condition but those that a theorem names. -/
import Derived.Test.YtnponpamjddpjaaGreatXo02
set_option maxHeartbeats 8000000
set_option maxRecDepth 100000
namespace Go.Proofs.YtnponpamjddpjaaGreat
open Go.ChangeShapes Go.WideShapes Go.ChangeAt Go.RowKit Go.Sort
set_option linter.unusedVariables false
set_option maxRecDepth 100000
theorem Ek {w:World} {v0 v1 v2 v3 v4:Value} {m:Z3} {b q:Int} (hq:Lu m b=q) (h:Smy w v0 v1 v2 v3 v4 m):Calls Tryz.prog 17 #[.agg #[v0,v1,v2,v3,v4,.int .i64 m.now],.int .i64 b] w fun e w'=>e= .returned (.int .i64 q)/\Below w.heap.size w w':=by
 have Hq:=Z9 hq
 clear hq
 have Hv:=Z9 (h.alloc (.cells #[v0,v1,v2,v3,v4,.int .i64 m.now] 32))
 obtain ⟨a0,p0,a1,p1,a2,p2,a3,p3,a4,p4,rfl,rfl,rfl,rfl,rfl,_,_,_,_,_,_,_,_,_,_⟩:=h.five
 clear h
 have kb:Hid (Blk (w.alloc (.cells #[.slice a0 m.rooms.length p0,.slice a1 m.guilds.length p1,.slice a2 m.smiths.length p2,.slice a3 m.desks.length p3,.slice a4 m.paces.length p4,.int .i64 m.now] 32)) w.heap.size 32 #[.slice a0 m.rooms.length p0,.slice a1 m.guilds.length p1,.slice a2 m.smiths.length p2,.slice a3 m.desks.length p3,.slice a4 m.paces.length p4,.int .i64 m.now]):=Z9 (Blk.new w _ _)
 have BB:Hid (Below w.heap.size w (w.alloc (.cells #[.slice a0 m.rooms.length p0,.slice a1 m.guilds.length p1,.slice a2 m.smiths.length p2,.slice a3 m.desks.length p3,.slice a4 m.paces.length p4,.int .i64 m.now] 32))):=Z9 ((Below.refl _ _).alloc (Nat.le_refl _) _)
 obtain ⟨ok,hok⟩:∃ q,ZK m=q:=⟨_,rfl⟩
 have Hok:=Z9 hok
 clear hok
 go_enter Tryz.func17,Tryz.ntmps17
 go_wp2_with fail
 generalize w.alloc (.cells #[.slice a0 m.rooms.length p0,.slice a1 m.guilds.length p1,.slice a2 m.smiths.length p2,.slice a3 m.desks.length p3,.slice a4 m.paces.length p4,.int .i64 m.now] 32)=W at *
 refine (Ej (uh Hok) (uh Hv)).mono ?_
 rintro e w1 ⟨rfl,hb⟩
 replace Hv:=Z9 ((uh Hv).below hb)
 replace kb:=bl kb hb
 replace BB:=bt BB hb
 clear hb
 cases ok
 ·obtain rfl:q= -1:=by rw [<-uh Hq];unfold Lu;rw [uh Hok];rfl
  go_wp2_with fail
  go_ret
  exact ⟨rfl,uh BB⟩
 obtain ⟨qw,hqw⟩:∃ q,Vu m b=q:=⟨_,rfl⟩
 have Hw:=Z9 hqw
 clear hqw
 obtain ⟨c0,c1,c2,c3,c4,c5⟩:=(uh kb).c6
 go_wp2_with fail
 refine (Pz (uh Hw) (uh Hv)).mono ?_
 rintro e w2 ⟨rfl,hb⟩
 replace Hv:=Z9 ((uh Hv).below hb)
 replace kb:=bl kb hb
 replace BB:=bt BB hb
 clear hb c0 c1 c2 c3 c4 c5
 cases qw
 ·obtain rfl:q= -1:=by rw [<-uh Hq];unfold Lu;rw [uh Hw];simp
  go_wp2_with fail
  go_ret
  exact ⟨rfl,uh BB⟩
 obtain rfl:q=XD m b (-1):=by rw [<-uh Hq];unfold Lu;rw [uh Hw,uh Hok];rfl
 have HS:=Z9 (ZO (uh Hok)).sane
 obtain ⟨c0,c1,c2,c3,c4,c5⟩:=(uh kb).c6
 go_wp2_with fail
 refine (Ve b (-1) (uh Hv) (uh HS).guilded (by have:=(uh HS).few;omega)).mono ?_
 rintro e w3 ⟨rfl,hb⟩
 replace Hv:=Z9 ((uh Hv).below hb)
 replace kb:=bl kb hb
 replace BB:=bt BB hb
 clear hb c0 c1 c2 c3 c4 c5
 go_wp2_with fail
 go_ret
 exact ⟨rfl,uh BB⟩
open Draw (Row NO Gr row_later IW FB)
set_option linter.unusedSimpArgs false
set_option maxRecDepth 100000
theorem Dx (a0:Option Addr) (len0 cap0:Nat) (z0:List Int) (w:World) (w0:NO .u8 w a0 len0 cap0 z0) :
  Calls Tryz.prog 6 #[.slice a0 len0 cap0] w fun e w'=>e= .returned (.bool true)/\Below w.heap.size w w':=by
 by_cases hbig:4096<len0
 ·go_enter Tryz.func6,Tryz.ntmps6
  go_wp2_with fail
  refine (IW _ _ _ _ hbig).mono ?_
  rintro e w' ⟨rfl,rfl⟩
  go_wp2_with fail
  go_ret
  exact ⟨rfl,Below.refl _ _⟩
 have Hr:=Z9 (Gr w0 (by omega))
 clear w0
 go_enter Tryz.func6,Tryz.ntmps6
 go_wp2_with fail
 refine (FB _ _ _ _ (by omega)).mono ?_
 rintro e w' ⟨rfl,hw'⟩
 subst w'
 go_wp2_with fail
 refine (D8 _ _ _ _ (uh Hr)).mono ?_
 rintro e w1 ⟨M,u0,u1,u2,u3,u4,room,rq,rfl,hf,hb⟩
 obtain ⟨a0,p0,a1,p1,a2,p2,a3,p3,a4,p4,rfl,rfl,rfl,rfl,rfl,K1⟩:=Bx.put hf.smy (hb)
 replace Hr:=Z9 (row_later (uh Hr) hb)
 clear hb
 clear hf
 go_upto_region 4 with fail
 have hb:Below w1.heap.size w1 (w1.alloc (.cells #[.slice a0 M.rooms.length p0,.slice a1 M.guilds.length p1,.slice a2 M.smiths.length p2,.slice a3 M.desks.length p3,.slice a4 M.paces.length p4,.int .i64 M.now] 32)):=(Below.refl _ _).alloc (Nat.le_refl _) _
 replace Hr:=Z9 (row_later (uh Hr) hb)
 clear hb
 generalize w1.alloc (.cells #[.slice a0 M.rooms.length p0,.slice a1 M.guilds.length p1,.slice a2 M.smiths.length p2,.slice a3 M.desks.length p3,.slice a4 M.paces.length p4,.int .i64 M.now] 32)=W1 at *
 generalize w1.heap.size=mb at *
 obtain ⟨c,hc⟩:∃ c,V6 M room=c:=⟨_,rfl⟩
 have Hc:=Z9 hc
 clear hc
 obtain ⟨c0,c1,c2,c3,c4,c5⟩:=K1.cells
 go_wp2_with fail
 clear c0 c1 c2 c3 c4 c5
 refine (Nq (uh Hc) K1.smy).mono ?_
 rintro e w2 ⟨rfl,hb⟩
 replace K1:=K1.next hb
 replace Hr:=Z9 (row_later (uh Hr) hb)
 clear hb
 go_wp2_with fail
 refine (Mp _ _ _ _ (uh Hr)).mono ?_
 rintro e w3 ⟨Q,u0,u1,u2,u3,u4,qr,rq2,rfl,hf,hb⟩
 obtain ⟨d0,t0,d1,t1,d2,t2,d3,t3,d4,t4,rfl,rfl,rfl,rfl,rfl,K2⟩:=Bx.put hf.smy (K1.bb.trans (hb.mono K1.bb.size))
 replace K1:=K1.next hb
 replace Hr:=Z9 (row_later (uh Hr) hb)
 clear hb
 clear hf
 go_upto_region 6 with fail
 have hb:Below w3.heap.size w3 (w3.alloc (.cells #[.slice d0 Q.rooms.length t0,.slice d1 Q.guilds.length t1,.slice d2 Q.smiths.length t2,.slice d3 Q.desks.length t3,.slice d4 Q.paces.length t4,.int .i64 Q.now] 32)):=(Below.refl _ _).alloc (Nat.le_refl _) _
 replace K1:=K1.next hb
 replace Hr:=Z9 (row_later (uh Hr) hb)
 clear hb
 generalize w3.alloc (.cells #[.slice d0 Q.rooms.length t0,.slice d1 Q.guilds.length t1,.slice d2 Q.smiths.length t2,.slice d3 Q.desks.length t3,.slice d4 Q.paces.length t4,.int .i64 Q.now] 32)=W3 at *
 generalize w3.heap.size=qb at *
 obtain ⟨n,hn⟩:∃ c,V4 Q qr=c:=⟨_,rfl⟩
 have Hn:=Z9 hn
 clear hn
 obtain ⟨c0,c1,c2,c3,c4,c5⟩:=K2.cells
 go_wp2_with fail
 clear c0 c1 c2 c3 c4 c5
 refine (Nr (uh Hn) K2.smy).mono ?_
 rintro e w4 ⟨rfl,hb⟩
 replace K1:=K1.next hb
 replace K2:=K2.next hb
 replace Hr:=Z9 (row_later (uh Hr) hb)
 clear hb
 go_wp2_with fail
 refine (D9 _ _ _ _ (uh Hr)).mono ?_
 rintro e w5 ⟨O,u0,u1,u2,u3,u4,rq3,rfl,hf,hb⟩
 obtain ⟨f0,s0,f1,s1,f2,s2,f3,s3,f4,s4,rfl,rfl,rfl,rfl,rfl,K3⟩:=Bx.put hf.smy (K1.bb.trans (hb.mono K1.bb.size))
 replace K1:=K1.next hb
 replace K2:=K2.next hb
 replace Hr:=Z9 (row_later (uh Hr) hb)
 clear hb
 clear hf
 go_upto_region 8 with fail
 have hb:Below w5.heap.size w5 (w5.alloc (.cells #[.slice f0 O.rooms.length s0,.slice f1 O.guilds.length s1,.slice f2 O.smiths.length s2,.slice f3 O.desks.length s3,.slice f4 O.paces.length s4,.int .i64 O.now] 32)):=(Below.refl _ _).alloc (Nat.le_refl _) _
 replace K1:=K1.next hb
 replace K2:=K2.next hb
 replace Hr:=Z9 (row_later (uh Hr) hb)
 clear hb
 generalize w5.alloc (.cells #[.slice f0 O.rooms.length s0,.slice f1 O.guilds.length s1,.slice f2 O.smiths.length s2,.slice f3 O.desks.length s3,.slice f4 O.paces.length s4,.int .i64 O.now] 32)=W5 at *
 generalize w5.heap.size=ob at *
 clear Hr
 obtain ⟨al,hal⟩:∃ c,U2 O=c:=⟨_,rfl⟩
 have Ha:=Z9 hal
 clear hal
 obtain ⟨c0,c1,c2,c3,c4,c5⟩:=K3.cells
 go_wp2_with fail
 clear c0 c1 c2 c3 c4 c5
 refine (Ea (uh Ha) K3.smy).mono ?_
 rintro e w6 ⟨rfl,hb⟩
 replace K1:=K1.next hb
 replace K2:=K2.next hb
 replace K3:=K3.next hb
 clear hb
 obtain ⟨c0,c1,c2,c3,c4,c5⟩:=K1.cells
 go_wp2_with fail
 clear c0 c1 c2 c3 c4 c5
 refine (Ef (uh Hc) K1.smy).mono ?_
 rintro e w7 ⟨rfl,hb⟩
 replace K1:=K1.next hb
 replace K2:=K2.next hb
 replace K3:=K3.next hb
 clear hb
 obtain ⟨c0,c1,c2,c3,c4,c5⟩:=K2.cells
 go_wp2_with fail
 clear c0 c1 c2 c3 c4 c5
 refine (Eh (uh Hn) K2.smy).mono ?_
 rintro e w8 ⟨rfl,hb⟩
 replace K1:=K1.next hb
 replace K2:=K2.next hb
 replace K3:=K3.next hb
 clear hb
 clear K2 Hn
 obtain ⟨c0,c1,c2,c3,c4,c5⟩:=K3.cells
 go_wp2_with fail
 clear c0 c1 c2 c3 c4 c5
 refine (Eg (uh Ha) K3.smy).mono ?_
 rintro e w9 ⟨rfl,hb⟩
 replace K1:=K1.next hb
 replace K3:=K3.next hb
 clear hb
 obtain ⟨ok,hok⟩:∃ q,ZK O=q:=⟨_,rfl⟩
 have Hok:=Z9 hok
 clear hok
 obtain ⟨c0,c1,c2,c3,c4,c5⟩:=K3.cells
 go_wp2_with fail
 clear c0 c1 c2 c3 c4 c5
 refine (Zc (uh Hok) K3.smy).mono ?_
 rintro e w10 ⟨rfl,hb⟩
 replace K1:=K1.next hb
 replace K3:=K3.next hb
 clear hb
 have HB:=Z9 (Below.refl w10.heap.size w10)
 go_upto_if 58 with fail
 go_cut [] (fun wc=>Below w10.heap.size w10 wc)
 case first=>
  cases ok
  ·go_wp2_with fail
   go_meet
   exact uh HB
  have HA:Hid (al=UZ O O.rooms.length):=Z9 (by rw [<-uh Ha,Ds (uh Hok)])
  have h3:O.rooms.length<=3:=(Ze (ZO (uh Hok)).sane.hall).2.1
  have Hbd:=Z9 (NU O)
  have HC:=Z9 (fun k hk=>DS (uh Hok) (k:=k) hk)
  clear Ha Hok K1 Hc
  go_wp2_with fail
  go_loopw [11,12] (fun u i wr=> ∃ k:Nat,k<=O.rooms.length/\i= .int .i64 k/\u= .int .i64 (UZ O k)/\Below w10.heap.size w10 wr) (fun _ i _=>O.rooms.length-(intOf i).toNat)
  case atStart=>exact ⟨0,Nat.zero_le _,rfl,rfl,Below.refl _ _⟩
  case round=>
   obtain ⟨k,hk,rfl,rfl,hb⟩:=hrel
   obtain ⟨x0,x1⟩:=uh Hbd k
   obtain ⟨x2,x3⟩:=uh Hbd (k+1)
   have hst:UZ O (k+1)=UZ O k+Rx O k:=rfl
   rw [hst] at x2 x3
   have Hst:=Z9 hst
   clear hst
   have K:=K3.next hb
   have HW:=Z9 hb
   clear hb
   obtain ⟨c0,c1,c2,c3,c4,c5⟩:=K.cells
   by_cases hlt:k<O.rooms.length
   ·have hlt1:(k:Int)<(O.rooms.length:Int):=by omega
    have Hq:=Z9 (uh HC k hlt)
    generalize Rx O k=ci at *
    generalize UZ O k=ct at *
    go_wp2_with fail
    refine (Nq (uh Hq) K.smy).mono ?_
    rintro e w11 ⟨rfl,hb⟩
    replace HW:=Z9 ((uh HW).trans (hb.mono (uh HW).size))
    clear hb c0 c1 c2 c3 c4 c5
    go_wp2_with fail
    go_roundw
    case rel=>exact ⟨k+1,by omega,by go_num,by rw [uh Hst],uh HW⟩
    case measure=>simp [intOf];omega
   ·obtain rfl:k=O.rooms.length:=by omega
    have hal:=uh HA
    generalize UZ O O.rooms.length=ct at *
    subst hal
    go_wp2_with fail
    go_meet
    exact uh HW
 case rest=>
  have hb:=hcut
  obtain ⟨w11,rfl⟩:∃ x,x=wc:=⟨wc,rfl⟩
  clear hcut HB K3 Ha Hok
  replace K1:=K1.next hb
  clear hb
  have hlo : -1<=c:=by rw [<-uh Hc];exact Dd M room
  by_cases hneg:c<0
  ·obtain rfl:c= -1:=by omega
   clear hneg hlo
   go_wp2_with fail
   go_ret
   exact ⟨rfl,K1.bb⟩
  obtain ⟨hok,hrm⟩:=Dr (m:=M) (r:=room) (by rw [uh Hc];omega)
  obtain ⟨r,rfl,hr⟩:=Jq hrm
  have HL:=Z9 (ZO hok)
  have Hok:=Z9 hok
  have hcc:c=Rx M r:=by rw [<-uh Hc,DS hok hr]
  have HN:Hid (V4 M (r:Int)=(Y2 M (r:Int) M.desks.length).1):=Z9 (by unfold V4;rw [hok,hrm];rfl)
  have Hcc:=Z9 hcc
  clear hok hrm hcc Hc
  have h8:=(uh HL).sane.eight
  have Hbd:=Z9 (RZ M (r:Int) (uh HL).sane.few)
  have HR:=Z9 (fun k hk=>Dn ((uh HL).sane.bench (b:=k) hk))
  have HU:Hid (∀ k,k<M.desks.length->Lu M (k:Int)=XD M (k:Int) (-1)):=Z9 (fun k hk=>by unfold Lu Vu;rw [uh Hok,Zj (by omega) (by omega)];rfl)
  go_wp2_with fail
  go_loopw [13,14,15] (fun mo al i wr=> ∃ k:Nat,k<=M.desks.length/\i= .int .i64 k/\mo= .int .i64 (Y2 M (r:Int) k).1/\al= .int .i64 (Y2 M (r:Int) k).2/\Below w11.heap.size w11 wr) (fun _ _ i _=>M.desks.length-(intOf i).toNat)
  case atStart=>exact ⟨0,Nat.zero_le _,rfl,rfl,rfl,Below.refl _ _⟩
  case round=>
   obtain ⟨k,hk,rfl,rfl,rfl,hb⟩:=hrel
   obtain ⟨⟨u0,u1⟩,u2,u3⟩:=uh Hbd k
   have K:=K1.next hb
   have HW:=Z9 hb
   clear hb
   obtain ⟨c0,c1,c2,c3,c4,c5⟩:=K.cells
   by_cases hlt:k<M.desks.length
   ·have hlt1:(k:Int)<(M.desks.length:Int):=by omega
    have Hno:=Z9 (fun hh=>Di (m:=M) (r:=(r:Int)) (k:=k) hh)
    have Hyes:=Z9 (fun hh=>Dj (uh HL) (r:=(r:Int)) (k:=k) hh)
    have Hu:=Z9 (uh HU k hlt)
    have hubd:=MO M (k:Int) (-1)
    have hfew:=(uh HL).sane.few
    obtain ⟨⟨mo,al⟩,hmo⟩:∃ x,Y2 M (r:Int) k=x:=⟨_,rfl⟩
    rw [hmo] at u0 u1 u2 u3 Hno Hyes ⊢
    simp only at u0 u1 u2 u3 Hyes ⊢
    clear hmo
    have Hrk:=Z9 (uh HR k hlt)
    go_wp2_with fail
    refine (Ei (k:Int) K.smy.rooms).mono ?_
    rw [uh Hrk]
    rintro e w12 ⟨rfl,hb⟩
    replace K:=K.next hb
    replace HW:=Z9 ((uh HW).trans (hb.mono (uh HW).size))
    clear hb c0 c1 c2 c3 c4 c5 Hrk
    obtain ⟨rn,hrn⟩:∃ x:Int,(WU M.rooms k:Int)=x:=⟨_,rfl⟩
    rw [hrn] at Hno Hyes ⊢
    clear hrn
    by_cases hro:rn=(r:Int)
    rotate_left
    ·have hrb:(rn ==(r:Int))=false:=by simpa using hro
     go_wp2_with fail
     go_roundw
     case rel=>exact ⟨k+1,by omega,by go_num,by rw [uh Hno hro],by rw [uh Hno hro],uh HW⟩
     case measure=>simp [intOf];omega
    have hrb:(rn ==(r:Int))=true:=by simpa using hro
    have hy:=uh Hyes hro
    have Hy:=Z9 hy
    clear hy Hno Hyes
    obtain ⟨c0,c1,c2,c3,c4,c5⟩:=K.cells
    go_wp2_with fail
    refine (Ek (uh Hu) K.smy).mono ?_
    rintro e w13 ⟨rfl,hb⟩
    replace K:=K.next hb
    replace HW:=Z9 ((uh HW).trans (hb.mono (uh HW).size))
    clear hb c0 c1 c2 c3 c4 c5 hro hrb
    generalize XD M (k:Int) (-1)=us at *
    by_cases hgt:mo<us
    ·have hmx:max mo us=us:=by omega
     go_wp2_with fail
     go_roundw
     case rel=>exact ⟨k+1,by omega,by go_num,by rw [uh Hy,hmx],by rw [uh Hy],uh HW⟩
     case measure=>simp [intOf];omega
    ·have hmx:max mo us=mo:=by omega
     go_wp2_with fail
     go_roundw
     case rel=>exact ⟨k+1,by omega,by go_num,by rw [uh Hy,hmx],by rw [uh Hy],uh HW⟩
     case measure=>simp [intOf];omega
   ·obtain rfl:k=M.desks.length:=by omega
    have hcv:c=Np (ZV M.rooms r) (Y2 M (r:Int) M.desks.length).1 (Y2 M (r:Int) M.desks.length).2:=uh Hcc
    generalize (Y2 M (r:Int) M.desks.length).1=mo at *
    generalize (Y2 M (r:Int) M.desks.length).2=al at *
    have Hcv:=Z9 hcv
    clear hcv Hcc Hbd HU HR
    go_wp2_with fail
    refine (Nr (uh HN) K.smy).mono ?_
    rintro e w12 ⟨rfl,hb⟩
    replace K:=K.next hb
    clear hb c0 c1 c2 c3 c4 c5
    have hr1:(r:Int)<(M.rooms.length:Int):=by omega
    obtain ⟨_,_,hre,_,_,r0⟩:=K.smy.rooms
    cases hre
    rcases r0 with e0 | ⟨rb,off,rfl,hbw,hcl⟩
    ·rw [e0] at hr;simp at hr
    obtain ⟨d0,pv,d1,hpv⟩:=hcl r hr
    clear hcl
    obtain ⟨⟨nb,ps⟩,hrm⟩:∃ x,ZV M.rooms r=x:=⟨_,rfl⟩
    rw [hrm] at d0 hpv Hcv
    simp only at d0 hpv
    clear hrm
    have Hpv:=Z9 hpv
    obtain ⟨pa,pc,rfl,_,_,_⟩:=hpv
    have c0:=K.blk.cell (i:=0) (v:= .slice (some ⟨rb,off,none⟩) M.rooms.length p0) rfl
    go_wp2_with fail
    refine (Sx nb mo al (uh Hpv)).mono ?_
    rw [<-uh Hcv]
    rintro e w13 ⟨rfl,hb⟩
    replace K:=K.next hb
    clear hb
    go_wp2_with fail
    go_ret
    exact ⟨by simp,K.bb⟩
end Go.Proofs.YtnponpamjddpjaaGreat
