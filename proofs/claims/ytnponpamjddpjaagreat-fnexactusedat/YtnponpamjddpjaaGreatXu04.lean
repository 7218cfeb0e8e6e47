/- Part 4 of what the proof rests on besides. No condition but those that a theorem names. -/
import Derived.Test.YtnponpamjddpjaaGreatXu03
set_option maxHeartbeats 8000000
set_option maxRecDepth 100000
namespace Go.Proofs.YtnponpamjddpjaaGreat
open Go.ChangeShapes Go.WideShapes Go.ChangeAt Go.RowKit Go.Sort
set_option linter.unusedVariables false
set_option maxRecDepth 100000
theorem Vj {w:World} {v0 v1 v2 v3 v4:Value} {m:Z3} {b q:Int} (hq:XD m b (-1)=q) (h:Smy w v0 v1 v2 v3 v4 m) (hW:Ua m) (hl:m.smiths.length<=12):Calls Tryz.prog 58 #[.agg #[v0,v1,v2,v3,v4,.int .i64 m.now],.int .i64 b] w fun e w'=>e= .returned (.int .i64 q)/\Below w.heap.size w w':=by
 have Hq:=Z9 hq
 clear hq
 have HW:=Z9 hW
 clear hW
 obtain ⟨a0,p0,a1,p1,a2,p2,a3,p3,a4,p4,rfl,rfl,rfl,rfl,rfl,K⟩:=Bx.new h
 clear h
 go_enter Tryz.func58,Tryz.ntmps58
 go_upto_region 2 with fail
 generalize w.alloc (.cells #[.slice a0 m.rooms.length p0,.slice a1 m.guilds.length p1,.slice a2 m.smiths.length p2,.slice a3 m.desks.length p3,.slice a4 m.paces.length p4,.int .i64 m.now] 32)=W at *
 obtain ⟨c0,c1,c2,c3,c4,c5⟩:=K.cells
 go_wp2_with fail
 refine (Rr b K.smy (by omega)).mono ?_
 rintro e w1 ⟨vn,rfl,hn,hb⟩
 obtain ⟨na,nc,rfl⟩:=RecAt.shape hn
 have HN:=Z9 hn
 replace K:=K.next hb
 clear hb hn c0 c1 c2 c3 c4 c5
 have Hwh:=Z9 (fun k hk=>GO (m:=m) (b:=b) (k:=k) hk)
 have Hat:=Z9 (fun x hx=>(Xc (atB b) m.smiths x m.smiths.length).1 hx)
 have hwl:=Wm (atB b) m.smiths m.smiths.length
 rw [<-Vl] at Hq
 generalize ZU (atB b) m.smiths m.smiths.length=ws at *
 go_wp2_with fail
 go_loopw [5,12] (fun u i wr=> ∃ k:Nat,k<=ws.length/\i= .int .i64 k/\u= .int .i64 (Zn m (ws.take k))/\Bx w wr w.heap.size a0 p0 a1 p1 a2 p2 a3 p3 a4 p4 m/\Below w1.heap.size w1 wr) (fun _ i _=>ws.length-(intOf i).toNat)
 case atStart=>exact ⟨0,Nat.zero_le _,rfl,rfl,K,Below.refl _ _⟩
 case round=>
  obtain ⟨k,hk,rfl,rfl,hK,hb0⟩:=hrel
  clear K
  have K:=hK
  have BB:=Z9 hb0
  clear hK hb0
  have hub:=UJ m (ws.take k)
  have htl:(ws.take k).length<=ws.length:=by simp;omega
  by_cases hlt:k<ws.length
  ·have hlt1:(k:Int)<(ws.length:Int):=by omega
   obtain ⟨g,hga,_,hgl,hcl,_⟩:=RecAt.view YJ (by omega) (uh HN) rfl (by omega)
   cases hga
   have z0:=hcl k hlt 0 _ rfl
   simp only [Nat.mul_one,Nat.add_zero] at z0
   have hgw:g<w1.heap.size:=hgl
   rw [<-(uh BB).cell (p:=⟨g,k,none⟩) hgw] at z0
   obtain ⟨i,hi,hiw⟩:=uh Hwh k hlt
   obtain ⟨_,_,hi2,hat⟩:=uh Hat _ (Tr hlt)
   have hpi:(Z8 m.smiths i).1 ≠ 0:=by
    rw [hiw] at hi2
    obtain rfl:=Int.ofNat.inj hi2
    intro e
    unfold atB at hat
    rw [e] at hat
    simp at hat
   clear hcl hi2 hat
   have HS:Hid (Zn m (ws.take (k+1))=Zn m (ws.take k)+Ym m (i:Int)):=Z9 (by rw [UE m hlt,hiw])
   rw [hiw] at z0
   have hwb:=MP m (i:Int)
   have HC:=Z9 (fun (X:World) (hX:Smy X (.slice a0 m.rooms.length p0) (.slice a1 m.guilds.length p1) (.slice a2 m.smiths.length p2) (.slice a3 m.desks.length p3) (.slice a4 m.paces.length p4) m)=>Uy hX (uh HW) hi hpi)
   generalize Zn m (ws.take k)=us at *
   generalize Ym m (i:Int)=wa at *
   have hgr:g<wr.heap.size:=Nat.lt_of_lt_of_le hgw (uh BB).size
   obtain ⟨c0,c1,c2,c3,c4,c5⟩:=K.cells
   go_wp2_with fail
   refine (uh HC _ K.smy).mono ?_
   rintro e w2 ⟨rfl,hb⟩
   replace K:=K.next hb
   replace BB:=bt BB hb
   clear hb c0 c1 c2 c3 c4 c5 z0
   have hlen12:(ws.length:Int)<=12:=by omega
   go_wp2_with fail
   go_roundw
   case rel=>exact ⟨k+1,by omega,by go_num,by rw [uh HS],K,uh BB⟩
   case measure=>simp [intOf];omega
  ·obtain rfl:k=ws.length:=by omega
   rw [List.take_length] at *
   obtain rfl:q=Zn m ws:=(uh Hq).symm
   go_wp2_with fail
   go_ret
   exact ⟨rfl,K.bb⟩
theorem XH {w:World} {v0 v1 v2 v3 v4:Value} {m:Z3} {b q:Int} (hq:Zi m b=q) (h:Smy w v0 v1 v2 v3 v4 m):Calls Tryz.prog 12 #[.agg #[v0,v1,v2,v3,v4,.int .i64 m.now],.int .i64 b] w fun e w'=>e= .returned (.int .i64 q)/\Below w.heap.size w w':=by
 have Hq:=Z9 hq
 clear hq
 obtain ⟨ok,hok⟩:∃ q,ZK m=q:=⟨_,rfl⟩
 have Hok:=Z9 hok
 clear hok
 obtain ⟨a0,p0,a1,p1,a2,p2,a3,p3,a4,p4,rfl,rfl,rfl,rfl,rfl,K⟩:=Bx.new h
 clear h
 go_enter Tryz.func12,Tryz.ntmps12
 go_wp2_with fail
 generalize w.alloc (.cells #[.slice a0 m.rooms.length p0,.slice a1 m.guilds.length p1,.slice a2 m.smiths.length p2,.slice a3 m.desks.length p3,.slice a4 m.paces.length p4,.int .i64 m.now] 32)=W at *
 refine (Pw _ _ _ _ _ _ _ _ (uh Hok) K.smy).mono ?_
 rintro e w1 ⟨rfl,hb⟩
 replace K:=K.next hb
 clear hb
 cases ok
 ·obtain rfl:q= -1:=by rw [<-uh Hq];unfold Zi;rw [uh Hok];rfl
  go_wp2_with fail
  go_ret
  exact ⟨rfl,K.bb⟩
 obtain ⟨c0,c1,c2,c3,c4,c5⟩:=K.cells
 go_wp2_with fail
 refine (Lj _ _ _ _ _ _ _ _ _ _ _ _ _ _ _ _ _).mono ?_
 rintro e w2 ⟨rfl,hb⟩
 replace K:=K.next hb
 clear hb c0 c1 c2 c3 c4 c5
 obtain ⟨qh,hqh⟩:∃ q,WJ m.desks.length b=q:=⟨_,rfl⟩
 have Hh:=Z9 hqh
 clear hqh
 go_wp2_with fail
 refine (Q8 _ _ _ b _).mono ?_
 rw [uh Hh]
 rintro e w3 ⟨rfl,h9⟩
 subst w3
 cases qh
 ·obtain rfl:q= -1:=by rw [<-uh Hq];unfold Zi Vu;rw [<-EF,uh Hh];simp
  go_wp2_with fail
  go_ret
  exact ⟨rfl,K.bb⟩
 obtain rfl:q=XD m b (-1):=by rw [<-uh Hq];unfold Zi Vu;rw [<-EF,uh Hh,uh Hok];rfl
 have HL:=Z9 (ZO (uh Hok))
 obtain ⟨c0,c1,c2,c3,c4,c5⟩:=K.cells
 go_wp2_with fail
 refine (Vj rfl K.smy (uh HL).wants (Un (uh Hok))).mono ?_
 rintro e w4 ⟨rfl,hb⟩
 replace K:=K.next hb
 clear hb c0 c1 c2 c3 c4 c5
 go_wp2_with fail
 go_ret
 exact ⟨rfl,K.bb⟩
theorem XW {w:World} {v0 v1 v2 v3 v4:Value} {m:Z3} {q:Bool} (hq:ZK m=q) (h:Smy w v0 v1 v2 v3 v4 m):Calls Tryz.prog 20 #[.agg #[v0,v1,v2,v3,v4,.int .i64 m.now]] w fun e w'=>e= .returned (.bool q)/\Below w.heap.size w w':=by
 have:=RW h;rw [hq] at this;exact this
set_option maxRecDepth 100000
theorem X8 {w:World} {v0 v1 v2 v3 v4:Value} {m:Z3} {b q:Int} (hq:Zi m b=q) (h:Smy w v0 v1 v2 v3 v4 m):Calls Tryz.prog 17 #[.agg #[v0,v1,v2,v3,v4,.int .i64 m.now],.int .i64 b] w fun e w'=>e= .returned (.int .i64 q)/\Below w.heap.size w w':=by
 have Hq:=Z9 hq
 clear hq
 have Hv:=Z9 (h.alloc (.cells #[v0,v1,v2,v3,v4,.int .i64 m.now] 32))
 obtain ⟨a0,p0,a1,p1,a2,p2,a3,p3,a4,p4,rfl,rfl,rfl,rfl,rfl,_,_,_,_,_,_,_,_,_,_⟩:=h.five
 clear h
 have kb:Hid (Blk (w.alloc (.cells #[.slice a0 m.rooms.length p0,.slice a1 m.guilds.length p1,.slice a2 m.smiths.length p2,.slice a3 m.desks.length p3,.slice a4 m.paces.length p4,.int .i64 m.now] 32)) w.heap.size 32 #[.slice a0 m.rooms.length p0,.slice a1 m.guilds.length p1,.slice a2 m.smiths.length p2,.slice a3 m.desks.length p3,.slice a4 m.paces.length p4,.int .i64 m.now]):=Z9 (Blk.new w _ _)
 have BB:Hid (Below w.heap.size w (w.alloc (.cells #[.slice a0 m.rooms.length p0,.slice a1 m.guilds.length p1,.slice a2 m.smiths.length p2,.slice a3 m.desks.length p3,.slice a4 m.paces.length p4,.int .i64 m.now] 32))):=Z9 ((Below.refl _ _).alloc (Nat.le_refl _) _)
 obtain ⟨ok,hok⟩:∃ q,ZK m=q:=⟨_,rfl⟩
 have Hok:=Z9 hok
 clear hok
 go_enter Tryz.func17,Tryz.ntmps17
 go_wp2_with fail
 generalize w.alloc (.cells #[.slice a0 m.rooms.length p0,.slice a1 m.guilds.length p1,.slice a2 m.smiths.length p2,.slice a3 m.desks.length p3,.slice a4 m.paces.length p4,.int .i64 m.now] 32)=W at *
 refine (XW (uh Hok) (uh Hv)).mono ?_
 rintro e w1 ⟨rfl,hb⟩
 replace Hv:=Z9 ((uh Hv).below hb)
 replace kb:=bl kb hb
 replace BB:=bt BB hb
 clear hb
 cases ok
 ·obtain rfl:q= -1:=by rw [<-uh Hq];unfold Zi;rw [uh Hok];rfl
  go_wp2_with fail
  go_ret
  exact ⟨rfl,uh BB⟩
 obtain ⟨qw,hqw⟩:∃ q,Vu m b=q:=⟨_,rfl⟩
 have Hw:=Z9 hqw
 clear hqw
 obtain ⟨c0,c1,c2,c3,c4,c5⟩:=(uh kb).c6
 go_wp2_with fail
 refine (Pz (uh Hw) (uh Hv)).mono ?_
 rintro e w2 ⟨rfl,hb⟩
 replace Hv:=Z9 ((uh Hv).below hb)
 replace kb:=bl kb hb
 replace BB:=bt BB hb
 clear hb c0 c1 c2 c3 c4 c5
 cases qw
 ·obtain rfl:q= -1:=by rw [<-uh Hq];unfold Zi;rw [uh Hw];simp
  go_wp2_with fail
  go_ret
  exact ⟨rfl,uh BB⟩
 obtain rfl:q=XD m b (-1):=by rw [<-uh Hq];unfold Zi;rw [uh Hw,uh Hok];rfl
 have HS:=Z9 (ZO (uh Hok)).sane
 obtain ⟨c0,c1,c2,c3,c4,c5⟩:=(uh kb).c6
 go_wp2_with fail
 refine (Ve b (-1) (uh Hv) (uh HS).guilded (by have:=(uh HS).few;omega)).mono ?_
 rintro e w3 ⟨rfl,hb⟩
 replace Hv:=Z9 ((uh Hv).below hb)
 replace kb:=bl kb hb
 replace BB:=bt BB hb
 clear hb c0 c1 c2 c3 c4 c5
 go_wp2_with fail
 go_ret
 exact ⟨rfl,uh BB⟩
theorem YI (v0 v1 v2 v3 v4:Value) (m:Z3) (bench:Int) (w:World) (h:Smy w v0 v1 v2 v3 v4 m) :
  Calls Tryz.prog 8 #[.agg #[v0,v1,v2,v3,v4,.int .i64 m.now],.int .i64 bench] w fun e w'=>e= .returned (.bool true)/\Below w.heap.size w w':=by
 obtain ⟨q,hq⟩:∃ q,Zi m bench=q:=⟨_,rfl⟩
 have Hq:=Z9 hq
 clear hq
 have Hv:=Z9 h
 obtain ⟨a0,p0,a1,p1,a2,p2,a3,p3,a4,p4,rfl,rfl,rfl,rfl,rfl,_,_,_,_,_,_,_,_,_,_⟩:=h.five
 clear h
 go_enter Tryz.func8,Tryz.ntmps8
 go_wp2_with fail
 refine (Wx ((uh Hv).alloc _)).mono ?_
 rintro e w1 ⟨x,rfl,hx,hb⟩
 have ka:Hid (Blk w1 w.heap.size 73 #[.slice a0 m.rooms.length p0,.slice a1 m.guilds.length p1,.slice a2 m.smiths.length p2,.slice a3 m.desks.length p3,.slice a4 m.paces.length p4,.int .i64 m.now]):=Z9 ((Blk.new w _ _).below hb (by simp))
 have BB:Hid (Below w.heap.size w w1):=Z9 (((Below.refl _ _).alloc (Nat.le_refl _) _).trans (hb.mono (by simp)))
 have Hx:=Z9 hx
 clear hx hb
 by_cases hx0:x<0
 ·go_wp2_with fail
  go_ret
  exact ⟨rfl,uh BB⟩
 have Hs:=Z9 (uh Hx (by omega))
 clear Hx
 obtain ⟨c0,c1,c2,c3,c4,c5⟩:=(uh ka).c6
 go_wp2_with fail
 refine (Y8 ((uh Hv).below (uh BB)) (uh Hs)).mono ?_
 rintro e w2 ⟨u0,u1,u2,u3,u4,rfl,ho,hb⟩
 clear c0 c1 c2 c3 c4 c5
 have k2:=ho.smy
 obtain ⟨b0,q0,b1,q1,b2,q2,b3,q3,b4,q4,rfl,rfl,rfl,rfl,rfl,_,_,_,_,_,_,_,_,_,_⟩:=k2.five
 have K2:=Z9 k2
 clear k2 ho
 replace ka:=bl ka hb
 replace BB:=bt BB hb
 clear hb
 go_wp2_with fail
 refine (X8 (uh Hq) (uh K2)).mono ?_
 rintro e w3 ⟨rfl,hb⟩
 replace ka:=bl ka hb
 replace BB:=bt BB hb
 clear hb K2
 obtain ⟨c0,c1,c2,c3,c4,c5⟩:=(uh ka).c6
 go_wp2_with fail
 refine (Y8 ((uh Hv).below (uh BB)) (uh Hs)).mono ?_
 rintro e w4 ⟨u0,u1,u2,u3,u4,rfl,ho,hb⟩
 clear c0 c1 c2 c3 c4 c5
 have k4:=ho.smy
 obtain ⟨d0,r0,d1,r1,d2,r2,d3,r3,d4,r4,rfl,rfl,rfl,rfl,rfl,_,_,_,_,_,_,_,_,_,_⟩:=k4.five
 have K4:=Z9 (k4.alloc (.cells #[.slice d0 m.rooms.length r0,.slice d1 m.guilds.length r1,.slice d2 m.smiths.length r2,.slice d3 m.desks.length r3,.slice d4 m.paces.length r4,.int .i64 m.now] 32))
 clear k4 ho
 replace ka:=bl ka hb
 replace BB:=bt BB hb
 clear hb
 go_wp2_with fail
 replace ka:=Z9 ((uh ka).alloc (.cells #[.slice d0 m.rooms.length r0,.slice d1 m.guilds.length r1,.slice d2 m.smiths.length r2,.slice d3 m.desks.length r3,.slice d4 m.paces.length r4,.int .i64 m.now] 32))
 replace BB:=Z9 ((uh BB).alloc (uh BB).size (.cells #[.slice d0 m.rooms.length r0,.slice d1 m.guilds.length r1,.slice d2 m.smiths.length r2,.slice d3 m.desks.length r3,.slice d4 m.paces.length r4,.int .i64 m.now] 32))
 have kx:Hid (Blk (w4.alloc (.cells #[.slice d0 m.rooms.length r0,.slice d1 m.guilds.length r1,.slice d2 m.smiths.length r2,.slice d3 m.desks.length r3,.slice d4 m.paces.length r4,.int .i64 m.now] 32)) w4.heap.size 32 #[.slice d0 m.rooms.length r0,.slice d1 m.guilds.length r1,.slice d2 m.smiths.length r2,.slice d3 m.desks.length r3,.slice d4 m.paces.length r4,.int .i64 m.now]):=Z9 (Blk.new _ _ _)
 generalize w4.alloc (.cells #[.slice d0 m.rooms.length r0,.slice d1 m.guilds.length r1,.slice d2 m.smiths.length r2,.slice d3 m.desks.length r3,.slice d4 m.paces.length r4,.int .i64 m.now] 32)=W at *
 generalize w4.heap.size=xb at *
 refine (XH (uh Hq) (uh K4)).mono ?_
 rintro e w5 ⟨rfl,hb⟩
 replace K4:=Z9 ((uh K4).below hb)
 replace ka:=bl ka hb
 replace kx:=bl kx hb
 replace BB:=bt BB hb
 clear hb
 have V5:=Z9 ((uh Hv).below (uh BB))
 obtain ⟨c0,c1,c2,c3,c4,c5⟩:=(uh ka).c6
 obtain ⟨x0,x1,x2,x3,x4,x5⟩:=(uh kx).c6
 go_wp2_with fail
 go_region_with (first
  | (go_at_call 50;refine (Y8 (m:=m) ?_ (uh Hs)).mono ?_;exact (uh V5).below (Below.refl _ _).drew;rintro e w6 ⟨u0,u1,u2,u3,u4,rfl,ho,hb⟩;have k6:=ho.smy;obtain ⟨f0,t0,rfl,_,_⟩:=IsRooms.shape k6.rooms;obtain ⟨f1,t1,rfl,_,_⟩:=IsRec.shape k6.guilds;obtain ⟨f2,t2,rfl,_,_⟩:=IsRec.shape k6.smiths;obtain ⟨f3,t3,rfl,_,_⟩:=IsRec.shape k6.desks;obtain ⟨f4,t4,rfl,_,_⟩:=IsRec.shape k6.paces;have K6:=Z9 k6;have Hb6:Hid (Below w5.heap.size w5 w6):=Z9 ⟨hb.os,hb.tape,hb.output,hb.size,hb.block⟩;have kx6:=(uh kx).below (uh Hb6) (uh kx).lt;have y0:=kx6.cell (i:=0) (v:= .slice d0 m.rooms.length r0) rfl;have y1:=kx6.cell (i:=1) (v:= .slice d1 m.guilds.length r1) rfl;have y2:=kx6.cell (i:=2) (v:= .slice d2 m.smiths.length r2) rfl;have y3:=kx6.cell (i:=3) (v:= .slice d3 m.desks.length r3) rfl;have y4:=kx6.cell (i:=4) (v:= .slice d4 m.paces.length r4) rfl;have y5:=kx6.cell (i:=5) (v:= .int .i64 m.now) rfl;clear k6 ho hb kx6)
  | (go_at_call 51;refine (Wj (m:=m) ?_ ?_).mono ?_;exact (uh K4).below (uh Hb6);exact uh K6;rintro e w7 ⟨rfl,hb⟩;have Hb7:=Z9 hb;clear hb))
 all_goals
  go_wp2_with fail
  go_ret
  exact ⟨rfl,(uh BB).trans (((uh Hb6).trans ((uh Hb7).mono (uh Hb6).size)).mono (uh BB).size)⟩
open Go.ChangeShapes Go.WideShapes Go.ChangeAt Go.RowKit Go.Deep
theorem Xx {w:World} {b off i:Nat} {u u':Value} (h1:w.cell? ((⟨b,off,none⟩:Addr).add (i*2))=some u) (h2:w.cell? ((⟨b,off,none⟩:Addr).add (i*2+1))=some u') :
  w.cell? ⟨b,off+i*2,none⟩=some u/\w.cell? ⟨b,off+i*2+1,none⟩=some u':=by
 by_cases hi:i=0
 ·subst hi
  simp [Addr.add] at h1 h2 ⊢
  exact ⟨h1,h2⟩
 ·have h2i:¬ i*2=0:=by omega
  simp [Addr.add,h2i] at h1 h2 ⊢
  exact ⟨h1,h2⟩
theorem U1 {H:Type} {enc:TypeId × Value->H} {W:World} {spare:Nat->Bool} {held:Bool} {n:Nat} {v:Value} {y:DataW H × List MemPlace}
  (h:DataW.trod enc Tryz.prog W 0 spare held n 193 [v]=some y):∃ ps,IsPaces W v ps:=by
 rcases open_slice_pairs Tryz.underlying193 Tryz.underlying249 (by kernel_rfl) rfl rfl (by kernel_rfl) (by kernel_rfl) h with ⟨hv,_⟩ | ⟨a,len,cap,m,n',V0,V1,D0,D1,P0,P1,hv,_,hl,hm,hmm,_,hx⟩
 ·cases hv
  exact ⟨[],none,0,rfl,Nat.le_refl _,by omega,.inl rfl⟩
 ·cases hv
  have hlm:len<=m:=by rw [hmm];split<;>omega
  obtain ⟨F,hF⟩:=choose_lt (α:=Int × Int) (n:=len) (p:=fun i q=>V0 i= .int .i64 q.1/\V1 i= .int .i64 q.2) (fun i hi=>by
   obtain ⟨_,_,t0,t1⟩:=hx i (by omega)
   obtain ⟨q0,e0,_⟩:=DataW.trod_int Tryz.underlying2 t0
   obtain ⟨q1,e1,_⟩:=DataW.trod_int Tryz.underlying2 t1
   exact ⟨(q0,q1),by simpa using e0,by simpa using e1⟩)
  have hlen:((List.range len).map F).length=len:=by simp
  refine ⟨(List.range len).map F,some a,cap,by rw [hlen],by rw [hlen];exact hl,by unfold maxLen at hm;omega,?_⟩
  by_cases hz:len=0
  ·exact .inl (by simp [hz])
  ·have h0:=hx 0 (by omega)
   have sp:=World.cell?_spot h0.1
   have hlt:=World.block_lt_of_cell? _ _ h0.1
   obtain ⟨b,off,spot⟩:=a
   have hspot:spot=none:=by simpa [Addr.add] using sp
   subst hspot
   refine .inr ⟨b,off,rfl,by simpa [Addr.add] using hlt,fun k hk=> ?_⟩
   rw [hlen] at hk
   obtain ⟨c0,c1,_,_⟩:=hx k (by omega)
   obtain ⟨e0,e1⟩:=hF k hk
   have hat:Z7 ((List.range len).map F) k=F k:=by unfold Z7;simp [List.getD,hk]
   rw [hat,<-e0,<-e1]
   exact Xx c0 c1
theorem U2 {H:Type} {enc:TypeId × Value->H} {W:World} {spare:Nat->Bool} {held:Bool} {n:Nat} {v:Value} {y:DataW H × List MemPlace}
  (h:DataW.trod enc Tryz.prog W 0 spare held n 66 [v]=some y):∃ rs,IsRooms W v rs:=by
 rcases open_slice_pairs Tryz.underlying66 Tryz.underlying195 (by kernel_rfl) rfl rfl (by kernel_rfl) (by kernel_rfl) h with ⟨hv,_⟩ | ⟨a,len,cap,m,n',V0,V1,D0,D1,P0,P1,hv,_,hl,hm,hmm,_,hx⟩
 ·cases hv
  exact ⟨[],none,0,rfl,Nat.le_refl _,by omega,.inl rfl⟩
 ·cases hv
  have hlm:len<=m:=by rw [hmm];split<;>omega
  obtain ⟨F,hF⟩:=choose_lt (α:=Z0) (n:=len) (p:=fun i q=>V0 i= .int .i64 q.1/\IsPaces W (V1 i) q.2) (fun i hi=>by
   obtain ⟨_,_,t0,t1⟩:=hx i (by omega)
   obtain ⟨q0,e0,_⟩:=DataW.trod_int Tryz.underlying2 t0
   obtain ⟨ps,e1⟩:=U1 t1
   exact ⟨(q0,ps),by simpa using e0,e1⟩)
  have hlen:((List.range len).map F).length=len:=by simp
  refine ⟨(List.range len).map F,some a,cap,by rw [hlen],by rw [hlen];exact hl,by unfold maxLen at hm;omega,?_⟩
  by_cases hz:len=0
  ·exact .inl (by simp [hz])
  ·have h0:=hx 0 (by omega)
   have sp:=World.cell?_spot h0.1
   have hlt:=World.block_lt_of_cell? _ _ h0.1
   obtain ⟨b,off,spot⟩:=a
   have hspot:spot=none:=by simpa [Addr.add] using sp
   subst hspot
   refine .inr ⟨b,off,rfl,by simpa [Addr.add] using hlt,fun k hk=> ?_⟩
   rw [hlen] at hk
   obtain ⟨c0,c1,_,_⟩:=hx k (by omega)
   obtain ⟨e0,e1⟩:=hF k hk
   have hat:ZV ((List.range len).map F) k=F k:=by unfold ZV;simp [List.getD,hk]
   rw [hat,<-e0]
   exact ⟨(Xx c0 c1).1,V1 k,(Xx c0 c1).2,e1⟩
theorem V4 {H:Type} {enc:TypeId × Value->H} {W:World} {spare:Nat->Bool} {held:Bool} {n:Nat} {v:Value} {y:DataW H × List MemPlace}
  (h:DataW.trod enc Tryz.prog W 0 spare held n 69 [v]=some y):∃ ps,XI W v ps:=by
 refine Yi (k:=3) (enc:=Xs) Tryz.underlying69 Tryz.underlying161 (by kernel_rfl) rfl (by kernel_rfl) (by omega) ?_ h
 intro cs hl hc
 match cs,hl with
 | [c0,c1,c2],_=>
  obtain ⟨u0,n0,y0,e0,t0⟩:=hc 0 _ rfl
  obtain ⟨u1,n1,y1,e1,t1⟩:=hc 1 _ rfl
  obtain ⟨u2,n2,y2,e2,t2⟩:=hc 2 _ rfl
  obtain ⟨z0,q0,_⟩:=DataW.trod_int Tryz.underlying2 t0
  obtain ⟨z1,q1,_⟩:=DataW.trod_int Tryz.underlying2 t1
  obtain ⟨z2,q2,_⟩:=DataW.trod_int Tryz.underlying2 t2
  cases e0;cases e1;cases e2;cases q0;cases q1;cases q2
  exact ⟨(z0,z1,z2),rfl⟩
theorem V6 {H:Type} {enc:TypeId × Value->H} {W:World} {spare:Nat->Bool} {held:Bool} {n:Nat} {v:Value} {y:DataW H × List MemPlace}
  (h:DataW.trod enc Tryz.prog W 0 spare held n 70 [v]=some y):∃ ps,WK W v ps:=by
 refine Yi (k:=11) (enc:=ZR) Tryz.underlying70 Tryz.underlying163 (by kernel_rfl) rfl (by kernel_rfl) (by omega) ?_ h
 intro cs hl hc
 match cs,hl with
 | [c0,c1,c2,c3,c4,c5,c6,c7,c8,c9,c10],_=>
  obtain ⟨u0,n0,y0,e0,t0⟩:=hc 0 _ rfl
  obtain ⟨u1,n1,y1,e1,t1⟩:=hc 1 _ rfl
  obtain ⟨u2,n2,y2,e2,t2⟩:=hc 2 _ rfl
  obtain ⟨u3,n3,y3,e3,t3⟩:=hc 3 _ rfl
  obtain ⟨u4,n4,y4,e4,t4⟩:=hc 4 _ rfl
  obtain ⟨u5,n5,y5,e5,t5⟩:=hc 5 _ rfl
  obtain ⟨u6,n6,y6,e6,t6⟩:=hc 6 _ rfl
  obtain ⟨u7,n7,y7,e7,t7⟩:=hc 7 _ rfl
  obtain ⟨u8,n8,y8,e8,t8⟩:=hc 8 _ rfl
  obtain ⟨u9,n9,y9,e9,t9⟩:=hc 9 _ rfl
  obtain ⟨u10,n10,y10,e10,t10⟩:=hc 10 _ rfl
  obtain ⟨z0,q0,_⟩:=DataW.trod_int Tryz.underlying2 t0
  obtain ⟨z1,q1,_⟩:=DataW.trod_int Tryz.underlying2 t1
  obtain ⟨z2,q2,_⟩:=DataW.trod_int Tryz.underlying2 t2
  obtain ⟨z3,q3,_⟩:=DataW.trod_int Tryz.underlying2 t3
  obtain ⟨z4,q4,_⟩:=DataW.trod_int Tryz.underlying2 t4
  obtain ⟨z5,q5,_⟩:=DataW.trod_int Tryz.underlying2 t5
  obtain ⟨z6,q6,_⟩:=DataW.trod_int Tryz.underlying2 t6
  obtain ⟨z7,q7,_⟩:=DataW.trod_int Tryz.underlying2 t7
  obtain ⟨z8,q8,_⟩:=DataW.trod_int Tryz.underlying2 t8
  obtain ⟨z9,q9,_⟩:=DataW.trod_int Tryz.underlying2 t9
  obtain ⟨z10,q10,_⟩:=DataW.trod_int Tryz.underlying2 t10
  cases e0;cases e1;cases e2;cases e3;cases e4;cases e5;cases e6;cases e7;cases e8;cases e9;cases e10;cases q0;cases q1;cases q2;cases q3;cases q4;cases q5;cases q6;cases q7;cases q8;cases q9;cases q10
  exact ⟨(z0,z1,z2,z3,z4,z5,z6,z7,z8,z9,z10),rfl⟩
theorem Vh {H:Type} {enc:TypeId × Value->H} {W:World} {spare:Nat->Bool} {held:Bool} {n:Nat} {v:Value} {y:DataW H × List MemPlace}
  (h:DataW.trod enc Tryz.prog W 0 spare held n 71 [v]=some y):∃ ps,VN W v ps:=by
 refine Yi (k:=3) (enc:=XA) Tryz.underlying71 Tryz.underlying165 (by kernel_rfl) rfl (by kernel_rfl) (by omega) ?_ h
 intro cs hl hc
 match cs,hl with
 | [c0,c1,c2],_=>
  obtain ⟨u0,n0,y0,e0,t0⟩:=hc 0 _ rfl
  obtain ⟨u1,n1,y1,e1,t1⟩:=hc 1 _ rfl
  obtain ⟨u2,n2,y2,e2,t2⟩:=hc 2 _ rfl
  obtain ⟨z0,q0,_⟩:=DataW.trod_bool Tryz.underlying4 t0
  obtain ⟨z1,q1,_⟩:=DataW.trod_int Tryz.underlying2 t1
  obtain ⟨z2,q2,_⟩:=DataW.trod_int Tryz.underlying2 t2
  cases e0;cases e1;cases e2;cases q0;cases q1;cases q2
  exact ⟨(z0,z1,z2),rfl⟩
theorem VG {H:Type} {enc:TypeId × Value->H} {W:World} {spare:Nat->Bool} {held:Bool} {r:Reach} {b0:Nat} {v:Value} {d:DataW H} {p:List MemPlace}
  (hv:Value.okWide Tryz.prog W r b0 73 v) (h:DataW.Trod enc Tryz.prog W 0 spare held 73 v d p):∃ v0 v1 v2 v3 v4 m,v= .agg #[v0,v1,v2,v3,v4,.int .i64 m.now]/\Smy W v0 v1 v2 v3 v4 m:=by
 obtain ⟨cs,rfl,hsz⟩:=okWide_struct Tryz.underlying73 hv
 have h1:cs.size=6:=hsz.trans (by kernel_rfl)
 obtain ⟨l⟩:=cs
 match l,h1 with
 | [c0,c1,c2,c3,c4,c5],_=>
  obtain ⟨fuel,hf⟩:=h
  obtain ⟨xs,n,_,_,hl,hxl,hF⟩:=DataW.trod_struct Tryz.underlying73 hf
  have k1:Tryz.prog.cellsOf 68=1:=by kernel_rfl
  have k2:Tryz.prog.cellsOf 69=1:=by kernel_rfl
  have k3:Tryz.prog.cellsOf 70=1:=by kernel_rfl
  have k4:Tryz.prog.cellsOf 71=1:=by kernel_rfl
  have k5:Tryz.prog.cellsOf 30=1:=by kernel_rfl
  have k6:Tryz.prog.cellsOf 2=1:=by kernel_rfl
  match xs,hxl with
  | [y0,y1,y2,y3,y4,y5],_=>
   have g0:=hF 0 _ rfl
   have g1:=hF 1 _ rfl
   have g2:=hF 2 _ rfl
   have g3:=hF 3 _ rfl
   have g4:=hF 4 _ rfl
   have g5:=hF 5 _ rfl
   simp [Value.cells,k1] at g0
   simp [Value.cells,k2] at g1
   simp [Value.cells,k3] at g2
   simp [Value.cells,k4] at g3
   simp [Value.cells,k5] at g4
   simp [Value.cells,k6] at g5
   obtain ⟨z0,n',_,_,h0⟩:=trod_struct1 Tryz.underlying68 g0
   have kr:Tryz.prog.cellsOf 66=1:=by kernel_rfl
   obtain ⟨rs,hr⟩:=U2 (v:=c0) (by simpa [kr] using h0)
   obtain ⟨gs,hg⟩:=V4 g1
   obtain ⟨ss,hs⟩:=V6 g2
   obtain ⟨ds,hd⟩:=Vh g3
   obtain ⟨ps,hp⟩:=UC g4
   obtain ⟨now,e,_⟩:=DataW.trod_int Tryz.underlying2 g5
   cases e
   exact ⟨c0,c1,c2,c3,c4,⟨rs,gs,ss,ds,ps,now⟩,rfl,⟨hr,hg,hs,hd,hp⟩⟩
end Go.Proofs.YtnponpamjddpjaaGreat
