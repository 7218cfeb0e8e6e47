/- Part 41 of what the proof rests on. No condition but those that a theorem names. -/
import Derived.Test.YtjhijildaceadaaGreatDoorXa40
set_option maxHeartbeats 8000000
set_option maxRecDepth 100000
namespace Go.Proofs.YtjhijildaceadaaGreatDoor
open Go.ChangeShapes Go.WideShapes Go.ChangeAt Go.RowKit Go.Sort
set_option linter.unusedVariables false
theorem Tn {q:Int->Addr} (hS:(∀ (w:World) (v0 v1 v2 v3 v4:Value) (m:Z4) (who:Int) (may:Int),Smy w v0 v1 v2 v3 v4 m->Calls Tryz.prog 22 #[.agg #[v0,v1,v2,v3,v4,.int .i64 m.now],.int .i64 who,.int .i64 may] w fun e w'=>Uz w.heap.size (YD m who may).1 (YD m who may).2 e w'/\Below w.heap.size w w')) (hI:(∀ (w:World) (v0 v1 v2 v3 v4:Value) (m:Z4) (who:Int) (may:Int),Errs w q->Smy w v0 v1 v2 v3 v4 m->Calls Tryz.prog 17 #[.agg #[v0,v1,v2,v3,v4,.int .i64 m.now],.int .i64 who,.int .i64 may] w fun e w'=>Uz w.heap.size (YD m who may).1 (YD m who may).2 e w'/\Below w.heap.size w w')) (hlen:∀ (m:Z4) (who:Int) (may:Int),YT (YD m who may).1) (v0 v1 v2 v3 v4:Value) (m:Z4) (who:Int) (may:Int) (w:World) (her:Errs w q) (h:Smy w v0 v1 v2 v3 v4 m) :
  Calls Tryz.prog 9 #[.agg #[v0,v1,v2,v3,v4,.int .i64 m.now],.int .i64 who,.int .i64 may] w fun e w'=>e= .returned (.bool true)/\Below w.heap.size w w':=by
 have HEr:=Z9 her
 clear her
 have HS:=Z9 hS
 have HI:=Z9 hI
 clear hS hI
 have Hv:=Z9 h
 obtain ⟨a0,p0,a1,p1,a2,p2,a3,p3,a4,p4,rfl,rfl,rfl,rfl,rfl,_,_,_,_,_,_,_,_,_,_⟩:=h.five
 clear h
 have hLs:=Z9 (hlen m who may)
 have HS1:=Z9 (fun W u0 u1 u2 u3 u4=>uh HS W u0 u1 u2 u3 u4 m who may)
 have HI1:=Z9 (fun W u0 u1 u2 u3 u4=>uh HI W u0 u1 u2 u3 u4 m who may)
 clear HS HI hlen
 obtain ⟨⟨M,cd⟩,hM⟩:∃ x,YD m who may=x:=⟨_,rfl⟩
 rw [hM] at hLs HS1 HI1
 simp only at hLs HS1 HI1
 clear hM
 go_enter Tryz.func9,Tryz.ntmps9
 go_wp2_with fail
 refine (Wn ((uh Hv).alloc _)).mono ?_
 rintro e w1 ⟨x,rfl,hx,hb⟩
 have ka:Hid (Blk w1 w.heap.size 61 #[.slice a0 m.rooms.length p0,.slice a1 m.guilds.length p1,.slice a2 m.smiths.length p2,.slice a3 m.desks.length p3,.slice a4 m.paces.length p4,.int .i64 m.now]):=Z9 ((Blk.new w _ _).below hb (by simp))
 have BB:Hid (Below w.heap.size w w1):=Z9 (((Below.refl _ _).alloc (Nat.le_refl _) _).trans (hb.mono (by simp)))
 have Hx:=Z9 hx
 clear hx hb
 by_cases hx0:x<0
 ·go_wp2_with fail
  go_ret
  exact ⟨rfl,uh BB⟩
 have Hs:=Z9 (uh Hx (by omega))
 have HsM:=hLs
 clear Hx hLs
 obtain ⟨c0,c1,c2,c3,c4,c5⟩:=(uh ka).c6
 go_wp2_with fail
 refine (Zw ((uh Hv).below (uh BB)) (uh Hs)).mono ?_
 rintro e w2 ⟨u0,u1,u2,u3,u4,rfl,ho,hb⟩
 clear c0 c1 c2 c3 c4 c5
 have k2:=ho.smy
 obtain ⟨b0,q0,b1,q1,b2,q2,b3,q3,b4,q4,rfl,rfl,rfl,rfl,rfl,_,_,_,_,_,_,_,_,_,_⟩:=k2.five
 have K2:=Z9 k2
 clear k2 ho
 replace ka:=bl ka hb
 replace BB:=bt BB hb
 have hw2:w.heap.size<w2.heap.size:=(uh ka).lt
 clear hb
 go_wp2_with fail
 refine (uh HS1 _ _ _ _ _ _ (uh K2)).mono ?_
 rintro e w3 ⟨⟨y0,y1,y2,y3,y4,uq,rfl,ho⟩,hb⟩
 have k9:=ho.smy
 obtain ⟨ua0,uc0,ua1,uc1,ua2,uc2,ua3,uc3,ua4,uc4,rfl,rfl,rfl,rfl,rfl,_,_,_,_,_,_,_,_,_,_⟩:=k9.five
 clear k9 K2
 replace ka:=bl ka hb
 replace BB:=bt BB hb
 have HU:=Z9 ho
 have LU:Hid (∀ k,XW (.slice ua0 M.rooms.length uc0) (.slice ua1 M.guilds.length uc1) (.slice ua2 M.smiths.length uc2) (.slice ua3 M.desks.length uc3) (.slice ua4 M.paces.length uc4) uq k->w2.heap.size<=k/\k<w3.heap.size):=Z9 (fun k e=>ho.own e)
 have hw3:w.heap.size<w3.heap.size:=(uh ka).lt
 clear ho hb
 go_upto_region 6 with fail
 have hba:Below w3.heap.size w3 (w3.alloc (.cells #[.slice ua0 M.rooms.length uc0,.slice ua1 M.guilds.length uc1,.slice ua2 M.smiths.length uc2,.slice ua3 M.desks.length uc3,.slice ua4 M.paces.length uc4,.int .i64 M.now] 32)):=(Below.refl _ _).alloc (Nat.le_refl _) _
 replace ka:=bl ka hba
 replace HU:=Z9 ((uh HU).below hba)
 replace BB:=bt BB hba
 have ku:Hid (Blk (w3.alloc (.cells #[.slice ua0 M.rooms.length uc0,.slice ua1 M.guilds.length uc1,.slice ua2 M.smiths.length uc2,.slice ua3 M.desks.length uc3,.slice ua4 M.paces.length uc4,.int .i64 M.now] 32)) w3.heap.size 32 #[.slice ua0 M.rooms.length uc0,.slice ua1 M.guilds.length uc1,.slice ua2 M.smiths.length uc2,.slice ua3 M.desks.length uc3,.slice ua4 M.paces.length uc4,.int .i64 M.now]):=Z9 (Blk.new _ _ _)
 have hsz_W3:w3.heap.size+1<=(w3.alloc (.cells #[.slice ua0 M.rooms.length uc0,.slice ua1 M.guilds.length uc1,.slice ua2 M.smiths.length uc2,.slice ua3 M.desks.length uc3,.slice ua4 M.paces.length uc4,.int .i64 M.now] 32)).heap.size:=by simp
 clear hba
 generalize w3.alloc (.cells #[.slice ua0 M.rooms.length uc0,.slice ua1 M.guilds.length uc1,.slice ua2 M.smiths.length uc2,.slice ua3 M.desks.length uc3,.slice ua4 M.paces.length uc4,.int .i64 M.now] 32)=W3 at *
 generalize w3.heap.size=ub at *
 obtain ⟨c0,c1,c2,c3,c4,c5⟩:=(uh ka).c6
 go_wp2_with fail
 clear c0 c1 c2 c3 c4 c5
 refine (WN ((uh Hv).below (uh BB)) (uh Hs)).mono ?_
 rintro e w4 ⟨z0,z1,z2,z3,z4,xq,rfl,ho,hb⟩
 have k4:=ho.smy
 obtain ⟨d0,r0,d1,r1,d2,r2,d3,r3,d4,r4,rfl,rfl,rfl,rfl,rfl,_,_,_,_,_,_,_,_,_,_⟩:=k4.five
 clear k4
 replace ka:=bl ka hb
 replace HU:=Z9 ((uh HU).below hb)
 replace ku:=bl ku hb
 replace BB:=bt BB hb
 have HX:=Z9 ho
 have LX:Hid (∀ k,XW (.slice d0 m.rooms.length r0) (.slice d1 m.guilds.length r1) (.slice d2 m.smiths.length r2) (.slice d3 m.desks.length r3) (.slice d4 m.paces.length r4) xq k->ub<k/\k<w4.heap.size):=Z9 (fun k e=>⟨Nat.lt_of_lt_of_le (Nat.lt_of_succ_le hsz_W3) (ho.own e).1,(ho.own e).2⟩)
 have hw4:ub+1<=w4.heap.size:=Nat.le_trans hsz_W3 hb.size
 clear ho hb hsz_W3
 go_upto_region 7 with fail
 have hba:Below w4.heap.size w4 (w4.alloc (.cells #[.slice d0 m.rooms.length r0,.slice d1 m.guilds.length r1,.slice d2 m.smiths.length r2,.slice d3 m.desks.length r3,.slice d4 m.paces.length r4,.int .i64 m.now] 32)):=(Below.refl _ _).alloc (Nat.le_refl _) _
 replace ka:=bl ka hba
 replace HU:=Z9 ((uh HU).below hba)
 replace ku:=bl ku hba
 replace HX:=Z9 ((uh HX).below hba)
 replace BB:=bt BB hba
 have kx:Hid (Blk (w4.alloc (.cells #[.slice d0 m.rooms.length r0,.slice d1 m.guilds.length r1,.slice d2 m.smiths.length r2,.slice d3 m.desks.length r3,.slice d4 m.paces.length r4,.int .i64 m.now] 32)) w4.heap.size 32 #[.slice d0 m.rooms.length r0,.slice d1 m.guilds.length r1,.slice d2 m.smiths.length r2,.slice d3 m.desks.length r3,.slice d4 m.paces.length r4,.int .i64 m.now]):=Z9 (Blk.new _ _ _)
 have hsz_W4:w4.heap.size+1<=(w4.alloc (.cells #[.slice d0 m.rooms.length r0,.slice d1 m.guilds.length r1,.slice d2 m.smiths.length r2,.slice d3 m.desks.length r3,.slice d4 m.paces.length r4,.int .i64 m.now] 32)).heap.size:=by simp
 clear hba
 generalize w4.alloc (.cells #[.slice d0 m.rooms.length r0,.slice d1 m.guilds.length r1,.slice d2 m.smiths.length r2,.slice d3 m.desks.length r3,.slice d4 m.paces.length r4,.int .i64 m.now] 32)=W4 at *
 generalize w4.heap.size=xb at *
 obtain ⟨x0,x1,x2,x3,x4,x5⟩:=(uh kx).c6
 go_wp2_with fail
 clear x0 x1 x2 x3 x4 x5
 refine (uh HI1 _ _ _ _ _ _ ((uh HEr).below (uh BB)) (uh HX).smy).mono ?_
 rintro e w5 ⟨⟨y0,y1,y2,y3,y4,gq,rfl,ho⟩,hb⟩
 have k9:=ho.smy
 obtain ⟨ga0,gc0,ga1,gc1,ga2,gc2,ga3,gc3,ga4,gc4,rfl,rfl,rfl,rfl,rfl,_,_,_,_,_,_,_,_,_,_⟩:=k9.five
 clear k9
 replace ka:=bl ka hb
 replace HU:=Z9 ((uh HU).below hb)
 replace ku:=bl ku hb
 replace HX:=Z9 ((uh HX).below hb)
 replace kx:=bl kx hb
 replace BB:=bt BB hb
 have HG:=Z9 ho
 have LG:Hid (∀ k,XW (.slice ga0 M.rooms.length gc0) (.slice ga1 M.guilds.length gc1) (.slice ga2 M.smiths.length gc2) (.slice ga3 M.desks.length gc3) (.slice ga4 M.paces.length gc4) gq k->xb<k/\k<w5.heap.size):=Z9 (fun k e=>⟨Nat.lt_of_lt_of_le (Nat.lt_of_succ_le hsz_W4) (ho.own e).1,(ho.own e).2⟩)
 have hw5:xb+1<=w5.heap.size:=Nat.le_trans hsz_W4 hb.size
 clear ho hb hsz_W4
 obtain ⟨x0,x1,x2,x3,x4,x5⟩:=(uh ku).c6
 go_upto_region 8 with fail
 clear x0 x1 x2 x3 x4 x5
 have hba:Below w5.heap.size w5 (w5.alloc (.cells #[.slice ga0 M.rooms.length gc0,.slice ga1 M.guilds.length gc1,.slice ga2 M.smiths.length gc2,.slice ga3 M.desks.length gc3,.slice ga4 M.paces.length gc4,.int .i64 M.now] 32)):=(Below.refl _ _).alloc (Nat.le_refl _) _
 replace ka:=bl ka hba
 replace HU:=Z9 ((uh HU).below hba)
 replace ku:=bl ku hba
 replace HX:=Z9 ((uh HX).below hba)
 replace kx:=bl kx hba
 replace HG:=Z9 ((uh HG).below hba)
 replace BB:=bt BB hba
 have kg:Hid (Blk (w5.alloc (.cells #[.slice ga0 M.rooms.length gc0,.slice ga1 M.guilds.length gc1,.slice ga2 M.smiths.length gc2,.slice ga3 M.desks.length gc3,.slice ga4 M.paces.length gc4,.int .i64 M.now] 32)) w5.heap.size 32 #[.slice ga0 M.rooms.length gc0,.slice ga1 M.guilds.length gc1,.slice ga2 M.smiths.length gc2,.slice ga3 M.desks.length gc3,.slice ga4 M.paces.length gc4,.int .i64 M.now]):=Z9 (Blk.new _ _ _)
 have hsz_W5:w5.heap.size+1<=(w5.alloc (.cells #[.slice ga0 M.rooms.length gc0,.slice ga1 M.guilds.length gc1,.slice ga2 M.smiths.length gc2,.slice ga3 M.desks.length gc3,.slice ga4 M.paces.length gc4,.int .i64 M.now] 32)).heap.size:=by simp
 clear hba
 generalize w5.alloc (.cells #[.slice ga0 M.rooms.length gc0,.slice ga1 M.guilds.length gc1,.slice ga2 M.smiths.length gc2,.slice ga3 M.desks.length gc3,.slice ga4 M.paces.length gc4,.int .i64 M.now] 32)=W5 at *
 generalize w5.heap.size=gb at *
 clear hsz_W5
 obtain ⟨x0,x1,x2,x3,x4,x5⟩:=(uh ku).c6
 obtain ⟨y0,y1,y2,y3,y4,y5⟩:=(uh kg).c6
 go_wp2_with fail
 clear x0 x1 x2 x3 x4 x5 y0 y1 y2 y3 y4 y5
 refine (ZK (uh HG).smy (uh HU).smy).mono ?_
 rintro e w6 ⟨rfl,hb⟩
 replace ka:=bl ka hb
 replace HU:=Z9 ((uh HU).below hb)
 replace ku:=bl ku hb
 replace HX:=Z9 ((uh HX).below hb)
 replace kx:=bl kx hb
 replace HG:=Z9 ((uh HG).below hb)
 replace kg:=bl kg hb
 replace BB:=bt BB hb
 clear hb
 obtain ⟨c0,c1,c2,c3,c4,c5⟩:=(uh ka).c6
 obtain ⟨x0,x1,x2,x3,x4,x5⟩:=(uh kx).c6
 have V6:=Z9 ((uh Hv).below (uh BB))
 go_upto_region 10 with fail
 go_cut [53] (fun s wc=>s= .bool false/\Below w6.heap.size w6 wc)
 case first=>
  go_region_with (first
   | (go_at_call 50;refine (Zw (m:=m) ?_ (uh Hs)).mono ?_;exact (uh V6).below (Below.refl _ _).drew;rintro e w7 ⟨t0,t1,t2,t3,t4,rfl,ho,hb⟩;have k7:=ho.smy;obtain ⟨f0,j0,rfl,_,_⟩:=IsRooms.shape k7.rooms;obtain ⟨f1,j1,rfl,_,_⟩:=IsRec.shape k7.guilds;obtain ⟨f2,j2,rfl,_,_⟩:=IsRec.shape k7.smiths;obtain ⟨f3,j3,rfl,_,_⟩:=IsRec.shape k7.desks;obtain ⟨f4,j4,rfl,_,_⟩:=IsRec.shape k7.paces;have K7:=Z9 k7;have Hb7:Hid (Below w6.heap.size w6 w7):=Z9 ⟨hb.os,hb.tape,hb.output,hb.size,hb.block⟩;have kx7:=(uh kx).below (uh Hb7) (uh kx).lt;have y0:=kx7.cell (i:=0) (v:= .slice d0 m.rooms.length r0) rfl;have y1:=kx7.cell (i:=1) (v:= .slice d1 m.guilds.length r1) rfl;have y2:=kx7.cell (i:=2) (v:= .slice d2 m.smiths.length r2) rfl;have y3:=kx7.cell (i:=3) (v:= .slice d3 m.desks.length r3) rfl;have y4:=kx7.cell (i:=4) (v:= .slice d4 m.paces.length r4) rfl;have y5:=kx7.cell (i:=5) (v:= .int .i64 m.now) rfl;clear k7 ho hb kx7)
   | (go_at_call 51;refine (ZK (m:=m) ?_ ?_).mono ?_;exact ((uh HX).below (uh Hb7)).smy;exact uh K7;rintro e w8 ⟨rfl,hb⟩;have Hb8:=Z9 hb;clear hb))
  all_goals
   go_wp2_with fail
   go_meet
   exact ⟨rfl,(uh Hb7).trans ((uh Hb8).mono (uh Hb7).size)⟩
 case rest=>
  obtain ⟨rfl,hb⟩:=hcut
  obtain ⟨w8,rfl⟩:∃ x,x=wc:=⟨wc,rfl⟩
  clear c0 c1 c2 c3 c4 c5 x0 x1 x2 x3 x4 x5
  replace ka:=bl ka hb
  replace HU:=Z9 ((uh HU).below hb)
  replace ku:=bl ku hb
  replace HX:=Z9 ((uh HX).below hb)
  replace kx:=bl kx hb
  replace HG:=Z9 ((uh HG).below hb)
  replace kg:=bl kg hb
  replace BB:=bt BB hb
  clear hb V6
  obtain ⟨x0,x1,x2,x3,x4,x5⟩:=(uh kx).c6
  go_wp2_with fail
  clear x0 x1 x2 x3 x4 x5
  refine (Za 1 ((uh HX).mono (n₁:=0) (Nat.zero_le _)) (uh Hs) (Nat.zero_le _) (by omega) (by omega)).mono ?_
  rintro e w9 ⟨rfl,_,hon⟩
  have hen:=VM (uh Hs) (uh HX).rooms
  generalize SI 1 m xq=em at *
  have hwle:=(uh BB).size
  replace HU:=Z9 ((uh HU).keep fun k e=>hon.at ((uh HU).own e).2 fun e9=>by have h1:=uh LU k e;have h2:=uh LX k e9;omega)
  replace HG:=Z9 ((uh HG).keep fun k e=>hon.at ((uh HG).own e).2 fun e9=>by have h1:=uh LG k e;have h2:=uh LX k e9;omega)
  replace ku:=Z9 ((uh ku).same (hon.at (uh ku).lt fun e9=>by have h2:=uh LX _ e9;omega))
  replace kg:=Z9 ((uh kg).same (hon.at (uh kg).lt fun e9=>by have h2:=uh LX _ e9;omega))
  replace ka:=Z9 ((uh ka).same (hon.at (uh ka).lt fun e9=>by have h2:=uh LX _ e9;omega))
  replace BB:=Z9 ((uh BB).trans (hon.below hwle (fun k e=>by have h2:=uh LX k e;omega)))
  clear hon kx HX hwle
  have hk0:¬ em<0:=by omega
  obtain ⟨x0,x1,x2,x3,x4,x5⟩:=(uh ku).c6
  obtain ⟨y0,y1,y2,y3,y4,y5⟩:=(uh kg).c6
  go_wp2_with fail
  clear x0 x1 x2 x3 x4 x5 y0 y1 y2 y3 y4 y5
  refine (ZK (uh HG).smy (uh HU).smy).mono ?_
  rintro e w10 ⟨rfl,hb⟩
  replace ka:=bl ka hb
  replace HU:=Z9 ((uh HU).below hb)
  replace ku:=bl ku hb
  replace HG:=Z9 ((uh HG).below hb)
  replace kg:=bl kg hb
  replace BB:=bt BB hb
  clear hb
  obtain ⟨y0,y1,y2,y3,y4,y5⟩:=(uh kg).c6
  go_wp2_with fail
  clear y0 y1 y2 y3 y4 y5
  refine (Za 1 ((uh HG).mono (n₁:=0) (Nat.zero_le _)) (uh HsM) (Nat.zero_le _) (by omega) (by omega)).mono ?_
  rintro e w11 ⟨rfl,hgm,hon⟩
  have hgr:=(uh HG).rooms
  have hen2:=VM (uh HsM) hgr
  have hwle:=(uh BB).size
  replace HU:=Z9 ((uh HU).keep fun k e=>hon.at ((uh HU).own e).2 fun e9=>by have h1:=uh LU k e;have h2:=uh LG k e9;omega)
  replace ku:=Z9 ((uh ku).same (hon.at (uh ku).lt fun e9=>by have h2:=uh LG _ e9;omega))
  replace kg:=Z9 ((uh kg).same (hon.at (uh kg).lt fun e9=>by have h2:=uh LG _ e9;omega))
  replace ka:=Z9 ((uh ka).same (hon.at (uh ka).lt fun e9=>by have h2:=uh LG _ e9;omega))
  replace BB:=Z9 ((uh BB).trans (hon.below hwle (fun k e=>by have h2:=uh LG k e;omega)))
  replace HG:=Z9 hgm
  have Hgr:=Z9 hgr
  clear hgm hon hwle hgr
  obtain ⟨y0,y1,y2,y3,y4,y5⟩:=(uh kg).c6
  go_wp2_with fail
  clear y0 y1 y2 y3 y4 y5
  refine (Y8 1 (uh HG) (uh HsM).rooms (uh Hgr) (uh HsM) (by omega) (by omega)).mono ?_
  rintro e w12 ⟨rfl,hb⟩
  replace ka:=bl ka hb
  replace HU:=Z9 ((uh HU).below hb)
  replace ku:=bl ku hb
  replace HG:=Z9 ((uh HG).below hb)
  replace kg:=bl kg hb
  replace BB:=bt BB hb
  clear hb
  have Hen2:=Z9 hen2
  obtain ⟨en,hene⟩:∃ x,SI 1 M gq=x:=⟨_,rfl⟩
  have hnn:¬ en<0:=by rw [<-hene];omega
  have Hene:=Z9 hene
  rw [hene]
  clear hene hen2
  obtain ⟨c0,c1,c2,c3,c4,c5⟩:=(uh ka).c6
  go_wp2_with fail
  clear c0 c1 c2 c3 c4 c5
  refine (Zw ((uh Hv).below (uh BB)) (uh Hs)).mono ?_
  rintro e w13 ⟨s0,s1,s2,s3,s4,rfl,ho,hb⟩
  have k13:=ho.smy
  obtain ⟨f0,j0,f1,j1,f2,j2,f3,j3,f4,j4,rfl,rfl,rfl,rfl,rfl,_,_,_,_,_,_,_,_,_,_⟩:=k13.five
  have K13:=Z9 k13
  clear k13 ho
  replace ka:=bl ka hb
  replace HU:=Z9 ((uh HU).below hb)
  replace ku:=bl ku hb
  replace HG:=Z9 ((uh HG).below hb)
  replace kg:=bl kg hb
  replace BB:=bt BB hb
  clear hb
  go_wp2_with fail
  refine (uh HI1 _ _ _ _ _ _ ((uh HEr).below (uh BB)) (uh K13)).mono ?_
  rintro e w14 ⟨⟨y0,y1,y2,y3,y4,hq,rfl,ho⟩,hb⟩
  have k9:=ho.smy
  obtain ⟨ha0,hc0,ha1,hc1,ha2,hc2,ha3,hc3,ha4,hc4,rfl,rfl,rfl,rfl,rfl,_,_,_,_,_,_,_,_,_,_⟩:=k9.five
  clear ho K13
  replace ka:=bl ka hb
  replace HU:=Z9 ((uh HU).below hb)
  replace ku:=bl ku hb
  replace HG:=Z9 ((uh HG).below hb)
  replace kg:=bl kg hb
  replace BB:=bt BB hb
  have HH:=Z9 k9
  clear k9 hb
  go_upto_region 25 with fail
  have hba:Below w14.heap.size w14 (w14.alloc (.cells #[.slice ha0 M.rooms.length hc0,.slice ha1 M.guilds.length hc1,.slice ha2 M.smiths.length hc2,.slice ha3 M.desks.length hc3,.slice ha4 M.paces.length hc4,.int .i64 M.now] 32)):=(Below.refl _ _).alloc (Nat.le_refl _) _
  replace ka:=bl ka hba
  replace HU:=Z9 ((uh HU).below hba)
  replace ku:=bl ku hba
  replace HG:=Z9 ((uh HG).below hba)
  replace kg:=bl kg hba
  replace HH:=Z9 ((uh HH).below hba)
  replace BB:=bt BB hba
  have kh:Hid (Blk (w14.alloc (.cells #[.slice ha0 M.rooms.length hc0,.slice ha1 M.guilds.length hc1,.slice ha2 M.smiths.length hc2,.slice ha3 M.desks.length hc3,.slice ha4 M.paces.length hc4,.int .i64 M.now] 32)) w14.heap.size 32 #[.slice ha0 M.rooms.length hc0,.slice ha1 M.guilds.length hc1,.slice ha2 M.smiths.length hc2,.slice ha3 M.desks.length hc3,.slice ha4 M.paces.length hc4,.int .i64 M.now]):=Z9 (Blk.new _ _ _)
  have hsz_W14:w14.heap.size+1<=(w14.alloc (.cells #[.slice ha0 M.rooms.length hc0,.slice ha1 M.guilds.length hc1,.slice ha2 M.smiths.length hc2,.slice ha3 M.desks.length hc3,.slice ha4 M.paces.length hc4,.int .i64 M.now] 32)).heap.size:=by simp
  clear hba
  generalize w14.alloc (.cells #[.slice ha0 M.rooms.length hc0,.slice ha1 M.guilds.length hc1,.slice ha2 M.smiths.length hc2,.slice ha3 M.desks.length hc3,.slice ha4 M.paces.length hc4,.int .i64 M.now] 32)=W14 at *
  generalize w14.heap.size=hb2 at *
  clear hsz_W14
  obtain ⟨x0,x1,x2,x3,x4,x5⟩:=(uh ku).c6
  obtain ⟨y0,y1,y2,y3,y4,y5⟩:=(uh kh).c6
  go_wp2_with fail
  clear x0 x1 x2 x3 x4 x5 y0 y1 y2 y3 y4 y5
  refine (ZK (uh HH) (uh HU).smy).mono ?_
  rintro e w15 ⟨rfl,hb⟩
  replace ka:=bl ka hb
  replace HU:=Z9 ((uh HU).below hb)
  replace ku:=bl ku hb
  replace HG:=Z9 ((uh HG).below hb)
  replace kg:=bl kg hb
  replace HH:=Z9 ((uh HH).below hb)
  replace kh:=bl kh hb
  replace BB:=bt BB hb
  clear hb
  obtain ⟨y0,y1,y2,y3,y4,y5⟩:=(uh kg).c6
  go_wp2_with fail
  clear y0 y1 y2 y3 y4 y5
  refine (Y8 1 (uh HG) (uh HsM).rooms (uh Hgr) (uh HsM) (by omega) (by omega)).mono ?_
  rw [uh Hene]
  rintro e w16 ⟨rfl,hb⟩
  replace ka:=bl ka hb
  replace HU:=Z9 ((uh HU).below hb)
  replace ku:=bl ku hb
  replace HG:=Z9 ((uh HG).below hb)
  replace kg:=bl kg hb
  replace HH:=Z9 ((uh HH).below hb)
  replace kh:=bl kh hb
  replace BB:=bt BB hb
  clear hb
  go_wp2_with fail
  go_ret
  exact ⟨rfl,uh BB⟩
theorem RT (v0 v1 v2 v3 v4:Value) (m:Z4) (who may:Int) (w:World) (h:Smy w v0 v1 v2 v3 v4 m) (her:∃ q,Errs w q) :
  Calls Tryz.prog 9 #[.agg #[v0,v1,v2,v3,v4,.int .i64 m.now],.int .i64 who,.int .i64 may] w fun e w'=>e= .returned (.bool true)/\Below w.heap.size w w':=by
 obtain ⟨q,he⟩:=her
 exact Tn (fun _ _ _ _ _ _ _ who may h=>Pk who may h) (fun _ _ _ _ _ _ _ who may he h=>O6 who may he h) (fun m who may=>Is m who may) v0 v1 v2 v3 v4 m who may w he h
open Go.ChangeShapes Go.WideShapes Go.ChangeAt Go.RowKit Go.Sort Go.Deep
set_option linter.unusedSimpArgs false
theorem Hd (rank:Int) (w:World):Calls Tryz.prog 72 #[.agg #[.int .i64 0,.int .i64 0,.int .i64 0,.int .i64 0,.int .i64 0,.int .i64 0,.int .i64 0,.int .i64 0,.int .i64 0,.int .i64 0,.int .i64 0],.int .i64 rank] w fun e w'=>e= .returned (.tuple #[.agg #[.int .i64 0,.int .i64 0,.int .i64 0,.int .i64 0,.int .i64 0,.int .i64 0,.int .i64 0,.int .i64 0,.int .i64 0,.int .i64 0,.int .i64 0],.bool false])/\Below w.heap.size w w':=by
 have Hs:Hid (Zu (0,0,0,0,0,0,0,0,0,0,0)=true):=Z9 rfl
 go_enter Tryz.func72,Tryz.ntmps72
 go_wp2_with fail
 refine (Xw 0 0 0 0 0 0 0 0 0 0 0 _).mono ?_
 rw [uh Hs]
 rintro e w1 ⟨rfl,hb⟩
 have kb:Blk w1 w.heap.size 43 #[.int .i64 0,.int .i64 0,.int .i64 0,.int .i64 0,.int .i64 0,.int .i64 0,.int .i64 0,.int .i64 0,.int .i64 0,.int .i64 0,.int .i64 0]:=((Blk.new w 43 #[.int .i64 0,.int .i64 0,.int .i64 0,.int .i64 0,.int .i64 0,.int .i64 0,.int .i64 0,.int .i64 0,.int .i64 0,.int .i64 0,.int .i64 0]).alloc _).below hb (by simp;omega)
 have ko:Blk w1 (w.heap.size+1) 43 #[.int .i64 0,.int .i64 0,.int .i64 0,.int .i64 0,.int .i64 0,.int .i64 0,.int .i64 0,.int .i64 0,.int .i64 0,.int .i64 0,.int .i64 0]:=by
  have k:=Blk.new (w.alloc (.cells #[.int .i64 0,.int .i64 0,.int .i64 0,.int .i64 0,.int .i64 0,.int .i64 0,.int .i64 0,.int .i64 0,.int .i64 0,.int .i64 0,.int .i64 0] 43)) 43 #[.int .i64 0,.int .i64 0,.int .i64 0,.int .i64 0,.int .i64 0,.int .i64 0,.int .i64 0,.int .i64 0,.int .i64 0,.int .i64 0,.int .i64 0]
  rw [World.size_alloc] at k
  exact k.below hb (by simp)
 have hsz:w.heap.size+2<=w1.heap.size:=by have:=hb.size;simp at this;omega
 have hl0:w.heap.size<w1.heap.size:=by omega
 have hl1:w.heap.size+1<w1.heap.size:=by omega
 have B1:=Z9 ((((Below.refl w.heap.size w).alloc (Nat.le_refl _) _).alloc (by simp) _).trans (hb.mono (by simp;omega)))
 have Kb:=Z9 kb
 have Ko:=Z9 ko
 obtain ⟨c0,c1,c2,c3,c4,c5,c6,c7,c8,c9,c10⟩:=kb.c11
 obtain ⟨o0,o1,o2,o3,o4,o5,o6,o7,o8,o9,o10⟩:=ko.c11
 obtain ⟨of0,of1,of2,of3,of4,of5,of6,of7,of8,of9,of10⟩:=ko.f11
 clear hb kb ko
 go_wp2_with fail
 refine bodyPost_ret (v:= .tuple #[.agg #[.int .i64 0,.int .i64 0,.int .i64 0,.int .i64 0,.int .i64 0,.int .i64 0,.int .i64 0,.int .i64 0,.int .i64 0,.int .i64 0,.int .i64 0],.bool false]) (by simp [results,Tryz.results72,go_sem,o0,o1,o2,o3,o4,o5,o6,o7,o8,o9,o10]) rfl ⟨rfl,?_⟩
 iterate 11 (refine Below.setCell ?_ (by simp) _)
 exact uh B1
theorem J1 {st be rk my gu lo hi hd ca ut wk:Int} (rank:Int) (w:World) (hs:Zu (st,be,rk,my,gu,lo,hi,hd,ca,ut,wk)=false):Calls Tryz.prog 72 #[.agg #[.int .i64 st,.int .i64 be,.int .i64 rk,.int .i64 my,.int .i64 gu,.int .i64 lo,.int .i64 hi,.int .i64 hd,.int .i64 ca,.int .i64 ut,.int .i64 wk],.int .i64 rank] w fun e w'=>e= .returned (.tuple #[.agg #[.int .i64 0,.int .i64 0,.int .i64 0,.int .i64 0,.int .i64 0,.int .i64 0,.int .i64 0,.int .i64 0,.int .i64 0,.int .i64 0,.int .i64 0],.bool false])/\Below w.heap.size w w':=by
 have Hs:=Z9 hs
 clear hs
 go_enter Tryz.func72,Tryz.ntmps72
 go_wp2_with fail
 refine (Xw st be rk my gu lo hi hd ca ut wk _).mono ?_
 rw [uh Hs]
 rintro e w1 ⟨rfl,hb⟩
 have kb:Blk w1 w.heap.size 43 #[.int .i64 st,.int .i64 be,.int .i64 rk,.int .i64 my,.int .i64 gu,.int .i64 lo,.int .i64 hi,.int .i64 hd,.int .i64 ca,.int .i64 ut,.int .i64 wk]:=((Blk.new w 43 #[.int .i64 st,.int .i64 be,.int .i64 rk,.int .i64 my,.int .i64 gu,.int .i64 lo,.int .i64 hi,.int .i64 hd,.int .i64 ca,.int .i64 ut,.int .i64 wk]).alloc _).below hb (by simp;omega)
 have ko:Blk w1 (w.heap.size+1) 43 #[.int .i64 0,.int .i64 0,.int .i64 0,.int .i64 0,.int .i64 0,.int .i64 0,.int .i64 0,.int .i64 0,.int .i64 0,.int .i64 0,.int .i64 0]:=by
  have k:=Blk.new (w.alloc (.cells #[.int .i64 st,.int .i64 be,.int .i64 rk,.int .i64 my,.int .i64 gu,.int .i64 lo,.int .i64 hi,.int .i64 hd,.int .i64 ca,.int .i64 ut,.int .i64 wk] 43)) 43 #[.int .i64 0,.int .i64 0,.int .i64 0,.int .i64 0,.int .i64 0,.int .i64 0,.int .i64 0,.int .i64 0,.int .i64 0,.int .i64 0,.int .i64 0]
  rw [World.size_alloc] at k
  exact k.below hb (by simp)
 have hsz:w.heap.size+2<=w1.heap.size:=by have:=hb.size;simp at this;omega
 have hl0:w.heap.size<w1.heap.size:=by omega
 have hl1:w.heap.size+1<w1.heap.size:=by omega
 have B1:=Z9 ((((Below.refl w.heap.size w).alloc (Nat.le_refl _) _).alloc (by simp) _).trans (hb.mono (by simp;omega)))
 have Kb:=Z9 kb
 have Ko:=Z9 ko
 obtain ⟨c0,c1,c2,c3,c4,c5,c6,c7,c8,c9,c10⟩:=kb.c11
 obtain ⟨o0,o1,o2,o3,o4,o5,o6,o7,o8,o9,o10⟩:=ko.c11
 obtain ⟨of0,of1,of2,of3,of4,of5,of6,of7,of8,of9,of10⟩:=ko.f11
 clear hb kb ko
 go_wp2_with fail
 refine bodyPost_ret (v:= .tuple #[.agg #[.int .i64 0,.int .i64 0,.int .i64 0,.int .i64 0,.int .i64 0,.int .i64 0,.int .i64 0,.int .i64 0,.int .i64 0,.int .i64 0,.int .i64 0],.bool false]) (by simp [results,Tryz.results72,go_sem,o0,o1,o2,o3,o4,o5,o6,o7,o8,o9,o10]) rfl ⟨rfl,?_⟩
 iterate 11 (refine Below.setCell ?_ (by simp) _)
 exact uh B1
theorem DI {st be rk my gu lo hi hd ca ut wk:Int} (rank:Int) (w:World) (hs:Zu (st,be,rk,my,gu,lo,hi,hd,ca,ut,wk)=true) (hst:(st ==0)=false) (hw:inB rank (-5) 5=false):Calls Tryz.prog 72 #[.agg #[.int .i64 st,.int .i64 be,.int .i64 rk,.int .i64 my,.int .i64 gu,.int .i64 lo,.int .i64 hi,.int .i64 hd,.int .i64 ca,.int .i64 ut,.int .i64 wk],.int .i64 rank] w fun e w'=>e= .returned (.tuple #[.agg #[.int .i64 st,.int .i64 be,.int .i64 rk,.int .i64 my,.int .i64 gu,.int .i64 lo,.int .i64 hi,.int .i64 hd,.int .i64 ca,.int .i64 ut,.int .i64 wk],.bool false])/\Below w.heap.size w w':=by
 have Hs:=Z9 hs
 clear hs
 go_enter Tryz.func72,Tryz.ntmps72
 go_wp2_with fail
 refine (Xw st be rk my gu lo hi hd ca ut wk _).mono ?_
 rw [uh Hs]
 rintro e w1 ⟨rfl,hb⟩
 have kb:Blk w1 w.heap.size 43 #[.int .i64 st,.int .i64 be,.int .i64 rk,.int .i64 my,.int .i64 gu,.int .i64 lo,.int .i64 hi,.int .i64 hd,.int .i64 ca,.int .i64 ut,.int .i64 wk]:=((Blk.new w 43 #[.int .i64 st,.int .i64 be,.int .i64 rk,.int .i64 my,.int .i64 gu,.int .i64 lo,.int .i64 hi,.int .i64 hd,.int .i64 ca,.int .i64 ut,.int .i64 wk]).alloc _).below hb (by simp;omega)
 have ko:Blk w1 (w.heap.size+1) 43 #[.int .i64 0,.int .i64 0,.int .i64 0,.int .i64 0,.int .i64 0,.int .i64 0,.int .i64 0,.int .i64 0,.int .i64 0,.int .i64 0,.int .i64 0]:=by
  have k:=Blk.new (w.alloc (.cells #[.int .i64 st,.int .i64 be,.int .i64 rk,.int .i64 my,.int .i64 gu,.int .i64 lo,.int .i64 hi,.int .i64 hd,.int .i64 ca,.int .i64 ut,.int .i64 wk] 43)) 43 #[.int .i64 0,.int .i64 0,.int .i64 0,.int .i64 0,.int .i64 0,.int .i64 0,.int .i64 0,.int .i64 0,.int .i64 0,.int .i64 0,.int .i64 0]
  rw [World.size_alloc] at k
  exact k.below hb (by simp)
 have hsz:w.heap.size+2<=w1.heap.size:=by have:=hb.size;simp at this;omega
 have hl0:w.heap.size<w1.heap.size:=by omega
 have hl1:w.heap.size+1<w1.heap.size:=by omega
 have B1:=Z9 ((((Below.refl w.heap.size w).alloc (Nat.le_refl _) _).alloc (by simp) _).trans (hb.mono (by simp;omega)))
 have Kb:=Z9 kb
 have Ko:=Z9 ko
 obtain ⟨c0,c1,c2,c3,c4,c5,c6,c7,c8,c9,c10⟩:=kb.c11
 obtain ⟨o0,o1,o2,o3,o4,o5,o6,o7,o8,o9,o10⟩:=ko.c11
 obtain ⟨of0,of1,of2,of3,of4,of5,of6,of7,of8,of9,of10⟩:=ko.f11
 clear hb kb ko
 go_wp2_with (go_at_call 153;refine (Zb _ _).mono ?_;rintro e w' ⟨rfl,h9⟩;subst w')
 refine bodyPost_ret (v:= .tuple #[.agg #[.int .i64 st,.int .i64 be,.int .i64 rk,.int .i64 my,.int .i64 gu,.int .i64 lo,.int .i64 hi,.int .i64 hd,.int .i64 ca,.int .i64 ut,.int .i64 wk],.bool false]) (by simp [results,Tryz.results72,go_sem,o0,o1,o2,o3,o4,o5,o6,o7,o8,o9,o10]) rfl ⟨rfl,?_⟩
 iterate 11 (refine Below.setCell ?_ (by simp) _)
 exact uh B1
theorem EU {st be rk my gu lo hi hd ca ut wk:Int} {rank x:Int} {w:World} (hx:Zr rank=x) (x0:335<=x) (x1:x<=3125) (a0:0<=ca) (a1:ca<=3125) (hs:Zu (st,be,rk,my,gu,lo,hi,hd,ca,ut,wk)=true) (hst:(st ==0)=false) (hw:inB rank (-5) 5=true):Calls Tryz.prog 72 #[.agg #[.int .i64 st,.int .i64 be,.int .i64 rk,.int .i64 my,.int .i64 gu,.int .i64 lo,.int .i64 hi,.int .i64 hd,.int .i64 ca,.int .i64 ut,.int .i64 wk],.int .i64 rank] w fun e w'=>e= .returned (.tuple #[.agg #[.int .i64 st,.int .i64 be,.int .i64 rank,.int .i64 my,.int .i64 gu,.int .i64 lo,.int .i64 hi,.int .i64 hd,.int .i64 (ca%x),.int .i64 ut,.int .i64 wk],.bool true])/\Below w.heap.size w w':=by
 have Hs:=Z9 hs
 have Hx:=Z9 hx
 have hne:¬ x=0:=by omega
 clear hx hs
 go_enter Tryz.func72,Tryz.ntmps72
 go_wp2_with fail
 refine (Xw st be rk my gu lo hi hd ca ut wk _).mono ?_
 rw [uh Hs]
 rintro e w1 ⟨rfl,hb⟩
 have kb:Blk w1 w.heap.size 43 #[.int .i64 st,.int .i64 be,.int .i64 rk,.int .i64 my,.int .i64 gu,.int .i64 lo,.int .i64 hi,.int .i64 hd,.int .i64 ca,.int .i64 ut,.int .i64 wk]:=((Blk.new w 43 #[.int .i64 st,.int .i64 be,.int .i64 rk,.int .i64 my,.int .i64 gu,.int .i64 lo,.int .i64 hi,.int .i64 hd,.int .i64 ca,.int .i64 ut,.int .i64 wk]).alloc _).below hb (by simp;omega)
 have ko:Blk w1 (w.heap.size+1) 43 #[.int .i64 0,.int .i64 0,.int .i64 0,.int .i64 0,.int .i64 0,.int .i64 0,.int .i64 0,.int .i64 0,.int .i64 0,.int .i64 0,.int .i64 0]:=by
  have k:=Blk.new (w.alloc (.cells #[.int .i64 st,.int .i64 be,.int .i64 rk,.int .i64 my,.int .i64 gu,.int .i64 lo,.int .i64 hi,.int .i64 hd,.int .i64 ca,.int .i64 ut,.int .i64 wk] 43)) 43 #[.int .i64 0,.int .i64 0,.int .i64 0,.int .i64 0,.int .i64 0,.int .i64 0,.int .i64 0,.int .i64 0,.int .i64 0,.int .i64 0,.int .i64 0]
  rw [World.size_alloc] at k
  exact k.below hb (by simp)
 have hsz:w.heap.size+2<=w1.heap.size:=by have:=hb.size;simp at this;omega
 have hl0:w.heap.size<w1.heap.size:=by omega
 have hl1:w.heap.size+1<w1.heap.size:=by omega
 have B1:=Z9 ((((Below.refl w.heap.size w).alloc (Nat.le_refl _) _).alloc (by simp) _).trans (hb.mono (by simp;omega)))
 have Kb:=Z9 kb
 have Ko:=Z9 ko
 obtain ⟨c0,c1,c2,c3,c4,c5,c6,c7,c8,c9,c10⟩:=kb.c11
 obtain ⟨o0,o1,o2,o3,o4,o5,o6,o7,o8,o9,o10⟩:=ko.c11
 obtain ⟨of0,of1,of2,of3,of4,of5,of6,of7,of8,of9,of10⟩:=ko.f11
 clear hb kb ko
 have bf2:=(uh Kb).free 2
 go_wp2_with (go_at_call 153;refine (Zb _ _).mono ?_;rintro e w' ⟨rfl,h9⟩;subst w')
 have kb:Blk (w1.setCell ⟨w.heap.size,2,none⟩ (.int .i64 rank)) w.heap.size 43 #[.int .i64 st,.int .i64 be,.int .i64 rank,.int .i64 my,.int .i64 gu,.int .i64 lo,.int .i64 hi,.int .i64 hd,.int .i64 ca,.int .i64 ut,.int .i64 wk]:=(uh Kb).set 2 (.int .i64 rank)
 have ko:Blk (w1.setCell ⟨w.heap.size,2,none⟩ (.int .i64 rank)) (w.heap.size+1) 43 #[.int .i64 0,.int .i64 0,.int .i64 0,.int .i64 0,.int .i64 0,.int .i64 0,.int .i64 0,.int .i64 0,.int .i64 0,.int .i64 0,.int .i64 0]:=(uh Ko).other (a:=⟨w.heap.size,2,none⟩) (by simp) _
 have B2:=Z9 ((uh B1).setCell (p:=⟨w.heap.size,2,none⟩) (Nat.le_refl _) (.int .i64 rank))
 clear c0 o0 of0 c1 o1 of1 c2 o2 of2 c3 o3 of3 c4 o4 of4 c5 o5 of5 c6 o6 of6 c7 o7 of7 c8 o8 of8 c9 o9 of9 c10 o10 of10 bf2 Kb Ko B1 hsz hl0 hl1
 generalize w1.setCell ⟨w.heap.size,2,none⟩ (.int .i64 rank)=W2 at *
 obtain ⟨c0,c1,c2,c3,c4,c5,c6,c7,c8,c9,c10⟩:=kb.c11
 obtain ⟨o0,o1,o2,o3,o4,o5,o6,o7,o8,o9,o10⟩:=ko.c11
 obtain ⟨of0,of1,of2,of3,of4,of5,of6,of7,of8,of9,of10⟩:=ko.f11
 have bf8:=kb.free 8
 clear kb ko
 go_region_with (go_at_call 154;refine (XV (uh Hx) _).mono ?_;rintro e w' ⟨rfl,h9⟩;subst w')
 all_goals
  go_wp2_with fail
  refine bodyPost_ret (v:= .tuple #[.agg #[.int .i64 st,.int .i64 be,.int .i64 rank,.int .i64 my,.int .i64 gu,.int .i64 lo,.int .i64 hi,.int .i64 hd,.int .i64 (ca%x),.int .i64 ut,.int .i64 wk],.bool true]) (by simp [results,Tryz.results72,go_sem,o0,o1,o2,o3,o4,o5,o6,o7,o8,o9,o10]) rfl ⟨rfl,?_⟩
  refine Below.drew ?_
  iterate 12 (refine Below.setCell ?_ (by simp) _)
  exact uh B2
theorem T6 {x:Z2} (h:Zg x=true):Zu x=true:=by unfold Zu;rw [h,Bool.or_true]
theorem Ph {x:Z2} (rank:Int) (hg:Wh x=true):ZE x rank=(Ru,false):=by
 have e:=Vy hg
 subst e
 rfl
theorem Qo {x:Z2} (rank:Int) (hg:Wh x=false) (hp:Zg x=false):ZE x rank=(Ru,false):=by unfold ZE;rw [hp,hg];rfl
theorem MV {x:Z2} {rank:Int} (hp:Zg x=true) (hw:inB rank (-5) 5=false):ZE x rank=(x,false):=by unfold ZE;rw [hp,hw];rfl
theorem Ot {x:Z2} {rank:Int} (hp:Zg x=true) (hw:inB rank (-5) 5=true):ZE x rank=(RL x rank,true):=by unfold ZE;rw [hp,hw];rfl
theorem DJ {st:Int} (h:1<=st):(st ==0)=false:=by simp;omega
theorem OI {x y:Z2} {rank:Int} {q:Bool} (h:ZE x rank=(y,q)) (w:World):Calls Tryz.prog 72 #[.agg (ZR x).toArray,.int .i64 rank] w fun e w'=>e= .returned (.tuple #[.agg (ZR y).toArray,.bool q])/\Below w.heap.size w w':=by
 obtain ⟨st,be,rk,my,gu,lo,hi,hd,ca,ut,wk⟩:=x
 have hz:=PQ rank
 cases hg:Wh (st,be,rk,my,gu,lo,hi,hd,ca,ut,wk)
 ·cases hp:Zg (st,be,rk,my,gu,lo,hi,hd,ca,ut,wk)
  ·rw [Qo rank hg hp] at h
   obtain ⟨rfl,rfl⟩:=Prod.mk.inj h
   exact J1 rank w (by unfold Zu;rw [hg,hp];rfl)
  ·cases hw:inB rank (-5) 5
   ·rw [MV hp hw] at h
    obtain ⟨rfl,rfl⟩:=Prod.mk.inj h
    exact DI rank w (T6 hp) (DJ (Zk hp).1.1) hw
   ·rw [Ot hp hw] at h
    obtain ⟨rfl,rfl⟩:=Prod.mk.inj h
    obtain ⟨⟨s0,s1⟩,_,hr,_,_,_,⟨d0,d1⟩,⟨a0,a1⟩,_,⟨k0,k1⟩⟩:=Zk hp
    have hr0:=V5 hr
    have hr1:=(Uy rk).2
    have a2:ca<=3125:=by omega
    have x0:=V5 hw
    have x1:=(Uy rank).2
    have hs:Zu (RL (st,be,rk,my,gu,lo,hi,hd,ca,ut,wk) rank)=true:=T6 (TY hp hw)
    exact EU rfl x0 x1 a0 a2 (T6 hp) (DJ s0) hw
 ·rw [Ph rank hg] at h
  obtain ⟨rfl,rfl⟩:=Prod.mk.inj h
  cases Vy hg
  exact Hd rank w
end Go.Proofs.YtjhijildaceadaaGreatDoor
