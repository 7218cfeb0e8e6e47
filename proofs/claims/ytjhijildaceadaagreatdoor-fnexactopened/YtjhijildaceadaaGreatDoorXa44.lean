/- Part 44 of what the proof rests on. No condition but those that a theorem names. -/
import Derived.Test.YtjhijildaceadaaGreatDoorXa37
set_option maxHeartbeats 8000000
set_option maxRecDepth 100000
namespace Go.Proofs.YtjhijildaceadaaGreatDoor
open Go.ChangeShapes Go.WideShapes Go.ChangeAt Go.RowKit Go.Sort
set_option linter.unusedVariables false
theorem GG (m:Z4) (who:Int):YT (WS m who).1:=by
 cases h:Zo m
 ·unfold WS;rw [h];exact U6
 ·exact VI (GD h who)
theorem Tk {q:Int->Addr} (hS:(∀ (w:World) (v0 v1 v2 v3 v4:Value) (m:Z4) (who:Int),Smy w v0 v1 v2 v3 v4 m->Calls Tryz.prog 31 #[.agg #[v0,v1,v2,v3,v4,.int .i64 m.now],.int .i64 who] w fun e w'=>Uz w.heap.size (WS m who).1 (WS m who).2 e w'/\Below w.heap.size w w')) (hI:(∀ (w:World) (v0 v1 v2 v3 v4:Value) (m:Z4) (who:Int),Errs w q->Smy w v0 v1 v2 v3 v4 m->Calls Tryz.prog 29 #[.agg #[v0,v1,v2,v3,v4,.int .i64 m.now],.int .i64 who] w fun e w'=>Uz w.heap.size (WS m who).1 (WS m who).2 e w'/\Below w.heap.size w w')) (hlen:∀ (m:Z4) (who:Int),YT (WS m who).1) (v0 v1 v2 v3 v4:Value) (m:Z4) (who:Int) (w:World) (her:Errs w q) (h:Smy w v0 v1 v2 v3 v4 m) :
  Calls Tryz.prog 12 #[.agg #[v0,v1,v2,v3,v4,.int .i64 m.now],.int .i64 who] w fun e w'=>e= .returned (.bool true)/\Below w.heap.size w w':=by
 have HEr:=Z9 her
 clear her
 have HS:=Z9 hS
 have HI:=Z9 hI
 clear hS hI
 have Hv:=Z9 h
 obtain ⟨a0,p0,a1,p1,a2,p2,a3,p3,a4,p4,rfl,rfl,rfl,rfl,rfl,_,_,_,_,_,_,_,_,_,_⟩:=h.five
 clear h
 have hLs:=Z9 (hlen m who)
 have HS1:=Z9 (fun W u0 u1 u2 u3 u4=>uh HS W u0 u1 u2 u3 u4 m who)
 have HI1:=Z9 (fun W u0 u1 u2 u3 u4=>uh HI W u0 u1 u2 u3 u4 m who)
 clear HS HI hlen
 obtain ⟨⟨M,cd⟩,hM⟩:∃ x,WS m who=x:=⟨_,rfl⟩
 rw [hM] at hLs HS1 HI1
 simp only at hLs HS1 HI1
 clear hM
 go_enter Tryz.func12,Tryz.ntmps12
 go_wp2_with fail
 refine (Wn ((uh Hv).alloc _)).mono ?_
 rintro e w1 ⟨x,rfl,hx,hb⟩
 have ka:Hid (Blk w1 w.heap.size 61 #[.slice a0 m.rooms.length p0,.slice a1 m.guilds.length p1,.slice a2 m.smiths.length p2,.slice a3 m.desks.length p3,.slice a4 m.paces.length p4,.int .i64 m.now]):=Z9 ((Blk.new w _ _).below hb (by simp))
 have BB:Hid (Below w.heap.size w w1):=Z9 (((Below.refl _ _).alloc (Nat.le_refl _) _).trans (hb.mono (by simp)))
 have Hx:=Z9 hx
 clear hx hb
 by_cases hx0:x<0
 ·go_wp2_with fail
  go_ret
  exact ⟨rfl,uh BB⟩
 have Hs:=Z9 (uh Hx (by omega))
 have HsM:=hLs
 clear Hx hLs
 obtain ⟨c0,c1,c2,c3,c4,c5⟩:=(uh ka).c6
 go_wp2_with fail
 refine (Zw ((uh Hv).below (uh BB)) (uh Hs)).mono ?_
 rintro e w2 ⟨u0,u1,u2,u3,u4,rfl,ho,hb⟩
 clear c0 c1 c2 c3 c4 c5
 have k2:=ho.smy
 obtain ⟨b0,q0,b1,q1,b2,q2,b3,q3,b4,q4,rfl,rfl,rfl,rfl,rfl,_,_,_,_,_,_,_,_,_,_⟩:=k2.five
 have K2:=Z9 k2
 clear k2 ho
 replace ka:=bl ka hb
 replace BB:=bt BB hb
 have hw2:w.heap.size<w2.heap.size:=(uh ka).lt
 clear hb
 go_wp2_with fail
 refine (uh HS1 _ _ _ _ _ _ (uh K2)).mono ?_
 rintro e w3 ⟨⟨y0,y1,y2,y3,y4,uq,rfl,ho⟩,hb⟩
 have k9:=ho.smy
 obtain ⟨ua0,uc0,ua1,uc1,ua2,uc2,ua3,uc3,ua4,uc4,rfl,rfl,rfl,rfl,rfl,_,_,_,_,_,_,_,_,_,_⟩:=k9.five
 clear k9 K2
 replace ka:=bl ka hb
 replace BB:=bt BB hb
 have HU:=Z9 ho
 have LU:Hid (∀ k,XW (.slice ua0 M.rooms.length uc0) (.slice ua1 M.guilds.length uc1) (.slice ua2 M.smiths.length uc2) (.slice ua3 M.desks.length uc3) (.slice ua4 M.paces.length uc4) uq k->w2.heap.size<=k/\k<w3.heap.size):=Z9 (fun k e=>ho.own e)
 have hw3:w.heap.size<w3.heap.size:=(uh ka).lt
 clear ho hb
 go_upto_region 6 with fail
 have hba:Below w3.heap.size w3 (w3.alloc (.cells #[.slice ua0 M.rooms.length uc0,.slice ua1 M.guilds.length uc1,.slice ua2 M.smiths.length uc2,.slice ua3 M.desks.length uc3,.slice ua4 M.paces.length uc4,.int .i64 M.now] 32)):=(Below.refl _ _).alloc (Nat.le_refl _) _
 replace ka:=bl ka hba
 replace HU:=Z9 ((uh HU).below hba)
 replace BB:=bt BB hba
 have ku:Hid (Blk (w3.alloc (.cells #[.slice ua0 M.rooms.length uc0,.slice ua1 M.guilds.length uc1,.slice ua2 M.smiths.length uc2,.slice ua3 M.desks.length uc3,.slice ua4 M.paces.length uc4,.int .i64 M.now] 32)) w3.heap.size 32 #[.slice ua0 M.rooms.length uc0,.slice ua1 M.guilds.length uc1,.slice ua2 M.smiths.length uc2,.slice ua3 M.desks.length uc3,.slice ua4 M.paces.length uc4,.int .i64 M.now]):=Z9 (Blk.new _ _ _)
 have hsz_W3:w3.heap.size+1<=(w3.alloc (.cells #[.slice ua0 M.rooms.length uc0,.slice ua1 M.guilds.length uc1,.slice ua2 M.smiths.length uc2,.slice ua3 M.desks.length uc3,.slice ua4 M.paces.length uc4,.int .i64 M.now] 32)).heap.size:=by simp
 clear hba
 generalize w3.alloc (.cells #[.slice ua0 M.rooms.length uc0,.slice ua1 M.guilds.length uc1,.slice ua2 M.smiths.length uc2,.slice ua3 M.desks.length uc3,.slice ua4 M.paces.length uc4,.int .i64 M.now] 32)=W3 at *
 generalize w3.heap.size=ub at *
 obtain ⟨c0,c1,c2,c3,c4,c5⟩:=(uh ka).c6
 go_wp2_with fail
 clear c0 c1 c2 c3 c4 c5
 refine (WN ((uh Hv).below (uh BB)) (uh Hs)).mono ?_
 rintro e w4 ⟨z0,z1,z2,z3,z4,xq,rfl,ho,hb⟩
 have k4:=ho.smy
 obtain ⟨d0,r0,d1,r1,d2,r2,d3,r3,d4,r4,rfl,rfl,rfl,rfl,rfl,_,_,_,_,_,_,_,_,_,_⟩:=k4.five
 clear k4
 replace ka:=bl ka hb
 replace HU:=Z9 ((uh HU).below hb)
 replace ku:=bl ku hb
 replace BB:=bt BB hb
 have HX:=Z9 ho
 have LX:Hid (∀ k,XW (.slice d0 m.rooms.length r0) (.slice d1 m.guilds.length r1) (.slice d2 m.smiths.length r2) (.slice d3 m.desks.length r3) (.slice d4 m.paces.length r4) xq k->ub<k/\k<w4.heap.size):=Z9 (fun k e=>⟨Nat.lt_of_lt_of_le (Nat.lt_of_succ_le hsz_W3) (ho.own e).1,(ho.own e).2⟩)
 have hw4:ub+1<=w4.heap.size:=Nat.le_trans hsz_W3 hb.size
 clear ho hb hsz_W3
 go_upto_region 7 with fail
 have hba:Below w4.heap.size w4 (w4.alloc (.cells #[.slice d0 m.rooms.length r0,.slice d1 m.guilds.length r1,.slice d2 m.smiths.length r2,.slice d3 m.desks.length r3,.slice d4 m.paces.length r4,.int .i64 m.now] 32)):=(Below.refl _ _).alloc (Nat.le_refl _) _
 replace ka:=bl ka hba
 replace HU:=Z9 ((uh HU).below hba)
 replace ku:=bl ku hba
 replace HX:=Z9 ((uh HX).below hba)
 replace BB:=bt BB hba
 have kx:Hid (Blk (w4.alloc (.cells #[.slice d0 m.rooms.length r0,.slice d1 m.guilds.length r1,.slice d2 m.smiths.length r2,.slice d3 m.desks.length r3,.slice d4 m.paces.length r4,.int .i64 m.now] 32)) w4.heap.size 32 #[.slice d0 m.rooms.length r0,.slice d1 m.guilds.length r1,.slice d2 m.smiths.length r2,.slice d3 m.desks.length r3,.slice d4 m.paces.length r4,.int .i64 m.now]):=Z9 (Blk.new _ _ _)
 have hsz_W4:w4.heap.size+1<=(w4.alloc (.cells #[.slice d0 m.rooms.length r0,.slice d1 m.guilds.length r1,.slice d2 m.smiths.length r2,.slice d3 m.desks.length r3,.slice d4 m.paces.length r4,.int .i64 m.now] 32)).heap.size:=by simp
 clear hba
 generalize w4.alloc (.cells #[.slice d0 m.rooms.length r0,.slice d1 m.guilds.length r1,.slice d2 m.smiths.length r2,.slice d3 m.desks.length r3,.slice d4 m.paces.length r4,.int .i64 m.now] 32)=W4 at *
 generalize w4.heap.size=xb at *
 obtain ⟨x0,x1,x2,x3,x4,x5⟩:=(uh kx).c6
 go_wp2_with fail
 clear x0 x1 x2 x3 x4 x5
 refine (uh HI1 _ _ _ _ _ _ ((uh HEr).below (uh BB)) (uh HX).smy).mono ?_
 rintro e w5 ⟨⟨y0,y1,y2,y3,y4,gq,rfl,ho⟩,hb⟩
 have k9:=ho.smy
 obtain ⟨ga0,gc0,ga1,gc1,ga2,gc2,ga3,gc3,ga4,gc4,rfl,rfl,rfl,rfl,rfl,_,_,_,_,_,_,_,_,_,_⟩:=k9.five
 clear k9
 replace ka:=bl ka hb
 replace HU:=Z9 ((uh HU).below hb)
 replace ku:=bl ku hb
 replace HX:=Z9 ((uh HX).below hb)
 replace kx:=bl kx hb
 replace BB:=bt BB hb
 have HG:=Z9 ho
 have LG:Hid (∀ k,XW (.slice ga0 M.rooms.length gc0) (.slice ga1 M.guilds.length gc1) (.slice ga2 M.smiths.length gc2) (.slice ga3 M.desks.length gc3) (.slice ga4 M.paces.length gc4) gq k->xb<k/\k<w5.heap.size):=Z9 (fun k e=>⟨Nat.lt_of_lt_of_le (Nat.lt_of_succ_le hsz_W4) (ho.own e).1,(ho.own e).2⟩)
 have hw5:xb+1<=w5.heap.size:=Nat.le_trans hsz_W4 hb.size
 clear ho hb hsz_W4
 obtain ⟨x0,x1,x2,x3,x4,x5⟩:=(uh ku).c6
 go_upto_region 8 with fail
 clear x0 x1 x2 x3 x4 x5
 have hba:Below w5.heap.size w5 (w5.alloc (.cells #[.slice ga0 M.rooms.length gc0,.slice ga1 M.guilds.length gc1,.slice ga2 M.smiths.length gc2,.slice ga3 M.desks.length gc3,.slice ga4 M.paces.length gc4,.int .i64 M.now] 32)):=(Below.refl _ _).alloc (Nat.le_refl _) _
 replace ka:=bl ka hba
 replace HU:=Z9 ((uh HU).below hba)
 replace ku:=bl ku hba
 replace HX:=Z9 ((uh HX).below hba)
 replace kx:=bl kx hba
 replace HG:=Z9 ((uh HG).below hba)
 replace BB:=bt BB hba
 have kg:Hid (Blk (w5.alloc (.cells #[.slice ga0 M.rooms.length gc0,.slice ga1 M.guilds.length gc1,.slice ga2 M.smiths.length gc2,.slice ga3 M.desks.length gc3,.slice ga4 M.paces.length gc4,.int .i64 M.now] 32)) w5.heap.size 32 #[.slice ga0 M.rooms.length gc0,.slice ga1 M.guilds.length gc1,.slice ga2 M.smiths.length gc2,.slice ga3 M.desks.length gc3,.slice ga4 M.paces.length gc4,.int .i64 M.now]):=Z9 (Blk.new _ _ _)
 have hsz_W5:w5.heap.size+1<=(w5.alloc (.cells #[.slice ga0 M.rooms.length gc0,.slice ga1 M.guilds.length gc1,.slice ga2 M.smiths.length gc2,.slice ga3 M.desks.length gc3,.slice ga4 M.paces.length gc4,.int .i64 M.now] 32)).heap.size:=by simp
 clear hba
 generalize w5.alloc (.cells #[.slice ga0 M.rooms.length gc0,.slice ga1 M.guilds.length gc1,.slice ga2 M.smiths.length gc2,.slice ga3 M.desks.length gc3,.slice ga4 M.paces.length gc4,.int .i64 M.now] 32)=W5 at *
 generalize w5.heap.size=gb at *
 clear hsz_W5
 obtain ⟨x0,x1,x2,x3,x4,x5⟩:=(uh ku).c6
 obtain ⟨y0,y1,y2,y3,y4,y5⟩:=(uh kg).c6
 go_wp2_with fail
 clear x0 x1 x2 x3 x4 x5 y0 y1 y2 y3 y4 y5
 refine (ZK (uh HG).smy (uh HU).smy).mono ?_
 rintro e w6 ⟨rfl,hb⟩
 replace ka:=bl ka hb
 replace HU:=Z9 ((uh HU).below hb)
 replace ku:=bl ku hb
 replace HX:=Z9 ((uh HX).below hb)
 replace kx:=bl kx hb
 replace HG:=Z9 ((uh HG).below hb)
 replace kg:=bl kg hb
 replace BB:=bt BB hb
 clear hb
 obtain ⟨c0,c1,c2,c3,c4,c5⟩:=(uh ka).c6
 obtain ⟨x0,x1,x2,x3,x4,x5⟩:=(uh kx).c6
 have V6:=Z9 ((uh Hv).below (uh BB))
 go_upto_region 10 with fail
 go_cut [49] (fun s wc=>s= .bool false/\Below w6.heap.size w6 wc)
 case first=>
  go_region_with (first
   | (go_at_call 50;refine (Zw (m:=m) ?_ (uh Hs)).mono ?_;exact (uh V6).below (Below.refl _ _).drew;rintro e w7 ⟨t0,t1,t2,t3,t4,rfl,ho,hb⟩;have k7:=ho.smy;obtain ⟨f0,j0,rfl,_,_⟩:=IsRooms.shape k7.rooms;obtain ⟨f1,j1,rfl,_,_⟩:=IsRec.shape k7.guilds;obtain ⟨f2,j2,rfl,_,_⟩:=IsRec.shape k7.smiths;obtain ⟨f3,j3,rfl,_,_⟩:=IsRec.shape k7.desks;obtain ⟨f4,j4,rfl,_,_⟩:=IsRec.shape k7.paces;have K7:=Z9 k7;have Hb7:Hid (Below w6.heap.size w6 w7):=Z9 ⟨hb.os,hb.tape,hb.output,hb.size,hb.block⟩;have kx7:=(uh kx).below (uh Hb7) (uh kx).lt;have y0:=kx7.cell (i:=0) (v:= .slice d0 m.rooms.length r0) rfl;have y1:=kx7.cell (i:=1) (v:= .slice d1 m.guilds.length r1) rfl;have y2:=kx7.cell (i:=2) (v:= .slice d2 m.smiths.length r2) rfl;have y3:=kx7.cell (i:=3) (v:= .slice d3 m.desks.length r3) rfl;have y4:=kx7.cell (i:=4) (v:= .slice d4 m.paces.length r4) rfl;have y5:=kx7.cell (i:=5) (v:= .int .i64 m.now) rfl;clear k7 ho hb kx7)
   | (go_at_call 51;refine (ZK (m:=m) ?_ ?_).mono ?_;exact ((uh HX).below (uh Hb7)).smy;exact uh K7;rintro e w8 ⟨rfl,hb⟩;have Hb8:=Z9 hb;clear hb))
  all_goals
   go_wp2_with fail
   go_meet
   exact ⟨rfl,(uh Hb7).trans ((uh Hb8).mono (uh Hb7).size)⟩
 case rest=>
  obtain ⟨rfl,hb⟩:=hcut
  obtain ⟨w8,rfl⟩:∃ x,x=wc:=⟨wc,rfl⟩
  clear c0 c1 c2 c3 c4 c5 x0 x1 x2 x3 x4 x5
  replace ka:=bl ka hb
  replace HU:=Z9 ((uh HU).below hb)
  replace ku:=bl ku hb
  replace HX:=Z9 ((uh HX).below hb)
  replace kx:=bl kx hb
  replace HG:=Z9 ((uh HG).below hb)
  replace kg:=bl kg hb
  replace BB:=bt BB hb
  clear hb V6
  obtain ⟨x0,x1,x2,x3,x4,x5⟩:=(uh kx).c6
  go_wp2_with fail
  clear x0 x1 x2 x3 x4 x5
  refine (Za 1 ((uh HX).mono (n₁:=0) (Nat.zero_le _)) (uh Hs) (Nat.zero_le _) (by omega) (by omega)).mono ?_
  rintro e w9 ⟨rfl,_,hon⟩
  have hen:=VM (uh Hs) (uh HX).rooms
  generalize SI 1 m xq=em at *
  have hwle:=(uh BB).size
  replace HU:=Z9 ((uh HU).keep fun k e=>hon.at ((uh HU).own e).2 fun e9=>by have h1:=uh LU k e;have h2:=uh LX k e9;omega)
  replace HG:=Z9 ((uh HG).keep fun k e=>hon.at ((uh HG).own e).2 fun e9=>by have h1:=uh LG k e;have h2:=uh LX k e9;omega)
  replace ku:=Z9 ((uh ku).same (hon.at (uh ku).lt fun e9=>by have h2:=uh LX _ e9;omega))
  replace kg:=Z9 ((uh kg).same (hon.at (uh kg).lt fun e9=>by have h2:=uh LX _ e9;omega))
  replace ka:=Z9 ((uh ka).same (hon.at (uh ka).lt fun e9=>by have h2:=uh LX _ e9;omega))
  replace BB:=Z9 ((uh BB).trans (hon.below hwle (fun k e=>by have h2:=uh LX k e;omega)))
  clear hon kx HX hwle
  have hk0:¬ em<0:=by omega
  obtain ⟨x0,x1,x2,x3,x4,x5⟩:=(uh ku).c6
  obtain ⟨y0,y1,y2,y3,y4,y5⟩:=(uh kg).c6
  go_wp2_with fail
  clear x0 x1 x2 x3 x4 x5 y0 y1 y2 y3 y4 y5
  refine (ZK (uh HG).smy (uh HU).smy).mono ?_
  rintro e w10 ⟨rfl,hb⟩
  replace ka:=bl ka hb
  replace HU:=Z9 ((uh HU).below hb)
  replace ku:=bl ku hb
  replace HG:=Z9 ((uh HG).below hb)
  replace kg:=bl kg hb
  replace BB:=bt BB hb
  clear hb
  obtain ⟨y0,y1,y2,y3,y4,y5⟩:=(uh kg).c6
  go_wp2_with fail
  clear y0 y1 y2 y3 y4 y5
  refine (Za 1 ((uh HG).mono (n₁:=0) (Nat.zero_le _)) (uh HsM) (Nat.zero_le _) (by omega) (by omega)).mono ?_
  rintro e w11 ⟨rfl,hgm,hon⟩
  have hgr:=(uh HG).rooms
  have hen2:=VM (uh HsM) hgr
  have hwle:=(uh BB).size
  replace HU:=Z9 ((uh HU).keep fun k e=>hon.at ((uh HU).own e).2 fun e9=>by have h1:=uh LU k e;have h2:=uh LG k e9;omega)
  replace ku:=Z9 ((uh ku).same (hon.at (uh ku).lt fun e9=>by have h2:=uh LG _ e9;omega))
  replace kg:=Z9 ((uh kg).same (hon.at (uh kg).lt fun e9=>by have h2:=uh LG _ e9;omega))
  replace ka:=Z9 ((uh ka).same (hon.at (uh ka).lt fun e9=>by have h2:=uh LG _ e9;omega))
  replace BB:=Z9 ((uh BB).trans (hon.below hwle (fun k e=>by have h2:=uh LG k e;omega)))
  replace HG:=Z9 hgm
  have Hgr:=Z9 hgr
  clear hgm hon hwle hgr
  obtain ⟨y0,y1,y2,y3,y4,y5⟩:=(uh kg).c6
  go_wp2_with fail
  clear y0 y1 y2 y3 y4 y5
  refine (Y8 1 (uh HG) (uh HsM).rooms (uh Hgr) (uh HsM) (by omega) (by omega)).mono ?_
  rintro e w12 ⟨rfl,hb⟩
  replace ka:=bl ka hb
  replace HU:=Z9 ((uh HU).below hb)
  replace ku:=bl ku hb
  replace HG:=Z9 ((uh HG).below hb)
  replace kg:=bl kg hb
  replace BB:=bt BB hb
  clear hb
  have Hen2:=Z9 hen2
  obtain ⟨en,hene⟩:∃ x,SI 1 M gq=x:=⟨_,rfl⟩
  have hnn:¬ en<0:=by rw [<-hene];omega
  have Hene:=Z9 hene
  rw [hene]
  clear hene hen2
  obtain ⟨c0,c1,c2,c3,c4,c5⟩:=(uh ka).c6
  go_wp2_with fail
  clear c0 c1 c2 c3 c4 c5
  refine (Zw ((uh Hv).below (uh BB)) (uh Hs)).mono ?_
  rintro e w13 ⟨s0,s1,s2,s3,s4,rfl,ho,hb⟩
  have k13:=ho.smy
  obtain ⟨f0,j0,f1,j1,f2,j2,f3,j3,f4,j4,rfl,rfl,rfl,rfl,rfl,_,_,_,_,_,_,_,_,_,_⟩:=k13.five
  have K13:=Z9 k13
  clear k13 ho
  replace ka:=bl ka hb
  replace HU:=Z9 ((uh HU).below hb)
  replace ku:=bl ku hb
  replace HG:=Z9 ((uh HG).below hb)
  replace kg:=bl kg hb
  replace BB:=bt BB hb
  clear hb
  go_wp2_with fail
  refine (uh HI1 _ _ _ _ _ _ ((uh HEr).below (uh BB)) (uh K13)).mono ?_
  rintro e w14 ⟨⟨y0,y1,y2,y3,y4,hq,rfl,ho⟩,hb⟩
  have k9:=ho.smy
  obtain ⟨ha0,hc0,ha1,hc1,ha2,hc2,ha3,hc3,ha4,hc4,rfl,rfl,rfl,rfl,rfl,_,_,_,_,_,_,_,_,_,_⟩:=k9.five
  clear ho K13
  replace ka:=bl ka hb
  replace HU:=Z9 ((uh HU).below hb)
  replace ku:=bl ku hb
  replace HG:=Z9 ((uh HG).below hb)
  replace kg:=bl kg hb
  replace BB:=bt BB hb
  have HH:=Z9 k9
  clear k9 hb
  go_upto_region 25 with fail
  have hba:Below w14.heap.size w14 (w14.alloc (.cells #[.slice ha0 M.rooms.length hc0,.slice ha1 M.guilds.length hc1,.slice ha2 M.smiths.length hc2,.slice ha3 M.desks.length hc3,.slice ha4 M.paces.length hc4,.int .i64 M.now] 32)):=(Below.refl _ _).alloc (Nat.le_refl _) _
  replace ka:=bl ka hba
  replace HU:=Z9 ((uh HU).below hba)
  replace ku:=bl ku hba
  replace HG:=Z9 ((uh HG).below hba)
  replace kg:=bl kg hba
  replace HH:=Z9 ((uh HH).below hba)
  replace BB:=bt BB hba
  have kh:Hid (Blk (w14.alloc (.cells #[.slice ha0 M.rooms.length hc0,.slice ha1 M.guilds.length hc1,.slice ha2 M.smiths.length hc2,.slice ha3 M.desks.length hc3,.slice ha4 M.paces.length hc4,.int .i64 M.now] 32)) w14.heap.size 32 #[.slice ha0 M.rooms.length hc0,.slice ha1 M.guilds.length hc1,.slice ha2 M.smiths.length hc2,.slice ha3 M.desks.length hc3,.slice ha4 M.paces.length hc4,.int .i64 M.now]):=Z9 (Blk.new _ _ _)
  have hsz_W14:w14.heap.size+1<=(w14.alloc (.cells #[.slice ha0 M.rooms.length hc0,.slice ha1 M.guilds.length hc1,.slice ha2 M.smiths.length hc2,.slice ha3 M.desks.length hc3,.slice ha4 M.paces.length hc4,.int .i64 M.now] 32)).heap.size:=by simp
  clear hba
  generalize w14.alloc (.cells #[.slice ha0 M.rooms.length hc0,.slice ha1 M.guilds.length hc1,.slice ha2 M.smiths.length hc2,.slice ha3 M.desks.length hc3,.slice ha4 M.paces.length hc4,.int .i64 M.now] 32)=W14 at *
  generalize w14.heap.size=hb2 at *
  clear hsz_W14
  obtain ⟨x0,x1,x2,x3,x4,x5⟩:=(uh ku).c6
  obtain ⟨y0,y1,y2,y3,y4,y5⟩:=(uh kh).c6
  go_wp2_with fail
  clear x0 x1 x2 x3 x4 x5 y0 y1 y2 y3 y4 y5
  refine (ZK (uh HH) (uh HU).smy).mono ?_
  rintro e w15 ⟨rfl,hb⟩
  replace ka:=bl ka hb
  replace HU:=Z9 ((uh HU).below hb)
  replace ku:=bl ku hb
  replace HG:=Z9 ((uh HG).below hb)
  replace kg:=bl kg hb
  replace HH:=Z9 ((uh HH).below hb)
  replace kh:=bl kh hb
  replace BB:=bt BB hb
  clear hb
  obtain ⟨y0,y1,y2,y3,y4,y5⟩:=(uh kg).c6
  go_wp2_with fail
  clear y0 y1 y2 y3 y4 y5
  refine (Y8 1 (uh HG) (uh HsM).rooms (uh Hgr) (uh HsM) (by omega) (by omega)).mono ?_
  rw [uh Hene]
  rintro e w16 ⟨rfl,hb⟩
  replace ka:=bl ka hb
  replace HU:=Z9 ((uh HU).below hb)
  replace ku:=bl ku hb
  replace HG:=Z9 ((uh HG).below hb)
  replace kg:=bl kg hb
  replace HH:=Z9 ((uh HH).below hb)
  replace kh:=bl kh hb
  replace BB:=bt BB hb
  clear hb
  go_wp2_with fail
  go_ret
  exact ⟨rfl,uh BB⟩
theorem Rr (v0 v1 v2 v3 v4:Value) (m:Z4) (who:Int) (w:World) (h:Smy w v0 v1 v2 v3 v4 m) (her:∃ q,Errs w q) :
  Calls Tryz.prog 12 #[.agg #[v0,v1,v2,v3,v4,.int .i64 m.now],.int .i64 who] w fun e w'=>e= .returned (.bool true)/\Below w.heap.size w w':=by
 obtain ⟨q,he⟩:=her
 exact Tk (fun _ _ _ _ _ _ _ who h=>OG who h) (fun _ _ _ _ _ _ _ who he h=>NH who he h) (fun m who=>GG m who) v0 v1 v2 v3 v4 m who w he h
end Go.Proofs.YtjhijildaceadaaGreatDoor
