/- Part 28 of what the proof rests on. No condition but those that a theorem names. -/
import Derived.Test.YtgdpaigcmoifbaaGreatDoorXr23
import Derived.Test.YtgdpaigcmoifbaaGreatDoorXr24
set_option maxHeartbeats 8000000
set_option maxRecDepth 100000
namespace Go.Proofs.YtgdpaigcmoifbaaGreatDoor
open Go.ChangeShapes Go.WideShapes Go.ChangeAt Go.RowKit Go.Sort Go.Proofs.Tryz
set_option linter.unusedVariables false
set_option maxRecDepth 100000
theorem Lm {m:Z3} {b:Int} {k:Nat} (hk:k<(ZS (atB b) m.sm m.sm.length).length):∃ i:Nat,i<m.sm.length/\Z8 (ZS (atB b) m.sm m.sm.length) k=(i:Int):=by
 obtain ⟨i,hi,e,_⟩:=(Wd (atB b) m.sm _ m.sm.length).1 (Vv hk);exact ⟨i,hi,e⟩
theorem IJ {w:World} {v0 v1 v2 v3 v4:Value} {m M:Z3} (b:Int) (h:Smy w v0 v1 v2 v3 v4 m) (hL:Loose M) (hM:M.sm=m.sm):Calls prog 167 #[.agg #[v0,v1,v2,v3,v4,.int .i64 m.now],.int .i64 b] w fun e w'=> ∃ v',e= .returned v'/\EntsAt w.heap.size w' v' (atV m.sm b m.sm.length)/\Below w.heap.size w w':=by
 have Hv:=Z9 ((h.alloc (.cells #[v0,v1,v2,v3,v4,.int .i64 m.now] 39)).alloc (.cells #[] 138));have HV0:=Z9 h;obtain ⟨a0,p0,a1,p1,a2,p2,a3,p3,a4,p4,rfl,rfl,rfl,rfl,rfl,_,_,_,_,_,_,_,_,_,_⟩:=h.five;clear h;have hl:m.sm.length<=1000:=by rw [<-hM];have:=(Ol hL).sm;omega
 have HL:Hid (∀ k,YP (WC m.sm ((ZS (atB b) m.sm m.sm.length).take k))=true):=Z9 (fun k=>by have:=IE hL b k;rw [hM] at this;exact this);clear hL hM;have kb:Hid (Blk ((w.alloc (.cells (S6 a0 p0 a1 p1 a2 p2 a3 p3 a4 p4 m) 39)).alloc (.cells #[] 138)) w.heap.size 39 (S6 a0 p0 a1 p1 a2 p2 a3 p3 a4 p4 m)):=Z9 ((Blk.new w _ _).alloc _);have BB:Hid (Below w.heap.size w ((w.alloc (.cells (S6 a0 p0 a1 p1 a2 p2 a3 p3 a4 p4 m) 39)).alloc (.cells #[] 138))):=Z9 (((ba _ _)).alloc (by simp) _);have HE:Hid (EntsAt w.heap.size ((w.alloc (.cells (S6 a0 p0 a1 p1 a2 p2 a3 p3 a4 p4 m) 39)).alloc (.cells #[] 138)) (.slice (some ⟨w.heap.size+1,0,none⟩) 0 0) []):=Z9 (Wl (by simp) (by simp));go_enter func167,ntmps167;go_upto_region 2 with fail;generalize (w.alloc (.cells (S6 a0 p0 a1 p1 a2 p2 a3 p3 a4 p4 m) 39)).alloc (.cells #[] 138)=W at *;obtain ⟨c0,c1,c2,c3,c4,c5⟩:=(uh kb).c6;go_wp2_with fail;refine (TE b (uh Hv) hl).mono ?_;rintro e w1 ⟨vn,rfl,hn,hb⟩;obtain ⟨na,nc,rfl⟩:=RecAt.shape hn;have HN0:=Z9 (RecAt.mono hn (uh BB).size);have Hv1:=Z9 ((uh Hv).below hb);have kb1:=Z9 ((uh kb).below hb (uh kb).lt);have BB1:=Z9 ((uh BB).trans (hb.mono (uh BB).size));have HE1:=Z9 ((uh HE).later hb);clear hb hn c0 c1 c2 c3 c4 c5 Hv kb BB HE;have Hq:=Z9 (RY m.sm b m.sm.length);have Hwh:=Z9 (fun k hk=>Lm (m:=m) (b:=b) (k:=k) hk);have Hpq:=HL;clear HL;have hwl:=Wc (atB b) m.sm m.sm.length;generalize ZS (atB b) m.sm m.sm.length=ws at *;go_wp2_with fail
 go_loopw [5,13] (fun l i wr=> ∃ k:Nat,k<=ws.length/\i= .int .i64 k/\EntsAt w.heap.size wr l (WC m.sm (ws.take k))/\NumsAt w.heap.size wr (.slice na ws.length nc) ws/\Blk wr w.heap.size 39 (S6 a0 p0 a1 p1 a2 p2 a3 p3 a4 p4 m)/\Smy wr (.slice a0 m.rm.length p0) (.slice a1 m.gd.length p1) (.slice a2 m.sm.length p2) (.slice a3 m.dk.length p3) (.slice a4 m.pc.length p4) m/\Below w.heap.size w wr) (fun _ i _=>ws.length-(intOf i).toNat)
 case atStart=>exact ⟨0,ZR _,rfl,uh HE1,uh HN0,uh kb1,uh Hv1,uh BB1⟩
 case round=>
  obtain ⟨k,hk,rfl,he,hn,hkb,hv,hb0⟩:=hrel;obtain ⟨la,lc,rfl⟩:=EntsAt.shape he;have HE:=Z9 he;have HN:=Z9 hn;have kb:=Z9 hkb;have Hv:=Z9 hv;have BB:=Z9 hb0;clear he hn hkb hv hb0 HE1 HN0 kb1 Hv1 BB1;by_cases hlt:k<ws.length
  ·have hlt1:(k:Int)<(ws.length:Int):=by omega
   obtain ⟨g,hga,_,_,hcl,_⟩:=RecAt.view Yd (by omega) (uh HN) rfl (by omega);cases hga;have z0:=hcl k hlt 0 _ rfl;simp only [Nat.mul_one,Nat.add_zero] at z0;obtain ⟨i,hi,hiw⟩:=uh Hwh k hlt;rw [hiw] at z0;have hi1:(i:Int)<(m.sm.length:Int):=by omega
   obtain ⟨_,_,hse,_,_,r2⟩:=(uh Hv).sm;cases hse
   rcases r2 with e0 | ⟨sb,off,rfl,hbw,hcs⟩
   ·rw [e0] at hi;simp at hi
   obtain ⟨_,_,_,_,_,_,_,d7,_⟩:=ZB hcs hi;have HT:Hid (WC m.sm (ws.take (k+1))=V9 (WC m.sm (ws.take k)) (Wy (Z8 m.sm i),(i:Int))):=Z9 (by rw [RC hlt,Rw,hiw];simp);have hq1:=uh Hpq k;have hq2:=uh Hpq (k+1);rw [uh HT] at hq2;have HQ:=Z9 (Qn hq1 hq2);clear hcl hcs hq1 hq2;have e7:(Z8 m.sm i).2.2.2.2.2.2.2.1=Wy (Z8 m.sm i):=rfl;rw [e7] at d7;clear e7;generalize Wy (Z8 m.sm i)=hd at *;have c2:=(uh kb).cell (i:=2) (v:= .slice (some ⟨sb,off,none⟩) m.sm.length p2) rfl;go_wp2_with fail;refine (OC hd (i:Int) (uh HE).pc).mono ?_;rw [uh HQ];rintro e w2 ⟨⟨v',rfl,he⟩,hb⟩;obtain ⟨ua,uc,rfl⟩:=EntsAt.shape he;have HE2:=Z9 (he.mono (uh BB).size);replace HN:=Z9 (RecAt.later (uh HN) hb);replace kb:=bl kb hb;replace Hv:=Z9 ((uh Hv).below hb);replace BB:=bt BB hb;clear hb he c2 d7 z0;go_wp2_with fail;go_roundw
   case rel=>exact ⟨k+1,by omega,by go_num,by rw [uh HT];exact uh HE2,uh HN,uh kb,uh Hv,uh BB⟩
   case measure=>exact ms
  ·obtain rfl:k=ws.length:=by omega
   have HE3:Hid (EntsAt w.heap.size wr (.slice la (WC m.sm (ws.take ws.length)).length lc) (atV m.sm b m.sm.length)):=Z9 (by
    have h9:=uh HE;have e9:WC m.sm (ws.take ws.length)=atV m.sm b m.sm.length:=by rw [List.take_length,uh Hq]
    rw [<-e9]
    exact h9)
   go_wp2_with fail;go_ret;exact ⟨_,rfl,uh HE3,uh BB⟩
theorem Kz {w:World} {v0 v1 v2 v3 v4:Value} {m:Z3} (b:Int) (h:Smy w v0 v1 v2 v3 v4 m) (hL:Loose m):Calls prog 167 #[.agg #[v0,v1,v2,v3,v4,.int .i64 m.now],.int .i64 b] w fun e w'=> ∃ v',e= .returned v'/\EntsAt w.heap.size w' v' (atV m.sm b m.sm.length)/\Below w.heap.size w w':=IJ b h hL rfl
theorem Pv {w:World} {v0 v1 v2 v3 v4:Value} {m:Z3} {k:Nat} (h:Smy w v0 v1 v2 v3 v4 m) (hL:Wants m) (hk:k<m.sm.length) (hs:(Z8 m.sm k).1 ≠ 0):cB 205 #[.agg #[v0,v1,v2,v3,v4,.int .i64 m.now],.int .i64 (k:Int)] w (.int .i64 (Zy m (k:Int))):=by
 have hw:Zy m (k:Int)=Pw m.gd (Z8 m.sm k):=rfl;rw [hw];clear hw;have Hg0:=Z9 h.gd;obtain ⟨a0,p0,rfl,_,_⟩:=IsRooms.shape h.rm;obtain ⟨a1,p1,rfl,_,_⟩:=IsRec.shape h.gd;obtain ⟨a2,p2,rfl,hc2,hm2,r2⟩:=h.sm;obtain ⟨a3,p3,rfl,_,_⟩:=IsRec.shape h.dk;obtain ⟨a4,p4,rfl,_,_⟩:=IsRec.shape h.pc;clear h;obtain ⟨hg1,hpair⟩:=hL.each k hk hs
 rcases r2 with e0 | ⟨sb,off,rfl,hbw,hcl⟩
 ·rw [e0] at hk;simp at hk
 have hk1:(k:Int)<(m.sm.length:Int):=by omega
 obtain ⟨d0,d1,d2,d3,d4,d5,d6,d7,d8,d9,d10⟩:=ZB hcl hk;clear hcl hs hL;generalize Z8 m.sm k=ss at *;obtain ⟨st,be,rk,my,gu,lo,hi,hd,ca,ut,wk⟩:=ss;simp only at d0 d1 d2 d3 d4 d5 d6 d7 d8 d9 d10 hg1 hpair;obtain ⟨nr,hnr⟩:=ZI (VE (bnd m.gd gu) lo hi);have HW:Hid (Uq m.gd gu lo hi=nr):=Z9 (by rw [<-hnr];exact Nv hg1 hpair);have HX:Hid (Pw m.gd (st,be,rk,my,gu,lo,hi,hd,ca,ut,wk)=min (max ut nr.1) nr.2):=Z9 (by rw [<-hnr];rfl);rw [uh HX];clear hpair hg1 HX hnr;obtain ⟨nl,nh⟩:=nr;dsimp only;have hne:sb ≠ w.heap.size:=Vd hbw;have hbw2:sb<w.heap.size+1:=by omega
 have BB:Hid (Below w.heap.size w ((w.alloc (.cells #[.slice a0 m.rm.length p0,.slice a1 m.gd.length p1,.slice (some ⟨sb,off,none⟩) m.sm.length p2,.slice a3 m.dk.length p3,.slice a4 m.pc.length p4,.int .i64 m.now] 39)).alloc (.cells (I11 st be rk my gu lo hi hd ca ut wk) 59))):=Z9 (((ba _ _)).alloc (by simp) _)
 have ks:Hid (Blk ((w.alloc (.cells #[.slice a0 m.rm.length p0,.slice a1 m.gd.length p1,.slice (some ⟨sb,off,none⟩) m.sm.length p2,.slice a3 m.dk.length p3,.slice a4 m.pc.length p4,.int .i64 m.now] 39)).alloc (.cells (I11 st be rk my gu lo hi hd ca ut wk) 59)) (w.heap.size+1) 59 (I11 st be rk my gu lo hi hd ca ut wk)):=Z9 (by
  have k9:=Blk.new (w.alloc (.cells #[.slice a0 m.rm.length p0,.slice a1 m.gd.length p1,.slice (some ⟨sb,off,none⟩) m.sm.length p2,.slice a3 m.dk.length p3,.slice a4 m.pc.length p4,.int .i64 m.now] 39)) 59 (I11 st be rk my gu lo hi hd ca ut wk);rw [YW] at k9
  exact k9)
 have kb:Hid (Blk ((w.alloc (.cells #[.slice a0 m.rm.length p0,.slice a1 m.gd.length p1,.slice (some ⟨sb,off,none⟩) m.sm.length p2,.slice a3 m.dk.length p3,.slice a4 m.pc.length p4,.int .i64 m.now] 39)).alloc (.cells (I11 st be rk my gu lo hi hd ca ut wk) 59)) w.heap.size 39 #[.slice a0 m.rm.length p0,.slice a1 m.gd.length p1,.slice (some ⟨sb,off,none⟩) m.sm.length p2,.slice a3 m.dk.length p3,.slice a4 m.pc.length p4,.int .i64 m.now]):=Z9 ((Blk.new w _ _).alloc _);have Hg2:=Z9 ((uh Hg0).below (uh BB));go_enter func205,ntmps205;go_upto_region 2 with fail;generalize (w.alloc (.cells #[.slice a0 m.rm.length p0,.slice a1 m.gd.length p1,.slice (some ⟨sb,off,none⟩) m.sm.length p2,.slice a3 m.dk.length p3,.slice a4 m.pc.length p4,.int .i64 m.now] 39)).alloc (.cells (I11 st be rk my gu lo hi hd ca ut wk) 59)=W at *;clear d0 d1 d2 d3 d4 d5 d6 d7 d8 d9 d10;have c1:=(uh kb).cell (i:=1) (v:= .slice a1 m.gd.length p1) rfl;have s4:=(uh ks).cell (i:=4) (v:= .int .i64 gu) rfl;have s5:=(uh ks).cell (i:=5) (v:= .int .i64 lo) rfl;have s6:=(uh ks).cell (i:=6) (v:= .int .i64 hi) rfl;go_wp2_with fail;refine (OF gu lo hi (uh Hg2)).mono ?_;rw [uh HW];rintro e w1 ⟨rfl,hb⟩;replace ks:=bl ks hb;replace BB:=bt BB hb;clear hb c1 s4 s5 s6 HW;have s9:=(uh ks).cell (i:=9) (v:= .int .i64 ut) rfl;go_wp2_with (go_at_call 200;refine (VV _ _ _ _).mono ?_;rintro e w' ⟨rfl,h9⟩;subst w')
 go_ret;exact ⟨rfl,uh BB⟩
theorem Jg {w:World} {v0 v1 v2 v3 v4:Value} {m:Z3} {k:Nat} (h:Smy w v0 v1 v2 v3 v4 m) (hL:Loose m) (hk:k<m.sm.length) (hs:(Z8 m.sm k).1 ≠ 0):cB 205 #[.agg #[v0,v1,v2,v3,v4,.int .i64 m.now],.int .i64 (k:Int)] w (.int .i64 (Zy m (k:Int))):=Pv h hL.wants hk hs
theorem Fb {m:Z3} (who:Int):Xd m who=(XW m.sm.length who && !((Z8 m.sm who.toNat).1 ==0)):=by unfold Xd;rw [D9]
theorem U3 {w:World} {v0 v1 v2 v3 v4:Value} {m:Z3} {who:Int} {q:Bool} (hq:Xd m who=q) (h:Smy w v0 v1 v2 v3 v4 m):cB 81 #[.agg #[v0,v1,v2,v3,v4,.int .i64 m.now],.int .i64 who] w (.bool q):=by
 rw [Fb] at hq;have Hq:=Z9 hq;clear hq;obtain ⟨a0,p0,a1,p1,a2,p2,a3,p3,a4,p4,rfl,rfl,rfl,rfl,rfl,K⟩:=Bx.new h;clear h;go_enter func81,ntmps81;go_wp2_with fail;generalize w.alloc (.cells (S6 a0 p0 a1 p1 a2 p2 a3 p3 a4 p4 m) 39)=W at *;obtain ⟨c0,c1,c2,c3,c4,c5⟩:=K.cells;go_wp2_with fail;refine ck (XM _ _ _ _ _ _ _ _ _ _ _ _ _ _ _ _ _) fun w2 hb=> ?_;replace K:=K.next hb;clear hb c0 c1 c2 c3 c4 c5;obtain ⟨qh,Hh⟩:=WH (XW m.sm.length who);go_wp2_with fail;refine (LP _ _ _ who _).mono ?_;rw [uh Hh];rintro e w3 ⟨rfl,h9⟩;subst w3;cases qh
 ·obtain rfl:q=false:=by rw [<-uh Hq,uh Hh];rfl
  go_wp2_with fail;go_ret;exact ⟨rfl,K.bb⟩
 have hwb:0<=who/\who<(m.sm.length:Int):=by have:=uh Hh;unfold XW at this;simpa using this
 obtain ⟨k,rfl⟩:∃ k:Nat,who=k:=⟨who.toNat,by omega⟩
 have hk:k<m.sm.length:=by omega
 have hk1:(k:Int)<(m.sm.length:Int):=by omega
 obtain ⟨_,_,hse,_,_,r2⟩:=K.smy.sm;cases hse
 rcases r2 with e0 | ⟨sb,off,rfl,hbw,hcl⟩
 ·rw [e0] at hk;simp at hk
 obtain ⟨d0,d1,d2,d3,d4,d5,d6,d7,d8,d9,d10⟩:=ZB hcl hk;obtain ⟨_,_,c2,_,_,_⟩:=K.cells;have HS:Hid (q= !((Z8 m.sm k).1 ==0)):=Z9 (by rw [<-uh Hq,uh Hh,Zm];rfl);clear hcl;generalize Z8 m.sm k=ss at *;obtain ⟨st,be,rk,my,gu,lo,hi,hd,ca,ut,wk⟩:=ss;simp only at d0 d1 d2 d3 d4 d5 d6 d7 d8 d9 d10;go_wp2_with fail;refine ck (WQ st be rk my gu lo hi hd ca ut wk _) fun w4 hb=> ?_;replace K:=K.next hb;clear hb c2 d0 d1 d2 d3 d4 d5 d6 d7 d8 d9 d10;obtain rfl:q= !(st ==0):=uh HS;go_wp2_with fail;go_ret;exact ⟨rfl,K.bb⟩
theorem OE {w:World} {v0 v1 v2 v3 v4:Value} {m:Z3} {who q:Int} (hq:SN m who=q) (h:Smy w v0 v1 v2 v3 v4 m):cB 175 #[.agg #[v0,v1,v2,v3,v4,.int .i64 m.now],.int .i64 who] w (.int .i64 q):=by
 have Hq:=Z9 hq;clear hq;obtain ⟨ok,Hok⟩:=WH (Zl m);obtain ⟨a0,p0,a1,p1,a2,p2,a3,p3,a4,p4,rfl,rfl,rfl,rfl,rfl,K⟩:=Bx.new h;clear h;go_enter func175,ntmps175;go_wp2_with fail;generalize w.alloc (.cells (S6 a0 p0 a1 p1 a2 p2 a3 p3 a4 p4 m) 39)=W at *;refine ck (Ta _ _ _ _ _ _ _ _ (uh Hok) K.smy) fun w1 hb=> ?_;replace K:=K.next hb;clear hb;cases ok
 ·obtain rfl:q= -1:=by rw [<-uh Hq];unfold SN;rw [uh Hok];rfl
  go_wp2_with fail;go_ret;exact ⟨rfl,K.bb⟩
 obtain ⟨qh,Hh⟩:=WH (Xd m who);obtain ⟨c0,c1,c2,c3,c4,c5⟩:=K.cells;go_wp2_with fail;refine ck (U3 (uh Hh) K.smy) fun w2 hb=> ?_;replace K:=K.next hb;clear hb c0 c1 c2 c3 c4 c5;cases qh
 ·obtain rfl:q= -1:=by rw [<-uh Hq];unfold SN;rw [uh Hh];simp
  go_wp2_with fail;go_ret;exact ⟨rfl,K.bb⟩
 obtain ⟨k,rfl,hk,hs⟩:=Xn (uh Hh);obtain rfl:q=Zy m (k:Int):=by rw [<-uh Hq];unfold SN;rw [uh Hok,uh Hh];rfl
 obtain ⟨c0,c1,c2,c3,c4,c5⟩:=K.cells;go_wp2_with fail;refine ck (Jg K.smy (Za (uh Hok)) hk hs) fun w3 hb=> ?_;replace K:=K.next hb;clear hb c0 c1 c2 c3 c4 c5;go_wp2_with fail;go_ret;exact ⟨rfl,K.bb⟩
set_option maxRecDepth 100000
theorem R8 {w:World} {v0 v1 v2 v3 v4:Value} {m:Z3} {b q:Int} (hq:Zu m b (-1)=q) (h:Smy w v0 v1 v2 v3 v4 m) (hW:Wants m) (hl:m.sm.length<=12):cB 256 #[.agg #[v0,v1,v2,v3,v4,.int .i64 m.now],.int .i64 b] w (.int .i64 q):=by
 have Hq:=Z9 hq;clear hq;have HW:=Z9 hW;clear hW;obtain ⟨a0,p0,a1,p1,a2,p2,a3,p3,a4,p4,rfl,rfl,rfl,rfl,rfl,K⟩:=Bx.new h;clear h;go_enter func256,ntmps256;go_upto_region 2 with fail;generalize w.alloc (.cells (S6 a0 p0 a1 p1 a2 p2 a3 p3 a4 p4 m) 39)=W at *;obtain ⟨c0,c1,c2,c3,c4,c5⟩:=K.cells;go_wp2_with fail;refine (TE b K.smy (by omega)).mono ?_;rintro e w1 ⟨vn,rfl,hn,hb⟩;obtain ⟨na,nc,rfl⟩:=RecAt.shape hn;have HN:=Z9 hn;replace K:=K.next hb;clear hb hn c0 c1 c2 c3 c4 c5;have Hwh:=Z9 (fun k hk=>Lm (m:=m) (b:=b) (k:=k) hk);have Hat:=Z9 (fun x hx=>(Wd (atB b) m.sm x m.sm.length).1 hx);have hwl:=Wc (atB b) m.sm m.sm.length;rw [<-Jd] at Hq;generalize ZS (atB b) m.sm m.sm.length=ws at *;go_wp2_with fail
 go_loopw [5,12] (fun u i wr=> ∃ k:Nat,k<=ws.length/\i= .int .i64 k/\u= .int .i64 (VY m (ws.take k))/\Bx w wr w.heap.size a0 p0 a1 p1 a2 p2 a3 p3 a4 p4 m/\Below w1.heap.size w1 wr) (fun _ i _=>ws.length-(intOf i).toNat)
 case atStart=>exact ⟨0,ZR _,rfl,rfl,K,Z0 _ _⟩
 case round=>
  obtain ⟨k,hk,rfl,rfl,hK,hb0⟩:=hrel;clear K;have K:=hK;have BB:=Z9 hb0;clear hK hb0;have hub:=GM m (ws.take k);have htl:(ws.take k).length<=ws.length:=by simp;omega
  by_cases hlt:k<ws.length
  ·have hlt1:(k:Int)<(ws.length:Int):=by omega
   obtain ⟨g,hga,_,hgl,hcl,_⟩:=RecAt.view Yd (by omega) (uh HN) rfl (by omega);cases hga;have z0:=hcl k hlt 0 _ rfl;simp only [Nat.mul_one,Nat.add_zero] at z0;have hgw:g<w1.heap.size:=hgl;rw [<-(uh BB).cell (p:=⟨g,k,none⟩) hgw] at z0;obtain ⟨i,hi,hiw⟩:=uh Hwh k hlt;obtain ⟨_,_,hi2,hat⟩:=uh Hat _ (Vv hlt)
   have hpi:(Z8 m.sm i).1 ≠ 0:=by
    rw [hiw] at hi2;obtain rfl:=Int.ofNat.inj hi2;intro e;unfold atB at hat;rw [e] at hat;simp at hat
   clear hcl hi2 hat;have HS:Hid (VY m (ws.take (k+1))=VY m (ws.take k)+Zy m (i:Int)):=Z9 (by rw [F5 m hlt,hiw]);rw [hiw] at z0;have hwb:=TD m (i:Int);have HC:=Z9 (fun (X:World) (hX:Smy X (.slice a0 m.rm.length p0) (.slice a1 m.gd.length p1) (.slice a2 m.sm.length p2) (.slice a3 m.dk.length p3) (.slice a4 m.pc.length p4) m)=>Pv hX (uh HW) hi hpi);generalize VY m (ws.take k)=us at *;generalize Zy m (i:Int)=wa at *;have hgr:g<wr.heap.size:=ZD hgw (uh BB).size;obtain ⟨c0,c1,c2,c3,c4,c5⟩:=K.cells;go_wp2_with fail;refine ck (uh HC _ K.smy) fun w2 hb=> ?_;replace K:=K.next hb;replace BB:=bt BB hb;clear hb c0 c1 c2 c3 c4 c5 z0;have hlen12:(ws.length:Int)<=12:=by omega
   go_wp2_with fail;go_roundw
   case rel=>exact ⟨k+1,by omega,by go_num,by rw [uh HS],K,uh BB⟩
   case measure=>exact ms
  ·obtain rfl:k=ws.length:=by omega
   rw [List.take_length] at *;obtain rfl:q=VY m ws:=(uh Hq).symm;go_wp2_with fail;go_ret;exact ⟨rfl,K.bb⟩
theorem Qf {w:World} {v0 v1 v2 v3 v4:Value} {m:Z3} {b:Int} {q:Bool} (hq:Vo m b=q) (h:Smy w v0 v1 v2 v3 v4 m):cB 255 #[.agg #[v0,v1,v2,v3,v4,.int .i64 m.now],.int .i64 b] w (.bool q):=by
 have Hq:=Z9 hq;clear hq;obtain ⟨a0,p0,a1,p1,a2,p2,a3,p3,a4,p4,rfl,rfl,rfl,rfl,rfl,K⟩:=Bx.new h;clear h;go_enter func255,ntmps255;go_wp2_with fail;generalize w.alloc (.cells (S6 a0 p0 a1 p1 a2 p2 a3 p3 a4 p4 m) 39)=W at *;refine ck (Qa _ _ _ _ _ _ _ _ _ _ _ _ _ _ _ _ _) fun w2 hb=> ?_;replace K:=K.next hb;clear hb;obtain ⟨qh,Hh⟩:=WH (XW m.dk.length b);go_wp2_with fail;refine (S5 _ _ _ b _).mono ?_;rw [uh Hh];rintro e w3 ⟨rfl,h9⟩;subst w3;cases qh
 ·obtain rfl:q=false:=by rw [<-uh Hq];unfold Vo;rw [uh Hh];rfl
  go_wp2_with fail;go_ret;exact ⟨rfl,K.bb⟩
 have hbb:0<=b/\b<(m.dk.length:Int):=by have:=uh Hh;unfold XW at this;simpa using this
 obtain ⟨k,rfl⟩:∃ k:Nat,b=k:=⟨b.toNat,by omega⟩
 have hk:k<m.dk.length:=by omega
 have hk1:(k:Int)<(m.dk.length:Int):=by omega
 obtain ⟨_,_,hde,_,_,r3⟩:=K.smy.dk;cases hde
 rcases r3 with e0 | ⟨db,off,rfl,hbw,hcl⟩
 ·rw [e0] at hk;simp at hk
 obtain ⟨d0,d1,d2⟩:=Zg hcl hk;have hq2:(Z8 m.dk k).1=q:=by rw [<-uh Hq];unfold Vo;rw [uh Hh,Zm];rfl
 clear hcl Hq;generalize Z8 m.dk k=dd at *;obtain ⟨op,wo,mk⟩:=dd;simp only at d0 d1 d2 hq2;subst hq2;obtain ⟨c0,c1,c2,c3,c4,c5⟩:=K.cells;go_wp2_with fail;refine ck (RS op wo mk _) fun w4 hb=> ?_;replace K:=K.next hb;clear hb c0 c1 c2 c3 c4 c5 d0 d1 d2;go_wp2_with fail;go_ret;exact ⟨rfl,K.bb⟩
open Go.ChangeShapes Go.WideShapes Go.ChangeAt Go.RowKit Go.Sort Go.Shelf Go.Proofs.Tryz
set_option maxRecDepth 100000
attribute [local go_sem] Oper.semAt_some
theorem Rc {W X:World} (h:Below W.heap.size W X):KeepsOthers W X:=⟨h.size,fun k o hk _=>(h.block k (Array.getElem?_eq_some_iff.1 hk).1).trans hk⟩
theorem Jr {W X:World} (h:Below W.heap.size W X) {B:Nat} {t:TypeId} : KeepsBox B t W X:=fun v hv=>(h.block B hv.lt).trans hv
theorem Xp {W X:World} (h:Below W.heap.size W X) {B:Nat} {t:TypeId} {v:Value} (hv:Boxed W B t v):Boxed X B t v:=(h.block B hv.lt).trans hv
def Rnd (w:World) (f:List Int->Int) (a0:Option Addr) (p0:Nat) (a1:Option Addr) (p1:Nat) (a2:Option Addr) (p2:Nat) (a3:Option Addr) (p3:Nat) (a4:Option Addr) (p4:Nat) (m:Z3) (pre:List Int) (W:World):Prop:=Boxed W (w.heap.size+1) 2 (.int .i64 (f pre))/\Bx w W w.heap.size a0 p0 a1 p1 a2 p2 a3 p3 a4 p4 m
theorem GC (w:World) (f:List Int->Int) (a0:Option Addr) (p0:Nat) (a1:Option Addr) (p1:Nat) (a2:Option Addr) (p2:Nat) (a3:Option Addr) (p3:Nat) (a4:Option Addr) (p4:Nat) (m:Z3) (hs:Smy w (.slice a0 m.rm.length p0) (.slice a1 m.gd.length p1) (.slice a2 m.sm.length p2) (.slice a3 m.dk.length p3) (.slice a4 m.pc.length p4) m) {B:Nat} (hB:w.heap.size<=B):OwnFrom B (Rnd w f a0 p0 a1 p1 a2 p2 a3 p3 a4 p4 m):=by
 rintro pre W X row ⟨h1,h2⟩ hg hr;have h4:=h2.bb.grown hg h2.bb.size (fun k e=>YV hB (hr k e).1);refine ⟨h1.kept hg (fun e=> ?_),hs.below h4,(hg.block _ h2.blk.lt (fun e=> ?_)).trans h2.blk,h4⟩
 ·obtain ⟨_,o,ho,hc⟩:=hr _ e.symm
  rw [show W.heap[w.heap.size+1]?=_ from h1] at ho;cases ho;cases hc
 ·obtain ⟨_,o,ho,hc⟩:=hr _ e.symm
  rw [show W.heap[w.heap.size]?=_ from h2.blk] at ho;cases ho;cases hc
theorem KE {w W W1 W2:World} {f:List Int->Int} {a0 a1 a2 a3 a4:Option Addr} {p0 p1 p2 p3 p4:Nat} {m:Z3} {pre:List Int} {x v nl:Int} {B S:Nat} (hs:Smy w (.slice a0 m.rm.length p0) (.slice a1 m.gd.length p1) (.slice a2 m.sm.length p2) (.slice a3 m.dk.length p3) (.slice a4 m.pc.length p4) m) (hko:KeepsOthers W W1) (hkb:KeepsBox S 2 W W1) (hb:Below W1.heap.size W1 W2) (hv:Boxed W1 (w.heap.size+1) 2 (.int .i64 nl)) (hK:Bx w W1 w.heap.size a0 p0 a1 p1 a2 p2 a3 p3 a4 p4 m) (hS:w.heap.size+1<S) (e:f (pre++[x])=v) :
  KeepsFrom B W (W2.setCell ⟨w.heap.size+1,0,none⟩ (.int .i64 v))/\KeepsBox S 2 W (W2.setCell ⟨w.heap.size+1,0,none⟩ (.int .i64 v))/\Rnd w f a0 p0 a1 p1 a2 p2 a3 p3 a4 p4 m (pre++[x]) (W2.setCell ⟨w.heap.size+1,0,none⟩ (.int .i64 v)):=by
 have hK2:=hK.next hb;have hbb:Below w.heap.size w (W2.setCell ⟨w.heap.size+1,0,none⟩ (.int .i64 v)):=hK2.bb.setCell (p:=⟨w.heap.size+1,0,none⟩) (Nat.le_succ _) _;refine ⟨((hko.trans (Rc hb)).trans (KeepsOthers.setCell _ _ _)).from _,fun u hu=>(Xp hb (hkb u hu)).other (by omega) _,?_,hs.below hbb,hK2.blk.other (a:=⟨w.heap.size+1,0,none⟩) (by show w.heap.size ≠ w.heap.size+1;omega) _,hbb⟩;rw [e];exact (Xp hb hv).set _
theorem FG (n:Nat) (hn:3<=n) {w:World} {v0 v1 v2 v3 v4:Value} {m:Z3} {r:Nat} (h:Smy w v0 v1 v2 v3 v4 m) (hS:Sane m) (hW:Wants m) (hr:r<m.rm.length):CallsIn Fence.wide n prog 260 #[.agg #[v0,v1,v2,v3,v4,.int .i64 m.now],.int .i64 (r:Int)] w fun e w'=>e= .returned (.int .i64 (V4 m (Uf (Wb m.rm (r:Int)))))/\Below w.heap.size w w':=by
 have h1:1<=n:=by omega
 have hmo:prog.follows .mixedOrders=true:=by kernel_rfl
 have hl:=hS.few;have HW:=Z9 hW;have Hs:=Z9 h;clear hS hW;obtain ⟨a0,p0,a1,p1,a2,p2,a3,p3,a4,p4,rfl,rfl,rfl,rfl,rfl,K⟩:=Bx.new h;clear h;obtain ⟨st,hst⟩:=ZI (Wb m.rm (r:Int));rw [hst];have Hst:=Z9 hst;clear hst;refine callsIn_of_wp_marks func260 rfl trivial ?_ rfl;simp only [ntmps260,List.size_toArray,XY,Xo,Nat.reduceAdd,Nat.reduceSub,Array.replicate_succ,Array.replicate_zero,List.push_toArray,List.append_toArray,List.nil_append,List.cons_append]
 gi_wp2_with fail
 have bN:=Boxed.new (w.alloc (.cells (S6 a0 p0 a1 p1 a2 p2 a3 p3 a4 p4 m) 39)) 2 (.int .i64 0);rw [YW] at bN;replace K:=K.alloc (.cells #[.int .i64 0] 2);generalize (w.alloc (.cells (S6 a0 p0 a1 p1 a2 p2 a3 p3 a4 p4 m) 39)).alloc (.cells #[.int .i64 0] 2)=W0 at *;refine ⟨trivial,?_⟩;refine (callsIn_wide.2 (Uz (r:Int) K.smy.rm)).mono ?_;rw [uh Hst];rintro e w1 ⟨rfl,hb⟩;dsimp only;replace bN:=Xp hb bN;replace K:=K.next hb;clear hb Hst
 gi_wp2_with (refine ⟨trivial,?_⟩;gi_at_call 262;refine (Ue (n-1) _ _).mono ?_;rintro e w' ⟨rfl,rfl⟩)
 have bS:=Boxed.new w1 2 (.int .i64 st);have hsz:=K.bb.size
 refine wpIn_rangeFunc_ownG rfl h1 (gf:=273) (lb:=#[.pointer (some ⟨w1.heap.size,0,none⟩)]) rfl trivial (enters_of func273 (by kernel_rfl) rfl)
  (UU (n-1) (by omega) w1.heap.size st _ bS) (fun h k=>h.trans k) (KeepsBox.putObj (by simp)) (Z0 _ _) (fun _=>rfl)
  (Rnd w (V4 m) a0 p0 a1 p1 a2 p2 a3 p3 a4 p4 m) (fun _ _ _=>False)
  (GC w (V4 m) a0 p0 a1 p1 a2 p2 a3 p3 a4 p4 m (uh Hs) (by simp;omega))
  (fun _ _ _ _ _ hs _ _=>hs)
  ⟨bN.alloc _,K.alloc _⟩
  (fun x=>{ tmps:=#[.agg (S6 a0 p0 a1 p1 a2 p2 a3 p3 a4 p4 m),.int .i64 (r:Int),.pointer (some ⟨w.heap.size,0,none⟩),undef,.int .i64 0,.pointer (some ⟨w.heap.size+1,0,none⟩),.int .i64 x,.pointer (some ⟨w.heap.size,0,none⟩),.agg #[.slice a0 m.rm.length p0],.int .i64 (r:Int),.int .i64 st,.func (.func 273) #[] #[.pointer (some ⟨w1.heap.size,0,none⟩)],.int .i64 x,undef,undef,undef,undef,undef,undef,undef,undef,undef],defers:=[] }) ?assign ?body ?done ?stop
 case assign=>
  intro l x W K hK
  gi_wp2
  exact hK
 case body=>
  rintro l pre x W ⟨hv,hK⟩ hlt;have hc:=hv.cell;have hf:=hv.frozen;obtain ⟨c0,c1,c2,c3,c4,c5⟩:=hK.cells;obtain ⟨us,hus⟩:=ZI (Zu m x (-1));have hub:=UL m x (-1);rw [hus] at hub;have Hus:=Z9 hus;obtain ⟨q,hq⟩:=ZI (Vo m x);have HN:=Z9 (OZ m pre x);have hnb:=Et m hl pre;rw [hq,hus] at HN;clear hus;generalize V4 m pre=nl at *
  gi_wp2_with fail
  refine ⟨trivial,fun _=>(by omega),?_⟩;refine (CallsIn.inRound l (callsIn_wide.2 (Qf hq hK.smy))).mono ?_;rintro e W1 ⟨rfl,hb⟩;dsimp only;have hko:=Rc hb;have hkb:=Jr hb (B:=w1.heap.size) (t:=2);replace hv:=Xp hb hv;replace hK:=hK.next hb;clear hb hc hf c0 c1 c2 c3 c4 c5;cases q
  ·gi_wp2_with fail
   exact ⟨hko.from _,hkb,by rw [show Rnd w (V4 m) a0 p0 a1 p1 a2 p2 a3 p3 a4 p4 m (pre++[x]) W1=(Boxed W1 (w.heap.size+1) 2 (.int .i64 (V4 m (pre++[x])))/\Bx w W1 w.heap.size a0 p0 a1 p1 a2 p2 a3 p3 a4 p4 m) from rfl,uh HN];exact ⟨hv,hK⟩⟩
  have hc:=hv.cell;have hf:=hv.frozen;obtain ⟨c0,c1,c2,c3,c4,c5⟩:=hK.cells
  gi_wp2_with fail
  gi_region_with_o (refine ⟨trivial,fun _=>(by omega),?_⟩;gi_at_call 256;refine (CallsIn.inRound l (callsIn_wide.2 (R8 (uh Hus) ?_ (uh HW) hl))).mono ?_;exact hK.smy.below (Z0 _ _).drew;rintro e W2 ⟨rfl,hb2⟩;have Hb2:Hid (Below W1.heap.size W1 W2):=Z9 ⟨hb2.os,hb2.tape,hb2.output,hb2.size,hb2.block⟩;have hv2:=Xp (uh Hb2) hv;have hc2:=hv2.cell;have hf2:=hv2.frozen;clear hb2)
  all_goals
   exact KE (uh Hs) hko hkb (uh Hb2) hv hK bN.lt (by rw [uh HN];simp only [if_true];omega)
 case done=>
  rintro D ys W hD rfl ⟨hv,hK⟩ hDf;have hc:=hv.cell
  gi_wp2
  refine ⟨by simp,.inl ⟨_,_,rfl,run_takeDeferred hDf,?_⟩⟩;exact ⟨_,results_tmp rfl _ _ _,rfl,hK.bb.trans (belowK_b (w:=w) (ZY _) W D _ _ (by simp at hD;omega) hDf rfl rfl)⟩
 case stop=>
  rintro D c pre W _ _ h _;exact h.elim
theorem Iz {w:World} {v0 v1 v2 v3 v4:Value} {m:Z3} {r:Nat} (h:Smy w v0 v1 v2 v3 v4 m) (hS:Sane m) (hW:Wants m) (hr:r<m.rm.length):cB 260 #[.agg #[v0,v1,v2,v3,v4,.int .i64 m.now],.int .i64 (r:Int)] w (.int .i64 (V4 m (Uf (Wb m.rm (r:Int))))):=callsIn_wide.1 (FG 3 (ZY _) h hS hW hr)
theorem Gi (n:Nat) (hn:3<=n) {w:World} {v0 v1 v2 v3 v4:Value} {m:Z3} {r:Nat} (h:Smy w v0 v1 v2 v3 v4 m) (hS:Sane m) (hW:Wants m) (hr:r<m.rm.length):CallsIn Fence.wide n prog 261 #[.agg #[v0,v1,v2,v3,v4,.int .i64 m.now],.int .i64 (r:Int)] w fun e w'=>e= .returned (.int .i64 (Vs m (Uf (Wb m.rm (r:Int)))))/\Below w.heap.size w w':=by
 have h1:1<=n:=by omega
 have hmo:prog.follows .mixedOrders=true:=by kernel_rfl
 have hl:=hS.few;have HW:=Z9 hW;have Hs:=Z9 h;clear hS hW;obtain ⟨a0,p0,a1,p1,a2,p2,a3,p3,a4,p4,rfl,rfl,rfl,rfl,rfl,K⟩:=Bx.new h;clear h;obtain ⟨st,hst⟩:=ZI (Wb m.rm (r:Int));rw [hst];have Hst:=Z9 hst;clear hst;refine callsIn_of_wp_marks func261 rfl trivial ?_ rfl;simp only [ntmps261,List.size_toArray,XY,Xo,Nat.reduceAdd,Nat.reduceSub,Array.replicate_succ,Array.replicate_zero,List.push_toArray,List.append_toArray,List.nil_append,List.cons_append]
 gi_wp2_with fail
 have bN:=Boxed.new (w.alloc (.cells (S6 a0 p0 a1 p1 a2 p2 a3 p3 a4 p4 m) 39)) 2 (.int .i64 0);rw [YW] at bN;replace K:=K.alloc (.cells #[.int .i64 0] 2);generalize (w.alloc (.cells (S6 a0 p0 a1 p1 a2 p2 a3 p3 a4 p4 m) 39)).alloc (.cells #[.int .i64 0] 2)=W0 at *;refine ⟨trivial,?_⟩;refine (callsIn_wide.2 (Uz (r:Int) K.smy.rm)).mono ?_;rw [uh Hst];rintro e w1 ⟨rfl,hb⟩;dsimp only;replace bN:=Xp hb bN;replace K:=K.next hb;clear hb Hst
 gi_wp2_with (refine ⟨trivial,?_⟩;gi_at_call 262;refine (Ue (n-1) _ _).mono ?_;rintro e w' ⟨rfl,rfl⟩)
 have bS:=Boxed.new w1 2 (.int .i64 st);have hsz:=K.bb.size
 refine wpIn_rangeFunc_ownG rfl h1 (gf:=273) (lb:=#[.pointer (some ⟨w1.heap.size,0,none⟩)]) rfl trivial (enters_of func273 (by kernel_rfl) rfl)
  (UU (n-1) (by omega) w1.heap.size st _ bS) (fun h k=>h.trans k) (KeepsBox.putObj (by simp)) (Z0 _ _) (fun _=>rfl)
  (Rnd w (Vs m) a0 p0 a1 p1 a2 p2 a3 p3 a4 p4 m) (fun _ _ _=>False)
  (GC w (Vs m) a0 p0 a1 p1 a2 p2 a3 p3 a4 p4 m (uh Hs) (by simp;omega))
  (fun _ _ _ _ _ hs _ _=>hs)
  ⟨bN.alloc _,K.alloc _⟩
  (fun x=>{ tmps:=#[.agg (S6 a0 p0 a1 p1 a2 p2 a3 p3 a4 p4 m),.int .i64 (r:Int),.pointer (some ⟨w.heap.size,0,none⟩),undef,.int .i64 0,.pointer (some ⟨w.heap.size+1,0,none⟩),.int .i64 x,.pointer (some ⟨w.heap.size,0,none⟩),.agg #[.slice a0 m.rm.length p0],.int .i64 (r:Int),.int .i64 st,.func (.func 273) #[] #[.pointer (some ⟨w1.heap.size,0,none⟩)],.int .i64 x,undef,undef,undef,undef,undef,undef],defers:=[] }) ?assign ?body ?done ?stop
 case assign=>
  intro l x W K hK
  gi_wp2
  exact hK
 case body=>
  rintro l pre x W ⟨hv,hK⟩ hlt;have hc:=hv.cell;have hf:=hv.frozen;obtain ⟨c0,c1,c2,c3,c4,c5⟩:=hK.cells;obtain ⟨us,hus⟩:=ZI (Zu m x (-1));have hub:=UL m x (-1);rw [hus] at hub;have Hus:=Z9 hus;have HN:=Z9 (PA m pre x);have hnb:=Fd m hl pre;rw [hus] at HN;clear hus;generalize Vs m pre=nl at *;obtain ⟨W1,hW1⟩:∃ X,X=W:=⟨_,rfl⟩
  subst hW1;have hwr:IntKind.i64.wrap (nl+us)=nl+us:=by rw [IntKind.wrap_i64];omega
  gi_wp2_with fail
  gi_region_with_o (refine ⟨trivial,fun _=>(by omega),?_⟩;gi_at_call 256;refine (CallsIn.inRound l (callsIn_wide.2 (R8 (uh Hus) ?_ (uh HW) hl))).mono ?_;exact hK.smy.below (Z0 _ _).drew;rintro e W2 ⟨rfl,hb2⟩;have Hb2:Hid (Below W1.heap.size W1 W2):=Z9 ⟨hb2.os,hb2.tape,hb2.output,hb2.size,hb2.block⟩;have hv2:=Xp (uh Hb2) hv;have hc2:=hv2.cell;have hf2:=hv2.frozen;clear hb2)
  all_goals
   exact KE (uh Hs) (KeepsOthers.refl _) (fun _ h=>h) (uh Hb2) hv hK bN.lt (by rw [uh HN])
 case done=>
  rintro D ys W hD rfl ⟨hv,hK⟩ hDf;have hc:=hv.cell
  gi_wp2
  refine ⟨by simp,.inl ⟨_,_,rfl,run_takeDeferred hDf,?_⟩⟩;exact ⟨_,results_tmp rfl _ _ _,rfl,hK.bb.trans (belowK_b (w:=w) (ZY _) W D _ _ (by simp at hD;omega) hDf rfl rfl)⟩
 case stop=>
  rintro D c pre W _ _ h _;exact h.elim
theorem Ji {w:World} {v0 v1 v2 v3 v4:Value} {m:Z3} {r:Nat} (h:Smy w v0 v1 v2 v3 v4 m) (hS:Sane m) (hW:Wants m) (hr:r<m.rm.length):cB 261 #[.agg #[v0,v1,v2,v3,v4,.int .i64 m.now],.int .i64 (r:Int)] w (.int .i64 (Vs m (Uf (Wb m.rm (r:Int))))):=callsIn_wide.1 (Gi 3 (ZY _) h hS hW hr)
end Go.Proofs.YtgdpaigcmoifbaaGreatDoor
namespace Go.Proofs.YtgdpaigcmoifbaaGreatDoor
open Go.ChangeShapes Go.WideShapes Go.ChangeAt Go.RowKit Go.Sort Go.Shelf Go.Proofs.Tryz
set_option linter.unusedVariables false
set_option maxRecDepth 100000
theorem Bx.of {w:World} {a0 a1 a2 a3 a4:Option Addr} {p0 p1 p2 p3 p4:Nat} {m:Z3} (h:Smy w (.slice a0 m.rm.length p0) (.slice a1 m.gd.length p1) (.slice a2 m.sm.length p2) (.slice a3 m.dk.length p3) (.slice a4 m.pc.length p4) m):Bx w (w.alloc (.cells (S6 a0 p0 a1 p1 a2 p2 a3 p3 a4 p4 m) 39)) w.heap.size a0 p0 a1 p1 a2 p2 a3 p3 a4 p4 m:=⟨h.alloc _,Blk.new _ _ _,(ba _ _)⟩
theorem JD {w:World} {a0 a1 a2 a3 a4:Option Addr} {p0 p1 p2 p3 p4:Nat} {m:Z3} (h:Smy w (.slice a0 m.rm.length p0) (.slice a1 m.gd.length p1) (.slice a2 m.sm.length p2) (.slice a3 m.dk.length p3) (.slice a4 m.pc.length p4) m):Calls prog 242 #[.agg (S6 a0 p0 a1 p1 a2 p2 a3 p3 a4 p4 m)] w fun e w'=>e= .returned (.func (Fn.func 258) #[] #[.pointer (some ⟨w.heap.size,0,none⟩)])/\Bx w w' w.heap.size a0 p0 a1 p1 a2 p2 a3 p3 a4 p4 m:=by
 have K:=Bx.of h;clear h;go_enter func242,ntmps242;go_wp2_with fail;go_ret;exact ⟨rfl,K⟩
theorem G8 {w0 w:World} {R r:Nat} {a0 a1 a2 a3 a4:Option Addr} {p0 p1 p2 p3 p4:Nat} {m:Z3} (K:Bx w0 w R a0 p0 a1 p1 a2 p2 a3 p3 a4 p4 m) (hS:Sane m) (hW:Wants m) (hr:r<m.rm.length):cB 258 #[.int .i64 (r:Int),.pointer (some ⟨R,0,none⟩)] w (.int .i64 (UR m r)):=by
 have hr1:(r:Int)<(m.rm.length:Int):=by omega
 have HM:=Z9 (FU hS hr);have HN:=Z9 (fun (X:World) (hX:Below w.heap.size w X)=>Iz (K.smy.below hX) hS hW hr);have HK:=Z9 (fun (X:World) (hX:Below w.heap.size w X)=>Ji (K.smy.below hX) hS hW hr);clear hS hW;have Hc:Hid (UR m r=QN (ZU m.rm r) (V4 m (Uf (Wb m.rm (r:Int)))) (Vs m (Uf (Wb m.rm (r:Int))))):=Z9 (by rw [(uh HM).1,(uh HM).2];rfl);rw [uh Hc];clear Hc HM;obtain ⟨_,_,hre,_,_,r0⟩:=K.smy.rm;cases hre
 rcases r0 with e0 | ⟨rb,off,rfl,hbw,hcl⟩
 ·rw [e0] at hr;simp at hr
 obtain ⟨d0,pv,d1,hpv⟩:=hcl r hr;clear hcl;generalize V4 m (Uf (Wb m.rm (r:Int)))=ne at *;generalize Vs m (Uf (Wb m.rm (r:Int)))=wo at *;obtain ⟨⟨n,ps⟩,hrm⟩:=ZI (ZU m.rm r);rw [hrm] at d0 hpv ⊢;clear hrm;simp only at d0 hpv;have Hpv:=Z9 hpv;obtain ⟨pa,pc,rfl,_,_,_⟩:=hpv;obtain ⟨c0,c1,c2,c3,c4,c5⟩:=K.cells;have k0:=Z1 c0;have k1:=Z1 c1;have k2:=Z1 c2;have k3:=Z1 c3;have k4:=Z1 c4;have k5:=Z1 c5;have k6:=Z1 d0;have k7:=Z1 d1;go_enter func258,ntmps258;go_wp2_with fail;refine wq ?_
 repeat (go_big_quiet_step (first | exact ZX (uh HN _ (Z2 _ _ _)) | exact ZX (uh HK _ (Z2 _ _ _)) | exact ZX (Rk _ _ _ ((uh Hpv).below (Z2 _ _ _)))))
 refine wpQuiet_nil ?_;intro _ hw';obtain ⟨⟨dq,osq⟩,hw''⟩:=hw';subst hw'';go_wp2_with fail;go_ret;exact ⟨rfl,Z2 _ _ _⟩
theorem MB {w0 w:World} {R:Nat} {a0 a1 a2 a3 a4 b0:Option Addr} {p0 p1 p2 p3 p4 q0:Nat} {m:Z3} (K:Bx w0 w R a0 p0 a1 p1 a2 p2 a3 p3 a4 p4 m) (hS:Sane m) (hW:Wants m):cB 241 #[.slice b0 m.rm.length q0,.func (Fn.func 258) #[] #[.pointer (some ⟨R,0,none⟩)]] w (.int .i64 (Re m)):=by
 have h3:=(Zd hS.hall).2.1;have Hbd:=Z9 (QC m);have HC:=Z9 (fun (X:World) (hX:Below w.heap.size w X) (k:Nat) (hk:k<m.rm.length)=>G8 (K.next hX) hS hW hk);clear hS hW K;go_enter func241,ntmps241;go_wp2_with fail
 go_loopw [5,9] (fun n i wr=> ∃ k:Nat,k<=m.rm.length/\i= .int .i64 k/\n= .int .i64 (Ws m k)/\Below w.heap.size w wr) (fun _ i _=>m.rm.length-(intOf i).toNat)
 case atStart=>exact ⟨0,ZR _,rfl,rfl,Z0 _ _⟩
 case round=>
  obtain ⟨k,hk,rfl,rfl,hb0⟩:=hrel;obtain ⟨u0,u1⟩:=uh Hbd k;obtain ⟨u2,u3⟩:=uh Hbd (k+1);have hst:Ws m (k+1)=Ws m k+UR m k:=rfl;rw [hst] at u2 u3;have Hst:=Z9 hst;have BB:=Z9 hb0;clear hb0 hst;by_cases hlt:k<m.rm.length
  ·have hlt1:(k:Int)<(m.rm.length:Int):=by omega
   have HD:=Z9 (uh HC wr (uh BB) k hlt);generalize UR m k=ci at *;generalize Ws m k=ct at *;go_wp2_with fail;refine ck (uh HD) fun w1 hb=> ?_;replace BB:=bt BB hb;clear hb HD;go_wp2_with fail;go_roundw
   case rel=>exact ⟨k+1,by omega,by go_num,by rw [uh Hst],uh BB⟩
   case measure=>exact ms
  ·obtain rfl:k=m.rm.length:=by omega
   go_wp2_with fail;go_ret;exact ⟨rfl,uh BB⟩
end Go.Proofs.YtgdpaigcmoifbaaGreatDoor
