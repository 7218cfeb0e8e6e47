/- Part 10 of what the proof rests on. No condition but those that a theorem names. -/
import Derived.Test.YtamgfpdahadnfaaGreatDoorXh09
import Derived.Laws.CopyRow
set_option maxHeartbeats 8000000
set_option maxRecDepth 100000
namespace Go.Proofs.YtamgfpdahadnfaaGreatDoor
open Go.ChangeShapes Go.WideShapes Go.ChangeAt Go.RowKit Go.Sort
set_option linter.unusedVariables false
set_option maxRecDepth 100000
theorem IG {m:Z6} {b:Int} {k:Nat} (hk:k<(ZQ (atB b) m.sm m.sm.length).length):∃ i:Nat,i<m.sm.length/\Z8 (ZQ (atB b) m.sm m.sm.length) k=(i:Int):=by
 obtain ⟨i,hi,e,_⟩:=(WC (atB b) m.sm _ m.sm.length).1 (Vu hk);exact ⟨i,hi,e⟩
theorem EK {w:World} {v0 v1 v2 v3 v4:Value} {m M:Z6} (b:Int) (h:Smy w v0 v1 v2 v3 v4 m) (hL:Loose M) (hM:M.sm=m.sm):Calls Tryz.prog 144 #[.agg #[v0,v1,v2,v3,v4,.int .i64 m.now],.int .i64 b] w fun e w'=> ∃ v',e= .returned v'/\EntsAt w.heap.size w' v' (atV m.sm b m.sm.length)/\Below w.heap.size w w':=by
 have Hv:=Z9 ((h.alloc (.cells #[v0,v1,v2,v3,v4,.int .i64 m.now] 32)).alloc (.cells #[] 91));have HV0:=Z9 h;obtain ⟨a0,p0,a1,p1,a2,p2,a3,p3,a4,p4,rfl,rfl,rfl,rfl,rfl,_,_,_,_,_,_,_,_,_,_⟩:=h.five;clear h;have hl:m.sm.length<=1000:=by rw [<-hM];have:=(WK hL).sm;omega
 have HL:Hid (∀ k,Yf (VL m.sm ((ZQ (atB b) m.sm m.sm.length).take k))=true):=Z9 (fun k=>by have:=EI hL b k;rw [hM] at this;exact this);clear hL hM;have kb:Hid (Blk ((w.alloc (.cells (S6 a0 p0 a1 p1 a2 p2 a3 p3 a4 p4 m) 32)).alloc (.cells #[] 91)) w.heap.size 32 (S6 a0 p0 a1 p1 a2 p2 a3 p3 a4 p4 m)):=Z9 ((Blk.new w _ _).alloc _);have BB:Hid (Below w.heap.size w ((w.alloc (.cells (S6 a0 p0 a1 p1 a2 p2 a3 p3 a4 p4 m) 32)).alloc (.cells #[] 91))):=Z9 (((ba _ _)).alloc (by simp) _);have HE:Hid (EntsAt w.heap.size ((w.alloc (.cells (S6 a0 p0 a1 p1 a2 p2 a3 p3 a4 p4 m) 32)).alloc (.cells #[] 91)) (.slice (some ⟨w.heap.size+1,0,none⟩) 0 0) []):=Z9 (Vn (by simp) (by simp));go_enter Tryz.func144,Tryz.ntmps144;go_upto_region 2 with fail;generalize (w.alloc (.cells (S6 a0 p0 a1 p1 a2 p2 a3 p3 a4 p4 m) 32)).alloc (.cells #[] 91)=W at *;obtain ⟨c0,c1,c2,c3,c4,c5⟩:=(uh kb).c6;go_wp2_with fail;refine (RX b (uh Hv) hl).mono ?_;rintro e w1 ⟨vn,rfl,hn,hb⟩;obtain ⟨na,nc,rfl⟩:=RecAt.shape hn;have HN0:=Z9 (RecAt.mono hn (uh BB).size);have Hv1:=Z9 ((uh Hv).below hb);have kb1:=Z9 ((uh kb).below hb (uh kb).lt);have BB1:=Z9 ((uh BB).trans (hb.mono (uh BB).size));have HE1:=Z9 ((uh HE).later hb);clear hb hn c0 c1 c2 c3 c4 c5 Hv kb BB HE;have Hq:=Z9 (Qg m.sm b m.sm.length);have Hwh:=Z9 (fun k hk=>IG (m:=m) (b:=b) (k:=k) hk);have Hpq:=HL;clear HL;have hwl:=VZ (atB b) m.sm m.sm.length;generalize ZQ (atB b) m.sm m.sm.length=ws at *;go_wp2_with fail
 go_loopw [5,13] (fun l i wr=> ∃ k:Nat,k<=ws.length/\i= .int .i64 k/\EntsAt w.heap.size wr l (VL m.sm (ws.take k))/\NumsAt w.heap.size wr (.slice na ws.length nc) ws/\Blk wr w.heap.size 32 (S6 a0 p0 a1 p1 a2 p2 a3 p3 a4 p4 m)/\Smy wr (.slice a0 m.rm.length p0) (.slice a1 m.gd.length p1) (.slice a2 m.sm.length p2) (.slice a3 m.dk.length p3) (.slice a4 m.pc.length p4) m/\Below w.heap.size w wr) (fun _ i _=>ws.length-(intOf i).toNat)
 case atStart=>exact ⟨0,ZA _,rfl,uh HE1,uh HN0,uh kb1,uh Hv1,uh BB1⟩
 case round=>
  obtain ⟨k,hk,rfl,he,hn,hkb,hv,hb0⟩:=hrel;obtain ⟨la,lc,rfl⟩:=EntsAt.shape he;have HE:=Z9 he;have HN:=Z9 hn;have kb:=Z9 hkb;have Hv:=Z9 hv;have BB:=Z9 hb0;clear he hn hkb hv hb0 HE1 HN0 kb1 Hv1 BB1;by_cases hlt:k<ws.length
  ·have hlt1:(k:Int)<(ws.length:Int):=by omega
   obtain ⟨g,hga,_,_,hcl,_⟩:=RecAt.view YH (by omega) (uh HN) rfl (by omega);cases hga;have z0:=hcl k hlt 0 _ rfl;simp only [Nat.mul_one,Nat.add_zero] at z0;obtain ⟨i,hi,hiw⟩:=uh Hwh k hlt;rw [hiw] at z0;have hi1:(i:Int)<(m.sm.length:Int):=by omega
   obtain ⟨_,_,hse,_,_,r2⟩:=(uh Hv).sm;cases hse
   rcases r2 with e0 | ⟨sb,off,rfl,hbw,hcs⟩
   ·rw [e0] at hi;simp at hi
   obtain ⟨_,_,_,_,_,_,_,d7,_⟩:=Zw hcs hi;have HT:Hid (VL m.sm (ws.take (k+1))=Vb (VL m.sm (ws.take k)) (Xq (Z8 m.sm i),(i:Int))):=Z9 (by rw [PT hlt,PH,hiw];simp);have hq1:=uh Hpq k;have hq2:=uh Hpq (k+1);rw [uh HT] at hq2;have HQ:=Z9 (Oe hq1 hq2);clear hcl hcs hq1 hq2;have e7:(Z8 m.sm i).2.2.2.2.2.2.2.1=Xq (Z8 m.sm i):=rfl;rw [e7] at d7;clear e7;generalize Xq (Z8 m.sm i)=hd at *;have c2:=(uh kb).cell (i:=2) (v:= .slice (some ⟨sb,off,none⟩) m.sm.length p2) rfl;go_wp2_with fail;refine (LV hd (i:Int) (uh HE).pc).mono ?_;rw [uh HQ];rintro e w2 ⟨⟨v',rfl,he⟩,hb⟩;obtain ⟨ua,uc,rfl⟩:=EntsAt.shape he;have HE2:=Z9 (he.mono (uh BB).size);replace HN:=Z9 (RecAt.later (uh HN) hb);replace kb:=bl kb hb;replace Hv:=Z9 ((uh Hv).below hb);replace BB:=bt BB hb;clear hb he c2 d7 z0;go_wp2_with fail;go_roundw
   case rel=>exact ⟨k+1,by omega,by go_num,by rw [uh HT];exact uh HE2,uh HN,uh kb,uh Hv,uh BB⟩
   case measure=>exact ms
  ·obtain rfl:k=ws.length:=by omega
   have HE3:Hid (EntsAt w.heap.size wr (.slice la (VL m.sm (ws.take ws.length)).length lc) (atV m.sm b m.sm.length)):=Z9 (by
    have h9:=uh HE;have e9:VL m.sm (ws.take ws.length)=atV m.sm b m.sm.length:=by rw [List.take_length,uh Hq]
    rw [<-e9]
    exact h9)
   go_wp2_with fail;go_ret;exact ⟨_,rfl,uh HE3,uh BB⟩
theorem G8 {w:World} {v0 v1 v2 v3 v4:Value} {m:Z6} (b:Int) (h:Smy w v0 v1 v2 v3 v4 m) (hL:Loose m):Calls Tryz.prog 144 #[.agg #[v0,v1,v2,v3,v4,.int .i64 m.now],.int .i64 b] w fun e w'=> ∃ v',e= .returned v'/\EntsAt w.heap.size w' v' (atV m.sm b m.sm.length)/\Below w.heap.size w w':=EK b h hL rfl
theorem IE {w:World} {v0 v1 v2 v3 v4:Value} {m:Z6} {k:Nat} (h:Smy w v0 v1 v2 v3 v4 m) (hL:Wants m) (hk:k<m.sm.length) (hs:(Z8 m.sm k).1 ≠ 0):Calls Tryz.prog 239 #[.agg #[v0,v1,v2,v3,v4,.int .i64 m.now],.int .i64 (k:Int)] w fun e w'=>e= .returned (.int .i64 (Zs m (k:Int)))/\Below w.heap.size w w':=by
 have hw:Zs m (k:Int)=PY m.gd (Z8 m.sm k):=rfl;rw [hw];clear hw;have Hg0:=Z9 h.gd;obtain ⟨a0,p0,rfl,_,_⟩:=IsRooms.shape h.rm;obtain ⟨a1,p1,rfl,_,_⟩:=IsRec.shape h.gd;obtain ⟨a2,p2,rfl,hc2,hm2,r2⟩:=h.sm;obtain ⟨a3,p3,rfl,_,_⟩:=IsRec.shape h.dk;obtain ⟨a4,p4,rfl,_,_⟩:=IsRec.shape h.pc;clear h;obtain ⟨hg1,hpair⟩:=hL.each k hk hs
 rcases r2 with e0 | ⟨sb,off,rfl,hbw,hcl⟩
 ·rw [e0] at hk;simp at hk
 have hk1:(k:Int)<(m.sm.length:Int):=by omega
 obtain ⟨d0,d1,d2,d3,d4,d5,d6,d7,d8,d9,d10⟩:=Zw hcl hk;clear hcl hs hL;generalize Z8 m.sm k=ss at *;obtain ⟨st,be,rk,my,gu,lo,hi,hd,ca,ut,wk⟩:=ss;simp only at d0 d1 d2 d3 d4 d5 d6 d7 d8 d9 d10 hg1 hpair;obtain ⟨nr,hnr⟩:∃ nr,UN (bnd m.gd gu) lo hi=nr:=⟨_,rfl⟩
 have HW:Hid (SX m.gd gu lo hi=nr):=Z9 (by rw [<-hnr];exact Kx hg1 hpair);have HX:Hid (PY m.gd (st,be,rk,my,gu,lo,hi,hd,ca,ut,wk)=min (max ut nr.1) nr.2):=Z9 (by rw [<-hnr];rfl);rw [uh HX];clear hpair hg1 HX hnr;obtain ⟨nl,nh⟩:=nr;dsimp only;have hne:sb ≠ w.heap.size:=U5 hbw;have hbw2:sb<w.heap.size+1:=by omega
 have BB:Hid (Below w.heap.size w ((w.alloc (.cells #[.slice a0 m.rm.length p0,.slice a1 m.gd.length p1,.slice (some ⟨sb,off,none⟩) m.sm.length p2,.slice a3 m.dk.length p3,.slice a4 m.pc.length p4,.int .i64 m.now] 32)).alloc (.cells (I11 st be rk my gu lo hi hd ca ut wk) 40))):=Z9 (((ba _ _)).alloc (by simp) _)
 have ks:Hid (Blk ((w.alloc (.cells #[.slice a0 m.rm.length p0,.slice a1 m.gd.length p1,.slice (some ⟨sb,off,none⟩) m.sm.length p2,.slice a3 m.dk.length p3,.slice a4 m.pc.length p4,.int .i64 m.now] 32)).alloc (.cells (I11 st be rk my gu lo hi hd ca ut wk) 40)) (w.heap.size+1) 40 (I11 st be rk my gu lo hi hd ca ut wk)):=Z9 (by
  have k9:=Blk.new (w.alloc (.cells #[.slice a0 m.rm.length p0,.slice a1 m.gd.length p1,.slice (some ⟨sb,off,none⟩) m.sm.length p2,.slice a3 m.dk.length p3,.slice a4 m.pc.length p4,.int .i64 m.now] 32)) 40 (I11 st be rk my gu lo hi hd ca ut wk);rw [ZB] at k9
  exact k9)
 have kb:Hid (Blk ((w.alloc (.cells #[.slice a0 m.rm.length p0,.slice a1 m.gd.length p1,.slice (some ⟨sb,off,none⟩) m.sm.length p2,.slice a3 m.dk.length p3,.slice a4 m.pc.length p4,.int .i64 m.now] 32)).alloc (.cells (I11 st be rk my gu lo hi hd ca ut wk) 40)) w.heap.size 32 #[.slice a0 m.rm.length p0,.slice a1 m.gd.length p1,.slice (some ⟨sb,off,none⟩) m.sm.length p2,.slice a3 m.dk.length p3,.slice a4 m.pc.length p4,.int .i64 m.now]):=Z9 ((Blk.new w _ _).alloc _);have Hg2:=Z9 ((uh Hg0).below (uh BB));go_enter Tryz.func239,Tryz.ntmps239;go_upto_region 2 with fail;generalize (w.alloc (.cells #[.slice a0 m.rm.length p0,.slice a1 m.gd.length p1,.slice (some ⟨sb,off,none⟩) m.sm.length p2,.slice a3 m.dk.length p3,.slice a4 m.pc.length p4,.int .i64 m.now] 32)).alloc (.cells (I11 st be rk my gu lo hi hd ca ut wk) 40)=W at *;clear d0 d1 d2 d3 d4 d5 d6 d7 d8 d9 d10;have c1:=(uh kb).cell (i:=1) (v:= .slice a1 m.gd.length p1) rfl;have s4:=(uh ks).cell (i:=4) (v:= .int .i64 gu) rfl;have s5:=(uh ks).cell (i:=5) (v:= .int .i64 lo) rfl;have s6:=(uh ks).cell (i:=6) (v:= .int .i64 hi) rfl;go_wp2_with fail;refine (L5 gu lo hi (uh Hg2)).mono ?_;rw [uh HW];rintro e w1 ⟨rfl,hb⟩;replace ks:=bl ks hb;replace BB:=bt BB hb;clear hb c1 s4 s5 s6 HW;have s9:=(uh ks).cell (i:=9) (v:= .int .i64 ut) rfl;go_wp2_with (go_at_call 259;refine (U1 _ _ _ _).mono ?_;rintro e w' ⟨rfl,h9⟩;subst w')
 go_ret;exact ⟨rfl,uh BB⟩
theorem Bp {m:Z6} (who:Int):WU m who=(WX m.sm.length who && !((Z8 m.sm who.toNat).1 ==0)):=by unfold WU;rw [Ag]
theorem NY {w:World} {v0 v1 v2 v3 v4:Value} {m:Z6} {who:Int} {q:Bool} (hq:WU m who=q) (h:Smy w v0 v1 v2 v3 v4 m):Calls Tryz.prog 125 #[.agg #[v0,v1,v2,v3,v4,.int .i64 m.now],.int .i64 who] w fun e w'=>e= .returned (.bool q)/\Below w.heap.size w w':=by
 rw [Bp] at hq;have Hq:=Z9 hq;clear hq;obtain ⟨a0,p0,a1,p1,a2,p2,a3,p3,a4,p4,rfl,rfl,rfl,rfl,rfl,K⟩:=Bx.new h;clear h;go_enter Tryz.func125,Tryz.ntmps125;go_wp2_with fail;generalize w.alloc (.cells (S6 a0 p0 a1 p1 a2 p2 a3 p3 a4 p4 m) 32)=W at *;obtain ⟨c0,c1,c2,c3,c4,c5⟩:=K.cells;go_wp2_with fail;refine ck (W7 _ _ _ _ _ _ _ _ _ _ _ _ _ _ _ _ _) fun w2 hb=> ?_;replace K:=K.next hb;clear hb c0 c1 c2 c3 c4 c5;obtain ⟨qh,hqh⟩:∃ q,WX m.sm.length who=q:=⟨_,rfl⟩
 have Hh:=Z9 hqh;clear hqh;go_wp2_with fail;refine (Jd _ _ _ who _).mono ?_;rw [uh Hh];rintro e w3 ⟨rfl,h9⟩;subst w3;cases qh
 ·obtain rfl:q=false:=by rw [<-uh Hq,uh Hh];rfl
  go_wp2_with fail;go_ret;exact ⟨rfl,K.bb⟩
 have hwb:0<=who/\who<(m.sm.length:Int):=by have:=uh Hh;unfold WX at this;simpa using this
 obtain ⟨k,rfl⟩:∃ k:Nat,who=k:=⟨who.toNat,by omega⟩
 have hk:k<m.sm.length:=by omega
 have hk1:(k:Int)<(m.sm.length:Int):=by omega
 obtain ⟨_,_,hse,_,_,r2⟩:=K.smy.sm;cases hse
 rcases r2 with e0 | ⟨sb,off,rfl,hbw,hcl⟩
 ·rw [e0] at hk;simp at hk
 obtain ⟨d0,d1,d2,d3,d4,d5,d6,d7,d8,d9,d10⟩:=Zw hcl hk;obtain ⟨_,_,c2,_,_,_⟩:=K.cells;have HS:Hid (q= !((Z8 m.sm k).1 ==0)):=Z9 (by rw [<-uh Hq,uh Hh,Zz];rfl);clear hcl;generalize Z8 m.sm k=ss at *;obtain ⟨st,be,rk,my,gu,lo,hi,hd,ca,ut,wk⟩:=ss;simp only at d0 d1 d2 d3 d4 d5 d6 d7 d8 d9 d10;go_wp2_with fail;refine ck (V0 st be rk my gu lo hi hd ca ut wk _) fun w4 hb=> ?_;replace K:=K.next hb;clear hb c2 d0 d1 d2 d3 d4 d5 d6 d7 d8 d9 d10;obtain rfl:q= !(st ==0):=uh HS;go_wp2_with fail;go_ret;exact ⟨rfl,K.bb⟩
theorem H8 {st be rk my gu lo hi hd ca ut wk:Int} {rank x:Int} {R R':Nat} {w:World} (x0:335<=x) (x1:x<=3125) (c0:0<=ca) (c1:ca<=3125) (hR:w.cell? ⟨R,0,none⟩=some (.int .i64 rank)) (hR':w.cell? ⟨R',0,none⟩=some (.int .i64 x)) :
  Calls Tryz.prog 192 #[.agg (I11 st be rk my gu lo hi hd ca ut wk),.pointer (some ⟨R,0,none⟩),.pointer (some ⟨R',0,none⟩)] w fun e w'=>e= .returned (.agg (I11 st be rank my gu lo hi hd (ca%x) ut wk))/\Below w.heap.size w w':=by
 have hRl:=block_lt_of_cell hR;have hRl':=block_lt_of_cell hR';have hx:¬ x=0:=by omega
 go_enter Tryz.func192,Tryz.ntmps192;go_wp2_with fail;refine ZS (v:= .agg (I11 st be rank my gu lo hi hd (ca%x) ut wk)) (by simp [results,Tryz.results192,go_sem]) rfl ⟨rfl,?_⟩;exact ((ba _ _)).alloc (by simp) _
theorem Pg (v:Value) (w:World):(Instr.typeAssert (.iface 212 v) 161 214 true).run Tryz.prog w= .ok (.tuple #[.agg E11,.bool false]) w:=by kernel_rfl
theorem Pf (v:Value) (w:World):(Instr.typeAssert (.iface 212 v) 161 212 true).run Tryz.prog w= .ok (.tuple #[v,.bool true]) w:=by kernel_rfl
theorem Qs (v:Value) (w:World):(Instr.typeAssert (.iface 215 v) 161 214 true).run Tryz.prog w= .ok (.tuple #[.agg E11,.bool false]) w:=by kernel_rfl
theorem Qr (v:Value) (w:World):(Instr.typeAssert (.iface 215 v) 161 212 true).run Tryz.prog w= .ok (.tuple #[.agg #[],.bool false]) w:=by kernel_rfl
theorem Ph (v:Value) (w:World):(Instr.typeAssert (.iface 214 v) 161 214 true).run Tryz.prog w= .ok (.tuple #[v,.bool true]) w:=by kernel_rfl
attribute [local go_sem] Pg Pf Qs Qr Ph
theorem I0 (can:Bool) (f:Value) (w:World):Calls Tryz.prog 191 #[.agg E11,.bool can,f] w fun e w'=>e= .returned (.tuple #[.agg E11,.bool false])/\Below w.heap.size w w':=by
 go_enter Tryz.func191,Tryz.ntmps191;go_wp2_with fail;refine ck (PL _) fun w1 hb=> ?_;have kb:Blk w1 w.heap.size 40 E11:=((Blk.new w 40 E11).alloc _).below hb (by simp;omega)
 have ko:Blk w1 (w.heap.size+1) 40 E11:=by
  have k:=Blk.new (w.alloc (.cells E11 40)) 40 E11;rw [ZB] at k;exact k.below hb (by simp)
 have hsz:w.heap.size+2<=w1.heap.size:=by have:=hb.size;simp at this;omega
 have hl0:w.heap.size<w1.heap.size:=by omega
 have hl1:w.heap.size+1<w1.heap.size:=by omega
 have B1:=Z9 ((((Z1 w.heap.size w).alloc (Z2 _) _).alloc (by simp) _).trans (hb.mono (by simp;omega)));have Kb:=Z9 kb;have Ko:=Z9 ko;obtain ⟨c0,c1,c2,c3,c4,c5,c6,c7,c8,c9,c10⟩:=kb.c11;obtain ⟨o0,o1,o2,o3,o4,o5,o6,o7,o8,o9,o10⟩:=ko.c11;obtain ⟨of0,of1,of2,of3,of4,of5,of6,of7,of8,of9,of10⟩:=ko.f11;clear hb kb ko;go_wp2_with fail;refine ZS (v:= .tuple #[.agg E11,.bool false]) (by simp [results,Tryz.results191,go_sem,o0,o1,o2,o3,o4,o5,o6,o7,o8,o9,o10,hl1]) rfl ⟨rfl,?_⟩;refine Below.alloc ?_ (by simp;omega) _
 iterate 11 (refine YS ?_ (by simp) _)
 exact uh B1
theorem KC {st be rk my gu lo hi hd ca ut wk:Int} (hg:Wt (st,be,rk,my,gu,lo,hi,hd,ca,ut,wk)=false) (hp:Zh (st,be,rk,my,gu,lo,hi,hd,ca,ut,wk)=false) (can:Bool) (f:Value) (w:World):Calls Tryz.prog 191 #[.agg (I11 st be rk my gu lo hi hd ca ut wk),.bool can,f] w fun e w'=>e= .returned (.tuple #[.agg E11,.bool false])/\Below w.heap.size w w':=by
 have Hg:=Z9 hg;have Hp:=Z9 hp;clear hg hp;go_enter Tryz.func191,Tryz.ntmps191;go_wp2_with fail;refine ck (QC (uh Hg) (uh Hp) _) fun w1 hb=> ?_;have kb:Blk w1 w.heap.size 40 (I11 st be rk my gu lo hi hd ca ut wk):=((Blk.new w 40 (I11 st be rk my gu lo hi hd ca ut wk)).alloc _).below hb (by simp;omega)
 have ko:Blk w1 (w.heap.size+1) 40 E11:=by
  have k:=Blk.new (w.alloc (.cells (I11 st be rk my gu lo hi hd ca ut wk) 40)) 40 E11;rw [ZB] at k;exact k.below hb (by simp)
 have hsz:w.heap.size+2<=w1.heap.size:=by have:=hb.size;simp at this;omega
 have hl0:w.heap.size<w1.heap.size:=by omega
 have hl1:w.heap.size+1<w1.heap.size:=by omega
 have B1:=Z9 ((((Z1 w.heap.size w).alloc (Z2 _) _).alloc (by simp) _).trans (hb.mono (by simp;omega)));have Kb:=Z9 kb;have Ko:=Z9 ko;obtain ⟨c0,c1,c2,c3,c4,c5,c6,c7,c8,c9,c10⟩:=kb.c11;obtain ⟨o0,o1,o2,o3,o4,o5,o6,o7,o8,o9,o10⟩:=ko.c11;obtain ⟨of0,of1,of2,of3,of4,of5,of6,of7,of8,of9,of10⟩:=ko.f11;clear hb kb ko;go_wp2_with fail;refine ZS (v:= .tuple #[.agg E11,.bool false]) (by simp [results,Tryz.results191,go_sem,o0,o1,o2,o3,o4,o5,o6,o7,o8,o9,o10]) rfl ⟨rfl,?_⟩
 iterate 11 (refine YS ?_ (by simp) _)
 exact uh B1
theorem DS {st be rk my gu lo hi hd ca ut wk:Int} (hg:Wt (st,be,rk,my,gu,lo,hi,hd,ca,ut,wk)=false) (hp:Zh (st,be,rk,my,gu,lo,hi,hd,ca,ut,wk)=true) (f:Value) (w:World):Calls Tryz.prog 191 #[.agg (I11 st be rk my gu lo hi hd ca ut wk),.bool false,f] w fun e w'=>e= .returned (.tuple #[.agg (I11 st be rk my gu lo hi hd ca ut wk),.bool false])/\Below w.heap.size w w':=by
 have Hg:=Z9 hg;have Hp:=Z9 hp;clear hg hp;go_enter Tryz.func191,Tryz.ntmps191;go_wp2_with fail;refine ck (SO (uh Hg) (uh Hp) _) fun w1 hb=> ?_;have kb:Blk w1 w.heap.size 40 (I11 st be rk my gu lo hi hd ca ut wk):=((Blk.new w 40 (I11 st be rk my gu lo hi hd ca ut wk)).alloc _).below hb (by simp;omega)
 have ko:Blk w1 (w.heap.size+1) 40 E11:=by
  have k:=Blk.new (w.alloc (.cells (I11 st be rk my gu lo hi hd ca ut wk) 40)) 40 E11;rw [ZB] at k;exact k.below hb (by simp)
 have hsz:w.heap.size+2<=w1.heap.size:=by have:=hb.size;simp at this;omega
 have hl0:w.heap.size<w1.heap.size:=by omega
 have hl1:w.heap.size+1<w1.heap.size:=by omega
 have B1:=Z9 ((((Z1 w.heap.size w).alloc (Z2 _) _).alloc (by simp) _).trans (hb.mono (by simp;omega)));have Kb:=Z9 kb;have Ko:=Z9 ko;obtain ⟨c0,c1,c2,c3,c4,c5,c6,c7,c8,c9,c10⟩:=kb.c11;obtain ⟨o0,o1,o2,o3,o4,o5,o6,o7,o8,o9,o10⟩:=ko.c11;obtain ⟨of0,of1,of2,of3,of4,of5,of6,of7,of8,of9,of10⟩:=ko.f11;clear hb kb ko;go_wp2_with fail;refine ZS (v:= .tuple #[.agg (I11 st be rk my gu lo hi hd ca ut wk),.bool false]) (by simp [results,Tryz.results191,go_sem,o0,o1,o2,o3,o4,o5,o6,o7,o8,o9,o10,hl1]) rfl ⟨rfl,?_⟩;refine Below.alloc ?_ (by simp;omega) _
 iterate 11 (refine YS ?_ (by simp) _)
 exact uh B1
end Go.Proofs.YtamgfpdahadnfaaGreatDoor
namespace Go.Proofs.YtamgfpdahadnfaaGreatDoor
open Go.ChangeShapes Go.WideShapes Go.ChangeAt Go.RowKit Go.Sort
set_option linter.unusedVariables false
attribute [local go_sem] Pg Pf Qs Qr Ph
theorem KA {st be rk my gu lo hi hd ca ut wk:Int} {rank x:Int} {R R':Nat} {w:World} (x0:335<=x) (x1:x<=3125) (a0:0<=ca) (a1:ca<=3125) (hR:w.cell? ⟨R,0,none⟩=some (.int .i64 rank)) (hS:w.cell? ⟨R',0,none⟩=some (.int .i64 x)) (hg:Wt (st,be,rk,my,gu,lo,hi,hd,ca,ut,wk)=false) (hp:Zh (st,be,rk,my,gu,lo,hi,hd,ca,ut,wk)=true) (hs:Zx (st,be,rank,my,gu,lo,hi,hd,(ca%x),ut,wk)=true):Calls Tryz.prog 191 #[.agg (I11 st be rk my gu lo hi hd ca ut wk),.bool true,.func (.func 192) #[] #[.pointer (some ⟨R,0,none⟩),.pointer (some ⟨R',0,none⟩)]] w fun e w'=>e= .returned (.tuple #[.agg (I11 st be rank my gu lo hi hd (ca%x) ut wk),.bool true])/\Below w.heap.size w w':=by
 have Hg:=Z9 hg;have Hp:=Z9 hp;have Hs:=Z9 hs;clear hg hp hs;have hRl:R<w.heap.size:=block_lt_of_cell hR;have hSl:R'<w.heap.size:=block_lt_of_cell hS;go_enter Tryz.func191,Tryz.ntmps191;go_wp2_with fail;refine ck (SO (uh Hg) (uh Hp) _) fun w1 hb=> ?_;have kb:Blk w1 w.heap.size 40 (I11 st be rk my gu lo hi hd ca ut wk):=((Blk.new w 40 (I11 st be rk my gu lo hi hd ca ut wk)).alloc _).below hb (by simp;omega)
 have ko:Blk w1 (w.heap.size+1) 40 E11:=by
  have k:=Blk.new (w.alloc (.cells (I11 st be rk my gu lo hi hd ca ut wk) 40)) 40 E11;rw [ZB] at k;exact k.below hb (by simp)
 have hsz:w.heap.size+2<=w1.heap.size:=by have:=hb.size;simp at this;omega
 have hl0:w.heap.size<w1.heap.size:=by omega
 have hl1:w.heap.size+1<w1.heap.size:=by omega
 have B1:=Z9 ((((Z1 w.heap.size w).alloc (Z2 _) _).alloc (by simp) _).trans (hb.mono (by simp;omega)));have Kb:=Z9 kb;have Ko:=Z9 ko;obtain ⟨c0,c1,c2,c3,c4,c5,c6,c7,c8,c9,c10⟩:=kb.c11;obtain ⟨o0,o1,o2,o3,o4,o5,o6,o7,o8,o9,o10⟩:=ko.c11;obtain ⟨of0,of1,of2,of3,of4,of5,of6,of7,of8,of9,of10⟩:=ko.f11;have hR1:w1.cell? ⟨R,0,none⟩=some (.int .i64 rank):=(hb.cell (p:=⟨R,0,none⟩) (by simp;omega)).trans (((Z1 w.heap.size w).alloc (Z2 _) _ |>.alloc (by simp) _ |>.cell (p:=⟨R,0,none⟩) (block_lt_of_cell hR)).trans hR);have hS1:w1.cell? ⟨R',0,none⟩=some (.int .i64 x):=(hb.cell (p:=⟨R',0,none⟩) (by simp;omega)).trans (((Z1 w.heap.size w).alloc (Z2 _) _ |>.alloc (by simp) _ |>.cell (p:=⟨R',0,none⟩) (block_lt_of_cell hS)).trans hS);clear hb kb ko;go_wp2_with fail;refine ck (H8 x0 x1 a0 a1 ((((Z1 w1.heap.size w1).alloc (Z2 _) _).cell (p:=⟨R,0,none⟩) (block_lt_of_cell hR1)).trans hR1) ((((Z1 w1.heap.size w1).alloc (Z2 _) _).cell (p:=⟨R',0,none⟩) (block_lt_of_cell hS1)).trans hS1)) fun w2 hb=> ?_;have kb:=((uh Kb).alloc (.cells (I11 st be rk my gu lo hi hd ca ut wk) 214)).below hb (by simp;omega);have ko:=((uh Ko).alloc (.cells (I11 st be rk my gu lo hi hd ca ut wk) 214)).below hb (by simp;omega);have hsz2:w1.heap.size+1<=w2.heap.size:=by have:=hb.size;simp at this;omega
 have hm0:w.heap.size<w2.heap.size:=by omega
 have hm1:w.heap.size+1<w2.heap.size:=by omega
 have B2:=Z9 ((((uh B1).alloc (by omega) (.cells (I11 st be rk my gu lo hi hd ca ut wk) 214))).trans (hb.mono (by simp;omega)));have Kb2:=Z9 kb;have Ko2:=Z9 ko;clear hb kb ko Kb Ko B1 c0 o0 of0 c1 o1 of1 c2 o2 of2 c3 o3 of3 c4 o4 of4 c5 o5 of5 c6 o6 of6 c7 o7 of7 c8 o8 of8 c9 o9 of9 c10 o10 of10 hR1 hS1;go_wp2_with fail;refine (RZ st be rank my gu lo hi hd (ca%x) ut wk _).mono ?_;rw [uh Hs];rintro e w3 ⟨rfl,hb⟩;have kb:=((uh Kb2).alloc (.cells (I11 st be rank my gu lo hi hd (ca%x) ut wk) 40)).below hb (by simp;omega);have ko:=((uh Ko2).alloc (.cells (I11 st be rank my gu lo hi hd (ca%x) ut wk) 40)).below hb (by simp;omega);have kn:=(Blk.new w2 40 (I11 st be rank my gu lo hi hd (ca%x) ut wk)).below hb (by simp);have B3:=Z9 ((((uh B2).alloc (by omega) (.cells (I11 st be rank my gu lo hi hd (ca%x) ut wk) 40))).trans (hb.mono (by simp;omega)));have hsz3:w2.heap.size+1<=w3.heap.size:=by have:=hb.size;simp at this;omega
 have hn0:w.heap.size<w3.heap.size:=by omega
 have hn1:w.heap.size+1<w3.heap.size:=by omega
 obtain ⟨p0,p1,p2,p3,p4,p5,p6,p7,p8,p9,p10⟩:=kn.c11;obtain ⟨o0,o1,o2,o3,o4,o5,o6,o7,o8,o9,o10⟩:=ko.c11;obtain ⟨of0,of1,of2,of3,of4,of5,of6,of7,of8,of9,of10⟩:=ko.f11;clear hb kb ko kn;go_wp2_with fail;refine ZS (v:= .tuple #[.agg (I11 st be rank my gu lo hi hd (ca%x) ut wk),.bool true]) (by simp [results,Tryz.results191,go_sem,o0,o1,o2,o3,o4,o5,o6,o7,o8,o9,o10]) rfl ⟨rfl,?_⟩
 iterate 11 (refine YS ?_ (by simp) _)
 exact uh B3
end Go.Proofs.YtamgfpdahadnfaaGreatDoor
namespace Go.Proofs.YtamgfpdahadnfaaGreatDoor
open Go.ChangeShapes Go.WideShapes Go.ChangeAt Go.RowKit Go.Sort
set_option linter.unusedVariables false
theorem Blk.second (w:World) (a:Obj) (t:TypeId) (cs:Array Value):Blk ((w.alloc a).alloc (.cells cs t)) (w.heap.size+1) t cs:=by
 have k:=Blk.new (w.alloc a) t cs;rw [ZB] at k;exact k
theorem Blk.fourth (w:World) (a b c:Obj) (t:TypeId) (cs:Array Value):Blk ((((w.alloc a).alloc b).alloc c).alloc (.cells cs t)) (w.heap.size+1+1+1) t cs:=by
 have k:=Blk.new (((w.alloc a).alloc b).alloc c) t cs;rw [ZB,ZB,ZB] at k;exact k
theorem Blk.third (w:World) (a b:Obj) (t:TypeId) (cs:Array Value):Blk (((w.alloc a).alloc b).alloc (.cells cs t)) (w.heap.size+1+1) t cs:=by
 have k:=Blk.new ((w.alloc a).alloc b) t cs;rw [ZB,ZB] at k;exact k
theorem TS {st be rk my gu lo hi hd ca ut wk y0 y1 y2 y3 y4 y5 y6 y7 y8 y9 y10 rank x:Int} {q:Bool} (w:World) (hx:Zl rank=x)
  (hC:∀ (R R':Nat) (W:World),W.cell? ⟨R,0,none⟩=some (.int .i64 rank)->W.cell? ⟨R',0,none⟩=some (.int .i64 x)->Calls Tryz.prog 191 #[.agg (I11 st be rk my gu lo hi hd ca ut wk),.bool (x !=0),.func (.func 192) #[] #[.pointer (some ⟨R,0,none⟩),.pointer (some ⟨R',0,none⟩)]] W fun e w'=>e= .returned (.tuple #[.agg (I11 y0 y1 y2 y3 y4 y5 y6 y7 y8 y9 y10),.bool q])/\Below W.heap.size W w') :
  Calls Tryz.prog 133 #[.agg (I11 st be rk my gu lo hi hd ca ut wk),.int .i64 rank] w fun e w'=>e= .returned (.tuple #[.agg (I11 y0 y1 y2 y3 y4 y5 y6 y7 y8 y9 y10),.bool q])/\Below w.heap.size w w':=by
 have HC:=Z9 hC;have Hx:=Z9 hx;clear hC hx;go_enter Tryz.func133,Tryz.ntmps133;go_wp2_with (go_at_call 190;refine (Uf (uh Hx) _).mono ?_;rintro e w' ⟨rfl,rfl⟩)
 refine Calls.mono (uh HC (w.heap.size+1) (w.heap.size+1+1+1) _ ?_ ?_) ?_
 ·exact (((Blk.second w _ 2 #[.int .i64 rank]).alloc _).alloc _).cell rfl
 ·exact (Blk.fourth w _ _ _ 2 #[.int .i64 x]).cell rfl
 rintro e w1 ⟨rfl,hb⟩;have ko:Blk w1 (w.heap.size+1+1) 40 E11:=(hb.block (w.heap.size+1+1) (by simp)).trans ((Blk.third w _ _ 40 E11).alloc _);have B1:Hid (Below w.heap.size w w1):=Z9 ((((((Z1 w.heap.size w).alloc (Z2 _) _).alloc (by simp) _).alloc (by simp;omega) _).alloc (by simp;omega) _).trans (hb.mono (by simp;omega)));obtain ⟨o0,o1,o2,o3,o4,o5,o6,o7,o8,o9,o10⟩:=ko.c11;obtain ⟨of0,of1,of2,of3,of4,of5,of6,of7,of8,of9,of10⟩:=ko.f11;clear hb ko;go_wp2_with fail;refine ZS (v:= .tuple #[.agg (I11 y0 y1 y2 y3 y4 y5 y6 y7 y8 y9 y10),.bool q]) (by simp [results,Tryz.results133,go_sem,o0,o1,o2,o3,o4,o5,o6,o7,o8,o9,o10]) rfl ⟨rfl,?_⟩
 iterate 11 (refine YS ?_ (by simp;omega) _)
 exact uh B1
theorem Jw {x:Z3} (h:Zh x=true):Zx x=true:=by unfold Zx;rw [h,Bool.or_true]
theorem NA {x:Z3} (rank:Int) (hg:Wt x=true):Zr x rank=(Vf,false):=by
 have e:=Wa hg;subst e;rfl
theorem OU {x:Z3} (rank:Int) (hg:Wt x=false) (hp:Zh x=false):Zr x rank=(Vf,false):=by unfold Zr;rw [hp,hg];rfl
theorem KV {x:Z3} {rank:Int} (hp:Zh x=true) (hw:inB rank (-5) 5=false):Zr x rank=(x,false):=by unfold Zr;rw [hp,hw];rfl
theorem Mu {x:Z3} {rank:Int} (hp:Zh x=true) (hw:inB rank (-5) 5=true):Zr x rank=(Qh x rank,true):=by unfold Zr;rw [hp,hw];rfl
theorem LY {x y:Z3} {rank:Int} {q:Bool} (h:Zr x rank=(y,q)) (w:World):Calls Tryz.prog 133 #[.agg (ZU x).toArray,.int .i64 rank] w fun e w'=>e= .returned (.tuple #[.agg (ZU y).toArray,.bool q])/\Below w.heap.size w w':=by
 obtain ⟨st,be,rk,my,gu,lo,hi,hd,ca,ut,wk⟩:=x;have hz:=Ol rank;cases hg:Wt (st,be,rk,my,gu,lo,hi,hd,ca,ut,wk)
 ·cases hp:Zh (st,be,rk,my,gu,lo,hi,hd,ca,ut,wk)
  ·rw [OU rank hg hp] at h
   obtain ⟨rfl,rfl⟩:=Prod.mk.inj h;exact TS w rfl fun R R' W hR hS=>KC hg hp _ _ _
  ·cases hw:inB rank (-5) 5
   ·rw [KV hp hw] at h
    obtain ⟨rfl,rfl⟩:=Prod.mk.inj h;exact TS w rfl fun R R' W hR hS=>by rw [hz,hw];exact DS hg hp _ _
   ·rw [Mu hp hw] at h
    obtain ⟨rfl,rfl⟩:=Prod.mk.inj h;obtain ⟨⟨s0,s1⟩,_,hr,_,_,_,⟨d0,d1⟩,⟨a0,a1⟩,_,⟨k0,k1⟩⟩:=Zi hp;have hr0:=WB hr;have hr1:=(Vw rk).2;have a2:ca<=3125:=by omega
    have x0:=WB hw;have x1:=(Vw rank).2;have hs:Zx (Qh (st,be,rk,my,gu,lo,hi,hd,ca,ut,wk) rank)=true:=Jw (SL hp hw);exact TS w rfl fun R R' W hR hS=>by rw [hz,hw];exact KA x0 x1 a0 a2 hR hS hg hp hs
 ·rw [NA rank hg] at h
  obtain ⟨rfl,rfl⟩:=Prod.mk.inj h;cases Wa hg;exact TS w rfl fun R R' W hR hS=>I0 _ _ _
open Go.ChangeShapes Go.WideShapes Go.ChangeAt Go.RowKit Go.Sort Go.Shelf
set_option linter.unusedSimpArgs false
set_option maxRecDepth 100000
theorem RP {F:Nat->TypeId->Array Value->Prop} {w W:World} {R:Nat} {a0 a1 a3 a4:Option Addr} {p0 p1 p2 p3 p4:Nat} {m:Z6} {qs:List (ZZ × Value)} {q:Int->Addr} {g2 k:Nat} (K:Ny F w W R (.slice a0 m.rm.length p0) (.slice a1 m.gd.length p1) (.slice (some ⟨g2,0,none⟩) m.sm.length p2) (.slice a3 m.dk.length p3) (.slice a4 m.pc.length p4) m qs) (he:Errs w q) (hq:WU m (k:Int)=true) (hk:k<m.sm.length):Calls Tryz.prog 132 #[.pointer (some ⟨R,0,none⟩),.int .i64 (k:Int)] W fun e W'=>e= .returned (.pointer (some ⟨g2,k*11,none⟩))/\Ny F w W' R (.slice a0 m.rm.length p0) (.slice a1 m.gd.length p1) (.slice (some ⟨g2,0,none⟩) m.sm.length p2) (.slice a3 m.dk.length p3) (.slice a4 m.pc.length p4) m qs:=by
 have hk1:(k:Int)<(m.sm.length:Int):=by omega
 have HE:=Z9 he;have Hq:=Z9 hq;clear he hq;obtain ⟨c0,c1,c2,c3,c4,c5⟩:=K.cells;have x1:=((uh HE).below K.bb).c1;go_enter Tryz.func132,Tryz.ntmps132;go_wp2_with fail;refine ZP (S:=fun w'=>w'.cell? ⟨R,0,none⟩=some (.slice a0 m.rm.length p0)/\w'.cell? ⟨R,1,none⟩=some (.slice a1 m.gd.length p1)/\w'.cell? ⟨R,2,none⟩=some (.slice (some ⟨g2,0,none⟩) m.sm.length p2)/\w'.cell? ⟨R,3,none⟩=some (.slice a3 m.dk.length p3)/\w'.cell? ⟨R,4,none⟩=some (.slice a4 m.pc.length p4)/\w'.cell? ⟨R,5,none⟩=some (.int .i64 m.now)/\w'.cell? ⟨3,0,none⟩=some (YJ (q 1))) (by kernel_rfl) (Xs _ _) (by kernel_rfl) ⟨c0,c1,c2,c3,c4,c5,x1⟩ (fun hHeld=> ?_);simp only [Xt,Xu,YT,YM,Nat.zero_add,Nat.reduceAdd];replace K:=K.next ((Z1 _ _).drew:Below W.heap.size W W.drew);clear c0 c1 c2 c3 c4 c5 x1;generalize W.drew=W5 at *;obtain ⟨c0,c1,c2,c3,c4,c5⟩:=K.cells;have x1:=((uh HE).below K.bb).c1
 (refine tk 0 rfl (by assumption) ?_;(try simp only [Act.put,sA,sZ,sS]))
 (refine tk 1 rfl (by assumption) ?_;(try simp only [Act.put,sA,sZ,sS]))
 (refine tk 2 rfl (by assumption) ?_;(try simp only [Act.put,sA,sZ,sS]))
 (refine tk 3 rfl (by assumption) ?_;(try simp only [Act.put,sA,sZ,sS]))
 (refine tk 5 rfl (by assumption) ?_;(try simp only [Act.put,sA,sZ,sS]))
 refine wpAnyH_ready (rs:=[4]) (by kernel_rfl) (by simp) ?_;refine AllReadyH.cons rfl (fun K0 hK=> ?_) AllReadyH.nil;go_simp;refine (NY (uh Hq) K.full.smy).mono ?_;rintro e9 w9 ⟨rfl,hb⟩;replace K:=K.next hb;clear hb;clear c0 c1 c2 c3 c4 c5 x1;obtain ⟨c0,c1,c2,c3,c4,c5⟩:=K.cells;have x1:=((uh HE).below K.bb).c1;refine hK.out _ _ ⟨c0,c1,c2,c3,c4,c5,x1⟩ (fun hHeld=> ?_);clear hK K0
 (try simp only [Act.put,sA,sZ,sS])
 refine wpAnyH_done (by kernel_rfl) ?_ _;refine ZF rfl rfl ?_;go_simp;clear hHeld;refine (Ud _ _).mono ?_;rintro e8 w8 ⟨rfl,h8⟩;subst w8;go_wp2_with fail;go_ret;exact ⟨rfl,K⟩
theorem Ql {F:Nat->TypeId->Array Value->Prop} {w W:World} {R:Nat} {a0 a1 a2 a3 a4:Option Addr} {p0 p1 p2 p3 p4:Nat} {m:Z6} {qs:List (ZZ × Value)} {q:Int->Addr} {who:Int} (K:Ny F w W R (.slice a0 m.rm.length p0) (.slice a1 m.gd.length p1) (.slice a2 m.sm.length p2) (.slice a3 m.dk.length p3) (.slice a4 m.pc.length p4) m qs) (he:Errs w q) (hq:WU m who=false):Calls Tryz.prog 132 #[.pointer (some ⟨R,0,none⟩),.int .i64 who] W fun e W'=>e= .panicked [{ v:=YJ (q 1),recovered:=false }]/\Below w.heap.size w W'/\(∀ k t cs,F k t cs->Blk W' k t cs):=by
 have HE:=Z9 he;have Hq:=Z9 hq;clear he hq;obtain ⟨c0,c1,c2,c3,c4,c5⟩:=K.cells;have x1:=((uh HE).below K.bb).c1;go_enter Tryz.func132,Tryz.ntmps132;go_wp2_with fail;refine ZP (S:=fun w'=>w'.cell? ⟨R,0,none⟩=some (.slice a0 m.rm.length p0)/\w'.cell? ⟨R,1,none⟩=some (.slice a1 m.gd.length p1)/\w'.cell? ⟨R,2,none⟩=some (.slice a2 m.sm.length p2)/\w'.cell? ⟨R,3,none⟩=some (.slice a3 m.dk.length p3)/\w'.cell? ⟨R,4,none⟩=some (.slice a4 m.pc.length p4)/\w'.cell? ⟨R,5,none⟩=some (.int .i64 m.now)/\w'.cell? ⟨3,0,none⟩=some (YJ (q 1))) (by kernel_rfl) (Xs _ _) (by kernel_rfl) ⟨c0,c1,c2,c3,c4,c5,x1⟩ (fun hHeld=> ?_);simp only [Xt,Xu,YT,YM,Nat.zero_add,Nat.reduceAdd];replace K:=K.next ((Z1 _ _).drew:Below W.heap.size W W.drew);clear c0 c1 c2 c3 c4 c5 x1;generalize W.drew=W5 at *;obtain ⟨c0,c1,c2,c3,c4,c5⟩:=K.cells;have x1:=((uh HE).below K.bb).c1
 (refine tk 0 rfl (by assumption) ?_;(try simp only [Act.put,sA,sZ,sS]))
 (refine tk 1 rfl (by assumption) ?_;(try simp only [Act.put,sA,sZ,sS]))
 (refine tk 2 rfl (by assumption) ?_;(try simp only [Act.put,sA,sZ,sS]))
 (refine tk 3 rfl (by assumption) ?_;(try simp only [Act.put,sA,sZ,sS]))
 (refine tk 5 rfl (by assumption) ?_;(try simp only [Act.put,sA,sZ,sS]))
 refine wpAnyH_ready (rs:=[4]) (by kernel_rfl) (by simp) ?_;refine AllReadyH.cons rfl (fun K0 hK=> ?_) AllReadyH.nil;go_simp;refine (NY (uh Hq) K.full.smy).mono ?_;rintro e9 w9 ⟨rfl,hb⟩;replace K:=K.next hb;clear hb;clear c0 c1 c2 c3 c4 c5 x1;obtain ⟨c0,c1,c2,c3,c4,c5⟩:=K.cells;have x1:=((uh HE).below K.bb).c1;refine hK.out _ _ ⟨c0,c1,c2,c3,c4,c5,x1⟩ (fun hHeld=> ?_);clear hK K0
 (try simp only [Act.put,sA,sZ,sS])
 refine wpAnyH_done (by kernel_rfl) ?_ _;refine ZF rfl rfl ?_;go_simp;clear hHeld;refine (Te (q 1) _).mono ?_;rintro e8 w8 ⟨rfl,h8⟩;subst w8;go_wp2_with fail;exact ⟨rfl,rfl,K.bb,K.fb⟩
theorem Ew {F:Nat->TypeId->Array Value->Prop} {w W:World} {R:Nat} {v0 v1 v2 v3 v4:Value} {m:Z6} {qs:List (ZZ × Value)} {q:Int->Addr} (K:Ny F w W R v0 v1 v2 v3 v4 m qs) (he:Errs w q) (hm:ZI m=true) (who low high:Int):Calls Tryz.prog 75 #[.pointer (some ⟨R,0,none⟩),.int .i64 who,.int .i64 low,.int .i64 high] W fun e W'=>PChg F w R q (Nz m who low high) (Ti m who low high) e W':=by
 obtain ⟨a0,p0,a1,p1,a2,p2,a3,p3,a4,p4,rfl,rfl,rfl,rfl,rfl⟩:=WN K.full;have HE:=Z9 he;have HM:=Z9 hm;clear he hm;obtain ⟨wq,hwq⟩:∃ b,WU m who=b:=⟨_,rfl⟩
 have Hwq:=Z9 hwq;clear hwq;cases wq
 ·have hc0:Ti m who low high=1:=by unfold Ti;rw [uh Hwq];rfl
  go_enter Tryz.func75,Tryz.ntmps75;go_wp2_with fail;refine (Ql K (uh HE) (uh Hwq)).mono ?_;rintro e w1 ⟨rfl,hb,hF⟩;go_wp2_with fail;exact ⟨rfl,PChg.no hb hF hc0 (by omega)⟩
 obtain ⟨k,rfl,hk,hs⟩:=Yl (uh Hwq);have hk1:(k:Int)<(m.sm.length:Int):=by omega
 obtain ⟨g2,hga,_,_,_,_⟩:=RecAt.view ZX (by omega) K.full.sm rfl (by omega);cases hga;go_enter Tryz.func75,Tryz.ntmps75;go_wp2_with fail;refine (RP K (uh HE) (uh Hwq) hk).mono ?_;rintro e w1 ⟨rfl,K1⟩;clear K;have K:=K1;clear K1;obtain ⟨pq,hpq⟩:∃ b,Yx low high=b:=⟨_,rfl⟩
 have Hpq:=Z9 hpq;clear hpq;have x1:=((uh HE).below K.bb).c3;go_wp2_with fail;refine ZP (S:=fun w'=>w'.cell? ⟨0,0,none⟩=some (YJ (q 3))) (by kernel_rfl) (Xs _ _) (by kernel_rfl) x1 (fun hHeld=> ?_);simp only [Xt,Xu,YT,YM,Nat.zero_add,Nat.reduceAdd];replace K:=K.next ((Z1 _ _).drew:Below w1.heap.size w1 w1.drew);clear x1;generalize w1.drew=W5 at *;have x1:=((uh HE).below K.bb).c3
 (refine tk 0 rfl (by assumption) ?_;(try simp only [Act.put,sA,sZ,sS]))
 (refine tk 1 rfl (by assumption) ?_;(try simp only [Act.put,sA,sZ,sS]))
 (refine tk 3 rfl (by assumption) ?_;(try simp only [Act.put,sA,sZ,sS]))
 refine wpAnyH_ready (rs:=[2]) (by kernel_rfl) (by simp) ?_;refine AllReadyH.cons rfl (fun K0 hK=> ?_) AllReadyH.nil;go_simp;refine (Calls.bool_of (Calls.same_below' (Vg low high _)) (uh Hpq)).mono ?_;rintro e9 w9 ⟨rfl,hb⟩;replace K:=K.next hb;clear hb;clear x1;have x1:=((uh HE).below K.bb).c3;refine hK.out _ _ x1 (fun hHeld=> ?_);clear hK K0
 (try simp only [Act.put,sA,sZ,sS])
 refine wpAnyH_done (by kernel_rfl) ?_ _;refine ZF rfl rfl ?_;go_simp;clear hHeld;cases pq
 ·have hc0:Ti m (k:Int) low high=3:=by unfold Ti;rw [uh Hwq,uh Hpq];rfl
  refine (Te (q 3) _).mono ?_;rintro e8 w8 ⟨rfl,h8⟩;subst w8;go_wp2_with fail;exact ⟨rfl,PChg.no K.bb K.fb hc0 (by omega)⟩
 refine (Ud _ _).mono ?_;rintro e8 w8 ⟨rfl,h8⟩;subst w8;have hc0:Ti m (k:Int) low high=0:=by unfold Ti;rw [uh Hwq,uh Hpq];rfl
 obtain ⟨⟨st,be,rk,my,gu,lo,hi,hd,ca,ut,wk⟩,hrk⟩:∃ d,Z8 m.sm k=d:=⟨_,rfl⟩
 have hl:∀ x:Z3,k<(setS m k x).sm.length:=fun x=>by unfold setS;simpa using hk
 have hlen:∀ x:Z3,m.sm.length=(setS m k x).sm.length:=fun x=>by unfold setS;simp
 have hat:∀ x:Z3,Z8 (setS m k x).sm k=x:=fun x=>by unfold setS;rw [ZJ hk,if_pos rfl]
 obtain ⟨_,hga,_,_,hc,hz⟩:=RecAt.view ZX (by omega) K.full.sm rfl (by omega);cases hga;have s5:=hc k hk 5 _ rfl;have f5:=hz (k*11+5);have K1:=K.putS rfl hk (i:=5) (by omega) (.int .i64 low) (st,be,rk,my,gu,low,hi,hd,ca,ut,wk) (by rw [hrk];rfl);obtain ⟨_,hga,_,_,hc1,hz1⟩:=RecAt.view ZX (by omega) K1.full.sm (hlen _) (by have:=hl (st,be,rk,my,gu,low,hi,hd,ca,ut,wk);omega);cases hga;have s6:=hc1 k (hl _) 6 _ rfl;have f6:=hz1 (k*11+6);have K2:=K1.putS (hlen _) (hl _) (i:=6) (by omega) (.int .i64 high) (st,be,rk,my,gu,low,high,hd,ca,ut,wk) (by rw [hat];rfl);rw [O0] at K2;have hx0:Nz m (k:Int) low high=setS m k (st,be,rk,my,gu,low,high,hd,ca,ut,wk):=by unfold Nz;rw [Zz,hrk];rfl
 have HK:=Z9 K2;clear K1 K2 hc hz hc1 hz1 hat hl hlen hrk x1;go_wp2_with fail
 go_end0
 exact PChg.yes (uh HK) hc0 hx0
theorem Cp {F:Nat->TypeId->Array Value->Prop} {w W:World} {R:Nat} {v0 v1 v2 v3 v4:Value} {m:Z6} {qs:List (ZZ × Value)} {q:Int->Addr} (K:Ny F w W R v0 v1 v2 v3 v4 m qs) (he:Errs w q) (hm:ZI m=true) (who rank:Int):Calls Tryz.prog 69 #[.pointer (some ⟨R,0,none⟩),.int .i64 who,.int .i64 rank] W fun e W'=>PChg F w R q (R6 m who rank) (VY m who rank) e W':=by
 obtain ⟨a0,p0,a1,p1,a2,p2,a3,p3,a4,p4,rfl,rfl,rfl,rfl,rfl⟩:=WN K.full;have HE:=Z9 he;have HM:=Z9 hm;clear he hm;obtain ⟨wq,hwq⟩:∃ b,WU m who=b:=⟨_,rfl⟩
 have Hwq:=Z9 hwq;clear hwq;cases wq
 ·have hc0:VY m who rank=1:=by unfold VY;rw [uh Hwq];rfl
  go_enter Tryz.func69,Tryz.ntmps69;go_wp2_with fail;refine (Ql K (uh HE) (uh Hwq)).mono ?_;rintro e w1 ⟨rfl,hb,hF⟩;go_wp2_with fail;exact ⟨rfl,PChg.no hb hF hc0 (by omega)⟩
 obtain ⟨k,rfl,hk,hs⟩:=Yl (uh Hwq);have hk1:(k:Int)<(m.sm.length:Int):=by omega
 obtain ⟨g2,hga,_,_,_,_⟩:=RecAt.view ZX (by omega) K.full.sm rfl (by omega);cases hga;go_enter Tryz.func69,Tryz.ntmps69;go_wp2_with fail;refine (RP K (uh HE) (uh Hwq) hk).mono ?_;rintro e w1 ⟨rfl,K1⟩;clear K;have K:=K1;clear K1;obtain ⟨⟨st,be,rk,my,gu,lo,hi,hd,ca,ut,wk⟩,hrk⟩:∃ d,Z8 m.sm k=d:=⟨_,rfl⟩
 obtain ⟨⟨y0,y1,y2,y3,y4,y5,y6,y7,y8,y9,y10⟩,ok,hre⟩:∃ y b,Zr (st,be,rk,my,gu,lo,hi,hd,ca,ut,wk) rank=(y,b):=⟨_,_,rfl⟩
 obtain ⟨_,hga,_,_,hc,hz⟩:=RecAt.view ZX (by omega) K.full.sm rfl (by omega);cases hga;obtain ⟨s0,s1,s2,s3,s4,s5,s6,s7,s8,s9,s10⟩:=ET (hc k hk);rw [hrk] at s0 s1 s2 s3 s4 s5 s6 s7 s8 s9 s10;simp only [Nat.add_zero] at s0 s1 s2 s3 s4 s5 s6 s7 s8 s9 s10;have Hrk:=Z9 hrk;have HR:Hid (∀ X:World,Calls Tryz.prog 133 #[.agg (I11 st be rk my gu lo hi hd ca ut wk),.int .i64 rank] X fun e w'=>e= .returned (.tuple #[.agg (I11 y0 y1 y2 y3 y4 y5 y6 y7 y8 y9 y10),.bool ok])/\Below X.heap.size X w'):=Z9 (fun X=>LY hre X);have Hre:=Z9 hre;clear hc hz hrk hre;go_wp2_with fail;refine (uh HR _).mono ?_;rintro e w2 ⟨rfl,hb⟩;replace K:=K.next hb;clear hb s0 s1 s2 s3 s4 s5 s6 s7 s8 s9 s10 HR;go_upto_region 2 with fail;obtain ⟨W3,hW3,hba,ks⟩:=YF w2 40 (I11 y0 y1 y2 y3 y4 y5 y6 y7 y8 y9 y10);replace K:=K.next hba;clear hba;rw [hW3];clear hW3;generalize w2.heap.size=sb at *;have x1:=((uh HE).below K.bb).c3;go_wp2_with fail;cases ok
 ·have hc0:VY m (k:Int) rank=3:=by unfold VY;rw [uh Hwq,Zz,uh Hrk,uh Hre];rfl
  refine (Te (q 3) _).mono ?_;rintro e8 w8 ⟨rfl,h8⟩;subst w8;go_wp2_with fail;exact ⟨rfl,PChg.no K.bb K.fb hc0 (by omega)⟩
 have hc0:VY m (k:Int) rank=0:=by unfold VY;rw [uh Hwq,Zz,uh Hrk,uh Hre];rfl
 have hx0:R6 m (k:Int) rank=setS m k (y0,y1,y2,y3,y4,y5,y6,y7,y8,y9,y10):=by unfold R6;rw [Zz,uh Hrk,uh Hre]
 refine (Ud _ _).mono ?_;rintro e8 w8 ⟨rfl,h8⟩;subst w8;obtain ⟨_,hga,_,_,hc,hz⟩:=RecAt.view ZX (by omega) K.full.sm rfl (by omega);cases hga;obtain ⟨s0,s1,s2,s3,s4,s5,s6,s7,s8,s9,s10⟩:=ET (hc k hk);obtain ⟨f0,f1,f2,f3,f4,f5,f6,f7,f8,f9,f10⟩:=BL hz (k*11);simp only [Nat.add_zero] at s0 s1 s2 s3 s4 s5 s6 s7 s8 s9 s10 f0;obtain ⟨e0,e1,e2,e3,e4,e5,e6,e7,e8,e9,e10⟩:=(uh ks).c11;have K1:=K.putW rfl hk (y0,y1,y2,y3,y4,y5,y6,y7,y8,y9,y10);rw [show ZU (y0,y1,y2,y3,y4,y5,y6,y7,y8,y9,y10)=[.int .i64 y0,.int .i64 y1,.int .i64 y2,.int .i64 y3,.int .i64 y4,.int .i64 y5,.int .i64 y6,.int .i64 y7,.int .i64 y8,.int .i64 y9,.int .i64 y10] from rfl,MB] at K1;have HK:=Z9 K1;clear K1 hc hz x1;go_wp2_with fail
 go_end0
 exact PChg.yes (uh HK) hc0 hx0
theorem GD {F:Nat->TypeId->Array Value->Prop} {w W:World} {R:Nat} {v0 v1 v2 v3 v4:Value} {m:Z6} {qs:List (ZZ × Value)} {q:Int->Addr} (K:Ny F w W R v0 v1 v2 v3 v4 m qs) (he:Errs w q) (hm:ZI m=true) {who low high:Int} {k0 k1 k2:Nat} (h0:W.cell? ⟨k0,0,none⟩=some (.int .i64 who)) (h1:W.cell? ⟨k1,0,none⟩=some (.int .i64 low)) (h2:W.cell? ⟨k2,0,none⟩=some (.int .i64 high)):Calls Tryz.prog 74 #[.pointer (some ⟨R,0,none⟩),.pointer (some ⟨k0,0,none⟩),.pointer (some ⟨k1,0,none⟩),.pointer (some ⟨k2,0,none⟩)] W fun e W'=>PChg F w R q (Nz m who low high) (Ti m who low high) e W':=by
 have HC:=Z9 (Ew K he hm who low high);clear K;go_enter Tryz.func74,Tryz.ntmps74;go_wp2_with fail;refine (uh HC).mono ?_;rintro e w1 ⟨hb,hF,h9⟩;clear h0 h1 h2
 rcases h9 with ⟨hc0,rfl,hx⟩ | ⟨hc0,rfl⟩
 ·go_wp2_with fail
  go_end0
  exact ⟨hb,hF,.inl ⟨hc0,rfl,hx⟩⟩
 ·go_wp2_with fail
  exact ⟨rfl,hb,hF,.inr ⟨hc0,rfl⟩⟩
theorem DN {w W:World} {R:Nat} {v0 v1 v2 v3 v4:Value} {m:Z6} {qs:List (ZZ × Value)} {q:Int->Addr} (K:Nx w W R v0 v1 v2 v3 v4 m qs) (he:Errs w q) (hm:ZI m=true) {who low high:Int} {cb k0 k1 k2:Nat} (hc:W.cell? ⟨cb,0,none⟩=some (.func (Fn.func 74) #[] #[.pointer (some ⟨k0,0,none⟩),.pointer (some ⟨k1,0,none⟩),.pointer (some ⟨k2,0,none⟩)])) (h0:W.cell? ⟨k0,0,none⟩=some (.int .i64 who)) (h1:W.cell? ⟨k1,0,none⟩=some (.int .i64 low)) (h2:W.cell? ⟨k2,0,none⟩=some (.int .i64 high)):Calls Tryz.prog 130 #[.pointer (some ⟨R,0,none⟩),.pointer (some ⟨cb,0,none⟩)] W fun e W'=>Chg w R q (Nz m who low high) (Ti m who low high) e W':=by
 have hmf:∀ (fn:Fn) (first cap:Array Value) (w:World),(Instr.makeFunc fn first cap).run Tryz.prog w= .ok (.func fn first cap) w:=fun _ _ _ _=>rfl;have HE:=Z9 he;have HM:=Z9 hm;have hRl:=K.hR;clear he hm;have hba:Below W.heap.size W (W.alloc (.cells #[.nilIface] 62)):=(Z1 _ _).alloc (Z2 _) _;have kw:Hid (Blk (W.alloc (.cells #[.nilIface] 62)) W.heap.size 62 #[.nilIface]):=Z9 (Blk.new _ _ _);replace hc:=(hba.cell (World.block_lt_of_cell? _ _ hc)).trans hc;replace h0:=(hba.cell (World.block_lt_of_cell? _ _ h0)).trans h0;replace h1:=(hba.cell (World.block_lt_of_cell? _ _ h1)).trans h1;replace h2:=(hba.cell (World.block_lt_of_cell? _ _ h2)).trans h2;have hsz:w.heap.size<=W.heap.size:=K.bb.size;have HO:Hid (R ≠ W.heap.size/\ ∀ k,Wg v0 v1 v2 v3 v4 qs k->k ≠ W.heap.size):=Z9 ⟨by have:=K.blk.lt;omega,fun k e=>by have:=(K.full.own e).2;omega⟩;replace K:=K.next hba;clear hba
 go_enter_defers Tryz.func130,Tryz.ntmps130
 go_wp2_with fail;generalize W.alloc (.cells #[.nilIface] 62)=W1 at *;generalize W.heap.size=bw at *;have KY:Ny (fun k t cs=>k=bw/\t=62/\cs=#[.nilIface]) w W1 R v0 v1 v2 v3 v4 m qs:=⟨K,fun k t cs hF=>by obtain ⟨rfl,rfl,rfl⟩:=hF;exact ⟨uh kw,(uh HO).1.symm,fun e=>(uh HO).2 _ e rfl⟩⟩
 refine (GD KY (uh HE) (uh HM) h0 h1 h2).mono ?_;rintro e w1 ⟨hb,hF,h9⟩;have kw1:=hF bw _ _ ⟨rfl,rfl,rfl⟩;have c9:=kw1.cell (i:=0) (v:= .nilIface) rfl;have f9:=kw1.free 0;have Hb:=Z9 hb;clear hF kw KY K hc HO hb h0 h1 h2
 rcases h9 with ⟨hc0,rfl,u0,u1,u2,u3,u4,rs,KN⟩ | ⟨hc0,rfl⟩
 ·obtain ⟨_,hnR,hnO⟩:=KN.fx bw _ _ ⟨rfl,rfl,rfl⟩
  have HK:Hid (Nx w (w1.setCell ⟨bw,0,none⟩ .nilIface) R u0 u1 u2 u3 u4 (Nz m who low high) rs):=Z9 ⟨KN.full.set_off (fun k e e2=>hnO (by rw [<-e2];exact e)) _ _,KN.blk.other (a:=⟨bw,0,none⟩) (fun e=>hnR e.symm) _,KN.nx.own,KN.bb.setCell (p:=⟨bw,0,none⟩) hsz _,KN.nx.hR⟩;clear KN hnR hnO kw1;go_wp2_with fail;refine leaves_cons (f:=131) (args:=#[.pointer (some ⟨bw,0,none⟩)]) (by simp) (by simp [go_sem]) ?_;refine (P7 ⟨bw,0,none⟩ _).mono ?_;rintro e u' w'' ⟨rfl,rfl,rfl⟩;have c8:(w1.setCell ⟨bw,0,none⟩ .nilIface).cell? ⟨bw,0,none⟩=some .nilIface:=by simp [c9,f9,go_sem]
  have hfin:Chg w R q (Nz m who low high) (Ti m who low high) (.returned .nilIface) (w1.setCell ⟨bw,0,none⟩ .nilIface):=⟨(uh HK).bb,.inl ⟨hc0,rfl,u0,u1,u2,u3,u4,rs,uh HK⟩⟩
  simp [Leaves,settle,results,Tryz.results130,go_sem,c8,hfin]
 ·have hfin:Chg w R q (Nz m who low high) (Ti m who low high) (.returned (YJ (q (Ti m who low high)))) (w1.setCell ⟨bw,0,none⟩ (YJ (q (Ti m who low high)))):=⟨(uh Hb).setCell (p:=⟨bw,0,none⟩) hsz _,.inr ⟨hc0,rfl⟩⟩
  have HC8:=Z9 (Oy bw (q (Ti m who low high)) w1 c9 f9);have c8:(w1.setCell ⟨bw,0,none⟩ (YJ (q (Ti m who low high)))).cell? ⟨bw,0,none⟩=some (YJ (q (Ti m who low high))):=by simp [c9,f9,go_sem]
  clear kw1;go_wp2_with fail;refine leaves_cons (f:=131) (args:=#[.pointer (some ⟨bw,0,none⟩)]) (by simp) (by simp [go_sem]) ?_;refine (uh HC8).mono ?_;rintro e u' w'' ⟨rfl,rfl,rfl⟩;simp [Leaves,settle,results,Tryz.results130,go_sem,c8,hfin]
theorem EP {F:Nat->TypeId->Array Value->Prop} {w W:World} {R:Nat} {v0 v1 v2 v3 v4:Value} {m:Z6} {qs:List (ZZ × Value)} {q:Int->Addr} (K:Ny F w W R v0 v1 v2 v3 v4 m qs) (he:Errs w q) (hm:ZI m=true) {who rank:Int} {k0 k1:Nat} (h0:W.cell? ⟨k0,0,none⟩=some (.int .i64 who)) (h1:W.cell? ⟨k1,0,none⟩=some (.int .i64 rank)):Calls Tryz.prog 68 #[.pointer (some ⟨R,0,none⟩),.pointer (some ⟨k0,0,none⟩),.pointer (some ⟨k1,0,none⟩)] W fun e W'=>PChg F w R q (R6 m who rank) (VY m who rank) e W':=by
 have HC:=Z9 (Cp K he hm who rank);clear K;go_enter Tryz.func68,Tryz.ntmps68;go_wp2_with fail;refine (uh HC).mono ?_;rintro e w1 ⟨hb,hF,h9⟩;clear h0 h1
 rcases h9 with ⟨hc0,rfl,hx⟩ | ⟨hc0,rfl⟩
 ·go_wp2_with fail
  go_end0
  exact ⟨hb,hF,.inl ⟨hc0,rfl,hx⟩⟩
 ·go_wp2_with fail
  exact ⟨rfl,hb,hF,.inr ⟨hc0,rfl⟩⟩
theorem Bv {w W:World} {R:Nat} {v0 v1 v2 v3 v4:Value} {m:Z6} {qs:List (ZZ × Value)} {q:Int->Addr} (K:Nx w W R v0 v1 v2 v3 v4 m qs) (he:Errs w q) (hm:ZI m=true) {who rank:Int} {cb k0 k1:Nat} (hc:W.cell? ⟨cb,0,none⟩=some (.func (Fn.func 68) #[] #[.pointer (some ⟨k0,0,none⟩),.pointer (some ⟨k1,0,none⟩)])) (h0:W.cell? ⟨k0,0,none⟩=some (.int .i64 who)) (h1:W.cell? ⟨k1,0,none⟩=some (.int .i64 rank)):Calls Tryz.prog 130 #[.pointer (some ⟨R,0,none⟩),.pointer (some ⟨cb,0,none⟩)] W fun e W'=>Chg w R q (R6 m who rank) (VY m who rank) e W':=by
 have hmf:∀ (fn:Fn) (first cap:Array Value) (w:World),(Instr.makeFunc fn first cap).run Tryz.prog w= .ok (.func fn first cap) w:=fun _ _ _ _=>rfl;have HE:=Z9 he;have HM:=Z9 hm;have hRl:=K.hR;clear he hm;have hba:Below W.heap.size W (W.alloc (.cells #[.nilIface] 62)):=(Z1 _ _).alloc (Z2 _) _;have kw:Hid (Blk (W.alloc (.cells #[.nilIface] 62)) W.heap.size 62 #[.nilIface]):=Z9 (Blk.new _ _ _);replace hc:=(hba.cell (World.block_lt_of_cell? _ _ hc)).trans hc;replace h0:=(hba.cell (World.block_lt_of_cell? _ _ h0)).trans h0;replace h1:=(hba.cell (World.block_lt_of_cell? _ _ h1)).trans h1;have hsz:w.heap.size<=W.heap.size:=K.bb.size;have HO:Hid (R ≠ W.heap.size/\ ∀ k,Wg v0 v1 v2 v3 v4 qs k->k ≠ W.heap.size):=Z9 ⟨by have:=K.blk.lt;omega,fun k e=>by have:=(K.full.own e).2;omega⟩;replace K:=K.next hba;clear hba
 go_enter_defers Tryz.func130,Tryz.ntmps130
 go_wp2_with fail;generalize W.alloc (.cells #[.nilIface] 62)=W1 at *;generalize W.heap.size=bw at *;have KY:Ny (fun k t cs=>k=bw/\t=62/\cs=#[.nilIface]) w W1 R v0 v1 v2 v3 v4 m qs:=⟨K,fun k t cs hF=>by obtain ⟨rfl,rfl,rfl⟩:=hF;exact ⟨uh kw,(uh HO).1.symm,fun e=>(uh HO).2 _ e rfl⟩⟩
 refine (EP KY (uh HE) (uh HM) h0 h1).mono ?_;rintro e w1 ⟨hb,hF,h9⟩;have kw1:=hF bw _ _ ⟨rfl,rfl,rfl⟩;have c9:=kw1.cell (i:=0) (v:= .nilIface) rfl;have f9:=kw1.free 0;have Hb:=Z9 hb;clear hF kw KY K hc HO hb h0 h1
 rcases h9 with ⟨hc0,rfl,u0,u1,u2,u3,u4,rs,KN⟩ | ⟨hc0,rfl⟩
 ·obtain ⟨_,hnR,hnO⟩:=KN.fx bw _ _ ⟨rfl,rfl,rfl⟩
  have HK:Hid (Nx w (w1.setCell ⟨bw,0,none⟩ .nilIface) R u0 u1 u2 u3 u4 (R6 m who rank) rs):=Z9 ⟨KN.full.set_off (fun k e e2=>hnO (by rw [<-e2];exact e)) _ _,KN.blk.other (a:=⟨bw,0,none⟩) (fun e=>hnR e.symm) _,KN.nx.own,KN.bb.setCell (p:=⟨bw,0,none⟩) hsz _,KN.nx.hR⟩;clear KN hnR hnO kw1;go_wp2_with fail;refine leaves_cons (f:=131) (args:=#[.pointer (some ⟨bw,0,none⟩)]) (by simp) (by simp [go_sem]) ?_;refine (P7 ⟨bw,0,none⟩ _).mono ?_;rintro e u' w'' ⟨rfl,rfl,rfl⟩;have c8:(w1.setCell ⟨bw,0,none⟩ .nilIface).cell? ⟨bw,0,none⟩=some .nilIface:=by simp [c9,f9,go_sem]
  have hfin:Chg w R q (R6 m who rank) (VY m who rank) (.returned .nilIface) (w1.setCell ⟨bw,0,none⟩ .nilIface):=⟨(uh HK).bb,.inl ⟨hc0,rfl,u0,u1,u2,u3,u4,rs,uh HK⟩⟩
  simp [Leaves,settle,results,Tryz.results130,go_sem,c8,hfin]
 ·have hfin:Chg w R q (R6 m who rank) (VY m who rank) (.returned (YJ (q (VY m who rank)))) (w1.setCell ⟨bw,0,none⟩ (YJ (q (VY m who rank)))):=⟨(uh Hb).setCell (p:=⟨bw,0,none⟩) hsz _,.inr ⟨hc0,rfl⟩⟩
  have HC8:=Z9 (Oy bw (q (VY m who rank)) w1 c9 f9);have c8:(w1.setCell ⟨bw,0,none⟩ (YJ (q (VY m who rank)))).cell? ⟨bw,0,none⟩=some (YJ (q (VY m who rank))):=by simp [c9,f9,go_sem]
  clear kw1;go_wp2_with fail;refine leaves_cons (f:=131) (args:=#[.pointer (some ⟨bw,0,none⟩)]) (by simp) (by simp [go_sem]) ?_;refine (uh HC8).mono ?_;rintro e u' w'' ⟨rfl,rfl,rfl⟩;simp [Leaves,settle,results,Tryz.results130,go_sem,c8,hfin]
set_option maxRecDepth 100000
theorem Mk {B g:Nat} {w:World} (hg:g=w.heap.size) (hB:B<=g):OwnHall B (w.alloc (.cells #[] 112)) (.slice (some ⟨g,0,none⟩) 0 0) []:=by
 subst hg;exact ⟨⟨by simp [RK],.inr ⟨_,0,#[],rfl,hB,heap_alloc_new w _,Z2 _,ZA _,by simp,by simp [RK]⟩⟩,fun _ h=>(by cases h),fun _ h=>(by cases h),List.Pairwise.nil⟩
theorem D2 {w:World} {v:Value} {ps:List Z4} (h:IsPaces w v ps) (hl:ps.length<=1000):Calls Tryz.prog 213 #[v] w fun e w'=> ∃ v',e= .returned v'/\PacesAt w.heap.size w' v' ps/\Below w.heap.size w w':=by
 have HR:=Z9 (IsPaces.rec (h.below ((Z1 _ _).alloc (Z2 _) (.cells #[] 114))));obtain ⟨a,cap,rfl,hc,hm,hr⟩:=h;clear hr;go_enter Tryz.func213,Tryz.ntmps213;go_wp2_with (at_builtin;refine ZH Bi rfl (.tmp 3) (.tmp 4) 207 Tryz.underlying207 rfl w.heap.size _ _ [] ps rfl rfl (Y8 rfl (Z2 _)) (uh HR) (by simp;omega) (by simp) ?_;intro u9 w9 hp9 hg9 hat9;rw [List.nil_append] at hp9;have HP9:=Z9 hp9;have HG9:=Z9 hg9;clear hp9 hg9 hat9)
 have hb9:Below w.heap.size w w9:=((ba _ _)).trans ((Z1 _ _).grown (uh HG9) (by simp) (fun i e=>by cases e;exact Z2 _));go_wp2_with fail;go_ret;exact ⟨_,rfl,uh HP9,hb9⟩
theorem Lv {w:World} {v:Value} {rs:List ZZ} (h:IsRooms w v rs) (hl:rs.length<=1000) (hp:∀ r ∈ rs,r.2.length<=1000) :
  Calls Tryz.prog 157 #[.agg #[v]] w fun e w'=> ∃ v' qs,e= .returned (.agg #[v'])/\qs.map (·.1)=rs/\OwnHall w.heap.size w' v' qs/\Below w.heap.size w w':=by
 obtain ⟨a,cap,rfl,hc,hm,hr⟩:=h;have Hr:=Z9 hr;have HP:=Z9 hp;clear hr hp;go_enter Tryz.func157,Tryz.ntmps157;go_wp2_with fail
 go_loopw [3,10] (fun u i wr=> ∃ (k:Nat) (qs:List (ZZ × Value)) (ua:Option Addr) (uc:Nat),k<=rs.length/\i= .int .i64 k/\u= .slice ua k uc/\Blk wr (w.heap.size+1) 26 #[.slice none 0 0]/\OwnHall (w.heap.size+2) wr (.slice ua k uc) qs/\qs.map (·.1)=rs.take k/\Below w.heap.size w wr) (fun _ i _=>rs.length-(intOf i).toNat)
 case atStart=>
  refine ⟨0,[],_,_,ZA _,rfl,rfl,?_,Mk (by simp) (by simp),rfl,(((ba _ _)).alloc (by simp) _).alloc (by simp;omega) _⟩;have k:=Blk.new (w.alloc (.cells #[.slice a rs.length cap] 26)) 26 #[.slice none 0 0];rw [ZB] at k;exact k.alloc _
 case round=>
  obtain ⟨k,qs,ua,uc,hk,rfl,rfl,kr,ho,hq,hb⟩:=hrel;have hql:qs.length=k:=by have:=congrArg List.length hq;simp at this;omega
  have Hql:=Z9 hql;clear hql;have Kr:=Z9 kr;have Ho:=Z9 ho;have Hq:=Z9 hq;have Hb:=Z9 hb;have hsz:=kr.lt;by_cases hlt:k<rs.length
  ·have hlt1:(k:Int)<(rs.length:Int):=by omega
   rcases uh Hr with e0 | ⟨b,off,rfl,hbw,hcl⟩
   ·rw [e0] at hlt;simp at hlt
   obtain ⟨c0,pv,c1,hpv⟩:=hcl k hlt;rw [<-hb.cell (p:=⟨b,off+k*2,none⟩) hbw] at c0;rw [<-hb.cell (p:=⟨b,off+k*2+1,none⟩) hbw] at c1;have Hpv:=Z9 (hpv.below (hb.mono (Z2 _)));have hpl:=uh HP (ZR rs k) (by unfold ZR;simp [List.getD,hlt]);have Htk:Hid (rs.take (k+1)=rs.take k++[ZR rs k]):=Z9 (by rw [List.take_succ_eq_append_getElem hlt];unfold ZR;simp [List.getD,hlt]);generalize ZR rs k=r at *;obtain ⟨n,ps⟩:=r;simp only at c0 hpl hpv;obtain ⟨pa,pc,rfl,_,_,_⟩:=hpv;have hbw':b<wr.heap.size:=by have:=hb.size;omega
   clear hcl kr ho hq hb;go_wp2_with fail;clear c0 c1;have hba:Below wr.heap.size wr (wr.alloc (.cells #[.int .i64 n,.slice pa ps.length pc] 112)):=ba _ _;have KB:Hid (Blk (wr.alloc (.cells #[.int .i64 n,.slice pa ps.length pc] 112)) wr.heap.size 112 #[.int .i64 n,.slice pa ps.length pc]):=Z9 (Blk.new wr _ _);replace Kr:=bl Kr hba;have HLB:Hid (∀ i,(Value.slice ua k uc).ownBlock=some i->i<wr.heap.size):=Z9 (fun i e=>((uh Ho).lt (.inl e)).2);replace Ho:=Z9 ((uh Ho).later hba);replace Hb:=Z9 ((uh Hb).trans (hba.mono (uh Hb).size));replace Hpv:=Z9 ((uh Hpv).below hba);have hsz2:w.heap.size+2<=(wr.alloc (.cells #[.int .i64 n,.slice pa ps.length pc] 112)).heap.size:=by have:=(uh Kr).lt;simp at this ⊢;omega
   clear hba;generalize wr.alloc (.cells #[.int .i64 n,.slice pa ps.length pc] 112)=X at *;generalize wr.heap.size=rb at *;have s0:=(uh KB).cell (i:=0) (v:= .int .i64 n) rfl;have s1:=(uh KB).cell (i:=1) (v:= .slice pa ps.length pc) rfl;refine ZP (S:=fun w'=>w'.cell? ⟨rb,0,none⟩=some (.int .i64 n)/\w'.cell? ⟨rb,1,none⟩=some (.slice pa ps.length pc)) (by kernel_rfl) (Xs _ _) (by kernel_rfl) ⟨s0,s1⟩ (fun hHeld=> ?_);simp only [Xt,Xu,YT,YM,Nat.zero_add,Nat.reduceAdd]
   iterate 5 refine tz ?_
   refine rd 5 rfl (fun K hK=> ?_);go_simp;refine (D2 ((uh Hpv).below (Z1 _ _).drew) hpl).mono ?_;rintro e9 w4 ⟨v4,rfl,hp4,hb4⟩;obtain ⟨pa4,pc4,rfl⟩:=PacesAt.shape hp4;have X4:Below X.heap.size X w4:=(Z1 X.heap.size X).drew.trans hb4;have HO4:Hid (PacesAt X.heap.size w4 (.slice pa4 ps.length pc4) ps):=Z9 hp4;have HX4:=Z9 X4;have hz4:=X4.size;have t0:=(X4.cell (p:=⟨rb,0,none⟩) (uh KB).lt).trans s0;have t1:=(X4.cell (p:=⟨rb,1,none⟩) (uh KB).lt).trans s1;clear hp4 hb4 X4;refine hK.out _ _ ⟨t0,t1⟩ (fun hHeld=> ?_);clear hK K
   (try simp only [Act.put,sA,sZ,sS])
   refine tp 6 ?_;have KB5:=((uh KB).below (uh HX4) (uh KB).lt).alloc (.cells #[.int .i64 n,.slice pa4 ps.length pc4] 112);have u0:=KB5.cell (i:=0) (v:= .int .i64 n) rfl;have u1:=KB5.cell (i:=1) (v:= .slice pa ps.length pc) rfl;refine rd 7 rfl (fun K hK=> ?_);go_simp;refine hK.out _ _ ⟨u0,u1⟩ (fun hHeld=> ?_);clear hK K
   (try simp only [Act.put,sA,sZ,sS])
   obtain ⟨v5,w5,hrun5,hown5,hg5,hat5⟩:=Sa (w:=w4.alloc (.cells #[.int .i64 n,.slice pa4 ps.length pc4] 112)) (t:=24) (ty:=24) (base:=w.heap.size+2) (v:= .slice ua k uc) (n:=k) (xs:=RK qs) Tryz.underlying24 (World.ownsRow.alloc (by have h9:=((uh Ho).later (uh HX4)).row;rw [uh Hql] at h9;exact h9) _) (g:=w4.heap.size) (c:=1) (Zg w4 (i:=0) rfl) (Zg w4 (i:=1) rfl) rfl (by omega) (by simp;omega);obtain ⟨a5,c5,rfl⟩:=J5 hown5;have hn5:∀ i,(Value.slice ua k uc).ownBlock=some i->w.heap.size+2<=i/\i<X.heap.size:=fun i e=>(uh Ho).lt (.inl e);have hrbX:=(uh KB).lt;have RB:Hid (∀ i,(Value.slice ua k uc).ownBlock=some i->i ≠ rb):=Z9 (fun i e e2=>by have:=uh HLB i e;omega);have KB6:=KB5.same (w':=w5) (hg5.block _ KB5.lt (fun e=>uh RB _ e.symm rfl));have y0:=KB6.cell (i:=0) (v:= .int .i64 n) rfl;have y1:=KB6.cell (i:=1) (v:= .slice pa ps.length pc) rfl;have HO5:=Z9 hown5;have HG5:=Z9 hg5;have HA5:=Z9 hat5;have R5:=Z9 hrun5
   have X5:Hid (Below (w.heap.size+2) X w5):=Z9 (by
    have q1:Below X.heap.size X w4:=uh HX4;have q2:Below w4.heap.size w4 (w4.alloc (.cells #[.int .i64 n,.slice pa4 ps.length pc4] 112)):=ba _ _;have q3:Below (w.heap.size+2) (w4.alloc (.cells #[.int .i64 n,.slice pa4 ps.length pc4] 112)) w5:=(Z1 _ _).grown (uh HG5) (by have:=q1.size;simp;omega) (fun i e=>((uh Ho).lt (.inl e)).1)
    exact ((q1.mono (by omega)).trans (q2.mono (by have:=q1.size;omega))).trans q3)
   have hp5:OwnHall (w.heap.size+2) w5 (.slice a5 (k+1) c5) (qs++[((n,ps),.slice pa4 ps.length pc4)]):=by
    have q1:OwnHall (w.heap.size+2) w4 (.slice ua k uc) qs:=(uh Ho).later (uh HX4);have q2:PacesAt X.heap.size w4 (.slice pa4 ps.length pc4) ps:=uh HO4;have q3:PacesAt (w.heap.size+2) w4 (.slice pa4 ps.length pc4) ps:=q2.mono (by omega);refine OwnHall.push (w:=w4) (w1:=w5) (v:= .slice ua k uc) (o:= .cells #[.int .i64 n,.slice pa4 ps.length pc4] 112) q1 q3 ?_ ?_ ?_ (uh HG5) (uh HA5)
    ·intro b' e e'
     have h8:=(q2.lt e).1;have h9:=((uh Ho).lt (.inl e')).2;omega
    ·intro q hq' b' e e'
     have h8:=(q2.lt e').1;have h9:=((uh Ho).lt (.inr ⟨q,hq',e⟩)).2;omega
    ·rw [uh Hql];exact uh HO5
   have HP5:=Z9 hp5;clear hp5 hown5 hg5 hat5 hrun5 KB5 KB6;refine rd 8 rfl (fun K hK=> ?_);refine V6 rfl (.tmp 14) (.tmp 21) 24 rfl rfl rfl (uh R5) ?_;refine hK.out _ _ ⟨y0,y1⟩ (fun hHeld=> ?_);clear hK K
   (try simp only [Act.put,sA,sZ,sS])
   refine wpAnyH_done (by kernel_rfl) ?_ _;refine ZF rfl rfl ?_;go_simp;clear hHeld;go_wp2_with fail;go_roundw
   case rel=>
    exact ⟨k+1,qs++[((n,ps),.slice pa4 ps.length pc4)],a5,c5,by omega,by go_num,rfl,(uh Kr).below (uh X5) (by omega),uh HP5,by rw [List.map_append,uh Hq,uh Htk];rfl,(uh Hb).trans ((uh X5).mono (by omega))⟩
   case measure=>exact ms
  ·obtain rfl:k=rs.length:=by omega
   have r0:=kr.cell (i:=0) rfl;have r1:=kr.free 0;go_wp2_with fail;rw [List.take_length] at hq;refine ZS (v:= .agg #[.slice ua rs.length uc]) (by simp [results,Tryz.results157,go_sem, *]) rfl ⟨_,qs,rfl,hq,?_,?_⟩
   ·exact (ho.same fun i h0 hi=>heap_setCell_other _ _ _ _ (by show i ≠ w.heap.size+1;omega)).mono (by omega)
   ·exact hb.setCell (by show _<=w.heap.size+1;omega) _
def TY (rs:List ZZ):Z6:=⟨rs,[],[],List.replicate (ZV rs).toNat (true,-1,0),List.replicate rs.length 0,0⟩
set_option maxRecDepth 100000
theorem Cx (a:Option Addr) (n cap k:Nat) (hn:n=k+1) (hc:n<=cap) (W:World):(Instr.slice 52 (.slice a n cap) (some (.int .i64 1)) (some (.int .i64 (n:Int))) (some (.int .i64 (n:Int)))).run Tryz.prog W= .ok (.slice (if k=0 then a else a.map (·.add 2)) k k) W:=by
 obtain ⟨i0,hi,hz0,hz1,hz2⟩:=info_parts Vq;have hs:∀ W,(sizeOf 91).run Tryz.prog W= .ok 2 W:=fun W=>by simp [sizeOf,typeInfo,hi,hz1]
 have hb:∀ W,(Instr.sliceBounds true n cap (some (.int .i64 1)) (some (.int .i64 (n:Int))) (some (.int .i64 (n:Int)))).run Tryz.prog W= .ok (1,n,n) W:=fun W=>by
  have h1:(0:Int)<=(n:Int)/\(n:Int)<=(cap:Int):=by omega
  have h2:(0:Int)<=(n:Int)/\(n:Int)<=(n:Int):=by omega
  have h3:(0:Int)<=1/\(1:Int)<=(n:Int):=by omega
  simp only [Instr.sliceBounds,Instr.sliceBound,asIntOf,Sem.run_bind,Sem.run_pure,Result.andThen_ok,if_pos h1,if_pos h2,if_pos h3,Zz];rfl
 simp only [Instr.slice,Sem.run_bind,run_underlying Tryz.underlying52,Result.andThen,hb,hs,Sem.run_pure];have e1:(n=1)=(k=0):=by apply propext;omega
 rw [show n-1=k by omega];simp only [e1,Nat.one_mul]
theorem IsPaces.behind {w:World} {a:Option Addr} {n cap:Nat} {e:Z4} {t:List Z4} (h:IsPaces w (.slice a n cap) (e::t)):IsPaces w (.slice (if t.length=0 then a else a.map (·.add 2)) t.length t.length) t:=by
 obtain ⟨a',cap',he,hc,hm,hr⟩:=h;cases he;rw [YT] at hc;refine ⟨_,t.length,rfl,Z2 _,by omega,?_⟩;by_cases h0:t.length=0
 ·exact .inl (List.eq_nil_of_length_eq_zero h0)
 ·rcases hr with hr | ⟨b,off,rfl,hlt,hcl⟩
  ·cases hr
  ·rw [if_neg h0]
   refine .inr ⟨b,off+2,by simp [IM],hlt,fun j hj=> ?_⟩;have:=hcl (j+1) (by simp;omega);rw [show off+(j+1)*2=off+2+j*2 by omega] at this;exact this
theorem KZ {w:World} {g base sc:Nat} {sp:Option Addr} {ps:List Z4} {xs:List Value} (ty:TypeId) (hd:w.ownsRow base 91 2 (.slice (some ⟨g,0,none⟩) ps.length ps.length) ps.length xs) (hs:IsPaces w (.slice sp ps.length sc) ps) :
  ∃ w',(Builtin.copy_ #[52,52] ty #[.slice (some ⟨g,0,none⟩) ps.length ps.length,.slice sp ps.length sc]).run Tryz.prog w= .ok (goInt ps.length) w'/\EntsAt base w' (.slice (some ⟨g,0,none⟩) ps.length ps.length) ps/\Below base w w':=by
 obtain ⟨i0,hi,hz0,hz1,hz2⟩:=info_parts Vq
 rcases hd.2 with ⟨he,_⟩ | ⟨g',cap,cur,he,hb,hg,hnc,hcm,hsz,htk⟩
 ·cases he
 cases he;have hpl:=SK ps;obtain ⟨a',cap',he,hc,hm,hr⟩:=hs;cases he
 have hload:(Builtin.firstCells 2 ps.length (.slice sp ps.length sc)).run Tryz.prog w= .ok (YY ps).toArray w:=by
  rcases hr with hr | ⟨b,off,rfl,hlt,hcl⟩
  ·subst hr
   cases sp with
   | none=>rfl
   | some ad=>
    have:=run_loadCells_list (P:=Tryz.prog) w ad (YY []) (fun j v h=>by simp [YY] at h);exact this
  ·have:=run_loadCells_list (P:=Tryz.prog) w ⟨b,off,none⟩ (YY ps) (fun j v h=>by
    have hj:j<ps.length*2:=by
     have:=(List.getElem?_eq_some_iff.1 h).1;omega
    have hp:=UB (f:=fun p:Z4=>Value.int .i64 p.1) (g:=fun p:Z4=>Value.int .i64 p.2) ps (j / 2) (by omega);have hat:Z7 ps (j / 2)=ps[j / 2]'(by omega):=by unfold Z7;simp [List.getD,(by omega:j / 2<ps.length)]
    obtain ⟨c0,c1⟩:=hcl (j / 2) (by omega);rw [hat] at c0 c1;have ha:(⟨b,off,none⟩:Addr).add j=⟨b,off+j,none⟩:=by unfold Addr.add;split<;>simp_all
    rw [ha]
    rcases Nat.mod_two_eq_zero_or_one j with e2 | e2
    ·have ej:j=j / 2*2:=by omega
     have h9:(YY ps)[j / 2*2]?=some (.int .i64 (ps[j / 2]'(by omega)).1):=hp.1;rw [<-ej,h] at h9;cases h9;rw [show off+j=off+j / 2*2 by omega];exact c0
    ·have ej:j=j / 2*2+1:=by omega
     have h9:(YY ps)[j / 2*2+1]?=some (.int .i64 (ps[j / 2]'(by omega)).2):=hp.2;rw [<-ej,h] at h9;cases h9;rw [show off+j=off+j / 2*2+1 by omega]
     exact c1)
   rw [hpl] at this;exact this
 have hst:=run_storeCells_at Tryz.prog g 0 91 (YY ps) 0 cur w hg (by rw [hpl,hsz];omega) (fun v hv=>by
  unfold YY at hv;obtain ⟨p,_,hp⟩:=List.mem_flatMap.1 hv;simp only [List.mem_cons,List.not_mem_nil,or_false] at hp
  rcases hp with rfl | rfl<;>rfl)
 have hdrop:cur.toList.drop (YY ps).length=[]:=by
  rw [List.drop_eq_nil_iff,Array.length_toList,hsz,hpl];exact Z2 _
 simp only [Nat.zero_add,List.take_zero,List.nil_append,hdrop,List.append_nil] at hst;refine ⟨w.setRow g (YY ps).toArray,?_,⟨hpl,.inr ⟨g,ps.length,(YY ps).toArray,rfl,hb,setRow_heap w g _ _ _ _ hg,Z2 _,hcm,by simp [hpl],?_⟩⟩,?_⟩
 ·have hsz2:(sizeOf 91).run Tryz.prog w= .ok 2 w:=by simp [sizeOf,typeInfo,hi,hz1]
  have hlen:(Builtin.lenOf (.slice sp ps.length sc)).run Tryz.prog w= .ok ps.length w:=rfl;have hmin:Nat.min ps.length ps.length=ps.length:=Nat.min_self _;unfold Builtin.copy_;simp only [Sem.run_bind,run_underlying Tryz.underlying52,Result.andThen_ok,hlen,hmin,hsz2,hload,List.getElem?_toArray,List.getElem?_cons_zero,List.getElem?_cons_succ,Sem.run_pure,hst]
 ·rw [List.take_of_length_le (by simp [hpl])]
 ·exact ⟨rfl,rfl,rfl,by simp [World.setRow],fun k hk=>setRow_other w g k _ (by omega)⟩
theorem Ld {w:World} {v:Value} {e:Z4} {t:List Z4} (h:IsPaces w v (e::t)) (hl:t.length<=1000):Calls Tryz.prog 216 #[v] w fun e w'=> ∃ v',e= .returned v'/\EntsAt w.heap.size w' v' t/\Below w.heap.size w w':=by
 have Hv:=Z9 h;obtain ⟨a,cap,rfl,hc,hm,hr⟩:=h;obtain ⟨n,hn⟩:∃ n,n=t.length+1:=⟨_,rfl⟩
 rw [show (e::t).length=n by rw [hn];rfl] at Hv hc ⊢;have hcut:=fun W=>Cx a n cap t.length hn hc W;have HB:=Z9 (uh Hv).behind;obtain ⟨sp,hsp⟩:∃ q,(if t.length=0 then a else a.map (·.add 2))=q:=⟨_,rfl⟩
 rw [hsp] at HB;simp only [hsp] at hcut;have hn1:n<=1001:=by omega
 clear hr hn hsp;obtain ⟨i0,hi,hz0,hz1,hz2⟩:=info_parts Vq;go_enter Tryz.func216,Tryz.ntmps216;go_upto_region 3 with (at_make;refine wpList_make_full _ rfl _ _ 52 rfl w.heap.size 91 i0 (.agg #[.int .i64 0,.int .i64 0]) 2 Tryz.underlying52 hi hz0 hz1 _ _ _ _ t.length rfl rfl rfl rfl (by rw [hz2];omega) (by unfold maxLen;omega) (Z2 _) ?_;intro w0 hown hgrow;have HBB:Hid (Below w.heap.size w w0):=Z9 ((Z1 _ _).grown hgrow (Z2 _) (fun k e=>by cases e));obtain ⟨w9,hrun,he9,hb9⟩:=KZ 3 hown ((uh HB).below (uh HBB));have HR:=Z9 hrun;have HE:=Z9 he9;have HB9:=Z9 hb9;clear hown hgrow hrun he9 hb9)
 have hr9:=uh HR;go_wp2_with fail;go_ret;exact ⟨_,rfl,uh HE,(uh HBB).trans (uh HB9)⟩
theorem Nj {w:World} {v:Value} {ps:List Zt} (h:XG w v ps) (hl:ps.length<=1000):Calls Tryz.prog 158 #[v] w fun e w'=> ∃ v',e= .returned v'/\GuildsAt w.heap.size w' v' ps/\Below w.heap.size w w':=by
 have HR:=Z9 (h.below ((Z1 _ _).alloc (Z2 _) (.cells #[] 75)));obtain ⟨a,cap,rfl,hc,hm,hr⟩:=h;clear hr;go_enter Tryz.func158,Tryz.ntmps158;go_wp2_with (at_builtin;refine ZH tyG rfl (.tmp 3) (.tmp 4) 154 Tryz.underlying154 rfl w.heap.size _ _ [] ps rfl rfl (Y8 rfl (Z2 _)) (uh HR) (by simp;omega) (by simp) ?_;intro u9 w9 hp9 hg9 hat9;rw [List.nil_append] at hp9;have HP9:=Z9 hp9;have HG9:=Z9 hg9;clear hp9 hg9 hat9)
 have hb9:Below w.heap.size w w9:=((ba _ _)).trans ((Z1 _ _).grown (uh HG9) (by simp) (fun i e=>by cases e;exact Z2 _));go_wp2_with fail;go_ret;exact ⟨_,rfl,uh HP9,hb9⟩
theorem UY {w:World} {v:Value} {ps:List Z3} (h:VA w v ps) (hl:ps.length<=1000):Calls Tryz.prog 159 #[v] w fun e w'=> ∃ v',e= .returned v'/\SmithsAt w.heap.size w' v' ps/\Below w.heap.size w w':=by
 have HR:=Z9 (h.below ((Z1 _ _).alloc (Z2 _) (.cells #[] 40)));obtain ⟨a,cap,rfl,hc,hm,hr⟩:=h;clear hr;go_enter Tryz.func159,Tryz.ntmps159;go_wp2_with (at_builtin;refine ZH tyS rfl (.tmp 3) (.tmp 4) 118 Tryz.underlying118 rfl w.heap.size _ _ [] ps rfl rfl (Y8 rfl (Z2 _)) (uh HR) (by simp;omega) (by simp) ?_;intro u9 w9 hp9 hg9 hat9;rw [List.nil_append] at hp9;have HP9:=Z9 hp9;have HG9:=Z9 hg9;clear hp9 hg9 hat9)
 have hb9:Below w.heap.size w w9:=((ba _ _)).trans ((Z1 _ _).grown (uh HG9) (by simp) (fun i e=>by cases e;exact Z2 _));go_wp2_with fail;go_ret;exact ⟨_,rfl,uh HP9,hb9⟩
theorem Lu {w:World} {v:Value} {ps:List XQ} (h:UG w v ps) (hl:ps.length<=1000):Calls Tryz.prog 160 #[v] w fun e w'=> ∃ v',e= .returned v'/\DesksAt w.heap.size w' v' ps/\Below w.heap.size w w':=by
 have HR:=Z9 (h.below ((Z1 _ _).alloc (Z2 _) (.cells #[] 43)));obtain ⟨a,cap,rfl,hc,hm,hr⟩:=h;clear hr;go_enter Tryz.func160,Tryz.ntmps160;go_wp2_with (at_builtin;refine ZH tyD rfl (.tmp 3) (.tmp 4) 131 Tryz.underlying131 rfl w.heap.size _ _ [] ps rfl rfl (Y8 rfl (Z2 _)) (uh HR) (by simp;omega) (by simp) ?_;intro u9 w9 hp9 hg9 hat9;rw [List.nil_append] at hp9;have HP9:=Z9 hp9;have HG9:=Z9 hg9;clear hp9 hg9 hat9)
 have hb9:Below w.heap.size w w9:=((ba _ _)).trans ((Z1 _ _).grown (uh HG9) (by simp) (fun i e=>by cases e;exact Z2 _));go_wp2_with fail;go_ret;exact ⟨_,rfl,uh HP9,hb9⟩
theorem KE {w:World} {v:Value} {ps:List Int} (h:Oo w v ps) (hl:ps.length<=1000):Calls Tryz.prog 161 #[v] w fun e w'=> ∃ v',e= .returned v'/\NumsAt w.heap.size w' v' ps/\Below w.heap.size w w':=by
 have HR:=Z9 (h.below ((Z1 _ _).alloc (Z2 _) (.cells #[] 2)));obtain ⟨a,cap,rfl,hc,hm,hr⟩:=h;clear hr;go_enter Tryz.func161,Tryz.ntmps161;go_wp2_with (at_builtin;refine ZH tyN rfl (.tmp 3) (.tmp 4) 130 Tryz.underlying130 rfl w.heap.size _ _ [] ps rfl rfl (Y8 rfl (Z2 _)) (uh HR) (by simp;omega) (by simp) ?_;intro u9 w9 hp9 hg9 hat9;rw [List.nil_append] at hp9;have HP9:=Z9 hp9;have HG9:=Z9 hg9;clear hp9 hg9 hat9)
 have hb9:Below w.heap.size w w9:=((ba _ _)).trans ((Z1 _ _).grown (uh HG9) (by simp) (fun i e=>by cases e;exact Z2 _));go_wp2_with fail;go_ret;exact ⟨_,rfl,uh HP9,hb9⟩
theorem Vm {w:World} {v0 v1 v2 v3 v4:Value} {m:Z6} (h:Smy w v0 v1 v2 v3 v4 m) (hF:Few m) :
  Calls Tryz.prog 94 #[.agg #[v0,v1,v2,v3,v4,.int .i64 m.now]] w fun e w'=> ∃ u0 u1 u2 u3 u4 qs,e= .returned (.agg #[u0,u1,u2,u3,u4,.int .i64 m.now])/\FullSmy w.heap.size w' u0 u1 u2 u3 u4 m qs/\Below w.heap.size w w':=by
 have Hv0:=Z9 h;have HF:=Z9 hF;obtain ⟨a0,p0,a1,p1,a2,p2,a3,p3,a4,p4,rfl,rfl,rfl,rfl,rfl,_,_,_,_,_,_,_,_,_,_⟩:=h.five;clear h hF;go_enter Tryz.func94,Tryz.ntmps94;go_wp2_with fail;obtain ⟨W,hW,kb,kr,BB⟩:=YG w 32 (S6 a0 p0 a1 p1 a2 p2 a3 p3 a4 p4 m) 32 E6;rw [hW];clear hW;obtain ⟨c0,c1,c2,c3,c4,c5⟩:=(uh kb).c6;refine ZP (S:=fun w'=>w'.cell? ⟨w.heap.size,0,none⟩=some (.slice a0 m.rm.length p0)/\w'.cell? ⟨w.heap.size,1,none⟩=some (.slice a1 m.gd.length p1)/\w'.cell? ⟨w.heap.size,2,none⟩=some (.slice a2 m.sm.length p2)/\w'.cell? ⟨w.heap.size,3,none⟩=some (.slice a3 m.dk.length p3)/\w'.cell? ⟨w.heap.size,4,none⟩=some (.slice a4 m.pc.length p4)/\w'.cell? ⟨w.heap.size,5,none⟩=some (.int .i64 m.now)) (by kernel_rfl) (Xs _ _) (by kernel_rfl) ⟨c0,c1,c2,c3,c4,c5⟩ (fun hHeld=> ?_);replace kb:=Z9 ((uh kb).below (Z1 _ _).drew (uh kb).lt);replace kr:=Z9 ((uh kr).below (Z1 _ _).drew (uh kr).lt);replace BB:=Z9 ((uh BB).drew);have Hv:=Z9 ((uh Hv0).below (uh BB));clear c0 c1 c2 c3 c4 c5;simp only [Xt,Xu,YT,YM,Nat.zero_add,Nat.reduceAdd];generalize W.drew=X0 at *;have hz0:w.heap.size+2<=X0.heap.size:=by have:=(uh kr).lt;omega
 iterate 2 refine tz ?_
 refine tp 3 ?_;refine tp 4 ?_;refine tp 6 ?_;refine tp 9 ?_;refine tp 12 ?_;refine tp 13 ?_;refine tp 15 ?_;refine tp 16 ?_;refine rd 2 rfl (fun K hK=> ?_);go_simp;refine (Lv (uh Hv).rm (uh HF).rm (uh HF).pc).mono ?_;rintro e9 X1 ⟨u0,qs,rfl,hmap,hp,hb⟩;replace Hv:=Z9 ((uh Hv).below hb);replace kb:=bl kb hb;replace kr:=bl kr hb;replace BB:=bt BB hb;have Hmap:=Z9 hmap;have hql:qs.length=m.rm.length:=by rw [<-hmap,List.length_map]
 obtain ⟨b0,q0,hu0⟩:∃ b0 q0,u0= .slice b0 m.rm.length q0:=by
  obtain ⟨a9,c9,e9⟩:=hp.shape;exact ⟨a9,c9,by rw [e9,hql]⟩
 subst hu0;have N0:Hid (OwnHall (w.heap.size+2) X1 (.slice b0 m.rm.length q0) qs):=Z9 (hp.mono hz0);have L0:Hid (∀ b,((Value.slice b0 m.rm.length q0).ownBlock=some b\/ ∃ q ∈ qs,q.2.ownBlock=some b)->b<X1.heap.size):=Z9 (fun b e=>(hp.lt e).2);have hz1:w.heap.size+2<=X1.heap.size:=by have:=hb.size;omega
 clear hmap hql hp hb;refine hK.out _ _ (uh kb).c6 (fun hHeld=> ?_);clear hK K
 (try simp only [Act.put,sA,sZ,sS])
 refine rd 5 rfl (fun K hK=> ?_);go_simp;refine (Nj (uh Hv).gd (uh HF).gd).mono ?_;rintro e9 X2 ⟨u1,rfl,hp,hb⟩;replace Hv:=Z9 ((uh Hv).below hb);replace kb:=bl kb hb;replace kr:=bl kr hb;replace BB:=bt BB hb;replace N0:=Z9 ((uh N0).later hb);obtain ⟨b1,q1,hu1⟩:=RecAt.shape hp;subst hu1;have N1:Hid (GuildsAt (w.heap.size+2) X2 (.slice b1 m.gd.length q1) m.gd):=Z9 (RecAt.mono hp (by omega));have L1:Hid (∀ b,(Value.slice b1 m.gd.length q1).ownBlock=some b->X1.heap.size<=b/\b<X2.heap.size):=Z9 (fun b e=>RecAt.lt hp e);have hsX2:=hb.size;clear hp hb;refine hK.out _ _ (uh kb).c6 (fun hHeld=> ?_);clear hK K
 (try simp only [Act.put,sA,sZ,sS])
 refine rd 7 rfl (fun K hK=> ?_);go_simp;refine ck (W7 _ _ _ _ _ _ _ _ _ _ _ _ _ _ _ _ _) fun X3 hb=> ?_;replace Hv:=Z9 ((uh Hv).below hb);replace kb:=bl kb hb;replace kr:=bl kr hb;replace BB:=bt BB hb;replace N0:=Z9 ((uh N0).later hb);replace N1:=Z9 (RecAt.later (uh N1) hb);have hsX3:=hb.size;clear hb;refine hK.out _ _ (uh kb).c6 (fun hHeld=> ?_);clear hK K
 (try simp only [Act.put,sA,sZ,sS])
 refine rd 8 rfl (fun K hK=> ?_);go_simp;refine (UY (uh Hv).sm (XH (uh HF).sm (by omega))).mono ?_;rintro e9 X4 ⟨u2,rfl,hp,hb⟩;replace Hv:=Z9 ((uh Hv).below hb);replace kb:=bl kb hb;replace kr:=bl kr hb;replace BB:=bt BB hb;replace N0:=Z9 ((uh N0).later hb);replace N1:=Z9 (RecAt.later (uh N1) hb);obtain ⟨b2,q2,hu2⟩:=RecAt.shape hp;subst hu2;have N2:Hid (SmithsAt (w.heap.size+2) X4 (.slice b2 m.sm.length q2) m.sm):=Z9 (RecAt.mono hp (by omega));have L2:Hid (∀ b,(Value.slice b2 m.sm.length q2).ownBlock=some b->X3.heap.size<=b/\b<X4.heap.size):=Z9 (fun b e=>RecAt.lt hp e);have hsX4:=hb.size;clear hp hb;refine hK.out _ _ (uh kb).c6 (fun hHeld=> ?_);clear hK K
 (try simp only [Act.put,sA,sZ,sS])
 refine rd 10 rfl (fun K hK=> ?_);go_simp;refine ck (NP _ _ _ _ _ _ _ _ _ _ _ _ _ _ _ _ _) fun X5 hb=> ?_;replace Hv:=Z9 ((uh Hv).below hb);replace kb:=bl kb hb;replace kr:=bl kr hb;replace BB:=bt BB hb;replace N0:=Z9 ((uh N0).later hb);replace N1:=Z9 (RecAt.later (uh N1) hb);replace N2:=Z9 (RecAt.later (uh N2) hb);have hsX5:=hb.size;clear hb;refine hK.out _ _ (uh kb).c6 (fun hHeld=> ?_);clear hK K
 (try simp only [Act.put,sA,sZ,sS])
 refine rd 11 rfl (fun K hK=> ?_);go_simp;refine (Lu (uh Hv).dk (uh HF).dk).mono ?_;rintro e9 X6 ⟨u3,rfl,hp,hb⟩;replace Hv:=Z9 ((uh Hv).below hb);replace kb:=bl kb hb;replace kr:=bl kr hb;replace BB:=bt BB hb;replace N0:=Z9 ((uh N0).later hb);replace N1:=Z9 (RecAt.later (uh N1) hb);replace N2:=Z9 (RecAt.later (uh N2) hb);obtain ⟨b3,q3,hu3⟩:=RecAt.shape hp;subst hu3;have N3:Hid (DesksAt (w.heap.size+2) X6 (.slice b3 m.dk.length q3) m.dk):=Z9 (RecAt.mono hp (by omega));have L3:Hid (∀ b,(Value.slice b3 m.dk.length q3).ownBlock=some b->X5.heap.size<=b/\b<X6.heap.size):=Z9 (fun b e=>RecAt.lt hp e);have hsX6:=hb.size;clear hp hb;refine hK.out _ _ (uh kb).c6 (fun hHeld=> ?_);clear hK K
 (try simp only [Act.put,sA,sZ,sS])
 refine rd 14 rfl (fun K hK=> ?_);go_simp;refine (KE (uh Hv).pc (uh HF).nums).mono ?_;rintro e9 X7 ⟨u4,rfl,hp,hb⟩;replace Hv:=Z9 ((uh Hv).below hb);replace kb:=bl kb hb;replace kr:=bl kr hb;replace BB:=bt BB hb;replace N0:=Z9 ((uh N0).later hb);replace N1:=Z9 (RecAt.later (uh N1) hb);replace N2:=Z9 (RecAt.later (uh N2) hb);replace N3:=Z9 (RecAt.later (uh N3) hb);obtain ⟨b4,q4,hu4⟩:=RecAt.shape hp;subst hu4;have N4:Hid (NumsAt (w.heap.size+2) X7 (.slice b4 m.pc.length q4) m.pc):=Z9 (RecAt.mono hp (by omega));have L4:Hid (∀ b,(Value.slice b4 m.pc.length q4).ownBlock=some b->X6.heap.size<=b/\b<X7.heap.size):=Z9 (fun b e=>RecAt.lt hp e);have hsX7:=hb.size;clear hp hb;refine hK.out _ _ (uh kb).c6 (fun hHeld=> ?_);clear hK K
 (try simp only [Act.put,sA,sZ,sS])
 refine tp 17 ?_;obtain ⟨o0,o1,o2,o3,o4,o5⟩:=(uh kr).c6;obtain ⟨f0,f1,f2,f3,f4,f5⟩:=(uh kr).f6;refine wpAnyH_done (by kernel_rfl) ?_ _;refine ZF rfl rfl ?_;go_simp;clear hHeld;have HFull:Hid (FullSmy (w.heap.size+2) X7 (.slice b0 m.rm.length q0) (.slice b1 m.gd.length q1) (.slice b2 m.sm.length q2) (.slice b3 m.dk.length q3) (.slice b4 m.pc.length q4) m qs):=Z9 (C6 X1.heap.size X2.heap.size X4.heap.size X6.heap.size (uh N0) (uh Hmap) (uh N1) (uh N2) (uh N3) (uh N4) (uh L0) (uh L1) (fun b e=>by have:=uh L2 b e;omega) (fun b e=>by have:=uh L3 b e;omega) (fun b e=>(uh L4 b e).1) (by omega) (by omega) (by omega));go_wp2_with fail;refine ZS (v:= .agg (S6 b0 q0 b1 q1 b2 q2 b3 q3 b4 q4 m)) (by simp [results,Tryz.results94,go_sem, *]) rfl ⟨_,_,_,_,_,qs,rfl,?_,?_⟩
 ·refine FullSmy.mono (n₀:=w.heap.size+2) ?_ (by omega)
  iterate 6 (refine FullSmy.set ?_ _ _ _ (by omega))
  exact uh HFull
 ·iterate 6 (refine YS ?_ (by show _<=w.heap.size+1;omega) _)
  exact uh BB
theorem QT {ps:List Z4} (h:(Yf ps && decide (0<ps.length))=false):Sq ps=((0,0),false):=by unfold Sq;rw [h];rfl
theorem LF {ps:List Z4} (h:Yf ps=true) (hl:0<ps.length):Sq ps=(Z7 ps 0,true):=by unfold Sq;rw [h,decide_eq_true hl];rfl
theorem Np {w:World} {v:Value} {ps:List Z4} (h:IsPaces w v ps) :
  Calls Tryz.prog 214 #[v] w fun e w'=>e= .returned (.tuple #[.agg #[.int .i64 (Sq ps).1.1,.int .i64 (Sq ps).1.2],.bool (Sq ps).2])/\Below w.heap.size w w':=by
 have Hv:=Z9 h;obtain ⟨a,cap,rfl,hc,hm,hr⟩:=h;cases hq:Yf ps
 ·rw [QT (by rw [hq];rfl)]
  clear hr;go_enter Tryz.func214,Tryz.ntmps214;go_wp2_with fail;refine (XX ((uh Hv).below ((ba _ _)))).mono ?_;rw [hq];rintro e w1 ⟨rfl,hb⟩;have Hb:=Z9 hb;have hsz:=hb.size;simp at hsz;obtain ⟨k1,k2⟩:=Ln hb;clear hb;go_wp2_with fail;exact ZS (v:= .tuple #[.agg #[.int .i64 0,.int .i64 0],.bool false]) (by simp [results,Tryz.results214,go_sem,k1]) rfl ⟨rfl,((((ba _ _)).trans ((uh Hb).mono (by simp))).setCell (by simp) _).setCell (by simp) _⟩
 ·rcases hr with hr | ⟨b,off,rfl,hbw,hcl⟩
  ·subst hr
   rw [QT (by simp)];go_enter Tryz.func214,Tryz.ntmps214;go_wp2_with fail;refine (XX ((uh Hv).below ((ba _ _)))).mono ?_;rw [hq];rintro e w1 ⟨rfl,hb⟩;have Hb:=Z9 hb;have hsz:=hb.size;simp at hsz;obtain ⟨k1,k2⟩:=Ln hb;clear hb;go_wp2_with fail;exact ZS (v:= .tuple #[.agg #[.int .i64 0,.int .i64 0],.bool false]) (by simp [results,Tryz.results214,go_sem,k1]) rfl ⟨rfl,((((ba _ _)).trans ((uh Hb).mono (by simp))).setCell (by simp) _).setCell (by simp) _⟩
  ·by_cases hl:0<ps.length
   ·rw [LF hq hl]
    obtain ⟨c0,c1⟩:=hcl 0 hl;simp only [Nat.zero_mul,Nat.add_zero] at c0 c1;generalize Z7 ps 0=p at *;obtain ⟨f,z⟩:=p;simp only at c0 c1;have hl2:(ps.length ==0)=false:=beq_eq_false_iff_ne.2 (by omega);have hl3:((ps.length:Int) ==0)=false:=beq_eq_false_iff_ne.2 (by omega);have hne:b ≠ w.heap.size:=U5 hbw;clear hcl;go_enter Tryz.func214,Tryz.ntmps214;go_wp2_with fail;refine (XX ((uh Hv).below ((ba _ _)))).mono ?_;rw [hq];rintro e w1 ⟨rfl,hb⟩;have Hb:=Z9 hb;have hsz:=hb.size;simp at hsz;have c0':=(hb.cell (p:=⟨b,off,none⟩) (by simp;omega)).trans ((World.cell?_alloc_old _ _ _ hne).trans c0);have c1':=(hb.cell (p:=⟨b,off+1,none⟩) (by simp;omega)).trans ((World.cell?_alloc_old _ _ _ hne).trans c1);obtain ⟨k1,k2⟩:=Ln hb;clear hb c0 c1;go_wp2_with fail;exact ZS (v:= .tuple #[.agg #[.int .i64 f,.int .i64 z],.bool true]) (by simp [results,Tryz.results214,go_sem,k1]) rfl ⟨rfl,((((ba _ _)).trans ((uh Hb).mono (by simp))).setCell (by simp) _).setCell (by simp) _⟩
   ·obtain rfl:ps=[]:=List.eq_nil_of_length_eq_zero (by omega)
    rw [QT (by simp)];clear hcl;go_enter Tryz.func214,Tryz.ntmps214;go_wp2_with fail;refine (XX ((uh Hv).below ((ba _ _)))).mono ?_;rw [hq];rintro e w1 ⟨rfl,hb⟩;have Hb:=Z9 hb;have hsz:=hb.size;simp at hsz;obtain ⟨k1,k2⟩:=Ln hb;clear hb;go_wp2_with fail;exact ZS (v:= .tuple #[.agg #[.int .i64 0,.int .i64 0],.bool false]) (by simp [results,Tryz.results214,go_sem,k1]) rfl ⟨rfl,((((ba _ _)).trans ((uh Hb).mono (by simp))).setCell (by simp) _).setCell (by simp) _⟩
end Go.Proofs.YtamgfpdahadnfaaGreatDoor
