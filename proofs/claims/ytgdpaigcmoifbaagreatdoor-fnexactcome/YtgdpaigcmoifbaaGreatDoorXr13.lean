/- Part 13 of what the proof rests on. No condition but those that a theorem names. -/
import Derived.Test.YtgdpaigcmoifbaaGreatDoorXr07
import Derived.Test.YtgdpaigcmoifbaaGreatDoorXr10
import Derived.Test.YtgdpaigcmoifbaaGreatDoorXr11
set_option maxHeartbeats 8000000
set_option maxRecDepth 100000
namespace Go.Proofs.YtgdpaigcmoifbaaGreatDoor
open Go.ChangeShapes Go.WideShapes Go.ChangeAt Go.RowKit Go.Sort
set_option linter.unusedVariables false
structure Z3 where
 rm:List Z4
 gd:List ZG
 sm:List ZZ
 dk:List Yt
 pc:List Int
 now:Int
structure Smy (w:World) (v0 v1 v2 v3 v4:Value) (m:Z3):Prop where
 rm:IsRooms w v0 m.rm
 gd:Y9 w v1 m.gd
 sm:YZ w v2 m.sm
 dk:XE w v3 m.dk
 pc:SO w v4 m.pc
theorem Smy.below {w w':World} {v0 v1 v2 v3 v4:Value} {m:Z3} (h:Smy w v0 v1 v2 v3 v4 m) (hb:Below w.heap.size w w'):Smy w' v0 v1 v2 v3 v4 m:=
 ⟨h.rm.below hb,h.gd.below hb,h.sm.below hb,h.dk.below hb,h.pc.below hb⟩
theorem Smy.alloc {w:World} {v0 v1 v2 v3 v4:Value} {m:Z3} (h:Smy w v0 v1 v2 v3 v4 m) (o:Obj):Smy (w.alloc o) v0 v1 v2 v3 v4 m:=h.below ((ba _ _))
structure Yy (m:Z3):Prop where
 rm:Q8 m.rm
 gd:m.gd.length<=1048576
 sm:m.sm.length<=1048576
 dk:m.dk.length<=1048576
 pc:m.pc.length<=1048576
theorem RoomsFrom.below {n₀:Nat} {w w':World} {v:Value} {rs:List Z4} (h:RoomsFrom n₀ w v rs) (hb:Below w.heap.size w w'):RoomsFrom n₀ w' v rs:=by
 obtain ⟨a,cap,hv,hc,hm,hr⟩:=h;refine ⟨a,cap,hv,hc,hm,?_⟩
 rcases hr with hr | ⟨b,off,ha,h0,hlt,hcl⟩
 ·exact .inl hr
 ·have hs:=hb.size
  refine .inr ⟨b,off,ha,h0,by omega,fun k hk=> ?_⟩;obtain ⟨c0,pv,c1,hp,hj⟩:=hcl k hk;exact ⟨(hb.cell (p:=⟨b,off+k*2,none⟩) hlt).trans c0,pv,(hb.cell (p:=⟨b,off+k*2+1,none⟩) hlt).trans c1,hp.below hb,hj⟩
theorem RoomsFrom.mono {n₀ n₁:Nat} {w:World} {v:Value} {rs:List Z4} (h:RoomsFrom n₀ w v rs) (hn:n₁<=n₀):RoomsFrom n₁ w v rs:=by
 obtain ⟨a,cap,hv,hc,hm,hr⟩:=h;refine ⟨a,cap,hv,hc,hm,?_⟩
 rcases hr with hr | ⟨b,off,ha,h0,hlt,hcl⟩
 ·exact .inl hr
 ·refine .inr ⟨b,off,ha,by omega,hlt,fun k hk=> ?_⟩
  obtain ⟨c0,pv,c1,hp,hj⟩:=hcl k hk;exact ⟨c0,pv,c1,hp,fun j e=>by have:=hj j e;omega⟩
theorem RecAt.set_old {α:Type} {t k:Nat} {enc:α->List Value} {n₀:Nat} {w:World} {v:Value} {xs:List α} (h:RecAt t k enc n₀ w v xs) (g o:Nat) (u:Value) (hg:g<n₀):RecAt t k enc n₀ (w.setCell ⟨g,o,none⟩ u) v xs:=
 h.same fun i hi=>heap_setCell_other w _ i u (by have:=(h.lt hi).1;show i ≠ g;omega)
structure OwnSmy (n₀:Nat) (w:World) (v0 v1 v2 v3 v4:Value) (m:Z3):Prop where
 rm:RoomsFrom n₀ w v0 m.rm
 gd:GuildsAt n₀ w v1 m.gd
 sm:SmithsAt n₀ w v2 m.sm
 dk:DesksAt n₀ w v3 m.dk
 pc:NumsAt n₀ w v4 m.pc
theorem OwnSmy.smy {n₀:Nat} {w:World} {v0 v1 v2 v3 v4:Value} {m:Z3} (h:OwnSmy n₀ w v0 v1 v2 v3 v4 m):Smy w v0 v1 v2 v3 v4 m:=⟨h.rm.rm,h.gd.list,h.sm.list,h.dk.list,h.pc.list⟩
theorem OwnSmy.mono {n₀ n₁:Nat} {w:World} {v0 v1 v2 v3 v4:Value} {m:Z3} (h:OwnSmy n₀ w v0 v1 v2 v3 v4 m) (hn:n₁<=n₀):OwnSmy n₁ w v0 v1 v2 v3 v4 m:=
 ⟨h.rm.mono hn,RecAt.mono h.gd hn,RecAt.mono h.sm hn,RecAt.mono h.dk hn,RecAt.mono h.pc hn⟩
theorem OwnSmy.set {n₀:Nat} {w:World} {v0 v1 v2 v3 v4:Value} {m:Z3} (h:OwnSmy n₀ w v0 v1 v2 v3 v4 m) (g o:Nat) (u:Value) (hg:g<n₀):OwnSmy n₀ (w.setCell ⟨g,o,none⟩ u) v0 v1 v2 v3 v4 m:=
 ⟨h.rm.set g o u hg,RecAt.set_old h.gd g o u hg,RecAt.set_old h.sm g o u hg,RecAt.set_old h.dk g o u hg,RecAt.set_old h.pc g o u hg⟩
abbrev E6:Array Value:=#[.slice none 0 0,.slice none 0 0,.slice none 0 0,.slice none 0 0,.slice none 0 0,.int .i64 0]
abbrev S6 (a0:Option Addr) (p0:Nat) (a1:Option Addr) (p1:Nat) (a2:Option Addr) (p2:Nat) (a3:Option Addr) (p3:Nat) (a4:Option Addr) (p4:Nat) (m:Z3):Array Value:=#[.slice a0 m.rm.length p0,.slice a1 m.gd.length p1,.slice a2 m.sm.length p2,.slice a3 m.dk.length p3,.slice a4 m.pc.length p4,.int .i64 m.now]
theorem Smy.five {w:World} {v0 v1 v2 v3 v4:Value} {m:Z3} (h:Smy w v0 v1 v2 v3 v4 m):∃ a0 p0 a1 p1 a2 p2 a3 p3 a4 p4,v0= .slice a0 m.rm.length p0/\v1= .slice a1 m.gd.length p1/\v2= .slice a2 m.sm.length p2/\v3= .slice a3 m.dk.length p3/\v4= .slice a4 m.pc.length p4/\m.rm.length<=p0/\p0<=9223372036854775807/\m.gd.length<=p1/\p1<=9223372036854775807/\m.sm.length<=p2/\p2<=9223372036854775807/\m.dk.length<=p3/\p3<=9223372036854775807/\m.pc.length<=p4/\p4<=9223372036854775807:=by
 obtain ⟨a0,p0,e0,x0,y0,_⟩:=h.rm;obtain ⟨a1,p1,e1,x1,y1,_⟩:=h.gd;obtain ⟨a2,p2,e2,x2,y2,_⟩:=h.sm;obtain ⟨a3,p3,e3,x3,y3,_⟩:=h.dk;obtain ⟨a4,p4,e4,x4,y4,_⟩:=h.pc;exact ⟨a0,p0,a1,p1,a2,p2,a3,p3,a4,p4,e0,e1,e2,e3,e4,x0,y0,x1,y1,x2,y2,x3,y3,x4,y4⟩
open Go.ChangeShapes Go.WideShapes Go.ChangeAt Go.RowKit Go.Sort Go.Proofs.Tryz
theorem F6 {w:World} {v:Value} {rs:List Z4} (h:IsRooms w v rs) (left:Int) (h0:0<=left) (h1:left<=1048576) :
  Calls prog 20 #[.agg #[v],.int .i64 left] w fun e w'=> ∃ x:Int,e= .returned (.int .i64 x)/\x<=1048576/\(0<=x->Q8 rs)/\Below w.heap.size w w':=by
 have Hv:=Z9 h;obtain ⟨a,cap,rfl,hc,hm,hr⟩:=h;clear hr;go_enter func20,ntmps20;go_wp2_with fail;refine (KS ((uh Hv).alloc _) left h0 h1).mono ?_;rintro e w1 ⟨x,rfl,x1,hx,hb⟩;have Hx:=Z9 hx;have Hb:=Z9 hb;clear hx hb;by_cases hx0:x<0
 ·go_wp2_with fail
  go_ret;exact ⟨-1,rfl,by omega,fun h=>by omega,((ba _ _)).trans ((uh Hb).mono (by simp))⟩
 ·go_wp2_with fail
  go_ret;exact ⟨x,rfl,x1,uh Hx,((ba _ _)).trans ((uh Hb).mono (by simp))⟩
theorem VH {w:World} {v0 v1 v2 v3 v4:Value} {m:Z3} (h:Smy w v0 v1 v2 v3 v4 m) :
  Calls prog 7 #[.agg #[v0,v1,v2,v3,v4,.int .i64 m.now],.int .i64 1048576] w fun e w'=> ∃ x:Int,e= .returned (.int .i64 x)/\(0<=x->Yy m)/\Below w.heap.size w w':=by
 have Hv:=Z9 h;obtain ⟨a0,p0,rfl,_,_⟩:=IsRooms.shape h.rm;obtain ⟨a1,p1,rfl,hc1,hm1⟩:=IsRec.shape h.gd;obtain ⟨a2,p2,rfl,hc2,hm2⟩:=IsRec.shape h.sm;obtain ⟨a3,p3,rfl,hc3,hm3⟩:=IsRec.shape h.dk;obtain ⟨a4,p4,rfl,hc4,hm4⟩:=IsRec.shape h.pc;clear h;go_enter func7,ntmps7;go_wp2_with fail;refine (F6 ((uh Hv).alloc _).rm _ (by omega) (by omega)).mono ?_;rintro e w1 ⟨x,rfl,x1,hx,hb⟩;have kb:Hid (Blk w1 w.heap.size 30 (S6 a0 p0 a1 p1 a2 p2 a3 p3 a4 p4 m)):=Z9 ((Blk.new w _ _).below hb (by simp));have BB:Hid (Below w.heap.size w w1):=Z9 (((ba _ _)).trans (hb.mono (by simp)));have Hx:=Z9 hx;clear hx hb;have c1:=(uh kb).cell (i:=1) (v:= .slice a1 m.gd.length p1) rfl;have c2:=(uh kb).cell (i:=2) (v:= .slice a2 m.sm.length p2) rfl;have c3:=(uh kb).cell (i:=3) (v:= .slice a3 m.dk.length p3) rfl;have c4:=(uh kb).cell (i:=4) (v:= .slice a4 m.pc.length p4) rfl;by_cases hx0:x<0
 ·go_wp2_with fail
  go_ret;exact ⟨-1,rfl,fun h=>by omega,uh BB⟩
 go_wp2_with fail;refine (My _ _ _ _ (by omega) (by omega) (by omega) _).mono ?_;by_cases g0:x-(m.gd.length:Int)<0
 ·rw [TP g0]
  rintro e w' ⟨rfl,h9⟩;subst w';go_wp2_with fail;go_ret;exact ⟨-1,rfl,fun h=>by omega,uh BB⟩
 rw [TQ g0];rintro e w' ⟨rfl,h9⟩;subst w';go_wp2_with fail;refine (MA _ _ _ _ (by omega) (by omega) (by omega) _).mono ?_;by_cases g1:x-(m.gd.length:Int)-(m.sm.length:Int)<0
 ·rw [TP g1]
  rintro e w' ⟨rfl,h9⟩;subst w';go_wp2_with fail;go_ret;exact ⟨-1,rfl,fun h=>by omega,uh BB⟩
 rw [TQ g1];rintro e w' ⟨rfl,h9⟩;subst w';go_wp2_with fail;refine (KR _ _ _ _ (by omega) (by omega) (by omega) _).mono ?_;by_cases g2:x-(m.gd.length:Int)-(m.sm.length:Int)-(m.dk.length:Int)<0
 ·rw [TP g2]
  rintro e w' ⟨rfl,h9⟩;subst w';go_wp2_with fail;go_ret;exact ⟨-1,rfl,fun h=>by omega,uh BB⟩
 rw [TQ g2];rintro e w' ⟨rfl,h9⟩;subst w';go_wp2_with fail;refine (Mz _ _ _ _ (by omega) (by omega) (by omega) _).mono ?_;by_cases g3:x-(m.gd.length:Int)-(m.sm.length:Int)-(m.dk.length:Int)-(m.pc.length:Int)<0
 ·rw [TP g3]
  rintro e w' ⟨rfl,h9⟩;subst w';go_wp2_with fail;go_ret;exact ⟨-1,rfl,fun h=>by omega,uh BB⟩
 rw [TQ g3];rintro e w' ⟨rfl,h9⟩;subst w';go_wp2_with fail;go_ret;exact ⟨_,rfl,fun _=>⟨uh Hx (by omega),by omega,by omega,by omega,by omega⟩,uh BB⟩
theorem IY {w:World} {v:Value} {rs:List Z4} (h:IsRooms w v rs) (hs:Q8 rs) :
  Calls prog 31 #[.agg #[v]] w fun e w'=> ∃ v',e= .returned (.agg #[v'])/\RoomsFrom w.heap.size w' v' rs/\Below w.heap.size w w':=by
 have Hv:=Z9 h;obtain ⟨a,cap,rfl,hc,hm,hr⟩:=h;clear hr;have Hb0:Hid (∀ o1 o2 o3:Obj,Below w.heap.size w (((w.alloc o1).alloc o2).alloc o3)):=Z9 (fun o1 o2 o3=>(((ba _ _)).alloc (by simp) _).alloc (by simp;omega) _);go_enter func31,ntmps31;go_wp2_with fail;refine (KZ ((uh Hv).below (uh Hb0 _ _ _)) hs).mono ?_;rintro e w1 ⟨v',rfl,hp,hb1⟩;simp only [YW] at hp;have hsz:w.heap.size+3<=w1.heap.size:=by have:=hb1.size;simp at this;omega
 obtain ⟨cc,ff⟩:=Rb hb1;have x0:=cc (w.heap.size+2) 0 (by simp);have y0:=cc (w.heap.size+1) 0 (by simp);have fx0:=ff (w.heap.size+2) 0 (by simp);have fy0:=ff (w.heap.size+1) 0 (by simp);have Hp:=Z9 hp;have Hb1:=Z9 hb1;obtain ⟨a',cap',rfl,_⟩:=hp;clear cc ff hb1;go_wp2_with fail;have B1:Below w.heap.size w w1:=(uh Hb0 _ _ _).trans ((uh Hb1).mono (by simp;omega));refine Y7 (v:= .agg #[.slice a' rs.length cap']) (by simp [results,results31,go_sem, *]) rfl ⟨_,rfl,?_,?_⟩
 ·exact (((uh Hp).set _ _ _ (by omega)).set _ _ _ (by omega)).mono (by omega)
 ·exact (B1.setCell (by show _<=w.heap.size+1+1;omega) _).setCell (by show _<=w.heap.size+1;omega) _
theorem Zb {w:World} {v0 v1 v2 v3 v4:Value} {m:Z3} (h:Smy w v0 v1 v2 v3 v4 m) (hs:Yy m) :
  Calls prog 9 #[.agg #[v0,v1,v2,v3,v4,.int .i64 m.now]] w fun e w'=> ∃ u0 u1 u2 u3 u4,e= .returned (.agg #[u0,u1,u2,u3,u4,.int .i64 m.now])/\OwnSmy w.heap.size w' u0 u1 u2 u3 u4 m/\Below w.heap.size w w':=by
 have Hv:=Z9 h;have Hs:=Z9 hs;obtain ⟨a0,p0,rfl,_,_⟩:=IsRooms.shape h.rm;obtain ⟨a1,p1,rfl,hc1,hm1⟩:=IsRec.shape h.gd;obtain ⟨a2,p2,rfl,hc2,hm2⟩:=IsRec.shape h.sm;obtain ⟨a3,p3,rfl,hc3,hm3⟩:=IsRec.shape h.dk;obtain ⟨a4,p4,rfl,hc4,hm4⟩:=IsRec.shape h.pc;clear h hs;go_enter func9,ntmps9;go_wp2_with fail;have BB:Hid (Below w.heap.size w (((w.alloc (.cells (S6 a0 p0 a1 p1 a2 p2 a3 p3 a4 p4 m) 30)).alloc (.cells E6 39)).alloc (.cells E6 39))):=Z9 ((((ba _ _)).alloc (by simp) _).alloc (by simp;omega) _);have ka:Hid (Blk (((w.alloc (.cells (S6 a0 p0 a1 p1 a2 p2 a3 p3 a4 p4 m) 30)).alloc (.cells E6 39)).alloc (.cells E6 39)) w.heap.size 30 (S6 a0 p0 a1 p1 a2 p2 a3 p3 a4 p4 m)):=Z9 (((Blk.new w _ _).alloc _).alloc _)
 have kr:Hid (Blk (((w.alloc (.cells (S6 a0 p0 a1 p1 a2 p2 a3 p3 a4 p4 m) 30)).alloc (.cells E6 39)).alloc (.cells E6 39)) (w.heap.size+1) 39 E6):=Z9 (by
  have k:=Blk.new (w.alloc (.cells (S6 a0 p0 a1 p1 a2 p2 a3 p3 a4 p4 m) 30)) 39 E6;rw [YW] at k
  exact k.alloc _)
 have ko:Hid (Blk (((w.alloc (.cells (S6 a0 p0 a1 p1 a2 p2 a3 p3 a4 p4 m) 30)).alloc (.cells E6 39)).alloc (.cells E6 39)) (w.heap.size+1+1) 39 E6):=Z9 (by
  have k:=Blk.new ((w.alloc (.cells (S6 a0 p0 a1 p1 a2 p2 a3 p3 a4 p4 m) 30)).alloc (.cells E6 39)) 39 E6;rw [YW,YW] at k
  exact k)
 generalize ((w.alloc (.cells (S6 a0 p0 a1 p1 a2 p2 a3 p3 a4 p4 m) 30)).alloc (.cells E6 39)).alloc (.cells E6 39)=W at *;have hW:w.heap.size+3<=W.heap.size:=by have:=(uh ko).lt;omega
 refine (IY ((uh Hv).below (uh BB)).rm (uh Hs).rm).mono ?_;rintro e w1 ⟨u0,rfl,hp,hb⟩;have n0:Hid (RoomsFrom (w.heap.size+3) w1 u0 m.rm):=Z9 (hp.mono hW);replace ka:=bl ka hb;replace kr:=bl kr hb;replace ko:=bl ko hb;replace BB:=bt BB hb;have hW2:w.heap.size+3<=w1.heap.size:=by have:=hb.size;omega
 obtain ⟨b0,q0,rfl,_⟩:=hp;clear hb;have o0:=(uh ko).cell (i:=0) (v:= .slice none 0 0) rfl;have f0:=(uh ko).free 0;have c1:=(uh ka).cell (i:=1) (v:= .slice a1 m.gd.length p1) rfl;go_wp2_with fail;replace ka:Hid (Blk (w1.setCell ⟨w.heap.size+1+1,0,none⟩ (.slice b0 m.rm.length q0)) w.heap.size 30 (S6 a0 p0 a1 p1 a2 p2 a3 p3 a4 p4 m)):=Z9 ((uh ka).other (a:=⟨w.heap.size+1+1,0,none⟩) (by show w.heap.size ≠ w.heap.size+1+1;omega) _);replace kr:Hid (Blk (w1.setCell ⟨w.heap.size+1+1,0,none⟩ (.slice b0 m.rm.length q0)) (w.heap.size+1) 39 E6):=Z9 ((uh kr).other (a:=⟨w.heap.size+1+1,0,none⟩) (by show w.heap.size+1 ≠ w.heap.size+1+1;omega) _);replace ko:Hid (Blk (w1.setCell ⟨w.heap.size+1+1,0,none⟩ (.slice b0 m.rm.length q0)) (w.heap.size+1+1) 39 #[.slice b0 m.rm.length q0,.slice none 0 0,.slice none 0 0,.slice none 0 0,.slice none 0 0,.int .i64 0]):=Z9 ((uh ko).set 0 _);replace n0:=Z9 ((uh n0).set (w.heap.size+1+1) 0 (.slice b0 m.rm.length q0) (by omega));replace BB:Hid (Below w.heap.size w (w1.setCell ⟨w.heap.size+1+1,0,none⟩ (.slice b0 m.rm.length q0))):=Z9 ((uh BB).setCell (p:=⟨w.heap.size+1+1,0,none⟩) (by show w.heap.size<=w.heap.size+1+1;omega) _);have hW3:w.heap.size+3<=(w1.setCell ⟨w.heap.size+1+1,0,none⟩ (.slice b0 m.rm.length q0)).heap.size:=by have:=(uh ko).lt;omega
 clear o0 f0 c1 hW hW2;generalize (w1.setCell ⟨w.heap.size+1+1,0,none⟩ (.slice b0 m.rm.length q0))=W at *;have hW:=hW3;clear hW3;refine (RD ((uh Hv).below (uh BB)).gd (uh Hs).gd).mono ?_;rintro e w2 ⟨u1,rfl,hp,hb⟩;have n1:Hid (GuildsAt (w.heap.size+3) w2 u1 m.gd):=Z9 (RecAt.mono hp hW);replace n0:=Z9 ((uh n0).below hb);replace ka:=bl ka hb;replace kr:=bl kr hb;replace ko:=bl ko hb;replace BB:=bt BB hb;have hW2:w.heap.size+3<=w2.heap.size:=by have:=hb.size;omega
 obtain ⟨b1,q1,rfl⟩:=RecAt.shape hp;clear hp hb;have o1:=(uh ko).cell (i:=1) (v:= .slice none 0 0) rfl;have f1:=(uh ko).free 1;have c2:=(uh ka).cell (i:=2) (v:= .slice a2 m.sm.length p2) rfl;go_wp2_with fail;replace ka:Hid (Blk (w2.setCell ⟨w.heap.size+1+1,1,none⟩ (.slice b1 m.gd.length q1)) w.heap.size 30 (S6 a0 p0 a1 p1 a2 p2 a3 p3 a4 p4 m)):=Z9 ((uh ka).other (a:=⟨w.heap.size+1+1,1,none⟩) (by show w.heap.size ≠ w.heap.size+1+1;omega) _);replace kr:Hid (Blk (w2.setCell ⟨w.heap.size+1+1,1,none⟩ (.slice b1 m.gd.length q1)) (w.heap.size+1) 39 E6):=Z9 ((uh kr).other (a:=⟨w.heap.size+1+1,1,none⟩) (by show w.heap.size+1 ≠ w.heap.size+1+1;omega) _);replace ko:Hid (Blk (w2.setCell ⟨w.heap.size+1+1,1,none⟩ (.slice b1 m.gd.length q1)) (w.heap.size+1+1) 39 #[.slice b0 m.rm.length q0,.slice b1 m.gd.length q1,.slice none 0 0,.slice none 0 0,.slice none 0 0,.int .i64 0]):=Z9 ((uh ko).set 1 _);replace n0:=Z9 ((uh n0).set (w.heap.size+1+1) 1 (.slice b1 m.gd.length q1) (by omega));replace n1:=Z9 (RecAt.set_old (uh n1) (w.heap.size+1+1) 1 (.slice b1 m.gd.length q1) (by omega));replace BB:Hid (Below w.heap.size w (w2.setCell ⟨w.heap.size+1+1,1,none⟩ (.slice b1 m.gd.length q1))):=Z9 ((uh BB).setCell (p:=⟨w.heap.size+1+1,1,none⟩) (by show w.heap.size<=w.heap.size+1+1;omega) _);have hW3:w.heap.size+3<=(w2.setCell ⟨w.heap.size+1+1,1,none⟩ (.slice b1 m.gd.length q1)).heap.size:=by have:=(uh ko).lt;omega
 clear o1 f1 c2 hW hW2;generalize (w2.setCell ⟨w.heap.size+1+1,1,none⟩ (.slice b1 m.gd.length q1))=W at *;have hW:=hW3;clear hW3;refine (RF ((uh Hv).below (uh BB)).sm (uh Hs).sm).mono ?_;rintro e w3 ⟨u2,rfl,hp,hb⟩;have n2:Hid (SmithsAt (w.heap.size+3) w3 u2 m.sm):=Z9 (RecAt.mono hp hW);replace n0:=Z9 ((uh n0).below hb);replace n1:=Z9 (RecAt.later (uh n1) hb);replace ka:=bl ka hb;replace kr:=bl kr hb;replace ko:=bl ko hb;replace BB:=bt BB hb;have hW2:w.heap.size+3<=w3.heap.size:=by have:=hb.size;omega
 obtain ⟨b2,q2,rfl⟩:=RecAt.shape hp;clear hp hb;have o2:=(uh ko).cell (i:=2) (v:= .slice none 0 0) rfl;have f2:=(uh ko).free 2;have c3:=(uh ka).cell (i:=3) (v:= .slice a3 m.dk.length p3) rfl;go_wp2_with fail;replace ka:Hid (Blk (w3.setCell ⟨w.heap.size+1+1,2,none⟩ (.slice b2 m.sm.length q2)) w.heap.size 30 (S6 a0 p0 a1 p1 a2 p2 a3 p3 a4 p4 m)):=Z9 ((uh ka).other (a:=⟨w.heap.size+1+1,2,none⟩) (by show w.heap.size ≠ w.heap.size+1+1;omega) _);replace kr:Hid (Blk (w3.setCell ⟨w.heap.size+1+1,2,none⟩ (.slice b2 m.sm.length q2)) (w.heap.size+1) 39 E6):=Z9 ((uh kr).other (a:=⟨w.heap.size+1+1,2,none⟩) (by show w.heap.size+1 ≠ w.heap.size+1+1;omega) _);replace ko:Hid (Blk (w3.setCell ⟨w.heap.size+1+1,2,none⟩ (.slice b2 m.sm.length q2)) (w.heap.size+1+1) 39 #[.slice b0 m.rm.length q0,.slice b1 m.gd.length q1,.slice b2 m.sm.length q2,.slice none 0 0,.slice none 0 0,.int .i64 0]):=Z9 ((uh ko).set 2 _);replace n0:=Z9 ((uh n0).set (w.heap.size+1+1) 2 (.slice b2 m.sm.length q2) (by omega));replace n1:=Z9 (RecAt.set_old (uh n1) (w.heap.size+1+1) 2 (.slice b2 m.sm.length q2) (by omega));replace n2:=Z9 (RecAt.set_old (uh n2) (w.heap.size+1+1) 2 (.slice b2 m.sm.length q2) (by omega));replace BB:Hid (Below w.heap.size w (w3.setCell ⟨w.heap.size+1+1,2,none⟩ (.slice b2 m.sm.length q2))):=Z9 ((uh BB).setCell (p:=⟨w.heap.size+1+1,2,none⟩) (by show w.heap.size<=w.heap.size+1+1;omega) _);have hW3:w.heap.size+3<=(w3.setCell ⟨w.heap.size+1+1,2,none⟩ (.slice b2 m.sm.length q2)).heap.size:=by have:=(uh ko).lt;omega
 clear o2 f2 c3 hW hW2;generalize (w3.setCell ⟨w.heap.size+1+1,2,none⟩ (.slice b2 m.sm.length q2))=W at *;have hW:=hW3;clear hW3;refine (Qs ((uh Hv).below (uh BB)).dk (uh Hs).dk).mono ?_;rintro e w4 ⟨u3,rfl,hp,hb⟩;have n3:Hid (DesksAt (w.heap.size+3) w4 u3 m.dk):=Z9 (RecAt.mono hp hW);replace n0:=Z9 ((uh n0).below hb);replace n1:=Z9 (RecAt.later (uh n1) hb);replace n2:=Z9 (RecAt.later (uh n2) hb);replace ka:=bl ka hb;replace kr:=bl kr hb;replace ko:=bl ko hb;replace BB:=bt BB hb;have hW2:w.heap.size+3<=w4.heap.size:=by have:=hb.size;omega
 obtain ⟨b3,q3,rfl⟩:=RecAt.shape hp;clear hp hb;have o3:=(uh ko).cell (i:=3) (v:= .slice none 0 0) rfl;have f3:=(uh ko).free 3;have c4:=(uh ka).cell (i:=4) (v:= .slice a4 m.pc.length p4) rfl;go_wp2_with fail;replace ka:Hid (Blk (w4.setCell ⟨w.heap.size+1+1,3,none⟩ (.slice b3 m.dk.length q3)) w.heap.size 30 (S6 a0 p0 a1 p1 a2 p2 a3 p3 a4 p4 m)):=Z9 ((uh ka).other (a:=⟨w.heap.size+1+1,3,none⟩) (by show w.heap.size ≠ w.heap.size+1+1;omega) _);replace kr:Hid (Blk (w4.setCell ⟨w.heap.size+1+1,3,none⟩ (.slice b3 m.dk.length q3)) (w.heap.size+1) 39 E6):=Z9 ((uh kr).other (a:=⟨w.heap.size+1+1,3,none⟩) (by show w.heap.size+1 ≠ w.heap.size+1+1;omega) _);replace ko:Hid (Blk (w4.setCell ⟨w.heap.size+1+1,3,none⟩ (.slice b3 m.dk.length q3)) (w.heap.size+1+1) 39 #[.slice b0 m.rm.length q0,.slice b1 m.gd.length q1,.slice b2 m.sm.length q2,.slice b3 m.dk.length q3,.slice none 0 0,.int .i64 0]):=Z9 ((uh ko).set 3 _);replace n0:=Z9 ((uh n0).set (w.heap.size+1+1) 3 (.slice b3 m.dk.length q3) (by omega));replace n1:=Z9 (RecAt.set_old (uh n1) (w.heap.size+1+1) 3 (.slice b3 m.dk.length q3) (by omega));replace n2:=Z9 (RecAt.set_old (uh n2) (w.heap.size+1+1) 3 (.slice b3 m.dk.length q3) (by omega));replace n3:=Z9 (RecAt.set_old (uh n3) (w.heap.size+1+1) 3 (.slice b3 m.dk.length q3) (by omega));replace BB:Hid (Below w.heap.size w (w4.setCell ⟨w.heap.size+1+1,3,none⟩ (.slice b3 m.dk.length q3))):=Z9 ((uh BB).setCell (p:=⟨w.heap.size+1+1,3,none⟩) (by show w.heap.size<=w.heap.size+1+1;omega) _);have hW3:w.heap.size+3<=(w4.setCell ⟨w.heap.size+1+1,3,none⟩ (.slice b3 m.dk.length q3)).heap.size:=by have:=(uh ko).lt;omega
 clear o3 f3 c4 hW hW2;generalize (w4.setCell ⟨w.heap.size+1+1,3,none⟩ (.slice b3 m.dk.length q3))=W at *;have hW:=hW3;clear hW3;refine (RE ((uh Hv).below (uh BB)).pc (uh Hs).pc).mono ?_;rintro e w5 ⟨u4,rfl,hp,hb⟩;have n4:Hid (NumsAt (w.heap.size+3) w5 u4 m.pc):=Z9 (RecAt.mono hp hW);replace n0:=Z9 ((uh n0).below hb);replace n1:=Z9 (RecAt.later (uh n1) hb);replace n2:=Z9 (RecAt.later (uh n2) hb);replace n3:=Z9 (RecAt.later (uh n3) hb);replace ka:=bl ka hb;replace kr:=bl kr hb;replace ko:=bl ko hb;replace BB:=bt BB hb;have hW2:w.heap.size+3<=w5.heap.size:=by have:=hb.size;omega
 obtain ⟨b4,q4,rfl⟩:=RecAt.shape hp;clear hp hb;have o4:=(uh ko).cell (i:=4) (v:= .slice none 0 0) rfl;have f4:=(uh ko).free 4;have o0:=(uh ko).cell (i:=0) (v:= .slice b0 m.rm.length q0) rfl;have r0:=(uh kr).cell (i:=0) (v:= .slice none 0 0) rfl;have rf0:=(uh kr).free 0;have o1:=(uh ko).cell (i:=1) (v:= .slice b1 m.gd.length q1) rfl;have r1:=(uh kr).cell (i:=1) (v:= .slice none 0 0) rfl;have rf1:=(uh kr).free 1;have o2:=(uh ko).cell (i:=2) (v:= .slice b2 m.sm.length q2) rfl;have r2:=(uh kr).cell (i:=2) (v:= .slice none 0 0) rfl;have rf2:=(uh kr).free 2;have o3:=(uh ko).cell (i:=3) (v:= .slice b3 m.dk.length q3) rfl;have r3:=(uh kr).cell (i:=3) (v:= .slice none 0 0) rfl;have rf3:=(uh kr).free 3;have r4:=(uh kr).cell (i:=4) (v:= .slice none 0 0) rfl;have rf4:=(uh kr).free 4;have o5:=(uh ko).cell (i:=5) (v:= .int .i64 0) rfl;have r5:=(uh kr).cell (i:=5) (v:= .int .i64 0) rfl;have rf5:=(uh kr).free 5;have f5:=(uh ko).free 5;have c5:=(uh ka).cell (i:=5) (v:= .int .i64 m.now) rfl;go_wp2_with fail;refine Y7 (v:= .agg (S6 b0 q0 b1 q1 b2 q2 b3 q3 b4 q4 m)) (by simp [results,results9,go_sem,r0,r1,r2,r3,r4,r5]) rfl ⟨_,_,_,_,_,rfl,?_,?_⟩
 ·refine OwnSmy.mono ?_ (show w.heap.size<=w.heap.size+3 by omega)
  iterate 8 (refine OwnSmy.set ?_ _ _ _ (by omega))
  exact ⟨uh n0,uh n1,uh n2,uh n3,uh n4⟩
 ·iterate 8 (refine VZ ?_ (by first | (show _<=w.heap.size+1+1;omega) | (show _<=w.heap.size+1;omega)) _)
  exact uh BB
theorem Zw {w:World} {v0 v1 v2 v3 v4 u0 u1 u2 u3 u4:Value} {m:Z3} (h:Smy w v0 v1 v2 v3 v4 m) (k:Smy w u0 u1 u2 u3 u4 m) :
  cB 11 #[.agg #[v0,v1,v2,v3,v4,.int .i64 m.now],.agg #[u0,u1,u2,u3,u4,.int .i64 m.now]] w (.bool true):=by
 have Hv:=Z9 h;have Hu:=Z9 k;obtain ⟨a0,p0,rfl,_,_⟩:=IsRooms.shape h.rm;obtain ⟨a1,p1,rfl,hc1,hm1⟩:=IsRec.shape h.gd;obtain ⟨a2,p2,rfl,hc2,hm2⟩:=IsRec.shape h.sm;obtain ⟨a3,p3,rfl,hc3,hm3⟩:=IsRec.shape h.dk;obtain ⟨a4,p4,rfl,hc4,hm4⟩:=IsRec.shape h.pc;obtain ⟨b0,q0,b1,q1,b2,q2,b3,q3,b4,q4,rfl,rfl,rfl,rfl,rfl,_,_,_,_,_,_,_,_,_,_⟩:=k.five;clear h k;go_enter func11,ntmps11;go_wp2_with fail;have BB:Hid (Below w.heap.size w ((w.alloc (.cells (S6 a0 p0 a1 p1 a2 p2 a3 p3 a4 p4 m) 39)).alloc (.cells (S6 b0 q0 b1 q1 b2 q2 b3 q3 b4 q4 m) 39))):=Z9 (((ba _ _)).alloc (by simp) _);have ka:Hid (Blk ((w.alloc (.cells (S6 a0 p0 a1 p1 a2 p2 a3 p3 a4 p4 m) 39)).alloc (.cells (S6 b0 q0 b1 q1 b2 q2 b3 q3 b4 q4 m) 39)) w.heap.size 39 (S6 a0 p0 a1 p1 a2 p2 a3 p3 a4 p4 m)):=Z9 ((Blk.new w _ _).alloc _)
 have kb:Hid (Blk ((w.alloc (.cells (S6 a0 p0 a1 p1 a2 p2 a3 p3 a4 p4 m) 39)).alloc (.cells (S6 b0 q0 b1 q1 b2 q2 b3 q3 b4 q4 m) 39)) (w.heap.size+1) 39 (S6 b0 q0 b1 q1 b2 q2 b3 q3 b4 q4 m)):=Z9 (by
  have k:=Blk.new (w.alloc (.cells (S6 a0 p0 a1 p1 a2 p2 a3 p3 a4 p4 m) 39)) 39 (S6 b0 q0 b1 q1 b2 q2 b3 q3 b4 q4 m);rw [YW] at k
  exact k)
 generalize (w.alloc (.cells (S6 a0 p0 a1 p1 a2 p2 a3 p3 a4 p4 m) 39)).alloc (.cells (S6 b0 q0 b1 q1 b2 q2 b3 q3 b4 q4 m) 39)=W at *;refine ck (HJ ((uh Hv).below (uh BB)).rm ((uh Hu).below (uh BB)).rm) fun w1 hb=> ?_;replace ka:=bl ka hb;replace kb:=bl kb hb;replace BB:=bt BB hb;clear hb;have c1:=(uh ka).cell (i:=1) (v:= .slice a1 m.gd.length p1) rfl;have d1:=(uh kb).cell (i:=1) (v:= .slice b1 m.gd.length q1) rfl;go_wp2_with fail;clear c1 d1;refine ck (LH ((uh Hv).below (uh BB)).gd ((uh Hu).below (uh BB)).gd) fun w2 hb=> ?_;replace ka:=bl ka hb;replace kb:=bl kb hb;replace BB:=bt BB hb;clear hb;have c2:=(uh ka).cell (i:=2) (v:= .slice a2 m.sm.length p2) rfl;have d2:=(uh kb).cell (i:=2) (v:= .slice b2 m.sm.length q2) rfl;go_wp2_with fail;clear c2 d2;refine ck (LI ((uh Hv).below (uh BB)).sm ((uh Hu).below (uh BB)).sm) fun w3 hb=> ?_;replace ka:=bl ka hb;replace kb:=bl kb hb;replace BB:=bt BB hb;clear hb;have c3:=(uh ka).cell (i:=3) (v:= .slice a3 m.dk.length p3) rfl;have d3:=(uh kb).cell (i:=3) (v:= .slice b3 m.dk.length q3) rfl;go_wp2_with fail;clear c3 d3;refine ck (JH ((uh Hv).below (uh BB)).dk ((uh Hu).below (uh BB)).dk) fun w4 hb=> ?_;replace ka:=bl ka hb;replace kb:=bl kb hb;replace BB:=bt BB hb;clear hb;have c4:=(uh ka).cell (i:=4) (v:= .slice a4 m.pc.length p4) rfl;have d4:=(uh kb).cell (i:=4) (v:= .slice b4 m.pc.length q4) rfl;go_wp2_with fail;clear c4 d4;refine ck (HZ ((uh Hv).below (uh BB)).pc ((uh Hu).below (uh BB)).pc) fun w5 hb=> ?_;replace ka:=bl ka hb;replace kb:=bl kb hb;replace BB:=bt BB hb;clear hb;have c5:=(uh ka).cell (i:=5) (v:= .int .i64 m.now) rfl;have d5:=(uh kb).cell (i:=5) (v:= .int .i64 m.now) rfl;go_wp2_with fail;go_ret;exact ⟨rfl,uh BB⟩
theorem DT {lo hi b:Int} (h0:0<=lo) (h1:lo<=hi) (h2:hi<=8) (hb0 : -1<=b) (hb1:b<=8):VW (Gm lo hi) b=decide (lo<=b/\b<hi):=by
 have key:∀ b:Fin 10,∀ hi:Fin 9,∀ lo:Fin 9,lo.val<=hi.val->VW (Gm lo.val hi.val) ((b.val:Int)-1)=decide ((lo.val:Int)<=(b.val:Int)-1/\(b.val:Int)-1<hi.val):=by decide +kernel
 have:=key ⟨(b+1).toNat,by omega⟩ ⟨hi.toNat,by omega⟩ ⟨lo.toNat,by omega⟩ (by show lo.toNat<=hi.toNat;omega);simp only [show ((lo.toNat:Nat):Int)=lo by omega,show ((hi.toNat:Nat):Int)=hi by omega,show (((b+1).toNat:Nat):Int)-1=b by omega] at this;exact this
structure Bx (w W:World) (R:Nat) (a0:Option Addr) (p0:Nat) (a1:Option Addr) (p1:Nat) (a2:Option Addr) (p2:Nat) (a3:Option Addr) (p3:Nat) (a4:Option Addr) (p4:Nat) (m:Z3):Prop where
 smy:Smy W (.slice a0 m.rm.length p0) (.slice a1 m.gd.length p1) (.slice a2 m.sm.length p2) (.slice a3 m.dk.length p3) (.slice a4 m.pc.length p4) m
 blk:Blk W R 39 (S6 a0 p0 a1 p1 a2 p2 a3 p3 a4 p4 m)
 bb:Below w.heap.size w W
section
variable {w W X : World} {R : Nat} {a0 a1 a2 a3 a4 : Option Addr} {p0 p1 p2 p3 p4 : Nat} {m : Z3}
theorem Bx.next (h:Bx w W R a0 p0 a1 p1 a2 p2 a3 p3 a4 p4 m) (hb:Below W.heap.size W X):Bx w X R a0 p0 a1 p1 a2 p2 a3 p3 a4 p4 m:=⟨h.smy.below hb,h.blk.below hb h.blk.lt,h.bb.trans (hb.mono h.bb.size)⟩
theorem Bx.alloc (h:Bx w W R a0 p0 a1 p1 a2 p2 a3 p3 a4 p4 m) (o:Obj):Bx w (W.alloc o) R a0 p0 a1 p1 a2 p2 a3 p3 a4 p4 m:=h.next ((ba _ _))
theorem Bx.drew (h:Bx w W R a0 p0 a1 p1 a2 p2 a3 p3 a4 p4 m):Bx w W.drew R a0 p0 a1 p1 a2 p2 a3 p3 a4 p4 m:=h.next (Z0 _ _).drew
theorem Bx.cells (h:Bx w W R a0 p0 a1 p1 a2 p2 a3 p3 a4 p4 m):W.cell? ⟨R,0,none⟩=some (.slice a0 m.rm.length p0)/\W.cell? ⟨R,1,none⟩=some (.slice a1 m.gd.length p1)/\W.cell? ⟨R,2,none⟩=some (.slice a2 m.sm.length p2)/\W.cell? ⟨R,3,none⟩=some (.slice a3 m.dk.length p3)/\W.cell? ⟨R,4,none⟩=some (.slice a4 m.pc.length p4)/\W.cell? ⟨R,5,none⟩=some (.int .i64 m.now):=h.blk.c6
end
theorem Bx.new {w:World} {v0 v1 v2 v3 v4:Value} {m:Z3} (h:Smy w v0 v1 v2 v3 v4 m):∃ a0 p0 a1 p1 a2 p2 a3 p3 a4 p4,v0= .slice a0 m.rm.length p0/\v1= .slice a1 m.gd.length p1/\v2= .slice a2 m.sm.length p2/\v3= .slice a3 m.dk.length p3/\v4= .slice a4 m.pc.length p4/\Bx w (w.alloc (.cells (S6 a0 p0 a1 p1 a2 p2 a3 p3 a4 p4 m) 39)) w.heap.size a0 p0 a1 p1 a2 p2 a3 p3 a4 p4 m:=by
 obtain ⟨a0,p0,a1,p1,a2,p2,a3,p3,a4,p4,rfl,rfl,rfl,rfl,rfl,_⟩:=h.five;exact ⟨a0,p0,a1,p1,a2,p2,a3,p3,a4,p4,rfl,rfl,rfl,rfl,rfl,h.alloc _,Blk.new _ _ _,(ba _ _)⟩
theorem Bx.grown {w W X:World} {R:Nat} {a0 a1 a2 a3 a4:Option Addr} {p0 p1 p2 p3 p4:Nat} {m:Z3} {r:Option Nat} (h:Bx w W R a0 p0 a1 p1 a2 p2 a3 p3 a4 p4 m) (hs:Smy w (.slice a0 m.rm.length p0) (.slice a1 m.gd.length p1) (.slice a2 m.sm.length p2) (.slice a3 m.dk.length p3) (.slice a4 m.pc.length p4) m) (hg:W.grownBy X r) (hr:∀ k,r=some k->w.heap.size<=k/\k ≠ R):Bx w X R a0 p0 a1 p1 a2 p2 a3 p3 a4 p4 m:=by
 have hb:Below w.heap.size w X:=h.bb.grown hg h.bb.size (fun k e=>(hr k e).1);exact ⟨hs.below hb,(hg.block _ h.blk.lt (fun e=>(hr R e.symm).2 rfl)).trans h.blk,hb⟩
end Go.Proofs.YtgdpaigcmoifbaaGreatDoor
namespace Go.Proofs.YtgdpaigcmoifbaaGreatDoor
open Go.ChangeShapes Go.WideShapes Go.ChangeAt Go.RowKit Go.Deep Go.Proofs.Tryz
set_option linter.unusedVariables false
theorem I4 {H:Type} {enc:TypeId × Value->H} {W:World} {spare:Nat->Bool} {held:Bool} {n:Nat} {v:Value} {y:DataW H × List MemPlace}
  (h:DataW.trod enc prog W 0 spare held n 27 [v]=some y):∃ ps,XE W v ps:=by
 refine QU (k:=3) (enc:=XG) underlying27 underlying103 (by kernel_rfl) rfl (by kernel_rfl) (by omega) ?_ h;intro cs hl hc
 match cs,hl with
 | [c0,c1,c2],_=>
  obtain ⟨u0,n0,y0,e0,t0⟩:=hc 0 _ rfl;obtain ⟨u1,n1,y1,e1,t1⟩:=hc 1 _ rfl;obtain ⟨u2,n2,y2,e2,t2⟩:=hc 2 _ rfl;obtain ⟨z0,q0,_⟩:=DataW.trod_bool underlying4 t0;obtain ⟨z1,q1,_⟩:=DataW.trod_int underlying2 t1;obtain ⟨z2,q2,_⟩:=DataW.trod_int underlying2 t2;cases e0;cases e1;cases e2;cases q0;cases q1;cases q2;exact ⟨(z0,z1,z2),rfl⟩
theorem U8 {H:Type} {enc:TypeId × Value->H} {W:World} {spare:Nat->Bool} {held:Bool} {r:Reach} {b0:Nat} {v:Value} {d:DataW H} {p:List MemPlace}
  (hv:Value.okWide prog W r b0 30 v) (h:DataW.Trod enc prog W 0 spare held 30 v d p):∃ v0 v1 v2 v3 v4 m,v= .agg #[v0,v1,v2,v3,v4,.int .i64 m.now]/\Smy W v0 v1 v2 v3 v4 m:=by
 obtain ⟨cs,rfl,hsz⟩:=okWide_struct underlying30 hv;have h1:cs.size=6:=hsz.trans (by kernel_rfl);obtain ⟨l⟩:=cs
 match l,h1 with
 | [c0,c1,c2,c3,c4,c5],_=>
  obtain ⟨fuel,hf⟩:=h;obtain ⟨xs,n,_,_,hl,hxl,hF⟩:=DataW.trod_struct underlying30 hf;have k1:prog.cellsOf 24=1:=by kernel_rfl
  have k2:prog.cellsOf 25=1:=by kernel_rfl
  have k3:prog.cellsOf 26=1:=by kernel_rfl
  have k4:prog.cellsOf 27=1:=by kernel_rfl
  have k5:prog.cellsOf 28=1:=by kernel_rfl
  have k6:prog.cellsOf 2=1:=by kernel_rfl
  match xs,hxl with
  | [y0,y1,y2,y3,y4,y5],_=>
   have g0:=hF 0 _ rfl;have g1:=hF 1 _ rfl;have g2:=hF 2 _ rfl;have g3:=hF 3 _ rfl;have g4:=hF 4 _ rfl;have g5:=hF 5 _ rfl;simp [Value.cells,k1] at g0;simp [Value.cells,k2] at g1;simp [Value.cells,k3] at g2;simp [Value.cells,k4] at g3;simp [Value.cells,k5] at g4;simp [Value.cells,k6] at g5;obtain ⟨z0,n',_,_,h0⟩:=trod_struct1 underlying24 g0;have kr:prog.cellsOf 22=1:=by kernel_rfl
   obtain ⟨rs,hr⟩:=IC (v:=c0) (by simpa [kr] using h0);obtain ⟨gs,hg⟩:=Lb g1;obtain ⟨ss,hs⟩:=Lc g2;obtain ⟨ds,hd⟩:=I4 g3;obtain ⟨ps,hp⟩:=FI g4;obtain ⟨now,e,_⟩:=DataW.trod_int underlying2 g5;cases e;exact ⟨c0,c1,c2,c3,c4,⟨rs,gs,ss,ds,ps,now⟩,rfl,⟨hr,hg,hs,hd,hp⟩⟩
end Go.Proofs.YtgdpaigcmoifbaaGreatDoor
