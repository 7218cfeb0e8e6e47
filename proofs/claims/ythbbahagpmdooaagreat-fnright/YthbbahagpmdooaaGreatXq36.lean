/- Part 36 of what the proof rests on. No condition but those that a theorem names. -/
import Derived.Test.YthbbahagpmdooaaGreatXq35
import Derived.Lib.ItoaNum
import Derived.Lib.ItoaLen
import Derived.Lib.AtoiTie
import Derived.Lib.ParseIntBTie
import Derived.Lib.SplitLaws
import Derived.Lib.Join
set_option maxHeartbeats 8000000
set_option maxRecDepth 100000
namespace Go.Proofs.YthbbahagpmdooaaGreat
open Go.ChangeShapes Go.WideShapes Go.ChangeAt Go.RowKit Go.Sort
open Draw (St Off Row Cur)
set_option linter.unusedVariables false
set_option linter.unusedSimpArgs false
set_option maxRecDepth 100000
structure Dbox (a:Option Addr) (len cap bc n₁:Nat) (w0 w:World) (M:Z4) (u0 u1 u2 u3 u4:Value) (rq:List (Z0 × Value)):Prop where
 st:St a len cap bc w
 off:Off bc w0 w
 ok:ZO M=true
 full:FullSmy n₁ w u0 u1 u2 u3 u4 M rq
 lo:bc<n₁
 hi:n₁<=w0.heap.size
 kb:Blk w w0.heap.size 32 #[u0,u1,u2,u3,u4,.int .i64 M.now]
 kr:Blk w (w0.heap.size+1) 32 #[.slice none 0 0,.slice none 0 0,.slice none 0 0,.slice none 0 0,.slice none 0 0,.int .i64 0]
 own:∀ k,Yy u0 u1 u2 u3 u4 rq k->k ≠ w0.heap.size/\k ≠ w0.heap.size+1
 bl:bc<w0.heap.size
section
variable {a : Option Addr} {len cap bc n₁ : Nat} {w0 w w' : World} {M : Z4} {u0 u1 u2 u3 u4 : Value} {rq : List (Z0 × Value)}
theorem Dbox.step (h:Dbox a len cap bc n₁ w0 w M u0 u1 u2 u3 u4 rq) (hs:St a len cap bc w') (ho:Off bc w w'):Dbox a len cap bc n₁ w0 w' M u0 u1 u2 u3 u4 rq:=
 have hb:=h.bl
 ⟨hs,h.off.trans ho,h.ok,h.full.away ho h.lo,h.lo,h.hi,h.kb.away ho (by omega),h.kr.away ho (by omega),h.own,h.bl⟩
theorem Dbox.below (h:Dbox a len cap bc n₁ w0 w M u0 u1 u2 u3 u4 rq) (hb:Below w.heap.size w w'):Dbox a len cap bc n₁ w0 w' M u0 u1 u2 u3 u4 rq:=
 h.step (XZ h.st (hb.mono (XT h.st))) (Yh hb)
theorem Dbox.put (h:Dbox a len cap bc n₁ w0 w M u0 u1 u2 u3 u4 rq) {n:Nat} {z0 z1 z2 z3 z4:Value} {M1:Z4} {zq:List (Z0 × Value)} (hf:FullSmy n w z0 z1 z2 z3 z4 M1 zq) (hn:w0.heap.size+2<=n) (hok:ZO M1=true) :
  Dbox a len cap bc n₁ w0 ((((((w.setCell ⟨w0.heap.size,0,none⟩ z0).setCell ⟨w0.heap.size,1,none⟩ z1).setCell ⟨w0.heap.size,2,none⟩ z2).setCell ⟨w0.heap.size,3,none⟩ z3).setCell ⟨w0.heap.size,4,none⟩ z4).setCell ⟨w0.heap.size,5,none⟩ (.int .i64 M1.now)) M1 z0 z1 z2 z3 z4 zq:=by
 have hb:=h.bl
 have hown:∀ k,Yy z0 z1 z2 z3 z4 zq k->k ≠ w0.heap.size/\k ≠ w0.heap.size+1:=fun k e=>by have:=(hf.own e).1;omega
 have hh:=h.hi
 refine ⟨?_,?_,hok,?_,h.lo,h.hi,?_,?_,hown,h.bl⟩
 ·iterate 6 (refine St.newer ?_ hb _ _)
  exact h.st
 ·iterate 6 (refine Off.newer ?_ (Nat.le_refl _) _ _)
  exact h.off
 ·iterate 6 (refine FullSmy.set_off ?_ (fun k e=>(hown k e).1) _ _)
  exact hf.mono (by omega)
 ·exact (((((h.kb.set 0 z0).set 1 z1).set 2 z2).set 3 z3).set 4 z4).set 5 _
 ·iterate 6 (refine Blk.other ?_ (by show w0.heap.size+1 ≠ w0.heap.size;omega) _)
  exact h.kr
end
theorem GF (a:Option Addr) (len cap bc:Nat) {w:World} {n₁:Nat} {v0 v1 v2 v3 v4:Value} {m:Z4} {qs:List (Z0 × Value)} (hs:St a len cap bc w) (hf:FullSmy n₁ w v0 v1 v2 v3 v4 m qs) (hn:bc<n₁) (hn2:n₁<=w.heap.size) (hok:ZO m=true) (most:Int) (h0:0<most) (h1:most<=1000) :
  Calls Tryz.prog 106 #[.pointer (some ⟨bc,0,none⟩),.agg #[v0,v1,v2,v3,v4,.int .i64 m.now],.int .i64 most] w fun e w'=> ∃ M u0 u1 u2 u3 u4 rq,e= .returned (.agg #[u0,u1,u2,u3,u4,.int .i64 M.now])/\ZO M=true/\FullSmy n₁ w' u0 u1 u2 u3 u4 M rq/\St a len cap bc w'/\Off bc w w':=by
 have Hs:=Z9 hs
 have HF:=Z9 hf
 have hbc:=XT hs
 have h:=hf.smy
 obtain ⟨a0,p0,a1,p1,a2,p2,a3,p3,a4,p4,rfl,rfl,rfl,rfl,rfl,_,_,_,_,_,_,_,_,_,_⟩:=h.five
 clear h hs hf
 have Hok:=Z9 hok
 clear hok
 have D0:Hid (Dbox a len cap bc n₁ w ((w.alloc (.cells #[.slice a0 m.rooms.length p0,.slice a1 m.guilds.length p1,.slice a2 m.smiths.length p2,.slice a3 m.desks.length p3,.slice a4 m.paces.length p4,.int .i64 m.now] 32)).alloc (.cells #[.slice none 0 0,.slice none 0 0,.slice none 0 0,.slice none 0 0,.slice none 0 0,.int .i64 0] 32)) m (.slice a0 m.rooms.length p0) (.slice a1 m.guilds.length p1) (.slice a2 m.smiths.length p2) (.slice a3 m.desks.length p3) (.slice a4 m.paces.length p4) qs):=Z9 ⟨((uh Hs).alloc _).alloc _,((Off.refl _ _).alloc _).alloc _,uh Hok,(((uh HF).below ((Below.refl _ _).alloc (Nat.le_refl _) _)).below ((Below.refl _ _).alloc (Nat.le_refl _) _)),hn,hn2,(Blk.new w _ _).alloc _,by
  have k:=Blk.new (w.alloc (.cells #[.slice a0 m.rooms.length p0,.slice a1 m.guilds.length p1,.slice a2 m.smiths.length p2,.slice a3 m.desks.length p3,.slice a4 m.paces.length p4,.int .i64 m.now] 32)) 32 #[.slice none 0 0,.slice none 0 0,.slice none 0 0,.slice none 0 0,.slice none 0 0,.int .i64 0]
  rw [World.size_alloc] at k
  exact k,fun k e=>by have:=((uh HF).own e).2;omega,hbc⟩
 clear Hs HF Hok
 go_enter Tryz.func106,Tryz.ntmps106
 go_wp2_with fail
 generalize (w.alloc (.cells #[.slice a0 m.rooms.length p0,.slice a1 m.guilds.length p1,.slice a2 m.smiths.length p2,.slice a3 m.desks.length p3,.slice a4 m.paces.length p4,.int .i64 m.now] 32)).alloc (.cells #[.slice none 0 0,.slice none 0 0,.slice none 0 0,.slice none 0 0,.slice none 0 0,.int .i64 0] 32)=W at *
 refine (Draw.below_any a len cap bc most h0 (by omega) _ (uh D0).st).mono ?_
 rintro e w1 ⟨y,rfl,y0,y1,s9,p9⟩
 replace D0:=Z9 ((uh D0).step s9 p9)
 clear s9 p9
 go_wp2_with fail
 go_loopw [7] (fun i wr=> ∃ (k:Nat) (M:Z4) (u0 u1 u2 u3 u4:Value) (rq:List (Z0 × Value)),k<=1000/\i= .int .i64 k/\Dbox a len cap bc n₁ w wr M (u0) (u1) (u2) (u3) (u4) rq) (fun i _=>(intOf i).toNat)
 case atStart=>exact ⟨y.toNat,m,_,_,_,_,_,qs,by omega,by rw [show ((y.toNat:Nat):Int)=y by omega],uh D0⟩
 case round=>
  obtain ⟨k,M,u0,u1,u2,u3,u4,rq,hk1,rfl,hD⟩:=hrel
  have h:=hD.full.smy
  obtain ⟨b0,q0,b1,q1,b2,q2,b3,q3,b4,q4,rfl,rfl,rfl,rfl,rfl,_,_,_,_,_,_,_,_,_,_⟩:=h.five
  have HD:=Z9 hD
  clear h hD D0
  by_cases hk0:0<k
  ·
   have hlo:=ZW (uh HD).ok
   have g2:=YL hlo
   have g3':=WU hlo
   have g3:1<=M.desks.length:=by obtain ⟨j,hj,_⟩:=hlo.openD;omega
   have g4:1<=M.paces.length:=RA hlo
   have g4':M.paces.length<=3:=by
    rw [WZ hlo]
    have hd:=hlo.head
    unfold YY at hd
    simp only [Bool.and_eq_true,decide_eq_true_eq] at hd
    exact (Zf hd.1).2.1
   have g1:M.guilds.length<=6:=by
    have hd:=hlo.head
    unfold YY at hd
    simp only [Bool.and_eq_true,decide_eq_true_eq] at hd
    exact (Xb hd.2.1).2
   have G1:=Z9 g1
   have G2:=Z9 g2
   have G3:=Z9 g3
   have G3':=Z9 g3'
   have G4:=Z9 g4
   have G4':=Z9 g4'
   clear hlo g1 g2 g3 g3' g4 g4'
   obtain ⟨c0,c1,c2,c3,c4,c5⟩:=(uh HD).kb.c6
   go_wp2_with fail
   go_region_with (first
    | (go_at_call 146;refine (Lo a len cap bc _ _ _ _ _ _ _ _ _ _ _ _ _ _ _ _ (uh G1) (uh G2) (uh G3) (uh G3') (uh G4) (uh G4') _ ?_).mono ?_;exact VP (uh HD).st;rintro e w5 ⟨kk,who,aa,bb,rfl,s9,p9⟩;have HD5:=Z9 ((uh HD).step s9 (Vv p9));have y0:=(uh HD5).kb.cell (i:=0) (v:= .slice b0 M.rooms.length q0) rfl;have y1:=(uh HD5).kb.cell (i:=1) (v:= .slice b1 M.guilds.length q1) rfl;have y2:=(uh HD5).kb.cell (i:=2) (v:= .slice b2 M.smiths.length q2) rfl;have y3:=(uh HD5).kb.cell (i:=3) (v:= .slice b3 M.desks.length q3) rfl;have y4:=(uh HD5).kb.cell (i:=4) (v:= .slice b4 M.paces.length q4) rfl;have y5:=(uh HD5).kb.cell (i:=5) (v:= .int .i64 M.now) rfl;clear s9 p9)
    | (go_at_call 145;go_loud (refine (P0 kk who aa bb ?_).mono ?_;exact (uh HD5).full.smy;have hright:=Np (uh HD5).ok kk who aa bb;generalize Zz M kk who aa bb=Y at *;obtain ⟨M1,cd⟩:=Y;rintro e w6 ⟨⟨z0,z1,z2,z3,z4,zq,rfl,ho⟩,hb⟩;dsimp only at ho hright ⊢;have k6:=ho.smy;obtain ⟨d0,r0,rfl,_,_⟩:=IsRooms.shape k6.rooms;obtain ⟨d1,r1,rfl,_,_⟩:=IsRec.shape k6.guilds;obtain ⟨d2,r2,rfl,_,_⟩:=IsRec.shape k6.smiths;obtain ⟨d3,r3,rfl,_,_⟩:=IsRec.shape k6.desks;obtain ⟨d4,r4,rfl,_,_⟩:=IsRec.shape k6.paces;have hz5:w.heap.size+2<=w5.heap.size:=(by have:=(uh HD5).kr.lt;omega);have HP:=Z9 (((uh HD5).below hb).put ho hz5 hright);have D6:=Z9 ((uh HD5).below hb);have o0:=(uh D6).kb.cell (i:=0) (v:= .slice b0 M.rooms.length q0) rfl;have f0:=(uh D6).kb.free 0;have o1:=(uh D6).kb.cell (i:=1) (v:= .slice b1 M.guilds.length q1) rfl;have f1:=(uh D6).kb.free 1;have o2:=(uh D6).kb.cell (i:=2) (v:= .slice b2 M.smiths.length q2) rfl;have f2:=(uh D6).kb.free 2;have o3:=(uh D6).kb.cell (i:=3) (v:= .slice b3 M.desks.length q3) rfl;have f3:=(uh D6).kb.free 3;have o4:=(uh D6).kb.cell (i:=4) (v:= .slice b4 M.paces.length q4) rfl;have f4:=(uh D6).kb.free 4;have o5:=(uh D6).kb.cell (i:=5) (v:= .int .i64 M.now) rfl;have f5:=(uh D6).kb.free 5;clear ho hb k6 hright)))
   all_goals
    go_wp2_with fail
    go_roundw
    case rel=>exact ⟨k-1,_,_,_,_,_,_,_,by omega,by rw [show ((k:Int)-1)=((k-1:Nat):Int) by omega],by first | exact uh HP | exact (uh HP).below (Below.refl _ _).drew⟩
    case measure=>simp [intOf];omega
  ·
   obtain rfl:k=0:=by omega
   have c0:=(uh HD).kb.cell (i:=0) (v:= .slice b0 M.rooms.length q0) rfl
   have o0:=(uh HD).kr.cell (i:=0) (v:= .slice none 0 0) rfl
   have f0:=(uh HD).kr.free 0
   have c1:=(uh HD).kb.cell (i:=1) (v:= .slice b1 M.guilds.length q1) rfl
   have o1:=(uh HD).kr.cell (i:=1) (v:= .slice none 0 0) rfl
   have f1:=(uh HD).kr.free 1
   have c2:=(uh HD).kb.cell (i:=2) (v:= .slice b2 M.smiths.length q2) rfl
   have o2:=(uh HD).kr.cell (i:=2) (v:= .slice none 0 0) rfl
   have f2:=(uh HD).kr.free 2
   have c3:=(uh HD).kb.cell (i:=3) (v:= .slice b3 M.desks.length q3) rfl
   have o3:=(uh HD).kr.cell (i:=3) (v:= .slice none 0 0) rfl
   have f3:=(uh HD).kr.free 3
   have c4:=(uh HD).kb.cell (i:=4) (v:= .slice b4 M.paces.length q4) rfl
   have o4:=(uh HD).kr.cell (i:=4) (v:= .slice none 0 0) rfl
   have f4:=(uh HD).kr.free 4
   have c5:=(uh HD).kb.cell (i:=5) (v:= .int .i64 M.now) rfl
   have o5:=(uh HD).kr.cell (i:=5) (v:= .int .i64 0) rfl
   have f5:=(uh HD).kr.free 5
   go_wp2_with fail
   refine bodyPost_ret (v:= .agg #[.slice b0 M.rooms.length q0,.slice b1 M.guilds.length q1,.slice b2 M.smiths.length q2,.slice b3 M.desks.length q3,.slice b4 M.paces.length q4,.int .i64 M.now]) (by simp [results,Tryz.results106,go_sem, *]) rfl ⟨M,_,_,_,_,_,rq,rfl,(uh HD).ok,?_,?_,?_⟩
   ·iterate 6 (refine FullSmy.set_off ?_ (fun k e=>((uh HD).own k e).2) _ _)
    exact (uh HD).full
   ·iterate 6 (refine St.newer ?_ (by omega) _ _)
    exact (uh HD).st
   ·iterate 6 (refine Off.newer ?_ (by omega) _ _)
    exact (uh HD).off
end Go.Proofs.YthbbahagpmdooaaGreat
namespace Go.Proofs.YthbbahagpmdooaaGreat.Draw
open Go.ChangeShapes Go.WideShapes Go.ChangeAt Go.RowKit
set_option linter.unusedVariables false
theorem Ei (p q r:Value) (k:IntKind) (j:Nat) (hj:j<3) (hp:∃ v:Int,p= .int k v) (hq:∃ v:Int,q= .int k v) (hr:∃ v:Int,r= .int k v) :
  ∃ v:Int,(#[p,q,r]:Array Value)[j]?=some (.int k v):=by
 obtain ⟨_,rfl⟩:=hp;obtain ⟨_,rfl⟩:=hq;obtain ⟨_,rfl⟩:=hr
 match j,hj with
 | 0,_=>exact ⟨_,rfl⟩
 | 1,_=>exact ⟨_,rfl⟩
 | 2,_=>exact ⟨_,rfl⟩
theorem drawForce_any (a:Option Addr) (len cap bc:Nat) (w:World) (hs:St a len cap bc w) :
  Calls Tryz.prog 109 #[.pointer (some ⟨bc,0,none⟩)] w fun e w'=> ∃ x:Int,e= .returned (.int .i64 x)/\St a len cap bc w'/\Off bc w w':=by
 have Hs:=Z9 hs
 clear hs
 go_enter Tryz.func109,Tryz.ntmps109
 go_wp2_with fail
 refine (once_any a len cap bc 8 (by omega) (by omega) _ (uh Hs)).mono ?_
 rintro e w1 ⟨b,rfl,s1,o1⟩
 have Hs1:=Z9 s1
 have Ho1:=Z9 o1
 have hb:=s1.cur.1
 clear s1 o1
 cases b
 ·go_wp2_with fail
  refine (below_any a len cap bc 1025 (by omega) (by omega) _ (uh Hs1)).mono ?_
  rintro e w2 ⟨x,rfl,x0,x1,s2,o2⟩
  have Hs2:=Z9 s2
  have Ho2:=Z9 o2
  clear s2 o2
  go_wp2_with fail
  go_ret
  exact ⟨_,rfl,uh Hs2,(uh Ho1).trans (uh Ho2)⟩
 ·go_wp2_with fail
  refine (below_any a len cap bc 3 (by omega) (by omega) _ ((uh Hs1).alloc _)).mono ?_
  rintro e w2 ⟨x,rfl,x0,x1,s2,o2⟩
  have hsz:w1.heap.size<w2.heap.size:=by have:=o2.size;simp at this;omega
  obtain ⟨v,hv⟩:=Ei (.int .i64 (-1)) (.int .i64 1024) (.int .i64 1025) .i64 x.toNat (by omega) ⟨_,rfl⟩ ⟨_,rfl⟩ ⟨_,rfl⟩
  have hcell:w2.cell? ⟨w1.heap.size,x.toNat,none⟩=some (.int .i64 v):=by
   rw [o2.cell (p:=⟨w1.heap.size,x.toNat,none⟩) (by simp) (by simp;omega),World.cell?_alloc_at _ _ _ _ rfl];exact hv
  clear hv
  have Hs2:=Z9 s2
  have Ho2:=Z9 o2
  clear s2 o2
  go_wp2_with fail
  go_ret
  exact ⟨_,rfl,uh Hs2,(uh Ho1).trans (((Off.refl _ _).alloc _).trans (uh Ho2))⟩
end Go.Proofs.YthbbahagpmdooaaGreat.Draw
namespace Go.Proofs.YthbbahagpmdooaaGreat
open Go.ChangeShapes Go.WideShapes Go.ChangeAt Go.RowKit Go.Sort
open Draw (St Off Row Cur)
set_option linter.unusedVariables false
theorem Jq:QO 121 3 (.agg #[.int .i64 0,.int .i64 0,.int .i64 0]) Xy:=
 ⟨GX,rfl,Yb,by omega,by omega,fun x u hu=>by
  unfold Xy at hu
  simp only [List.mem_cons,List.not_mem_nil,or_false] at hu
  rcases hu with rfl | rfl | rfl<;>rfl⟩
theorem Pl {w:World} (x0 x1 x2:Int) {g c:Nat} (hg:g=w.heap.size) (hc:1<=c) (hc2:c<=4000):Yw (w.alloc (.cells #[.int .i64 x0,.int .i64 x1,.int .i64 x2] 121)) (.slice (some ⟨g,0,none⟩) 1 c) [(x0,x1,x2)]:=
 We (e:=121) (enc:=Xy) (x0,x1,x2) hg hc hc2
theorem RecAt.away {α:Type} {t k:Nat} {enc:α->List Value} {n₀ bc:Nat} {w w':World} {v:Value} {xs:List α} (h:RecAt t k enc n₀ w v xs) (ho:Off bc w w') (hb:bc<n₀):RecAt t k enc n₀ w' v xs:=
 h.same fun i hi=>ho.block i (h.lt hi).2 (by have:=(h.lt hi).1;omega)
structure Gbox (a:Option Addr) (len cap bc:Nat) (w0 w:World) (v:Value) (ps:List ZK):Prop where
 st:St a len cap bc w
 off:Off bc w0 w
 gt:bc<w0.heap.size
 row:GuildsAt w0.heap.size w v ps
section
variable {a : Option Addr} {len cap bc : Nat} {w0 w w' : World} {v : Value} {ps : List ZK}
theorem Gbox.step (h:Gbox a len cap bc w0 w v ps) (hs:St a len cap bc w') (ho:Off bc w w'):Gbox a len cap bc w0 w' v ps:=⟨hs,h.off.trans ho,h.gt,RecAt.away h.row ho h.gt⟩
theorem Gbox.alloc (h:Gbox a len cap bc w0 w v ps) (o:Obj):Gbox a len cap bc w0 (w.alloc o) v ps:=h.step (h.st.alloc _) ((Off.refl _ _).alloc _)
theorem Gbox.grown (h:Gbox a len cap bc w0 w v ps) {v':Value} {qs:List ZK} (hg:w.grownBy w' v.ownBlock) (hr:GuildsAt w0.heap.size w' v' qs):Gbox a len cap bc w0 w' v' qs:=by
 have hk:∀ k,v.ownBlock=some k->w0.heap.size<=k:=fun k e=>(RecAt.lt h.row e).1
 have h1:=h.gt
 have h2:=h.off.size
 have hb:Below w0.heap.size w w':=(Below.refl _ _).grown hg h2 hk
 exact ⟨XZ h.st (hb.mono (by omega)),UJ h.off hb,h.gt,hr⟩
end
theorem J0 (a:Option Addr) (len cap bc:Nat) (w:World) (hs:St a len cap bc w) :
  Calls Tryz.prog 105 #[.pointer (some ⟨bc,0,none⟩)] w fun e w'=> ∃ v ps,e= .returned v/\ps.length<=4/\Gbox a len cap bc w w' v ps:=by
 have Hs:=Z9 hs
 have hbc:=XT hs
 clear hs
 go_enter Tryz.func105,Tryz.ntmps105
 go_wp2_with fail
 have HE:Hid (GuildsAt w.heap.size (w.alloc (.cells #[] 121)) (.slice (some ⟨w.heap.size,0,none⟩) 0 0) []):=Z9 (Ym rfl (Nat.le_refl _))
 refine (Draw.below_any a len cap bc 5 (by omega) (by omega) _ ((uh Hs).alloc _)).mono ?_
 rintro e w1 ⟨n,rfl,n0,n1,s1,o1⟩
 have HG1:Hid (Gbox a len cap bc w w1 (.slice (some ⟨w.heap.size,0,none⟩) 0 0) []):=Z9 (Gbox.step ⟨(uh Hs).alloc _,(Off.refl _ _).alloc _,hbc,uh HE⟩ s1 o1)
 clear s1 o1 HE
 go_wp2_with fail
 go_loopw [3,4] (fun s i wr=> ∃ (k:Nat) (ps:List ZK),ps.length+k<=4/\i= .int .i64 k/\Gbox a len cap bc w wr s ps) (fun _ i _=>(intOf i).toNat)
 case atStart=>exact ⟨n.toNat,[],by simp;omega,by rw [show ((n.toNat:Nat):Int)=n by omega],uh HG1⟩
 case round=>
  obtain ⟨k,ps,hk,rfl,hG⟩:=hrel
  obtain ⟨ra,rcap,rfl⟩:=RecAt.shape hG.row
  have HG:=Z9 hG
  clear hG
  by_cases hk0:0<k
  ·go_wp2_with fail
   refine (Draw.below_any a len cap bc 600 (by omega) (by omega) _ (uh HG).st).mono ?_
   rintro e w2 ⟨low,rfl,l0,l1,s2,o2⟩
   have HG2:=Z9 ((uh HG).step s2 o2)
   clear s2 o2 HG
   go_wp2_with fail
   refine (Draw.below_any a len cap bc _ (by omega) (by omega) _ (uh HG2).st).mono ?_
   rintro e w3 ⟨ab,rfl,a0,a1,s3,o3⟩
   have HG3:=Z9 ((uh HG2).step s3 o3)
   clear s3 o3 HG2
   go_wp2_with fail
   refine (Draw.from_any a len cap bc low 1024 (by omega) (by omega) (by omega) _ (uh HG3).st).mono ?_
   rintro e w4 ⟨hi,rfl,h0,h1,s4,o4⟩
   have HG4:=Z9 ((uh HG3).step s4 o4)
   have hsz:=(uh HG4).off.size
   clear s4 o4 HG3
   go_wp2_with (at_builtin;refine ZF Jq rfl (.tmp 15) (.tmp 27) 27 Tryz.underlying27 rfl w.heap.size _ _ ps [(ab-1,low,hi)] rfl rfl ((uh HG4).alloc _).row (Pl _ _ _ rfl (Nat.le_refl _) (by omega)) (by simp;omega) (by simp;omega) ?_;intro v' w5 hown hgrow hat)
   have HG5:=Z9 (((uh HG4).alloc _).grown hgrow hown)
   clear hown hgrow hat
   go_wp2_with fail
   go_roundw
   case rel=>exact ⟨k-1,ps++[(ab-1,low,hi)],by simp;omega,by rw [show ((k:Int)-1)=((k-1:Nat):Int) by omega],uh HG5⟩
   case measure=>simp [intOf];omega
  ·obtain rfl:k=0:=by omega
   go_wp2_with fail
   go_ret
   exact ⟨_,ps,rfl,by omega,uh HG⟩
end Go.Proofs.YthbbahagpmdooaaGreat
namespace Go.Proofs.YthbbahagpmdooaaGreat
open Go.ChangeShapes Go.WideShapes Go.ChangeAt Go.RowKit Go.Sort
open Draw (St Off Row Cur)
set_option linter.unusedVariables false
theorem Lx {ps:List ZK} {ab low hi:Int} (h:Zw ps=true) (hl:ps.length<=5) (a0:0<=ab) (a1:ab<(ps.length:Int)+1) (l0:0<=low) (l1:low<=hi) (h1:hi<=1024):Zw (ps++[(ab-1,low,hi)])=true:=by
 obtain ⟨hu,_⟩:=Xb h
 unfold Zw
 rw [List.length_append]
 show (Vj _ (ps.length+1) && decide (ps.length+1<=6))=true
 rw [decide_eq_true (by omega),Bool.and_true,SO]
 have hsame:Vj (ps++[(ab-1,low,hi)]) ps.length=true:=by
  unfold Vj
  refine List.all_eq_true.2 fun j hj=> ?_
  have hj':=List.mem_range.1 hj
  rw [Ww,if_neg (by omega)]
  exact MO hu hj'
 rw [hsame,Ww,if_pos rfl,Bool.true_and]
 unfold XU YJ
 simp only [Bool.and_eq_true,decide_eq_true_eq]
 exact ⟨Zs (by omega) (by omega),⟨Zs l0 (by omega),Zs (by omega) h1⟩,l1⟩
theorem Nu (a:Option Addr) (len cap bc:Nat) (w:World) (hs:St a len cap bc w) :
  Calls Tryz.prog 105 #[.pointer (some ⟨bc,0,none⟩)] w fun e w'=> ∃ v ps,e= .returned v/\Zw ps=true/\Gbox a len cap bc w w' v ps:=by
 have Hs:=Z9 hs
 have hbc:=XT hs
 clear hs
 go_enter Tryz.func105,Tryz.ntmps105
 go_wp2_with fail
 have HE:Hid (GuildsAt w.heap.size (w.alloc (.cells #[] 121)) (.slice (some ⟨w.heap.size,0,none⟩) 0 0) []):=Z9 (Ym rfl (Nat.le_refl _))
 refine (Draw.below_any a len cap bc 5 (by omega) (by omega) _ ((uh Hs).alloc _)).mono ?_
 rintro e w1 ⟨n,rfl,n0,n1,s1,o1⟩
 have HG1:Hid (Gbox a len cap bc w w1 (.slice (some ⟨w.heap.size,0,none⟩) 0 0) []):=Z9 (Gbox.step ⟨(uh Hs).alloc _,(Off.refl _ _).alloc _,hbc,uh HE⟩ s1 o1)
 clear s1 o1 HE
 go_wp2_with fail
 go_loopw [3,4] (fun s i wr=> ∃ (k:Nat) (ps:List ZK),ps.length+k<=4/\Zw ps=true/\i= .int .i64 k/\Gbox a len cap bc w wr s ps) (fun _ i _=>(intOf i).toNat)
 case atStart=>exact ⟨n.toNat,[],by simp;omega,rfl,by rw [show ((n.toNat:Nat):Int)=n by omega],uh HG1⟩
 case round=>
  obtain ⟨k,ps,hk,hgs,rfl,hG⟩:=hrel
  have Hgs:=Z9 hgs
  clear hgs
  obtain ⟨ra,rcap,rfl⟩:=RecAt.shape hG.row
  have HG:=Z9 hG
  clear hG
  by_cases hk0:0<k
  ·go_wp2_with fail
   refine (Draw.below_any a len cap bc 600 (by omega) (by omega) _ (uh HG).st).mono ?_
   rintro e w2 ⟨low,rfl,l0,l1,s2,o2⟩
   have HG2:=Z9 ((uh HG).step s2 o2)
   clear s2 o2 HG
   go_wp2_with fail
   refine (Draw.below_any a len cap bc _ (by omega) (by omega) _ (uh HG2).st).mono ?_
   rintro e w3 ⟨ab,rfl,a0,a1,s3,o3⟩
   have HG3:=Z9 ((uh HG2).step s3 o3)
   clear s3 o3 HG2
   go_wp2_with fail
   refine (Draw.from_any a len cap bc low 1024 (by omega) (by omega) (by omega) _ (uh HG3).st).mono ?_
   rintro e w4 ⟨hi,rfl,h0,h1,s4,o4⟩
   have HG4:=Z9 ((uh HG3).step s4 o4)
   have hsz:=(uh HG4).off.size
   clear s4 o4 HG3
   go_wp2_with (at_builtin;refine ZF Jq rfl (.tmp 15) (.tmp 27) 27 Tryz.underlying27 rfl w.heap.size _ _ ps [(ab-1,low,hi)] rfl rfl ((uh HG4).alloc _).row (Pl _ _ _ rfl (Nat.le_refl _) (by omega)) (by simp;omega) (by simp;omega) ?_;intro v' w5 hown hgrow hat)
   have HG5:=Z9 (((uh HG4).alloc _).grown hgrow hown)
   clear hown hgrow hat
   go_wp2_with fail
   go_roundw
   case rel=>exact ⟨k-1,ps++[(ab-1,low,hi)],by simp;omega,Lx (uh Hgs) (by omega) (by omega) (by omega) (by omega) (by omega) (by omega),by rw [show ((k:Int)-1)=((k-1:Nat):Int) by omega],uh HG5⟩
   case measure=>simp [intOf];omega
  ·obtain rfl:k=0:=by omega
   go_wp2_with fail
   go_ret
   exact ⟨_,ps,rfl,uh Hgs,uh HG⟩
open Go.Lib
abbrev Txt:=List UInt8
def Zj (c:UInt8) (cur:Txt):Txt->List Txt
 | []=>[cur]
 | x::r=>if x=c then cur::Zj c [] r else Zj c (cur++[x]) r
def Zm (c:UInt8) (l:Txt):List Txt:=Zj c [] l
theorem VN (c:UInt8) (cur r:Txt):Zj c cur (c::r)=cur::Zj c [] r:=by simp [Zj]
theorem VO {c x:UInt8} (h:x ≠ c) (cur r:Txt):Zj c cur (x::r)=Zj c (cur++[x]) r:=by simp [Zj,h]
theorem XI (c:UInt8):∀ (l cur:Txt),1<=(Zj c cur l).length/\(Zj c cur l).length<=l.length+1
 | [],cur=>by simp [Zj]
 | x::r,cur=>by
  by_cases h:x=c
  ·subst h;rw [VN];have:=XI x r [];simp;omega
  ·rw [VO h];have:=XI c r (cur++[x]);simp;omega
theorem Oq (c:UInt8) (l:Txt):Zm c l ≠ []:=fun h=>by have:=(XI c l []).1;unfold Zm at h;rw [h] at this;simp at this
theorem VA (c:UInt8):∀ (l cur:Txt),∀ p ∈ Zj c cur l,p.length<=cur.length+l.length
 | [],cur,p,hp=>by simp [Zj] at hp;subst hp;simp
 | x::r,cur,p,hp=>by
  by_cases h:x=c
  ·subst h;rw [VN] at hp
   rcases List.mem_cons.1 hp with rfl | hp
   ·simp
   ·have:=VA x r [] p hp;simp at this ⊢;omega
  ·rw [VO h] at hp;have:=VA c r _ p hp;simp at this ⊢;omega
theorem SS (sep x:Txt) (r:List Txt):joinTail sep (x::r)=sep++x++joinTail sep r:=by simp [joinTail]
theorem Vp (c:UInt8):∀ (l cur:Txt),join (Zj c cur l) [c]=cur++l
 | [],cur=>by simp [Zj,join_one]
 | x::r,cur=>by
  by_cases h:x=c
  ·subst h
   rw [VN,join_cons]
   have ih:=Vp x r []
   cases hs:Zj x [] r with
   | nil=>have:=(XI x r []).1;rw [hs] at this;simp at this
   | cons p q=>rw [hs,join_cons] at ih;rw [SS];simp at ih ⊢;rw [ih]
  ·rw [VO h,Vp c r];simp
def YD (l:Txt):Option Int:=
 match l with
 | []=>none
 | c::r=>if c=45 then (if r=[]\/9<r.length\/r.head?=some 48 then none else (decFrom 0 r).map fun n:Nat=> -(n:Int))
  else if 9<(c::r).length\/(c=48/\r ≠ []) then none else (decFrom 0 (c::r)).map fun n:Nat=>(n:Int)
theorem Md {d:Nat} (h:d<10):(UInt8.ofNat (48+d)).toNat=48+d:=by simp;omega
theorem Pf {b:UInt8} {d:Nat} (h:digitVal b=some d):d<10/\b=UInt8.ofNat (48+d):=by
 obtain ⟨h1,h2,h3⟩:=digitVal_eq h
 refine ⟨by omega,?_⟩
 apply UInt8.toNat_inj.1
 rw [Md (by omega)];omega
theorem Pe {a d:Nat} (ha:0<a) (hd:d<10):decDigits (a*10+d)=decDigits a++[UInt8.ofNat (48+d)]:=by
 rw [decDigits,dif_neg (by omega),show (a*10+d) / 10=a by omega,show (a*10+d)%10=d by omega]
theorem Tp:∀ (r:Txt) (a n:Nat),0<a->decFrom a r=some n->decDigits n=decDigits a++r/\a<=n
 | [],a,n,_,h=>by simp [decFrom] at h;subst h;simp
 | b::r,a,n,ha,h=>by
  unfold decFrom at h
  cases hd:digitVal b with
  | none=>rw [hd] at h;cases h
  | some d=>
   rw [hd] at h
   obtain ⟨h1,h2⟩:=Pf hd
   have ih:=Tp r (a*10+d) n (by omega) h
   rw [ih.1,Pe ha h1,h2];simp;omega
theorem TY {b:UInt8} {r:Txt} {n:Nat} (h:decFrom 0 (b::r)=some n) (hb:b ≠ 48\/r=[]):decDigits n=b::r/\(b ≠ 48->0<n):=by
 unfold decFrom at h
 cases hd:digitVal b with
 | none=>rw [hd] at h;cases h
 | some d=>
  rw [hd] at h
  obtain ⟨h1,h2⟩:=Pf hd
  simp at h
  by_cases h0:d=0
  ·subst h0
   have hb48:b=48:=by rw [h2];rfl
   rcases hb with hb | rfl
   ·exact absurd hb48 hb
   ·simp [decFrom] at h;subst h;subst hb48;exact ⟨by rw [decDigits_one (by decide)];rfl,fun h=>absurd rfl h⟩
  ·have:=Tp r d n (by omega) h
   rw [this.1,decDigits_one h1,h2];simp;intro _;omega
theorem Uw {l:Txt} {v:Int} (h:YD l=some v):l=itoa v/\ -999999999<=v/\v<=999999999:=by
 unfold YD at h
 split at h
 ·cases h
 ·rename_i c r
  split at h
  ·rename_i hc
   split at h
   ·cases h
   ·rename_i hr
    simp only [not_or] at hr
    obtain ⟨n,hn,rfl⟩:=Option.map_eq_some_iff.1 h
    cases r with
    | nil=>exact absurd rfl hr.1
    | cons b r=>
     have hb:b ≠ 48:=fun e=>hr.2.2 (by simp [e])
     have hw:=TY hn (.inl hb)
     have hlt:=decFrom_lt _ _ _ hn
     have:n<10 ^ 9:=Nat.lt_of_lt_of_le (by simpa using hlt) (Nat.pow_le_pow_right (by decide) (by have:=hr.2.1;simp at this ⊢;omega))
     have h3:(10:Nat) ^ 9=1000000000:=by decide
     have hp:=hw.2 hb
     refine ⟨?_,by omega,by omega⟩
     unfold itoa
     rw [if_pos (by omega),show (-(n:Int)).natAbs=n by omega,hw.1,hc]
  ·rename_i hc
   split at h
   ·cases h
   ·rename_i hr
    simp only [not_or] at hr
    obtain ⟨n,hn,rfl⟩:=Option.map_eq_some_iff.1 h
    have hb:c ≠ 48\/r=[]:=by
     by_cases e:c=48
     ·exact .inr (Classical.byContradiction fun hne=>hr.2 ⟨e,hne⟩)
     ·exact .inl e
    have hw:=TY hn hb
    have hlt:=decFrom_lt _ _ _ hn
    have:n<10 ^ 9:=Nat.lt_of_lt_of_le (by simpa using hlt) (Nat.pow_le_pow_right (by decide) (by have:=hr.1;simp at this ⊢;omega))
    have h3:(10:Nat) ^ 9=1000000000:=by decide
    refine ⟨?_,by omega,by omega⟩
    unfold itoa
    rw [if_neg (by omega),show ((n:Int)).toNat=n by omega,hw.1]
def YN (l:Txt):Option Z5:=
 match Zm 58 l with
 | [a,b]=>(YD a).bind fun f=>(YD b).bind fun k=>some (f,k)
 | _=>none
def Y3 (l:Txt):Option Z0:=
 match Zm 32 l with
 | []=>none
 | a::ws=>(YD a).bind fun n=>(ws.mapM YN).bind fun ps=>some (n,ps)
def YW (l:Txt):Option (List Z0):=((Zm 47 l).mapM Y3).bind fun rs=>if Zb rs=true then some rs else none
def Sl (p:Z5):Txt:=itoa p.1++58::itoa p.2
def Sm (r:Z0):Txt:=join (itoa r.1::r.2.map Sl) [32]
def MG (rs:List Z0):Txt:=if Zb rs=true then join (rs.map Sm) [47] else []
theorem OO {l:Txt} {p:Z5} (h:YN l=some p):Sl p=l:=by
 unfold YN at h
 split at h
 ·rename_i a b hs
  obtain ⟨f,hf,h⟩:=Option.bind_eq_some_iff.1 h
  obtain ⟨k,hk,h⟩:=Option.bind_eq_some_iff.1 h
  cases h
  have hj:=Vp 58 l []
  unfold Zm at hs
  rw [hs,join_cons,SS] at hj
  unfold Sl
  rw [<-(Uw hf).1,<-(Uw hk).1]
  simpa [joinTail] using hj
 ·cases h
theorem Ry {α β:Type} {f:α->Option β} {g:β->α} : ∀ (l:List α) (ps:List β),l.mapM f=some ps->(∀ x p,f x=some p->g p=x)->ps.map g=l
 | [],ps,h,_=>by simp at h;subst h;rfl
 | x::l,ps,h,hg=>by
  rw [List.mapM_cons] at h
  obtain ⟨p,hp,h⟩:=Option.bind_eq_some_iff.1 h
  obtain ⟨q,hq,h⟩:=Option.bind_eq_some_iff.1 h
  cases h
  simp [hg x p hp,Ry l q hq hg]
theorem OP {l:Txt} {r:Z0} (h:Y3 l=some r):Sm r=l:=by
 unfold Y3 at h
 split at h
 ·cases h
 ·rename_i a ws hs
  obtain ⟨n,hn,h⟩:=Option.bind_eq_some_iff.1 h
  obtain ⟨ps,hp,h⟩:=Option.bind_eq_some_iff.1 h
  cases h
  have hj:=Vp 32 l []
  unfold Zm at hs
  rw [hs] at hj
  unfold Sm
  rw [<-(Uw hn).1,Ry (g:=Sl) _ _ hp (fun x p=>OO)]
  simpa using hj
theorem OL {l:Txt} {rs:List Z0} (h:YW l=some rs):Zb rs=true/\MG rs=l:=by
 unfold YW at h
 obtain ⟨rs',hr,h⟩:=Option.bind_eq_some_iff.1 h
 split at h
 ·rename_i hb
  cases h
  refine ⟨hb,?_⟩
  unfold MG
  rw [if_pos hb,Ry (g:=Sm) _ _ hr (fun x p=>OP)]
  have hj:=Vp 47 l []
  simpa [Zm] using hj
 ·cases h
open Go.Lib (digitVal decFrom)
def bs (l:Txt):ByteArray:=⟨l.toArray⟩
theorem S5 (l:Txt):(bs l).data.toList=l:=by simp [bs]
theorem IS (s:ByteArray):bs s.data.toList=s:=by simp [bs]
theorem ES (l:Txt):(bs l).size=l.length:=by simp [bs,ByteArray.size]
def StrsAt (n₀:Nat) (w:World) (v:Value) (zs:List Txt):Prop:=w.ownsRow n₀ 9 1 v zs.length (zs.map fun z=>Value.string (bs z))
theorem StrsAt.lt {n₀:Nat} {w:World} {v:Value} {zs:List Txt} (h:StrsAt n₀ w v zs) {k:Nat} (hk:v.ownBlock=some k):n₀<=k/\k<w.heap.size:=World.ownsRow.lt h k hk
theorem StrsAt.view {n₀:Nat} {w:World} {v:Value} {zs:List Txt} (h:StrsAt n₀ w v zs) :
  ∃ (a:Option Addr) (cap:Nat),v= .slice a zs.length cap/\zs.length<=cap/\cap<=9223372036854775807/\(zs=[]\/ ∃ g,a=some ⟨g,0,none⟩/\n₀<=g/\g<w.heap.size/\
   (∀ k,k<zs.length->w.cell? ⟨g,k,none⟩=some (.string (bs (zs.getD k []))))):=by
 have h':=h
 rcases h.2 with ⟨rfl,hz⟩ | ⟨g,cap,cur,rfl,hb,hg,hnc,hcm,r⟩
 ·exact ⟨none,0,by rw [hz],by omega,by omega,.inl (List.eq_nil_of_length_eq_zero hz)⟩
 ·refine ⟨_,cap,rfl,hnc,by unfold maxLen at hcm;omega,.inr ⟨g,rfl,hb,(Array.getElem?_eq_some_iff.1 hg).1,fun k hk=> ?_⟩⟩
  rw [World.ownsRow.cellAt h' k (by omega)]
  simp [List.getElem?_eq_getElem hk]
theorem EV:(Tryz.prog.info? 9).map (fun i=>(i.zero,i.size,i.bytes))=some (some (.string ByteArray.empty),1,16):=by kernel_rfl
theorem IB (l:Txt) (f k:Nat) (hf:f<=k) (h:k<l.length):(l.take (k+1)).drop f=(l.take k).drop f++[l[k]]:=by
 rw [List.take_succ_eq_append_getElem h,List.drop_append_of_le_length (by simp;omega)]
theorem Rp (l:Txt) (k:Nat) (h:k<l.length):l.drop k=l[k]::l.drop (k+1):=List.drop_eq_getElem_cons h
theorem JB (s:ByteArray) (f k:Nat):s.extract f k=bs ((s.data.toList.take k).drop f):=by
 rw [<-IS (s.extract f k)];congr 1;rw [Go.Lib.extract_data];simp [List.drop_take]
theorem Ot {w wr w1:World} {v v':Value} {P:List Txt} {s:ByteArray} {a k:Nat} {o:Obj} (hown:StrsAt w.heap.size wr v P) (hb:Below w.heap.size w wr)
  (hown':w1.ownsRow w.heap.size 9 1 v' (P.length+1) ((P.map fun z=>Value.string (bs z))++[.string (s.extract a k)])) (hg:(wr.alloc o).grownBy w1 v.ownBlock) :
  StrsAt w.heap.size w1 v' (P++[(s.data.toList.take k).drop a])/\Below w.heap.size w w1:=by
 refine ⟨?_,?_⟩
 ·unfold StrsAt;rw [JB] at hown';simpa using hown'
 ·exact (hb.alloc hb.size o).grown hg (by have:=hb.size;simp;omega) (fun j ej=>(hown.lt ej).1)
theorem TE (s:ByteArray) (c:UInt8) (w:World) (hs:s.size<=1048576) :
  Calls Tryz.prog 174 #[.string s,.int .u8 c.toNat] w fun e w'=> ∃ v,e= .returned v/\StrsAt w.heap.size w' v (Zm c s.data.toList)/\Below w.heap.size w w':=by
 obtain ⟨i0,hi,hz0,hz1,hz2⟩:=info_parts EV
 go_enter Tryz.func174,Tryz.ntmps174
 go_wp2_with fail
 go_loopw [5,6,7] (fun v f i wr=> ∃ (P:List Txt) (a k:Nat),f= .int .i64 a/\i= .int .i64 k/\StrsAt w.heap.size wr v P/\P.length<=k/\Below w.heap.size w wr/\((k<=s.size/\a<=k/\P++Zj c ((s.data.toList.take k).drop a) (s.data.toList.drop k)=Zm c s.data.toList)\/(k=s.size+1/\P=Zm c s.data.toList))) (fun _ _ i _=>s.size+1-(intOf i).toNat)
 case atStart=>exact ⟨[],0,0,rfl,rfl,World.ownsRow_lit w #[] 0 (Nat.le_refl _) (by simp [maxLen]) rfl,by simp,(Below.refl _ _).alloc (Nat.le_refl _) _,.inl ⟨by omega,by omega,by simp [Zm]⟩⟩
 case round=>
  obtain ⟨P,a,k,rfl,rfl,hown,hpl,hb,hcase⟩:=hrel
  have Hb:=Z9 hb
  have Hown:=Z9 hown
  clear hb hown
  rcases hcase with ⟨hk,ha,hsp⟩ | ⟨rfl,hP⟩
  ·have Hsp:=Z9 hsp
   clear hsp
   by_cases hend:k=s.size
   ·subst hend
    go_wp2_with (at_builtin;refine wpList_append_own _ rfl _ _ 164 rfl w.heap.size 9 i0 (.string ByteArray.empty) 1 16 Tryz.underlying164 hi hz0 hz1 hz2 rfl (by decide) _ _ _ rfl (World.ownsRow.alloc (uh Hown) _) ⟨_,0,none⟩ 1 1 [.string (s.extract a s.size)] rfl rfl (cell_one_new _ _ _) (by simp [Value.oneCell']) (by simp only [maxLen];omega) (by omega) (by have:=(uh Hb).size;simp;omega) ?_;intro v' w1 hown' hgrow _;have R:=Ot (uh Hown) (uh Hb) hown' hgrow;have HR:=Z9 R;clear hown' hgrow R)
    go_roundw
    case rel=>exact ⟨P++[(s.data.toList.take s.size).drop a],s.size+1,s.size+1,by go_num,by go_num,(uh HR).1,by simp;omega,(uh HR).2,.inr ⟨rfl,by rw [<-uh Hsp,List.drop_eq_nil_of_le (show s.data.toList.length<=s.size by simp)];rfl⟩⟩
    case measure=>simp [intOf]
   ·have hlt:k<s.size:=by omega
    have hll:k<s.data.toList.length:=by simpa using hlt
    have hat:s.data.toList[k]=s[k]:=rfl
    by_cases hc:s[k]=c
    ·have Hc:=Z9 hc
     have Hn:Hid (P++[(s.data.toList.take k).drop a]++Zj c ((s.data.toList.take (k+1)).drop (k+1)) (s.data.toList.drop (k+1))=Zm c s.data.toList):=Z9 (by
      have h0:=uh Hsp
      rw [Rp _ k hll,hat,hc,VN] at h0
      rw [<-h0];simp)
     clear hc hat
     have hbeq:((s[k].toNat:Int) ==(c.toNat:Int))=true:=by rw [show s[k]=c from uh Hc];simp
     have hne:((k:Int) ==(s.size:Int))=false:=beq_eq_false_iff_ne.2 (by omega)
     go_wp2_with (at_builtin;refine wpList_append_own _ rfl _ _ 164 rfl w.heap.size 9 i0 (.string ByteArray.empty) 1 16 Tryz.underlying164 hi hz0 hz1 hz2 rfl (by decide) _ _ _ rfl (World.ownsRow.alloc (uh Hown) _) ⟨_,0,none⟩ 1 1 [.string (s.extract a k)] rfl rfl (cell_one_new _ _ _) (by simp [Value.oneCell']) (by simp only [maxLen];omega) (by omega) (by have:=(uh Hb).size;simp;omega) ?_;intro v' w1 hown' hgrow _;have R:=Ot (uh Hown) (uh Hb) hown' hgrow;have HR:=Z9 R;clear hown' hgrow R)
     go_roundw
     case rel=>exact ⟨P++[(s.data.toList.take k).drop a],k+1,k+1,by go_num,by go_num,(uh HR).1,by simp;omega,(uh HR).2,.inl ⟨by omega,by omega,uh Hn⟩⟩
     case measure=>simp [intOf];omega
    ·have Hn:Hid (P++Zj c ((s.data.toList.take (k+1)).drop a) (s.data.toList.drop (k+1))=Zm c s.data.toList):=Z9 (by
      have h0:=uh Hsp
      rw [Rp _ k hll,hat,VO hc] at h0
      rw [<-h0,IB _ a k ha hll,hat])
     have hbeq:((s[k].toNat:Int) ==(c.toNat:Int))=false:=beq_eq_false_iff_ne.2 (fun e=>hc (UInt8.toNat_inj.1 (by omega)))
     have hne:((k:Int) ==(s.size:Int))=false:=beq_eq_false_iff_ne.2 (by omega)
     clear hc hat
     go_wp2_with fail
     go_roundw
     case rel=>exact ⟨P,a,k+1,rfl,by go_num,uh Hown,by omega,uh Hb,.inl ⟨by omega,by omega,uh Hn⟩⟩
     case measure=>simp [intOf];omega
  ·have HP:=Z9 hP
   clear hP
   go_wp2_with fail
   go_ret
   exact ⟨_,rfl,by rw [<-uh HP];exact uh Hown,uh Hb⟩
theorem VH {l:Txt} {acc n k:Nat} {b:UInt8} (h1:l[k]?=some b) (h2:digitVal b=none):Go.Lib.decFrom acc l=none:=by
 cases h:Go.Lib.decFrom acc l with
 | none=>rfl
 | some m=>obtain ⟨d,hd⟩:=Go.Lib.digit_of_decFrom l acc m h k b h1;rw [h2] at hd;cases hd
theorem Tg {c:UInt8} {r:Txt} (hc:c ≠ 45) (h9:(c::r).length<=9) (h0:¬ (c=48/\r ≠ [])):YD (c::r)=(Go.Lib.decFrom 0 (c::r)).map fun n:Nat=>(n:Int):=by
 unfold YD;simp only [if_neg hc];rw [if_neg];rw [not_or];exact ⟨by omega,h0⟩
theorem Vf {c:UInt8} {r:Txt} (hc:c ≠ 45) (h:9<(c::r).length\/(c=48/\r ≠ [])):YD (c::r)=none:=by
 unfold YD;simp only [if_neg hc];rw [if_pos h]
theorem RB {r:Txt} (h1:r ≠ []) (h9:r.length<=9) (h0:r.head? ≠ some 48):YD (45::r)=(Go.Lib.decFrom 0 r).map fun n:Nat=> -(n:Int):=by
 unfold YD;simp only [if_true];rw [if_neg];rw [not_or,not_or];exact ⟨h1,by omega,h0⟩
theorem Wd {r:Txt} (h:r=[]\/9<r.length\/r.head?=some 48):YD (45::r)=none:=by
 unfold YD;simp only [if_true];rw [if_pos h]
def XB (l:Txt):Value:= .tuple #[.int .i64 ((YD l).getD 0),.bool (YD l).isSome]
theorem X9 {l:Txt} (h:YD l=none):XB l= .tuple #[.int .i64 0,.bool false]:=by unfold XB;rw [h];rfl
theorem SL {l:Txt} {v:Int} (h:YD l=some v):XB l= .tuple #[.int .i64 v,.bool true]:=by unfold XB;rw [h];rfl
theorem Ln {b:UInt8} (h1:48<=b.toNat) (h2:b.toNat<=57):digitVal b=some (b.toNat-48):=by unfold Go.Lib.digitVal;rw [if_pos ⟨h1,h2⟩]
theorem S8 {b:UInt8} (h:b.toNat<48\/57<b.toNat):digitVal b=none:=by unfold Go.Lib.digitVal;rw [if_neg (by omega)]
end Go.Proofs.YthbbahagpmdooaaGreat
