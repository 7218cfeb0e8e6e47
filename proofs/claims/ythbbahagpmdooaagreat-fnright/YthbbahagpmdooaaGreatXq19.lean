/- Part 19 of what the proof rests on. No condition but those that a theorem names. -/
import Derived.Test.YthbbahagpmdooaaGreatXq18
import Derived.Deep.CutBlock
set_option maxHeartbeats 8000000
set_option maxRecDepth 100000
namespace Go.Proofs.YthbbahagpmdooaaGreat
open Go.ChangeShapes Go.WideShapes Go.ChangeAt Go.RowKit Go.Sort
open Draw (St Off Row Cur)
set_option linter.unusedVariables false
set_option linter.unusedSimpArgs false
set_option maxRecDepth 100000
structure Abox (a:Option Addr) (len cap bc:Nat) (w0 w:World) (tb:Nat) (mc:Array Value) (x0 x1 x2 x3:Int):Prop where
 st:St a len cap bc w
 off:Off bc w0 w
 kb:Blk w w0.heap.size 32 mc
 kr:Blk w (w0.heap.size+1) 168 #[.int .i64 0,.int .i64 0,.int .i64 0,.int .i64 0]
 ka:Blk w tb 168 #[.int .i64 x0,.int .i64 x1,.int .i64 x2,.int .i64 x3]
 lo:w0.heap.size+2<=tb
 bl:bc<w0.heap.size
section
variable {a : Option Addr} {len cap bc : Nat} {w0 w w' : World} {tb : Nat} {mc : Array Value} {x0 x1 x2 x3 : Int}
theorem Abox.step (h:Abox a len cap bc w0 w tb mc x0 x1 x2 x3) (hs:St a len cap bc w') (ho:Off bc w w'):Abox a len cap bc w0 w' tb mc x0 x1 x2 x3:=
 have hl:=h.lo
 have hb:=h.bl
 ⟨hs,h.off.trans ho,h.kb.same (ho.block _ h.kb.lt (by omega)),h.kr.same (ho.block _ h.kr.lt (by omega)),h.ka.same (ho.block _ h.ka.lt (by omega)),h.lo,h.bl⟩
theorem Abox.below (h:Abox a len cap bc w0 w tb mc x0 x1 x2 x3) (hb:Below w.heap.size w w'):Abox a len cap bc w0 w' tb mc x0 x1 x2 x3:=
 h.step (XZ h.st (hb.mono (XT h.st))) ⟨hb.os,hb.tape,hb.output,hb.size,fun k hk _=>hb.block k hk⟩
theorem Abox.set (h:Abox a len cap bc w0 w tb mc x0 x1 x2 x3) (i:Nat) (v:Int) {y0 y1 y2 y3:Int} (hv:(#[.int .i64 x0,.int .i64 x1,.int .i64 x2,.int .i64 x3]:Array Value).setIfInBounds i (.int .i64 v)=#[.int .i64 y0,.int .i64 y1,.int .i64 y2,.int .i64 y3]):Abox a len cap bc w0 (w.setCell ⟨tb,i,none⟩ (.int .i64 v)) tb mc y0 y1 y2 y3:=by
 have hl:=h.lo
 have hb:=h.bl
 have hz:=h.off.size
 refine ⟨XZ h.st ((Below.refl _ _).setCell (p:=⟨tb,i,none⟩) (by show bc+1<=tb;omega) _),?_,h.kb.other (by show w0.heap.size ≠ tb;omega) _,h.kr.other (by show w0.heap.size+1 ≠ tb;omega) _,?_,h.lo,h.bl⟩
 ·refine ⟨h.off.os,h.off.tape,h.off.output,by simpa using h.off.size,fun k hk hn=> ?_⟩
  rw [heap_setCell_other _ _ _ _ (by show k ≠ tb;omega)]
  exact h.off.block k hk hn
 ·rw [<-hv];exact h.ka.set i _
end
theorem Lo (a:Option Addr) (len cap bc:Nat) (a0 a1 a2 a3 a4:Option Addr) (n0 n1 n2 n3 n4 p0 p1 p2 p3 p4:Nat) (now:Int) (h1:n1<=6) (h2:n2<=12) (h3:1<=n3) (h3':n3<=8) (h4:1<=n4) (h4':n4<=3) (w:World) (hs:St a len cap bc w) :
  Calls Tryz.prog 146 #[.pointer (some ⟨bc,0,none⟩),.agg #[.slice a0 n0 p0,.slice a1 n1 p1,.slice a2 n2 p2,.slice a3 n3 p3,.slice a4 n4 p4,.int .i64 now]] w fun e w'=> ∃ k who A B:Int,e= .returned (.agg #[.int .i64 k,.int .i64 who,.int .i64 A,.int .i64 B])/\St a len cap bc w'/\Off bc w w':=by
 have Hs:=Z9 hs
 have hbc:=XT hs
 clear hs
 go_enter Tryz.func146,Tryz.ntmps146
 go_upto_region 1 with fail
 have kb:Hid (Blk ((w.alloc (.cells #[.slice a0 n0 p0,.slice a1 n1 p1,.slice a2 n2 p2,.slice a3 n3 p3,.slice a4 n4 p4,.int .i64 now] 32)).alloc (.cells #[.int .i64 0,.int .i64 0,.int .i64 0,.int .i64 0] 168)) w.heap.size 32 #[.slice a0 n0 p0,.slice a1 n1 p1,.slice a2 n2 p2,.slice a3 n3 p3,.slice a4 n4 p4,.int .i64 now]):=Z9 ((Blk.new w _ _).alloc _)
 have kr:Hid (Blk ((w.alloc (.cells #[.slice a0 n0 p0,.slice a1 n1 p1,.slice a2 n2 p2,.slice a3 n3 p3,.slice a4 n4 p4,.int .i64 now] 32)).alloc (.cells #[.int .i64 0,.int .i64 0,.int .i64 0,.int .i64 0] 168)) (w.heap.size+1) 168 #[.int .i64 0,.int .i64 0,.int .i64 0,.int .i64 0]):=Z9 (by
  have k:=Blk.new (w.alloc (.cells #[.slice a0 n0 p0,.slice a1 n1 p1,.slice a2 n2 p2,.slice a3 n3 p3,.slice a4 n4 p4,.int .i64 now] 32)) 168 #[.int .i64 0,.int .i64 0,.int .i64 0,.int .i64 0]
  rw [World.size_alloc] at k
  exact k)
 have HO:Hid (Off bc w ((w.alloc (.cells #[.slice a0 n0 p0,.slice a1 n1 p1,.slice a2 n2 p2,.slice a3 n3 p3,.slice a4 n4 p4,.int .i64 now] 32)).alloc (.cells #[.int .i64 0,.int .i64 0,.int .i64 0,.int .i64 0] 168))):=Z9 (((Off.refl _ _).alloc _).alloc _)
 replace Hs:Hid (St a len cap bc ((w.alloc (.cells #[.slice a0 n0 p0,.slice a1 n1 p1,.slice a2 n2 p2,.slice a3 n3 p3,.slice a4 n4 p4,.int .i64 now] 32)).alloc (.cells #[.int .i64 0,.int .i64 0,.int .i64 0,.int .i64 0] 168))):=Z9 (((uh Hs).alloc _).alloc _)
 generalize (w.alloc (.cells #[.slice a0 n0 p0,.slice a1 n1 p1,.slice a2 n2 p2,.slice a3 n3 p3,.slice a4 n4 p4,.int .i64 now] 32)).alloc (.cells #[.int .i64 0,.int .i64 0,.int .i64 0,.int .i64 0] 168)=W at *
 have c2:=(uh kb).cell (i:=2) (v:= .slice a2 n2 p2) rfl
 have c3:=(uh kb).cell (i:=3) (v:= .slice a3 n3 p3) rfl
 go_wp2_with fail
 clear c2 c3
 refine (Draw.below_any a len cap bc 20 (by omega) (by omega) _ (uh Hs)).mono ?_
 rintro e w1 ⟨y,rfl,y0,y1,s9,p9⟩
 replace kb:=Z9 ((uh kb).same (p9.block _ (uh kb).lt (by omega)))
 replace kr:=Z9 ((uh kr).same (p9.block _ (uh kr).lt (by omega)))
 replace HO:=Z9 ((uh HO).trans p9)
 replace Hs:=Z9 s9
 clear s9 p9
 go_upto_region 4 with fail
 have H0:Hid (Abox a len cap bc w (w1.alloc (.cells #[.int .i64 10,.int .i64 0,.int .i64 (1+y),.int .i64 0] 168)) w1.heap.size #[.slice a0 n0 p0,.slice a1 n1 p1,.slice a2 n2 p2,.slice a3 n3 p3,.slice a4 n4 p4,.int .i64 now] 10 0 (1+y) 0):=Z9 ⟨(uh Hs).alloc _,(uh HO).alloc _,(uh kb).alloc _,(uh kr).alloc _,Blk.new _ _ _,by have:=(uh kr).lt;omega,hbc⟩
 clear kb kr HO Hs
 generalize w1.alloc (.cells #[.int .i64 10,.int .i64 0,.int .i64 (1+y),.int .i64 0] 168)=W1 at *
 generalize w1.heap.size=tb at *
 have H:Hid (∃ q0 q1 q2 q3:Int,Abox a len cap bc w W1 tb #[.slice a0 n0 p0,.slice a1 n1 p1,.slice a2 n2 p2,.slice a3 n3 p3,.slice a4 n4 p4,.int .i64 now] q0 q1 q2 q3):=Z9 ⟨10,0,1+y,0,uh H0⟩
 clear H0 y0 y1
 go_cut [31] (fun s wc=> ∃ bq:Bool,s= .bool bq/\ ∃ q0 q1 q2 q3:Int,Abox a len cap bc w wc tb #[.slice a0 n0 p0,.slice a1 n1 p1,.slice a2 n2 p2,.slice a3 n3 p3,.slice a4 n4 p4,.int .i64 now] q0 q1 q2 q3)
 case first=>
  obtain ⟨q0,q1,q2,q3,hH⟩:=uh H
  have HA:=Z9 hH
  clear hH H
  by_cases hc3:(n2:Int)<3
  ·
   go_wp2_with fail
   refine (Draw.once_any a len cap bc 2 (by omega) (by omega) _ (uh HA).st).mono ?_
   rintro e w11 ⟨bq,rfl,s9,p9⟩
   replace HA:=Z9 ((uh HA).step s9 p9)
   clear s9 p9
   cases bq
   ·
    have hc9:(n2:Int)<9:=by omega
    go_wp2_with fail
    refine (Draw.once_any a len cap bc 8 (by omega) (by omega) _ (uh HA).st).mono ?_
    rintro e w12 ⟨b2,rfl,s9,p9⟩
    replace HA:=Z9 ((uh HA).step s9 p9)
    clear s9 p9
    go_wp2_with fail
    go_meet
    exact ⟨_,rfl,_,_,_,_,uh HA⟩
   ·
    go_wp2_with fail
    go_meet
    exact ⟨_,rfl,_,_,_,_,uh HA⟩
  ·
   by_cases hc9:(n2:Int)<9
   ·
    go_wp2_with fail
    refine (Draw.once_any a len cap bc 8 (by omega) (by omega) _ (uh HA).st).mono ?_
    rintro e w13 ⟨b2,rfl,s9,p9⟩
    replace HA:=Z9 ((uh HA).step s9 p9)
    clear s9 p9
    go_wp2_with fail
    go_meet
    exact ⟨_,rfl,_,_,_,_,uh HA⟩
   ·
    go_wp2_with fail
    go_meet
    exact ⟨_,rfl,_,_,_,_,uh HA⟩
 case rest=>
 obtain ⟨bq,rfl,hq⟩:=hcut
 replace H:=Z9 hq
 clear hq
 obtain ⟨w5,rfl⟩:∃ x,x=wc:=⟨wc,rfl⟩
 cases bq
 rotate_left
 ·
  obtain ⟨q0,q1,q2,q3,hH⟩:=uh H
  have HA:=Z9 hH
  clear hH H
  go_wp2_with fail
  refine (Draw.from_any a len cap bc (-5) 5 (by omega) (by omega) (by omega) _ (uh HA).st).mono ?_
  rintro e w14 ⟨v1,rfl,v10,v11,s9,p9⟩
  replace HA:=Z9 ((uh HA).step s9 p9)
  clear s9 p9
  go_wp2_with fail
  refine (Draw.below_any a len cap bc 15 (by omega) (by omega) _ (uh HA).st).mono ?_
  rintro e w15 ⟨v2,rfl,v20,v21,s9,p9⟩
  replace HA:=Z9 ((uh HA).step s9 p9)
  clear s9 p9
  go_wp2_with fail
  have hlb:w15.heap.size ≠ bc:=by have:=(uh HA).off.size;omega
  replace HA:=Z9 ((uh HA).below ((Below.refl _ _).alloc (Nat.le_refl _) (.cells #[.int .i64 255,.int .i64 255,.int .i64 255,.int .i64 (1+v2)] 2)))
  have KL:Hid (Blk (w15.alloc (.cells #[.int .i64 255,.int .i64 255,.int .i64 255,.int .i64 (1+v2)] 2)) w15.heap.size 2 #[.int .i64 255,.int .i64 255,.int .i64 255,.int .i64 (1+v2)]):=Z9 (Blk.new _ _ _)
  generalize w15.alloc (.cells #[.int .i64 255,.int .i64 255,.int .i64 255,.int .i64 (1+v2)] 2)=Wp at *
  generalize w15.heap.size=lb at *
  refine (Draw.below_any a len cap bc 4 (by omega) (by omega) _ (uh HA).st).mono ?_
  rintro e w16 ⟨v3,rfl,v30,v31,s9,p9⟩
  replace KL:=Z9 ((uh KL).away p9 hlb)
  replace HA:=Z9 ((uh HA).step s9 p9)
  clear s9 p9
  have l0:=(uh KL).cell (i:=0) (v:= .int .i64 255) rfl
  have l1:=(uh KL).cell (i:=1) (v:= .int .i64 255) rfl
  have l2:=(uh KL).cell (i:=2) (v:= .int .i64 255) rfl
  have l3:=(uh KL).cell (i:=3) (v:= .int .i64 (1+v2)) rfl
  rcases (show v3=0\/v3=1\/v3=2\/v3=3 by omega) with rfl | rfl | rfl | rfl
  ·
   have o0:=(uh HA).kr.cell (i:=0) (v:= .int .i64 0) rfl
   have g0:=(uh HA).kr.free 0
   have o1:=(uh HA).kr.cell (i:=1) (v:= .int .i64 0) rfl
   have g1:=(uh HA).kr.free 1
   have o2:=(uh HA).kr.cell (i:=2) (v:= .int .i64 0) rfl
   have g2:=(uh HA).kr.free 2
   have o3:=(uh HA).kr.cell (i:=3) (v:= .int .i64 0) rfl
   have g3:=(uh HA).kr.free 3
   go_wp2_with fail
   refine bodyPost_ret (v:= .agg #[.int .i64 1,.int .i64 0,.int .i64 v1,.int .i64 255]) (by simp [results,Tryz.results146,go_sem, *]) rfl ⟨1,0,v1,255,rfl,?_,?_⟩
   ·iterate 4 (refine St.newer ?_ (by omega) _ _)
    exact (uh HA).st
   ·iterate 4 (refine Off.newer ?_ (by omega) _ _)
    exact (uh HA).off
  ·
   have o0:=(uh HA).kr.cell (i:=0) (v:= .int .i64 0) rfl
   have g0:=(uh HA).kr.free 0
   have o1:=(uh HA).kr.cell (i:=1) (v:= .int .i64 0) rfl
   have g1:=(uh HA).kr.free 1
   have o2:=(uh HA).kr.cell (i:=2) (v:= .int .i64 0) rfl
   have g2:=(uh HA).kr.free 2
   have o3:=(uh HA).kr.cell (i:=3) (v:= .int .i64 0) rfl
   have g3:=(uh HA).kr.free 3
   go_wp2_with fail
   refine bodyPost_ret (v:= .agg #[.int .i64 1,.int .i64 0,.int .i64 v1,.int .i64 255]) (by simp [results,Tryz.results146,go_sem, *]) rfl ⟨1,0,v1,255,rfl,?_,?_⟩
   ·iterate 4 (refine St.newer ?_ (by omega) _ _)
    exact (uh HA).st
   ·iterate 4 (refine Off.newer ?_ (by omega) _ _)
    exact (uh HA).off
  ·
   have o0:=(uh HA).kr.cell (i:=0) (v:= .int .i64 0) rfl
   have g0:=(uh HA).kr.free 0
   have o1:=(uh HA).kr.cell (i:=1) (v:= .int .i64 0) rfl
   have g1:=(uh HA).kr.free 1
   have o2:=(uh HA).kr.cell (i:=2) (v:= .int .i64 0) rfl
   have g2:=(uh HA).kr.free 2
   have o3:=(uh HA).kr.cell (i:=3) (v:= .int .i64 0) rfl
   have g3:=(uh HA).kr.free 3
   go_wp2_with fail
   refine bodyPost_ret (v:= .agg #[.int .i64 1,.int .i64 0,.int .i64 v1,.int .i64 255]) (by simp [results,Tryz.results146,go_sem, *]) rfl ⟨1,0,v1,255,rfl,?_,?_⟩
   ·iterate 4 (refine St.newer ?_ (by omega) _ _)
    exact (uh HA).st
   ·iterate 4 (refine Off.newer ?_ (by omega) _ _)
    exact (uh HA).off
  ·
   have o0:=(uh HA).kr.cell (i:=0) (v:= .int .i64 0) rfl
   have g0:=(uh HA).kr.free 0
   have o1:=(uh HA).kr.cell (i:=1) (v:= .int .i64 0) rfl
   have g1:=(uh HA).kr.free 1
   have o2:=(uh HA).kr.cell (i:=2) (v:= .int .i64 0) rfl
   have g2:=(uh HA).kr.free 2
   have o3:=(uh HA).kr.cell (i:=3) (v:= .int .i64 0) rfl
   have g3:=(uh HA).kr.free 3
   go_wp2_with fail
   refine bodyPost_ret (v:= .agg #[.int .i64 1,.int .i64 0,.int .i64 v1,.int .i64 (1+v2)]) (by simp [results,Tryz.results146,go_sem, *]) rfl ⟨1,0,v1,(1+v2),rfl,?_,?_⟩
   ·iterate 4 (refine St.newer ?_ (by omega) _ _)
    exact (uh HA).st
   ·iterate 4 (refine Off.newer ?_ (by omega) _ _)
    exact (uh HA).off
 go_upto_if 44 with fail
 go_cut [] (fun wc=> ∃ q0 q1 q2 q3:Int,Abox a len cap bc w wc tb #[.slice a0 n0 p0,.slice a1 n1 p1,.slice a2 n2 p2,.slice a3 n3 p3,.slice a4 n4 p4,.int .i64 now] q0 q1 q2 q3)
 case first=>
  obtain ⟨q0,q1,q2,q3,hH⟩:=uh H
  have HA:=Z9 hH
  clear hH H
  by_cases hn0:0<(n2:Int)
  ·
   go_wp2_with fail
   refine (Draw.below_any a len cap bc (n2:Int) (by omega) (by omega) _ (uh HA).st).mono ?_
   rintro e w17 ⟨v1,rfl,v10,v11,s9,p9⟩
   replace HA:=Z9 ((uh HA).step s9 p9)
   clear s9 p9
   have c1:=(uh HA).ka.cell (i:=1) (v:= .int .i64 q1) rfl
   have f1:=(uh HA).ka.free 1
   go_wp2_with fail
   go_meet
   exact ⟨_,_,_,_,(uh HA).set 1 v1 rfl⟩
  ·
   go_wp2_with fail
   go_meet
   exact ⟨_,_,_,_,(uh HA)⟩
 case rest=>
 replace H:=Z9 hcut
 obtain ⟨w6,rfl⟩:∃ x,x=wc:=⟨wc,rfl⟩
 clear hcut
 obtain ⟨q0,q1,q2,q3,hH⟩:=uh H
 have HA:=Z9 hH
 clear hH H
 go_wp2_with fail
 refine (Draw.below_any a len cap bc 20 (by omega) (by omega) _ (uh HA).st).mono ?_
 rintro e w18 ⟨yy,rfl,yy0,yy1,s9,p9⟩
 replace HA:=Z9 ((uh HA).step s9 p9)
 clear s9 p9
 have H:Hid (∃ q0 q1 q2 q3:Int,Abox a len cap bc w w18 tb #[.slice a0 n0 p0,.slice a1 n1 p1,.slice a2 n2 p2,.slice a3 n3 p3,.slice a4 n4 p4,.int .i64 now] q0 q1 q2 q3):=Z9 ⟨_,_,_,_,uh HA⟩
 clear HA
 go_upto_block 0 with fail
 go_cut [] (fun wc=> ∃ q0 q1 q2 q3:Int,Abox a len cap bc w wc tb #[.slice a0 n0 p0,.slice a1 n1 p1,.slice a2 n2 p2,.slice a3 n3 p3,.slice a4 n4 p4,.int .i64 now] q0 q1 q2 q3)
 case first=>
  obtain ⟨q0,q1,q2,q3,hH⟩:=uh H
  have HA:=Z9 hH
  clear hH H
  rcases (show yy=0\/yy=1\/yy=2\/yy=3\/yy=4\/yy=5\/yy=6\/yy=7\/yy=8\/yy=9\/yy=10\/yy=11\/yy=12\/yy=13\/14<=yy by omega) with rfl | rfl | rfl | rfl | rfl | rfl | rfl | rfl | rfl | rfl | rfl | rfl | rfl | rfl | hyy
  ·
   have c0:=(uh HA).ka.cell (i:=0) (v:= .int .i64 q0) rfl
   have f0:=(uh HA).ka.free 0
   go_wp2_with fail
   go_meet
   exact ⟨_,_,_,_,(uh HA).set 0 2 rfl⟩
  ·
   have c0:=(uh HA).ka.cell (i:=0) (v:= .int .i64 q0) rfl
   have f0:=(uh HA).ka.free 0
   go_wp2_with fail
   go_meet
   exact ⟨_,_,_,_,(uh HA).set 0 2 rfl⟩
  ·
   have c0:=(uh HA).ka.cell (i:=0) (v:= .int .i64 q0) rfl
   have f0:=(uh HA).ka.free 0
   go_wp2_with fail
   go_meet
   exact ⟨_,_,_,_,(uh HA).set 0 3 rfl⟩
  ·
   have c0:=(uh HA).ka.cell (i:=0) (v:= .int .i64 q0) rfl
   have f0:=(uh HA).ka.free 0
   go_wp2_with fail
   go_meet
   exact ⟨_,_,_,_,(uh HA).set 0 3 rfl⟩
  ·
   have c0:=(uh HA).ka.cell (i:=0) (v:= .int .i64 q0) rfl
   have f0:=(uh HA).ka.free 0
   go_wp2_with fail
   go_meet
   exact ⟨_,_,_,_,(uh HA).set 0 3 rfl⟩
  ·
   go_wp2_with fail
   refine (Draw.once_any a len cap bc 3 (by omega) (by omega) _ (uh HA).st).mono ?_
   rintro e w19 ⟨bq,rfl,s9,p9⟩
   replace HA:=Z9 ((uh HA).step s9 p9)
   clear s9 p9
   cases bq
   ·
    go_wp2_with fail
    go_meet
    exact ⟨_,_,_,_,(uh HA)⟩
   ·
    have c0:=(uh HA).ka.cell (i:=0) (v:= .int .i64 q0) rfl
    have f0:=(uh HA).ka.free 0
    go_wp2_with fail
    go_meet
    exact ⟨_,_,_,_,(uh HA).set 0 4 rfl⟩
  ·
   have c0:=(uh HA).ka.cell (i:=0) (v:= .int .i64 q0) rfl
   have f0:=(uh HA).ka.free 0
   go_wp2_with fail
   clear c0 f0
   refine (Draw.from_any a len cap bc (-5) 5 (by omega) (by omega) (by omega) _ ((uh HA).set 0 5 rfl).st).mono ?_
   rintro e w20 ⟨v1,rfl,v10,v11,s9,p9⟩
   replace HA:=Z9 (((uh HA).set 0 5 rfl).step s9 p9)
   clear s9 p9
   have c2:=(uh HA).ka.cell (i:=2) (v:= .int .i64 q2) rfl
   have f2:=(uh HA).ka.free 2
   go_wp2_with fail
   go_meet
   exact ⟨_,_,_,_,(uh HA).set 2 v1 rfl⟩
  ·
   have c0:=(uh HA).ka.cell (i:=0) (v:= .int .i64 q0) rfl
   have f0:=(uh HA).ka.free 0
   go_wp2_with fail
   clear c0 f0
   have hd:(2:Int) ^ ((n3:Int)).toNat=((2 ^ n3:Nat):Int):=by rw [Int.toNat_natCast];push_cast;rfl
   have hp1:2 ^ 1<=2 ^ n3:=Nat.pow_le_pow_right (by omega) h3
   have hp8:2 ^ n3<=2 ^ 8:=Nat.pow_le_pow_right (by omega) h3'
   obtain ⟨pw,hpw⟩:∃ q,q=2 ^ n3:=⟨_,rfl⟩
   rw [<-hpw] at hd hp1 hp8
   have Hd:=Z9 hd
   clear hd hpw
   replace HA:=Z9 ((uh HA).set 0 6 rfl)
   refine (TF (n3:Int) (by omega) (by omega) _).mono ?_
   rw [uh Hd]
   rintro e wz ⟨rfl,hwz⟩
   subst wz
   go_wp2_with fail
   refine (Draw.below_any a len cap bc ((pw:Int)-1) (by omega) (by omega) _ (uh HA).st).mono ?_
   rintro e w21 ⟨v1,rfl,v10,v11,s9,p9⟩
   replace HA:=Z9 ((uh HA).step s9 p9)
   clear s9 p9
   have c2:=(uh HA).ka.cell (i:=2) (v:= .int .i64 q2) rfl
   have f2:=(uh HA).ka.free 2
   go_wp2_with fail
   go_meet
   exact ⟨_,_,_,_,(uh HA).set 2 (1+v1) rfl⟩
  ·
   have c0:=(uh HA).ka.cell (i:=0) (v:= .int .i64 q0) rfl
   have f0:=(uh HA).ka.free 0
   go_wp2_with fail
   clear c0 f0
   refine (Draw.below_any a len cap bc 400 (by omega) (by omega) _ ((uh HA).set 0 7 rfl).st).mono ?_
   rintro e w22 ⟨v1,rfl,v10,v11,s9,p9⟩
   replace HA:=Z9 (((uh HA).set 0 7 rfl).step s9 p9)
   clear s9 p9
   have c2:=(uh HA).ka.cell (i:=2) (v:= .int .i64 q2) rfl
   have f2:=(uh HA).ka.free 2
   go_upto_region 28 with fail
   clear c2 f2
   replace HA:=Z9 ((uh HA).set 2 v1 rfl)
   obtain ⟨Wq,hWq⟩:∃ x,x=w22.setCell ⟨tb,2,none⟩ (.int .i64 v1):=⟨_,rfl⟩
   rw [<-hWq] at HA ⊢
   clear hWq
   have c2:=(uh HA).ka.cell (i:=2) (v:= .int .i64 v1) rfl
   go_wp2_with fail
   clear c2
   refine (Draw.from_any a len cap bc v1 1024 (by omega) (by omega) (by omega) _ (uh HA).st).mono ?_
   rintro e w23 ⟨v2,rfl,v20,v21,s9,p9⟩
   replace HA:=Z9 ((uh HA).step s9 p9)
   clear s9 p9
   have c3:=(uh HA).ka.cell (i:=3) (v:= .int .i64 q3) rfl
   have f3:=(uh HA).ka.free 3
   go_wp2_with fail
   go_meet
   exact ⟨_,_,_,_,(uh HA).set 3 v2 rfl⟩
  ·
   go_wp2_with fail
   have hlb:w18.heap.size ≠ bc:=by have:=(uh HA).off.size;omega
   replace HA:=Z9 ((uh HA).below ((Below.refl _ _).alloc (Nat.le_refl _) (.cells #[.int .i64 8,.int .i64 9] 2)))
   have KL:Hid (Blk (w18.alloc (.cells #[.int .i64 8,.int .i64 9] 2)) w18.heap.size 2 #[.int .i64 8,.int .i64 9]):=Z9 (Blk.new _ _ _)
   generalize w18.alloc (.cells #[.int .i64 8,.int .i64 9] 2)=Wp at *
   generalize w18.heap.size=lb at *
   refine (Draw.below_any a len cap bc 2 (by omega) (by omega) _ (uh HA).st).mono ?_
   rintro e w24 ⟨v1,rfl,v10,v11,s9,p9⟩
   replace KL:=Z9 ((uh KL).away p9 hlb)
   replace HA:=Z9 ((uh HA).step s9 p9)
   clear s9 p9
   have l0:=(uh KL).cell (i:=0) (v:= .int .i64 8) rfl
   have l1:=(uh KL).cell (i:=1) (v:= .int .i64 9) rfl
   rcases (show v1=0\/v1=1 by omega) with rfl | rfl
   ·
    have c0:=(uh HA).ka.cell (i:=0) (v:= .int .i64 q0) rfl
    have f0:=(uh HA).ka.free 0
    go_wp2_with fail
    clear c0 f0
    clear l0 l1
    refine (Draw.below_any a len cap bc (n3:Int) (by omega) (by omega) _ ((uh HA).set 0 8 rfl).st).mono ?_
    rintro e w25 ⟨v2,rfl,v20,v21,s9,p9⟩
    replace HA:=Z9 (((uh HA).set 0 8 rfl).step s9 p9)
    clear s9 p9
    have c2:=(uh HA).ka.cell (i:=2) (v:= .int .i64 q2) rfl
    have f2:=(uh HA).ka.free 2
    go_wp2_with fail
    go_meet
    exact ⟨_,_,_,_,(uh HA).set 2 v2 rfl⟩
   ·
    have c0:=(uh HA).ka.cell (i:=0) (v:= .int .i64 q0) rfl
    have f0:=(uh HA).ka.free 0
    go_wp2_with fail
    clear c0 f0
    clear l0 l1
    refine (Draw.below_any a len cap bc (n3:Int) (by omega) (by omega) _ ((uh HA).set 0 9 rfl).st).mono ?_
    rintro e w26 ⟨v2,rfl,v20,v21,s9,p9⟩
    replace HA:=Z9 (((uh HA).set 0 9 rfl).step s9 p9)
    clear s9 p9
    have c2:=(uh HA).ka.cell (i:=2) (v:= .int .i64 q2) rfl
    have f2:=(uh HA).ka.free 2
    go_wp2_with fail
    go_meet
    exact ⟨_,_,_,_,(uh HA).set 2 v2 rfl⟩
  ·
   have c0:=(uh HA).ka.cell (i:=0) (v:= .int .i64 q0) rfl
   have f0:=(uh HA).ka.free 0
   go_upto_region 34 with fail
   clear c0 f0
   replace HA:=Z9 ((uh HA).set 0 11 rfl)
   obtain ⟨Wq,hWq⟩:∃ x,x=w18.setCell ⟨tb,0,none⟩ (.int .i64 11):=⟨_,rfl⟩
   rw [<-hWq] at HA ⊢
   clear hWq
   have m4:=(uh HA).kb.cell (i:=4) (v:= .slice a4 n4 p4) rfl
   go_wp2_with fail
   clear m4
   refine (Draw.below_any a len cap bc (n4:Int) (by omega) (by omega) _ (uh HA).st).mono ?_
   rintro e w27 ⟨v1,rfl,v10,v11,s9,p9⟩
   replace HA:=Z9 ((uh HA).step s9 p9)
   clear s9 p9
   have c2:=(uh HA).ka.cell (i:=2) (v:= .int .i64 q2) rfl
   have f2:=(uh HA).ka.free 2
   go_wp2_with fail
   clear c2 f2
   refine (Draw.below_any a len cap bc 3 (by omega) (by omega) _ ((uh HA).set 2 v1 rfl).st).mono ?_
   rintro e w28 ⟨v2,rfl,v20,v21,s9,p9⟩
   replace HA:=Z9 (((uh HA).set 2 v1 rfl).step s9 p9)
   clear s9 p9
   have c3:=(uh HA).ka.cell (i:=3) (v:= .int .i64 q3) rfl
   have f3:=(uh HA).ka.free 3
   go_wp2_with fail
   go_meet
   exact ⟨_,_,_,_,(uh HA).set 3 v2 rfl⟩
  ·
   have c0:=(uh HA).ka.cell (i:=0) (v:= .int .i64 q0) rfl
   have f0:=(uh HA).ka.free 0
   go_wp2_with fail
   go_meet
   exact ⟨_,_,_,_,(uh HA).set 0 12 rfl⟩
  ·
   have c0:=(uh HA).ka.cell (i:=0) (v:= .int .i64 q0) rfl
   have f0:=(uh HA).ka.free 0
   go_wp2_with fail
   go_meet
   exact ⟨_,_,_,_,(uh HA).set 0 13 rfl⟩
  ·
   have c0:=(uh HA).ka.cell (i:=0) (v:= .int .i64 q0) rfl
   have f0:=(uh HA).ka.free 0
   go_upto_region 42 with fail
   clear c0 f0
   replace HA:=Z9 ((uh HA).set 0 14 rfl)
   obtain ⟨Wq,hWq⟩:∃ x,x=w18.setCell ⟨tb,0,none⟩ (.int .i64 14):=⟨_,rfl⟩
   rw [<-hWq] at HA ⊢
   clear hWq
   have m1:=(uh HA).kb.cell (i:=1) (v:= .slice a1 n1 p1) rfl
   go_wp2_with fail
   clear m1
   refine (Draw.from_any a len cap bc (-1) ((n1:Int)-1) (by omega) (by omega) (by omega) _ (uh HA).st).mono ?_
   rintro e w29 ⟨v1,rfl,v10,v11,s9,p9⟩
   replace HA:=Z9 ((uh HA).step s9 p9)
   clear s9 p9
   have c2:=(uh HA).ka.cell (i:=2) (v:= .int .i64 q2) rfl
   have f2:=(uh HA).ka.free 2
   go_wp2_with fail
   go_meet
   exact ⟨_,_,_,_,(uh HA).set 2 v1 rfl⟩
  ·
   have k0:(yy ==0)=false:=by simp;omega
   have j0:decide (yy=0)=false:=by simp;omega
   have k1:(yy ==1)=false:=by simp;omega
   have j1:decide (yy=1)=false:=by simp;omega
   have k2:(yy ==2)=false:=by simp;omega
   have j2:decide (yy=2)=false:=by simp;omega
   have k3:(yy ==3)=false:=by simp;omega
   have j3:decide (yy=3)=false:=by simp;omega
   have k4:(yy ==4)=false:=by simp;omega
   have j4:decide (yy=4)=false:=by simp;omega
   have k5:(yy ==5)=false:=by simp;omega
   have j5:decide (yy=5)=false:=by simp;omega
   have k6:(yy ==6)=false:=by simp;omega
   have j6:decide (yy=6)=false:=by simp;omega
   have k7:(yy ==7)=false:=by simp;omega
   have j7:decide (yy=7)=false:=by simp;omega
   have k8:(yy ==8)=false:=by simp;omega
   have j8:decide (yy=8)=false:=by simp;omega
   have k9:(yy ==9)=false:=by simp;omega
   have j9:decide (yy=9)=false:=by simp;omega
   have k10:(yy ==10)=false:=by simp;omega
   have j10:decide (yy=10)=false:=by simp;omega
   have k11:(yy ==11)=false:=by simp;omega
   have j11:decide (yy=11)=false:=by simp;omega
   have k12:(yy ==12)=false:=by simp;omega
   have j12:decide (yy=12)=false:=by simp;omega
   have k13:(yy ==13)=false:=by simp;omega
   have j13:decide (yy=13)=false:=by simp;omega
   go_wp2_with fail
   go_meet
   exact ⟨_,_,_,_,(uh HA)⟩
 case rest=>
 obtain ⟨q0,q1,q2,q3,hH⟩:=hcut
 have HA:=Z9 hH
 clear hH H
 obtain ⟨w8,rfl⟩:∃ x,x=wc:=⟨wc,rfl⟩
 go_wp2_with fail
 refine (Draw.once_any a len cap bc 40 (by omega) (by omega) _ (uh HA).st).mono ?_
 rintro e w30 ⟨bq,rfl,s9,p9⟩
 replace HA:=Z9 ((uh HA).step s9 p9)
 clear s9 p9
 cases bq
 ·
  have z0:=(uh HA).ka.cell (i:=0) (v:= .int .i64 q0) rfl
  have z1:=(uh HA).ka.cell (i:=1) (v:= .int .i64 q1) rfl
  have z2:=(uh HA).ka.cell (i:=2) (v:= .int .i64 q2) rfl
  have z3:=(uh HA).ka.cell (i:=3) (v:= .int .i64 q3) rfl
  have o0:=(uh HA).kr.cell (i:=0) (v:= .int .i64 0) rfl
  have g0:=(uh HA).kr.free 0
  have o1:=(uh HA).kr.cell (i:=1) (v:= .int .i64 0) rfl
  have g1:=(uh HA).kr.free 1
  have o2:=(uh HA).kr.cell (i:=2) (v:= .int .i64 0) rfl
  have g2:=(uh HA).kr.free 2
  have o3:=(uh HA).kr.cell (i:=3) (v:= .int .i64 0) rfl
  have g3:=(uh HA).kr.free 3
  have hlo:=(uh HA).lo
  go_wp2_with fail
  refine bodyPost_ret (v:= .agg #[.int .i64 q0,.int .i64 q1,.int .i64 q2,.int .i64 q3]) (by simp [results,Tryz.results146,go_sem, *]) rfl ⟨q0,q1,q2,q3,rfl,?_,?_⟩
  ·iterate 4 (refine St.newer ?_ (by omega) _ _)
   exact (uh HA).st
  ·iterate 4 (refine Off.newer ?_ (by omega) _ _)
   exact (uh HA).off
 go_wp2_with fail
 refine (Draw.below_any a len cap bc 3 (by omega) (by omega) _ (uh HA).st).mono ?_
 rintro e w31 ⟨v4,rfl,v40,v41,s9,p9⟩
 replace HA:=Z9 ((uh HA).step s9 p9)
 clear s9 p9
 rcases (show v4=0\/v4=1\/v4=2 by omega) with rfl | rfl | rfl
 ·
  go_wp2_with fail
  have hlb:w31.heap.size ≠ bc:=by have:=(uh HA).off.size;omega
  replace HA:=Z9 ((uh HA).below ((Below.refl _ _).alloc (Nat.le_refl _) (.cells #[.int .i64 0,.int .i64 15] 2)))
  have KL:Hid (Blk (w31.alloc (.cells #[.int .i64 0,.int .i64 15] 2)) w31.heap.size 2 #[.int .i64 0,.int .i64 15]):=Z9 (Blk.new _ _ _)
  generalize w31.alloc (.cells #[.int .i64 0,.int .i64 15] 2)=Wp at *
  generalize w31.heap.size=lb at *
  refine (Draw.below_any a len cap bc 2 (by omega) (by omega) _ (uh HA).st).mono ?_
  rintro e w32 ⟨v5,rfl,v50,v51,s9,p9⟩
  replace KL:=Z9 ((uh KL).away p9 hlb)
  replace HA:=Z9 ((uh HA).step s9 p9)
  clear s9 p9
  have l0:=(uh KL).cell (i:=0) (v:= .int .i64 0) rfl
  have l1:=(uh KL).cell (i:=1) (v:= .int .i64 15) rfl
  rcases (show v5=0\/v5=1 by omega) with rfl | rfl
  ·
   have c0:=(uh HA).ka.cell (i:=0) (v:= .int .i64 q0) rfl
   have f0:=(uh HA).ka.free 0
   go_upto_region 51 with fail
   clear c0 f0
   replace HA:=Z9 ((uh HA).set 0 0 rfl)
   obtain ⟨Wq,hWq⟩:∃ x,x=w32.setCell ⟨tb,0,none⟩ (.int .i64 0):=⟨_,rfl⟩
   rw [<-hWq] at HA ⊢
   clear hWq l0 l1
   have z0:=(uh HA).ka.cell (i:=0) (v:= .int .i64 0) rfl
   have z1:=(uh HA).ka.cell (i:=1) (v:= .int .i64 q1) rfl
   have z2:=(uh HA).ka.cell (i:=2) (v:= .int .i64 q2) rfl
   have z3:=(uh HA).ka.cell (i:=3) (v:= .int .i64 q3) rfl
   have o0:=(uh HA).kr.cell (i:=0) (v:= .int .i64 0) rfl
   have g0:=(uh HA).kr.free 0
   have o1:=(uh HA).kr.cell (i:=1) (v:= .int .i64 0) rfl
   have g1:=(uh HA).kr.free 1
   have o2:=(uh HA).kr.cell (i:=2) (v:= .int .i64 0) rfl
   have g2:=(uh HA).kr.free 2
   have o3:=(uh HA).kr.cell (i:=3) (v:= .int .i64 0) rfl
   have g3:=(uh HA).kr.free 3
   have hlo:=(uh HA).lo
   go_wp2_with fail
   refine bodyPost_ret (v:= .agg #[.int .i64 0,.int .i64 q1,.int .i64 q2,.int .i64 q3]) (by simp [results,Tryz.results146,go_sem, *]) rfl ⟨0,q1,q2,q3,rfl,?_,?_⟩
   ·iterate 4 (refine St.newer ?_ (by omega) _ _)
    exact (uh HA).st
   ·iterate 4 (refine Off.newer ?_ (by omega) _ _)
    exact (uh HA).off
  ·
   have c0:=(uh HA).ka.cell (i:=0) (v:= .int .i64 q0) rfl
   have f0:=(uh HA).ka.free 0
   go_upto_region 51 with fail
   clear c0 f0
   replace HA:=Z9 ((uh HA).set 0 15 rfl)
   obtain ⟨Wq,hWq⟩:∃ x,x=w32.setCell ⟨tb,0,none⟩ (.int .i64 15):=⟨_,rfl⟩
   rw [<-hWq] at HA ⊢
   clear hWq l0 l1
   have z0:=(uh HA).ka.cell (i:=0) (v:= .int .i64 15) rfl
   have z1:=(uh HA).ka.cell (i:=1) (v:= .int .i64 q1) rfl
   have z2:=(uh HA).ka.cell (i:=2) (v:= .int .i64 q2) rfl
   have z3:=(uh HA).ka.cell (i:=3) (v:= .int .i64 q3) rfl
   have o0:=(uh HA).kr.cell (i:=0) (v:= .int .i64 0) rfl
   have g0:=(uh HA).kr.free 0
   have o1:=(uh HA).kr.cell (i:=1) (v:= .int .i64 0) rfl
   have g1:=(uh HA).kr.free 1
   have o2:=(uh HA).kr.cell (i:=2) (v:= .int .i64 0) rfl
   have g2:=(uh HA).kr.free 2
   have o3:=(uh HA).kr.cell (i:=3) (v:= .int .i64 0) rfl
   have g3:=(uh HA).kr.free 3
   have hlo:=(uh HA).lo
   go_wp2_with fail
   refine bodyPost_ret (v:= .agg #[.int .i64 15,.int .i64 q1,.int .i64 q2,.int .i64 q3]) (by simp [results,Tryz.results146,go_sem, *]) rfl ⟨15,q1,q2,q3,rfl,?_,?_⟩
   ·iterate 4 (refine St.newer ?_ (by omega) _ _)
    exact (uh HA).st
   ·iterate 4 (refine Off.newer ?_ (by omega) _ _)
    exact (uh HA).off
 ·
  go_wp2_with fail
  have hlb:w31.heap.size ≠ bc:=by have:=(uh HA).off.size;omega
  replace HA:=Z9 ((uh HA).below ((Below.refl _ _).alloc (Nat.le_refl _) (.cells #[.int .i64 (-1),.int .i64 (n2:Int)] 2)))
  have KL:Hid (Blk (w31.alloc (.cells #[.int .i64 (-1),.int .i64 (n2:Int)] 2)) w31.heap.size 2 #[.int .i64 (-1),.int .i64 (n2:Int)]):=Z9 (Blk.new _ _ _)
  generalize w31.alloc (.cells #[.int .i64 (-1),.int .i64 (n2:Int)] 2)=Wp at *
  generalize w31.heap.size=lb at *
  refine (Draw.below_any a len cap bc 2 (by omega) (by omega) _ (uh HA).st).mono ?_
  rintro e w33 ⟨v5,rfl,v50,v51,s9,p9⟩
  replace KL:=Z9 ((uh KL).away p9 hlb)
  replace HA:=Z9 ((uh HA).step s9 p9)
  clear s9 p9
  have l0:=(uh KL).cell (i:=0) (v:= .int .i64 (-1)) rfl
  have l1:=(uh KL).cell (i:=1) (v:= .int .i64 (n2:Int)) rfl
  rcases (show v5=0\/v5=1 by omega) with rfl | rfl
  ·
   have c1:=(uh HA).ka.cell (i:=1) (v:= .int .i64 q1) rfl
   have f1:=(uh HA).ka.free 1
   go_upto_region 51 with fail
   clear c1 f1
   replace HA:=Z9 ((uh HA).set 1 (-1) rfl)
   obtain ⟨Wq,hWq⟩:∃ x,x=w33.setCell ⟨tb,1,none⟩ (.int .i64 (-1)):=⟨_,rfl⟩
   rw [<-hWq] at HA ⊢
   clear hWq l0 l1
   have z0:=(uh HA).ka.cell (i:=0) (v:= .int .i64 q0) rfl
   have z1:=(uh HA).ka.cell (i:=1) (v:= .int .i64 (-1)) rfl
   have z2:=(uh HA).ka.cell (i:=2) (v:= .int .i64 q2) rfl
   have z3:=(uh HA).ka.cell (i:=3) (v:= .int .i64 q3) rfl
   have o0:=(uh HA).kr.cell (i:=0) (v:= .int .i64 0) rfl
   have g0:=(uh HA).kr.free 0
   have o1:=(uh HA).kr.cell (i:=1) (v:= .int .i64 0) rfl
   have g1:=(uh HA).kr.free 1
   have o2:=(uh HA).kr.cell (i:=2) (v:= .int .i64 0) rfl
   have g2:=(uh HA).kr.free 2
   have o3:=(uh HA).kr.cell (i:=3) (v:= .int .i64 0) rfl
   have g3:=(uh HA).kr.free 3
   have hlo:=(uh HA).lo
   go_wp2_with fail
   refine bodyPost_ret (v:= .agg #[.int .i64 q0,.int .i64 (-1),.int .i64 q2,.int .i64 q3]) (by simp [results,Tryz.results146,go_sem, *]) rfl ⟨q0,(-1),q2,q3,rfl,?_,?_⟩
   ·iterate 4 (refine St.newer ?_ (by omega) _ _)
    exact (uh HA).st
   ·iterate 4 (refine Off.newer ?_ (by omega) _ _)
    exact (uh HA).off
  ·
   have c1:=(uh HA).ka.cell (i:=1) (v:= .int .i64 q1) rfl
   have f1:=(uh HA).ka.free 1
   go_upto_region 51 with fail
   clear c1 f1
   replace HA:=Z9 ((uh HA).set 1 (n2:Int) rfl)
   obtain ⟨Wq,hWq⟩:∃ x,x=w33.setCell ⟨tb,1,none⟩ (.int .i64 (n2:Int)):=⟨_,rfl⟩
   rw [<-hWq] at HA ⊢
   clear hWq l0 l1
   have z0:=(uh HA).ka.cell (i:=0) (v:= .int .i64 q0) rfl
   have z1:=(uh HA).ka.cell (i:=1) (v:= .int .i64 (n2:Int)) rfl
   have z2:=(uh HA).ka.cell (i:=2) (v:= .int .i64 q2) rfl
   have z3:=(uh HA).ka.cell (i:=3) (v:= .int .i64 q3) rfl
   have o0:=(uh HA).kr.cell (i:=0) (v:= .int .i64 0) rfl
   have g0:=(uh HA).kr.free 0
   have o1:=(uh HA).kr.cell (i:=1) (v:= .int .i64 0) rfl
   have g1:=(uh HA).kr.free 1
   have o2:=(uh HA).kr.cell (i:=2) (v:= .int .i64 0) rfl
   have g2:=(uh HA).kr.free 2
   have o3:=(uh HA).kr.cell (i:=3) (v:= .int .i64 0) rfl
   have g3:=(uh HA).kr.free 3
   have hlo:=(uh HA).lo
   go_wp2_with fail
   refine bodyPost_ret (v:= .agg #[.int .i64 q0,.int .i64 (n2:Int),.int .i64 q2,.int .i64 q3]) (by simp [results,Tryz.results146,go_sem, *]) rfl ⟨q0,(n2:Int),q2,q3,rfl,?_,?_⟩
   ·iterate 4 (refine St.newer ?_ (by omega) _ _)
    exact (uh HA).st
   ·iterate 4 (refine Off.newer ?_ (by omega) _ _)
    exact (uh HA).off
 ·
  go_wp2_with fail
  have hlb:w31.heap.size ≠ bc:=by have:=(uh HA).off.size;omega
  replace HA:=Z9 ((uh HA).below ((Below.refl _ _).alloc (Nat.le_refl _) (.cells #[.int .i64 (-1),.int .i64 99] 2)))
  have KL:Hid (Blk (w31.alloc (.cells #[.int .i64 (-1),.int .i64 99] 2)) w31.heap.size 2 #[.int .i64 (-1),.int .i64 99]):=Z9 (Blk.new _ _ _)
  generalize w31.alloc (.cells #[.int .i64 (-1),.int .i64 99] 2)=Wp at *
  generalize w31.heap.size=lb at *
  refine (Draw.below_any a len cap bc 2 (by omega) (by omega) _ (uh HA).st).mono ?_
  rintro e w34 ⟨v5,rfl,v50,v51,s9,p9⟩
  replace KL:=Z9 ((uh KL).away p9 hlb)
  replace HA:=Z9 ((uh HA).step s9 p9)
  clear s9 p9
  have l0:=(uh KL).cell (i:=0) (v:= .int .i64 (-1)) rfl
  have l1:=(uh KL).cell (i:=1) (v:= .int .i64 99) rfl
  rcases (show v5=0\/v5=1 by omega) with rfl | rfl
  ·
   have c2:=(uh HA).ka.cell (i:=2) (v:= .int .i64 q2) rfl
   have f2:=(uh HA).ka.free 2
   go_upto_region 51 with fail
   clear c2 f2
   replace HA:=Z9 ((uh HA).set 2 (-1) rfl)
   obtain ⟨Wq,hWq⟩:∃ x,x=w34.setCell ⟨tb,2,none⟩ (.int .i64 (-1)):=⟨_,rfl⟩
   rw [<-hWq] at HA ⊢
   clear hWq l0 l1
   have z0:=(uh HA).ka.cell (i:=0) (v:= .int .i64 q0) rfl
   have z1:=(uh HA).ka.cell (i:=1) (v:= .int .i64 q1) rfl
   have z2:=(uh HA).ka.cell (i:=2) (v:= .int .i64 (-1)) rfl
   have z3:=(uh HA).ka.cell (i:=3) (v:= .int .i64 q3) rfl
   have o0:=(uh HA).kr.cell (i:=0) (v:= .int .i64 0) rfl
   have g0:=(uh HA).kr.free 0
   have o1:=(uh HA).kr.cell (i:=1) (v:= .int .i64 0) rfl
   have g1:=(uh HA).kr.free 1
   have o2:=(uh HA).kr.cell (i:=2) (v:= .int .i64 0) rfl
   have g2:=(uh HA).kr.free 2
   have o3:=(uh HA).kr.cell (i:=3) (v:= .int .i64 0) rfl
   have g3:=(uh HA).kr.free 3
   have hlo:=(uh HA).lo
   go_wp2_with fail
   refine bodyPost_ret (v:= .agg #[.int .i64 q0,.int .i64 q1,.int .i64 (-1),.int .i64 q3]) (by simp [results,Tryz.results146,go_sem, *]) rfl ⟨q0,q1,(-1),q3,rfl,?_,?_⟩
   ·iterate 4 (refine St.newer ?_ (by omega) _ _)
    exact (uh HA).st
   ·iterate 4 (refine Off.newer ?_ (by omega) _ _)
    exact (uh HA).off
  ·
   have c2:=(uh HA).ka.cell (i:=2) (v:= .int .i64 q2) rfl
   have f2:=(uh HA).ka.free 2
   go_upto_region 51 with fail
   clear c2 f2
   replace HA:=Z9 ((uh HA).set 2 99 rfl)
   obtain ⟨Wq,hWq⟩:∃ x,x=w34.setCell ⟨tb,2,none⟩ (.int .i64 99):=⟨_,rfl⟩
   rw [<-hWq] at HA ⊢
   clear hWq l0 l1
   have z0:=(uh HA).ka.cell (i:=0) (v:= .int .i64 q0) rfl
   have z1:=(uh HA).ka.cell (i:=1) (v:= .int .i64 q1) rfl
   have z2:=(uh HA).ka.cell (i:=2) (v:= .int .i64 99) rfl
   have z3:=(uh HA).ka.cell (i:=3) (v:= .int .i64 q3) rfl
   have o0:=(uh HA).kr.cell (i:=0) (v:= .int .i64 0) rfl
   have g0:=(uh HA).kr.free 0
   have o1:=(uh HA).kr.cell (i:=1) (v:= .int .i64 0) rfl
   have g1:=(uh HA).kr.free 1
   have o2:=(uh HA).kr.cell (i:=2) (v:= .int .i64 0) rfl
   have g2:=(uh HA).kr.free 2
   have o3:=(uh HA).kr.cell (i:=3) (v:= .int .i64 0) rfl
   have g3:=(uh HA).kr.free 3
   have hlo:=(uh HA).lo
   go_wp2_with fail
   refine bodyPost_ret (v:= .agg #[.int .i64 q0,.int .i64 q1,.int .i64 99,.int .i64 q3]) (by simp [results,Tryz.results146,go_sem, *]) rfl ⟨q0,q1,99,q3,rfl,?_,?_⟩
   ·iterate 4 (refine St.newer ?_ (by omega) _ _)
    exact (uh HA).st
   ·iterate 4 (refine Off.newer ?_ (by omega) _ _)
    exact (uh HA).off
end Go.Proofs.YthbbahagpmdooaaGreat
namespace Go.Proofs.YthbbahagpmdooaaGreat
open Go.ChangeShapes Go.WideShapes Go.ChangeAt Go.RowKit
set_option linter.unusedVariables false
theorem Vi (u x n:Int) (w:World):Calls Tryz.prog 213 #[.int .i64 u,.int .i64 x,.int .i64 n] w fun e w'=>e= .returned (.int .i64 (ZM u x n))/\w'=w:=by
 refine EL u x n 0 1024 0 1024 0 1000 ?_ ?_ ?_ ?_
 ·intro ha
  have hv:ZM u x n= -1:=by simp [ZM,ha]
  rw [hv];clear hv
  go_enter Tryz.func213,Tryz.ntmps213
  go_wp2_with (first | (go_at_call 91;refine (Vc _ _).mono ?_;rintro e w' ⟨rfl,rfl⟩) | (go_at_call 77;refine (Z1 _ _ _ _).mono ?_;rintro e w' ⟨rfl,rfl⟩))
  go_ret
  exact ⟨rfl,rfl⟩
 ·intro ha hb
  have hv:ZM u x n= -1:=by simp [ZM,hb]
  rw [hv];clear hv
  go_enter Tryz.func213,Tryz.ntmps213
  go_wp2_with (first | (go_at_call 91;refine (Vc _ _).mono ?_;rintro e w' ⟨rfl,rfl⟩) | (go_at_call 77;refine (Z1 _ _ _ _).mono ?_;rintro e w' ⟨rfl,rfl⟩))
  go_ret
  exact ⟨rfl,rfl⟩
 ·intro ha hb hc
  have hv:ZM u x n= -1:=by simp [ZM,hc]
  rw [hv];clear hv
  go_enter Tryz.func213,Tryz.ntmps213
  go_wp2_with (first | (go_at_call 91;refine (Vc _ _).mono ?_;rintro e w' ⟨rfl,rfl⟩) | (go_at_call 77;refine (Z1 _ _ _ _).mono ?_;rintro e w' ⟨rfl,rfl⟩))
  go_ret
  exact ⟨rfl,rfl⟩
 ·intro ha hb hc
  have hv:ZM u x n=R1 x n.toNat u:=by simp [ZM,ha,hb,hc]
  rw [hv];clear hv
  obtain ⟨a0,a1⟩:=ZU ha
  obtain ⟨b0,b1⟩:=ZU hb
  obtain ⟨c0,c1⟩:=ZU hc
  obtain ⟨m,rfl⟩:=Int.eq_ofNat_of_zero_le c0
  rw [Int.toNat_natCast]
  go_enter Tryz.func213,Tryz.ntmps213
  go_wp2_with (first | (go_at_call 91;refine (Vc _ _).mono ?_;rintro e w' ⟨rfl,rfl⟩) | (go_at_call 77;refine (Z1 _ _ _ _).mono ?_;rintro e w' ⟨rfl,rfl⟩))
  go_loop [0,2] (fun s i=> ∃ k:Nat,k<=m/\i= .int .i64 ((m:Int)-k)/\s= .int .i64 (R1 x k u)) (fun _ i=>(intOf i).toNat)
  case atStart=>exact ⟨0,Nat.zero_le _,by simp,rfl⟩
  case round=>
   obtain ⟨k,hk,rfl,rfl⟩:=hrel
   obtain ⟨f1,f2⟩:=Lr x b0 b1 k u a0 a1
   have Hs:=Z9 (Ph x k u)
   generalize hz:R1 x k u=z at *
   have Hz:=Z9 hz
   clear hz
   by_cases hlt:k<m
   ·go_wp2_with fail
    go_round
    case rel=>exact ⟨k+1,by omega,by go_num,by rw [uh Hs]⟩
    case measure=>simp [intOf];omega
   ·go_wp2_with fail
    go_ret
    exact ⟨Zx (by rw [<-uh Hz,show k=m from by omega]),rfl⟩
end Go.Proofs.YthbbahagpmdooaaGreat
