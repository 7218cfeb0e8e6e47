/- Part 31 of what the proof rests on. No condition but those that a theorem names. -/
import Derived.Test.YtffcgajndmhpkaaGreatDoorXw30
import Derived.Deep.CutBlock
namespace Go.Proofs.YtffcgajndmhpkaaGreatDoor
open Go.ChangeShapes Go.WideShapes Go.ChangeAt Go.RowKit Go.Sort
open Draw (St Off Row Cur)
set_option linter.unusedVariables false
set_option linter.unusedSimpArgs false
set_option maxRecDepth 100000
structure Abox (a:Option Addr) (len cap bc:Nat) (w0 w:World) (tb:Nat) (mc:Array Value) (x0 x1 x2 x3:Int):Prop where
 st:St a len cap bc w
 off:Off bc w0 w
 kb:Blk w w0.heap.size 32 mc
 kr:Blk w (w0.heap.size+1) 219 #[.int .i64 0,.int .i64 0,.int .i64 0,.int .i64 0]
 ka:Blk w tb 219 #[.int .i64 x0,.int .i64 x1,.int .i64 x2,.int .i64 x3]
 lo:w0.heap.size+2<=tb
 bl:bc<w0.heap.size
section
variable {a : Option Addr} {len cap bc : Nat} {w0 w w' : World} {tb : Nat} {mc : Array Value} {x0 x1 x2 x3 : Int}
theorem Abox.step (h:Abox a len cap bc w0 w tb mc x0 x1 x2 x3) (hs:St a len cap bc w') (ho:Off bc w w'):Abox a len cap bc w0 w' tb mc x0 x1 x2 x3:=
 have hl:=h.lo
 have hb:=h.bl
 ⟨hs,h.off.trans ho,h.kb.same (ho.block _ h.kb.lt (by omega)),h.kr.same (ho.block _ h.kr.lt (by omega)),h.ka.same (ho.block _ h.ka.lt (by omega)),h.lo,h.bl⟩
theorem Abox.below (h:Abox a len cap bc w0 w tb mc x0 x1 x2 x3) (hb:Below w.heap.size w w'):Abox a len cap bc w0 w' tb mc x0 x1 x2 x3:=
 h.step (Yd h.st (hb.mono (Xc h.st))) ⟨hb.os,hb.tape,hb.output,hb.size,fun k hk _=>hb.block k hk⟩
theorem Abox.set (h:Abox a len cap bc w0 w tb mc x0 x1 x2 x3) (i:Nat) (v:Int) {y0 y1 y2 y3:Int} (hv:(#[.int .i64 x0,.int .i64 x1,.int .i64 x2,.int .i64 x3]:Array Value).setIfInBounds i (.int .i64 v)=#[.int .i64 y0,.int .i64 y1,.int .i64 y2,.int .i64 y3]):Abox a len cap bc w0 (w.setCell ⟨tb,i,none⟩ (.int .i64 v)) tb mc y0 y1 y2 y3:=by
 have hl:=h.lo
 have hb:=h.bl
 have hz:=h.off.size
 refine ⟨Yd h.st ((Below.refl _ _).setCell (p:=⟨tb,i,none⟩) (by show bc+1<=tb;omega) _),?_,h.kb.other (by show w0.heap.size ≠ tb;omega) _,h.kr.other (by show w0.heap.size+1 ≠ tb;omega) _,?_,h.lo,h.bl⟩
 ·refine ⟨h.off.os,h.off.tape,h.off.output,by simpa using h.off.size,fun k hk hn=> ?_⟩
  rw [heap_setCell_other _ _ _ _ (by show k ≠ tb;omega)]
  exact h.off.block k hk hn
 ·rw [<-hv];exact h.ka.set i _
theorem Abox.bel (h:Abox a len cap bc w0 w tb mc x0 x1 x2 x3) (n:Int) (h1:0<n:=by omega) (h2:n<=4611686018427387904:=by omega):Calls Tryz.prog 32 #[.pointer (some ⟨bc,0,none⟩),.int .i64 n] w fun e w'=> ∃ x:Int,e= .returned (.int .i64 x)/\0<=x/\x<n/\Hid (Abox a len cap bc w0 w' tb mc x0 x1 x2 x3):=by
 refine (Draw.below_any a len cap bc n h1 h2 _ h.st).mono ?_
 rintro e w1 ⟨y,rfl,y0,y1,s9,p9⟩
 exact ⟨y,rfl,y0,y1,Z9 (h.step s9 p9)⟩
theorem Abox.frm (h:Abox a len cap bc w0 w tb mc x0 x1 x2 x3) (lo hi:Int) (h0:lo<=hi:=by omega) (h1 : -1000000000000<=lo:=by omega) (h2:hi<=1000000000000:=by omega):Calls Tryz.prog 55 #[.pointer (some ⟨bc,0,none⟩),.int .i64 lo,.int .i64 hi] w fun e w'=> ∃ x:Int,e= .returned (.int .i64 x)/\lo<=x/\x<=hi/\Hid (Abox a len cap bc w0 w' tb mc x0 x1 x2 x3):=by
 refine (Draw.from_any a len cap bc lo hi h0 h1 h2 _ h.st).mono ?_
 rintro e w1 ⟨y,rfl,y0,y1,s9,p9⟩
 exact ⟨y,rfl,y0,y1,Z9 (h.step s9 p9)⟩
theorem Abox.once (h:Abox a len cap bc w0 w tb mc x0 x1 x2 x3) (n:Int) (h1:0<n:=by omega) (h2:n<=4611686018427387904:=by omega):Calls Tryz.prog 33 #[.pointer (some ⟨bc,0,none⟩),.int .i64 n] w fun e w'=> ∃ b:Bool,e= .returned (.bool b)/\Hid (Abox a len cap bc w0 w' tb mc x0 x1 x2 x3):=by
 refine (Draw.once_any a len cap bc n h1 h2 _ h.st).mono ?_
 rintro e w1 ⟨y,rfl,s9,p9⟩
 exact ⟨y,rfl,Z9 (h.step s9 p9)⟩
theorem Abox.z (h:Abox a len cap bc w0 w tb mc x0 x1 x2 x3):(w.cell? ⟨tb,0,none⟩=some (.int .i64 x0)/\w.frozen? ⟨tb,0,none⟩=false)/\(w.cell? ⟨tb,1,none⟩=some (.int .i64 x1)/\w.frozen? ⟨tb,1,none⟩=false)/\(w.cell? ⟨tb,2,none⟩=some (.int .i64 x2)/\w.frozen? ⟨tb,2,none⟩=false)/\(w.cell? ⟨tb,3,none⟩=some (.int .i64 x3)/\w.frozen? ⟨tb,3,none⟩=false):=⟨⟨h.ka.cell rfl,h.ka.free 0⟩,⟨h.ka.cell rfl,h.ka.free 1⟩,⟨h.ka.cell rfl,h.ka.free 2⟩,h.ka.cell rfl,h.ka.free 3⟩
theorem Abox.outs (h:Abox a len cap bc w0 w tb mc x0 x1 x2 x3):(w.cell? ⟨w0.heap.size+1,0,none⟩=some (.int .i64 0)/\w.frozen? ⟨w0.heap.size+1,0,none⟩=false)/\(w.cell? ⟨w0.heap.size+1,1,none⟩=some (.int .i64 0)/\w.frozen? ⟨w0.heap.size+1,1,none⟩=false)/\(w.cell? ⟨w0.heap.size+1,2,none⟩=some (.int .i64 0)/\w.frozen? ⟨w0.heap.size+1,2,none⟩=false)/\(w.cell? ⟨w0.heap.size+1,3,none⟩=some (.int .i64 0)/\w.frozen? ⟨w0.heap.size+1,3,none⟩=false):=⟨⟨h.kr.cell rfl,h.kr.free 0⟩,⟨h.kr.cell rfl,h.kr.free 1⟩,⟨h.kr.cell rfl,h.kr.free 2⟩,h.kr.cell rfl,h.kr.free 3⟩
theorem Abox.pck (h:Abox a len cap bc w0 w tb mc x0 x1 x2 x3) {cs:Array Value} {n:Int} (hn:(cs.size:Int)=n) (hz:cs.toList.all Draw.isI64=true) (h1:0<n:=by omega) (h2:n<=4611686018427387904:=by omega):Calls Tryz.prog 32 #[.pointer (some ⟨bc,0,none⟩),.int .i64 n] (w.alloc (.cells cs 2)) fun e w'=> ∃ j v:Int,e= .returned (.int .i64 j)/\0<=j/\j<n/\w'.cell? ⟨w.heap.size,j.toNat,none⟩=some (.int .i64 v)/\Hid (Abox a len cap bc w0 w' tb mc x0 x1 x2 x3):=by
 have hA:=h.below ((Below.refl _ _).alloc (Nat.le_refl _) (.cells cs 2))
 refine (Draw.below_any a len cap bc n h1 h2 _ hA.st).mono ?_
 rintro e w1 ⟨j,rfl,j0,j1,s9,p9⟩
 obtain ⟨v,hv⟩:=Mz p9 (Xc h.st) j0 (by omega) hz
 exact ⟨j,v,rfl,j0,j1,hv,Z9 (hA.step s9 p9)⟩
end
set_option maxHeartbeats 16000000 in
theorem Jm (a:Option Addr) (len cap bc:Nat) (a0 a1 a2 a3 a4:Option Addr) (n0 n1 n2 n3 n4 p0 p1 p2 p3 p4:Nat) (now:Int) (h1:n1<=6) (h2:n2<=12) (h3:1<=n3) (h3':n3<=8) (h4:1<=n4) (h4':n4<=3) (w:World) (hs:St a len cap bc w) :
  Calls Tryz.prog 198 #[.pointer (some ⟨bc,0,none⟩),.agg #[.slice a0 n0 p0,.slice a1 n1 p1,.slice a2 n2 p2,.slice a3 n3 p3,.slice a4 n4 p4,.int .i64 now]] w fun e w'=> ∃ k who A B:Int,e= .returned (.agg #[.int .i64 k,.int .i64 who,.int .i64 A,.int .i64 B])/\St a len cap bc w'/\Off bc w w':=by
 have Hs:=Z9 hs
 have hbc:=Xc hs
 clear hs
 go_enter Tryz.func198,Tryz.ntmps198
 go_upto_region 1 with fail
 have kb:Hid (Blk ((w.alloc (.cells #[.slice a0 n0 p0,.slice a1 n1 p1,.slice a2 n2 p2,.slice a3 n3 p3,.slice a4 n4 p4,.int .i64 now] 32)).alloc (.cells #[.int .i64 0,.int .i64 0,.int .i64 0,.int .i64 0] 219)) w.heap.size 32 #[.slice a0 n0 p0,.slice a1 n1 p1,.slice a2 n2 p2,.slice a3 n3 p3,.slice a4 n4 p4,.int .i64 now]):=Z9 ((Blk.new w _ _).alloc _)
 have kr:Hid (Blk ((w.alloc (.cells #[.slice a0 n0 p0,.slice a1 n1 p1,.slice a2 n2 p2,.slice a3 n3 p3,.slice a4 n4 p4,.int .i64 now] 32)).alloc (.cells #[.int .i64 0,.int .i64 0,.int .i64 0,.int .i64 0] 219)) (w.heap.size+1) 219 #[.int .i64 0,.int .i64 0,.int .i64 0,.int .i64 0]):=Z9 (by
  have k:=Blk.new (w.alloc (.cells #[.slice a0 n0 p0,.slice a1 n1 p1,.slice a2 n2 p2,.slice a3 n3 p3,.slice a4 n4 p4,.int .i64 now] 32)) 219 #[.int .i64 0,.int .i64 0,.int .i64 0,.int .i64 0]
  rw [World.size_alloc] at k
  exact k)
 have HO:Hid (Off bc w ((w.alloc (.cells #[.slice a0 n0 p0,.slice a1 n1 p1,.slice a2 n2 p2,.slice a3 n3 p3,.slice a4 n4 p4,.int .i64 now] 32)).alloc (.cells #[.int .i64 0,.int .i64 0,.int .i64 0,.int .i64 0] 219))):=Z9 (((Off.refl _ _).alloc _).alloc _)
 replace Hs:Hid (St a len cap bc ((w.alloc (.cells #[.slice a0 n0 p0,.slice a1 n1 p1,.slice a2 n2 p2,.slice a3 n3 p3,.slice a4 n4 p4,.int .i64 now] 32)).alloc (.cells #[.int .i64 0,.int .i64 0,.int .i64 0,.int .i64 0] 219))):=Z9 (((uh Hs).alloc _).alloc _)
 generalize (w.alloc (.cells #[.slice a0 n0 p0,.slice a1 n1 p1,.slice a2 n2 p2,.slice a3 n3 p3,.slice a4 n4 p4,.int .i64 now] 32)).alloc (.cells #[.int .i64 0,.int .i64 0,.int .i64 0,.int .i64 0] 219)=W at *
 have c2:=(uh kb).cell (i:=2) (v:= .slice a2 n2 p2) rfl
 have c3:=(uh kb).cell (i:=3) (v:= .slice a3 n3 p3) rfl
 go_wp2_with fail
 clear c2 c3
 refine (Draw.below_any a len cap bc 20 (by omega) (by omega) _ (uh Hs)).mono ?_
 rintro e w1 ⟨y,rfl,y0,y1,s9,p9⟩
 replace kb:=Z9 ((uh kb).same (p9.block _ (uh kb).lt (by omega)))
 replace kr:=Z9 ((uh kr).same (p9.block _ (uh kr).lt (by omega)))
 replace HO:=Z9 ((uh HO).trans p9)
 replace Hs:=Z9 s9
 clear s9 p9
 go_upto_region 4 with fail
 have H0:Hid (Abox a len cap bc w (w1.alloc (.cells #[.int .i64 10,.int .i64 0,.int .i64 (1+y),.int .i64 0] 219)) w1.heap.size #[.slice a0 n0 p0,.slice a1 n1 p1,.slice a2 n2 p2,.slice a3 n3 p3,.slice a4 n4 p4,.int .i64 now] 10 0 (1+y) 0):=Z9 ⟨(uh Hs).alloc _,(uh HO).alloc _,(uh kb).alloc _,(uh kr).alloc _,Blk.new _ _ _,by have:=(uh kr).lt;omega,hbc⟩
 clear kb kr HO Hs
 generalize w1.alloc (.cells #[.int .i64 10,.int .i64 0,.int .i64 (1+y),.int .i64 0] 219)=W1 at *
 generalize w1.heap.size=tb at *
 have H:Hid (∃ q0 q1 q2 q3:Int,Abox a len cap bc w W1 tb #[.slice a0 n0 p0,.slice a1 n1 p1,.slice a2 n2 p2,.slice a3 n3 p3,.slice a4 n4 p4,.int .i64 now] q0 q1 q2 q3):=Z9 ⟨10,0,1+y,0,uh H0⟩
 clear H0 y0 y1
 go_cut [31] (fun s wc=> ∃ bq:Bool,s= .bool bq/\ ∃ q0 q1 q2 q3:Int,Abox a len cap bc w wc tb #[.slice a0 n0 p0,.slice a1 n1 p1,.slice a2 n2 p2,.slice a3 n3 p3,.slice a4 n4 p4,.int .i64 now] q0 q1 q2 q3)
 case first=>
  obtain ⟨q0,q1,q2,q3,hH⟩:=uh H
  have HA:=Z9 hH
  clear hH H
  by_cases hc3:(n2:Int)<3
  ·
   go_wp2_with fail
   refine ((uh HA).once 2).mono ?_
   rintro e w11 ⟨bq,rfl,HA⟩
   cases bq
   ·
    have hc9:(n2:Int)<9:=by omega
    go_wp2_with fail
    refine ((uh HA).once 8).mono ?_
    rintro e w12 ⟨b2,rfl,HA⟩
    go_wp2_with fail
    go_meet
    exact ⟨_,rfl,_,_,_,_,uh HA⟩
   ·
    go_wp2_with fail
    go_meet
    exact ⟨_,rfl,_,_,_,_,uh HA⟩
  ·
   by_cases hc9:(n2:Int)<9
   ·
    go_wp2_with fail
    refine ((uh HA).once 8).mono ?_
    rintro e w13 ⟨b2,rfl,HA⟩
    go_wp2_with fail
    go_meet
    exact ⟨_,rfl,_,_,_,_,uh HA⟩
   ·
    go_wp2_with fail
    go_meet
    exact ⟨_,rfl,_,_,_,_,uh HA⟩
 case rest=>
 obtain ⟨bq,rfl,hq⟩:=hcut
 replace H:=Z9 hq
 clear hq
 obtain ⟨w5,rfl⟩:∃ x,x=wc:=⟨wc,rfl⟩
 cases bq
 rotate_left
 ·
  obtain ⟨q0,q1,q2,q3,hH⟩:=uh H
  have HA:=Z9 hH
  clear hH H
  go_wp2_with fail
  refine ((uh HA).frm (-5) 5).mono ?_
  rintro e w14 ⟨v1,rfl,v10,v11,HA⟩
  go_wp2_with fail
  refine ((uh HA).bel 15).mono ?_
  rintro e w15 ⟨v2,rfl,v20,v21,HA⟩
  go_wp2_with fail
  refine ((uh HA).pck (n:=4) rfl rfl).mono ?_
  rintro e w16 ⟨v3,vv,rfl,v30,v31,hcell,HA⟩
  obtain ⟨⟨o0,g0⟩,⟨o1,g1⟩,⟨o2,g2⟩,⟨o3,g3⟩⟩:=(uh HA).outs
  go_wp2_with fail
  refine bodyPost_ret (v:= .agg #[.int .i64 1,.int .i64 0,.int .i64 v1,.int .i64 vv]) (by simp [results,Tryz.results198,go_sem, *]) rfl ⟨1,0,v1,vv,rfl,?_,?_⟩
  ·iterate 4 (refine St.newer ?_ (by omega) _ _)
   exact (uh HA).st
  ·iterate 4 (refine Off.newer ?_ (by omega) _ _)
   exact (uh HA).off
 go_upto_if 44 with fail
 go_cut [] (fun wc=> ∃ q0 q1 q2 q3:Int,Abox a len cap bc w wc tb #[.slice a0 n0 p0,.slice a1 n1 p1,.slice a2 n2 p2,.slice a3 n3 p3,.slice a4 n4 p4,.int .i64 now] q0 q1 q2 q3)
 case first=>
  obtain ⟨q0,q1,q2,q3,hH⟩:=uh H
  have HA:=Z9 hH
  clear hH H
  by_cases hn0:0<(n2:Int)
  ·
   go_wp2_with fail
   refine ((uh HA).bel (n2:Int)).mono ?_
   rintro e w17 ⟨v1,rfl,v10,v11,HA⟩
   obtain ⟨_,⟨c1,f1⟩,_⟩:=(uh HA).z
   go_wp2_with fail
   go_meet
   exact ⟨_,_,_,_,(uh HA).set 1 v1 rfl⟩
  ·
   go_wp2_with fail
   go_meet
   exact ⟨_,_,_,_,(uh HA)⟩
 case rest=>
 replace H:=Z9 hcut
 obtain ⟨w6,rfl⟩:∃ x,x=wc:=⟨wc,rfl⟩
 clear hcut
 obtain ⟨q0,q1,q2,q3,hH⟩:=uh H
 have HA:=Z9 hH
 clear hH H
 go_wp2_with fail
 refine ((uh HA).bel 20).mono ?_
 rintro e w18 ⟨yy,rfl,yy0,yy1,HA⟩
 have H:Hid (∃ q0 q1 q2 q3:Int,Abox a len cap bc w w18 tb #[.slice a0 n0 p0,.slice a1 n1 p1,.slice a2 n2 p2,.slice a3 n3 p3,.slice a4 n4 p4,.int .i64 now] q0 q1 q2 q3):=Z9 ⟨_,_,_,_,uh HA⟩
 clear HA
 go_upto_block 0 with fail
 go_cut [] (fun wc=> ∃ q0 q1 q2 q3:Int,Abox a len cap bc w wc tb #[.slice a0 n0 p0,.slice a1 n1 p1,.slice a2 n2 p2,.slice a3 n3 p3,.slice a4 n4 p4,.int .i64 now] q0 q1 q2 q3)
 case first=>
  obtain ⟨q0,q1,q2,q3,hH⟩:=uh H
  have HA:=Z9 hH
  clear hH H
  rcases (show yy=0\/yy=1\/yy=2\/yy=3\/yy=4\/yy=5\/yy=6\/yy=7\/yy=8\/yy=9\/yy=10\/yy=11\/yy=12\/yy=13\/14<=yy by omega) with rfl | rfl | rfl | rfl | rfl | rfl | rfl | rfl | rfl | rfl | rfl | rfl | rfl | rfl | hyy
  iterate 2
   ·
    obtain ⟨⟨c0,f0⟩,_⟩:=(uh HA).z
    go_wp2_with fail
    go_meet
    exact ⟨_,_,_,_,(uh HA).set 0 2 rfl⟩
  iterate 3
   ·
    obtain ⟨⟨c0,f0⟩,_⟩:=(uh HA).z
    go_wp2_with fail
    go_meet
    exact ⟨_,_,_,_,(uh HA).set 0 3 rfl⟩
  ·
   go_wp2_with fail
   refine ((uh HA).once 3).mono ?_
   rintro e w19 ⟨bq,rfl,HA⟩
   cases bq
   ·
    go_wp2_with fail
    go_meet
    exact ⟨_,_,_,_,(uh HA)⟩
   ·
    obtain ⟨⟨c0,f0⟩,_⟩:=(uh HA).z
    go_wp2_with fail
    go_meet
    exact ⟨_,_,_,_,(uh HA).set 0 4 rfl⟩
  ·
   obtain ⟨⟨c0,f0⟩,_⟩:=(uh HA).z
   go_wp2_with fail
   clear c0 f0
   refine (((uh HA).set 0 5 rfl).frm (-5) 5).mono ?_
   rintro e w20 ⟨v1,rfl,v10,v11,HA⟩
   obtain ⟨_,_,⟨c2,f2⟩,_⟩:=(uh HA).z
   go_wp2_with fail
   go_meet
   exact ⟨_,_,_,_,(uh HA).set 2 v1 rfl⟩
  ·
   obtain ⟨⟨c0,f0⟩,_⟩:=(uh HA).z
   go_wp2_with fail
   clear c0 f0
   have hd:(2:Int) ^ ((n3:Int)).toNat=((2 ^ n3:Nat):Int):=by rw [Int.toNat_natCast];push_cast;rfl
   have hp1:2 ^ 1<=2 ^ n3:=Nat.pow_le_pow_right (by omega) h3
   have hp8:2 ^ n3<=2 ^ 8:=Nat.pow_le_pow_right (by omega) h3'
   obtain ⟨pw,hpw⟩:∃ q,q=2 ^ n3:=⟨_,rfl⟩
   rw [<-hpw] at hd hp1 hp8
   have Hd:=Z9 hd
   clear hd hpw
   replace HA:=Z9 ((uh HA).set 0 6 rfl)
   refine (S0 (n3:Int) (by omega) (by omega) _).mono ?_
   rw [uh Hd]
   rintro e wz ⟨rfl,hwz⟩
   subst wz
   go_wp2_with fail
   refine ((uh HA).bel ((pw:Int)-1)).mono ?_
   rintro e w21 ⟨v1,rfl,v10,v11,HA⟩
   obtain ⟨_,_,⟨c2,f2⟩,_⟩:=(uh HA).z
   go_wp2_with fail
   go_meet
   exact ⟨_,_,_,_,(uh HA).set 2 (1+v1) rfl⟩
  ·
   obtain ⟨⟨c0,f0⟩,_⟩:=(uh HA).z
   go_wp2_with fail
   clear c0 f0
   refine (((uh HA).set 0 7 rfl).bel 400).mono ?_
   rintro e w22 ⟨v1,rfl,v10,v11,HA⟩
   obtain ⟨_,_,⟨c2,f2⟩,_⟩:=(uh HA).z
   go_upto_region 28 with fail
   clear c2 f2
   replace HA:=Z9 ((uh HA).set 2 v1 rfl)
   obtain ⟨Wq,hWq⟩:∃ x,x=w22.setCell ⟨tb,2,none⟩ (.int .i64 v1):=⟨_,rfl⟩
   rw [<-hWq] at HA ⊢
   clear hWq
   have c2:=(uh HA).ka.cell (i:=2) (v:= .int .i64 v1) rfl
   go_wp2_with fail
   clear c2
   refine ((uh HA).frm v1 1024).mono ?_
   rintro e w23 ⟨v2,rfl,v20,v21,HA⟩
   obtain ⟨_,_,_,⟨c3,f3⟩⟩:=(uh HA).z
   go_wp2_with fail
   go_meet
   exact ⟨_,_,_,_,(uh HA).set 3 v2 rfl⟩
  ·
   go_wp2_with fail
   refine ((uh HA).pck (n:=2) rfl rfl).mono ?_
   rintro e w24 ⟨v1,vv,rfl,v10,v11,hcell,HA⟩
   obtain ⟨⟨c0,f0⟩,_⟩:=(uh HA).z
   go_wp2_with fail
   clear c0 f0
   clear hcell
   refine (((uh HA).set 0 vv rfl).bel (n3:Int)).mono ?_
   rintro e w25 ⟨v2,rfl,v20,v21,HA⟩
   obtain ⟨_,_,⟨c2,f2⟩,_⟩:=(uh HA).z
   go_wp2_with fail
   go_meet
   exact ⟨_,_,_,_,(uh HA).set 2 v2 rfl⟩
  ·
   obtain ⟨⟨c0,f0⟩,_⟩:=(uh HA).z
   go_upto_region 34 with fail
   clear c0 f0
   replace HA:=Z9 ((uh HA).set 0 11 rfl)
   obtain ⟨Wq,hWq⟩:∃ x,x=w18.setCell ⟨tb,0,none⟩ (.int .i64 11):=⟨_,rfl⟩
   rw [<-hWq] at HA ⊢
   clear hWq
   have m4:=(uh HA).kb.cell (i:=4) (v:= .slice a4 n4 p4) rfl
   go_wp2_with fail
   clear m4
   refine ((uh HA).bel (n4:Int)).mono ?_
   rintro e w26 ⟨v1,rfl,v10,v11,HA⟩
   obtain ⟨_,_,⟨c2,f2⟩,_⟩:=(uh HA).z
   go_wp2_with fail
   clear c2 f2
   refine (((uh HA).set 2 v1 rfl).bel 3).mono ?_
   rintro e w27 ⟨v2,rfl,v20,v21,HA⟩
   obtain ⟨_,_,_,⟨c3,f3⟩⟩:=(uh HA).z
   go_wp2_with fail
   go_meet
   exact ⟨_,_,_,_,(uh HA).set 3 v2 rfl⟩
  ·
   obtain ⟨⟨c0,f0⟩,_⟩:=(uh HA).z
   go_wp2_with fail
   go_meet
   exact ⟨_,_,_,_,(uh HA).set 0 12 rfl⟩
  ·
   obtain ⟨⟨c0,f0⟩,_⟩:=(uh HA).z
   go_wp2_with fail
   go_meet
   exact ⟨_,_,_,_,(uh HA).set 0 13 rfl⟩
  ·
   obtain ⟨⟨c0,f0⟩,_⟩:=(uh HA).z
   go_upto_region 42 with fail
   clear c0 f0
   replace HA:=Z9 ((uh HA).set 0 14 rfl)
   obtain ⟨Wq,hWq⟩:∃ x,x=w18.setCell ⟨tb,0,none⟩ (.int .i64 14):=⟨_,rfl⟩
   rw [<-hWq] at HA ⊢
   clear hWq
   have m1:=(uh HA).kb.cell (i:=1) (v:= .slice a1 n1 p1) rfl
   go_wp2_with fail
   clear m1
   refine ((uh HA).frm (-1) ((n1:Int)-1)).mono ?_
   rintro e w28 ⟨v1,rfl,v10,v11,HA⟩
   obtain ⟨_,_,⟨c2,f2⟩,_⟩:=(uh HA).z
   go_wp2_with fail
   go_meet
   exact ⟨_,_,_,_,(uh HA).set 2 v1 rfl⟩
  ·
   have k0:(yy ==0)=false:=by simp;omega
   have j0:decide (yy=0)=false:=by simp;omega
   have k1:(yy ==1)=false:=by simp;omega
   have j1:decide (yy=1)=false:=by simp;omega
   have k2:(yy ==2)=false:=by simp;omega
   have j2:decide (yy=2)=false:=by simp;omega
   have k3:(yy ==3)=false:=by simp;omega
   have j3:decide (yy=3)=false:=by simp;omega
   have k4:(yy ==4)=false:=by simp;omega
   have j4:decide (yy=4)=false:=by simp;omega
   have k5:(yy ==5)=false:=by simp;omega
   have j5:decide (yy=5)=false:=by simp;omega
   have k6:(yy ==6)=false:=by simp;omega
   have j6:decide (yy=6)=false:=by simp;omega
   have k7:(yy ==7)=false:=by simp;omega
   have j7:decide (yy=7)=false:=by simp;omega
   have k8:(yy ==8)=false:=by simp;omega
   have j8:decide (yy=8)=false:=by simp;omega
   have k9:(yy ==9)=false:=by simp;omega
   have j9:decide (yy=9)=false:=by simp;omega
   have k10:(yy ==10)=false:=by simp;omega
   have j10:decide (yy=10)=false:=by simp;omega
   have k11:(yy ==11)=false:=by simp;omega
   have j11:decide (yy=11)=false:=by simp;omega
   have k12:(yy ==12)=false:=by simp;omega
   have j12:decide (yy=12)=false:=by simp;omega
   have k13:(yy ==13)=false:=by simp;omega
   have j13:decide (yy=13)=false:=by simp;omega
   go_wp2_with fail
   go_meet
   exact ⟨_,_,_,_,(uh HA)⟩
 case rest=>
 obtain ⟨q0,q1,q2,q3,hH⟩:=hcut
 have HA:=Z9 hH
 clear hH H
 obtain ⟨w8,rfl⟩:∃ x,x=wc:=⟨wc,rfl⟩
 go_wp2_with fail
 refine ((uh HA).once 40).mono ?_
 rintro e w29 ⟨bq,rfl,HA⟩
 have H:Hid (∃ q0 q1 q2 q3:Int,Abox a len cap bc w w29 tb #[.slice a0 n0 p0,.slice a1 n1 p1,.slice a2 n2 p2,.slice a3 n3 p3,.slice a4 n4 p4,.int .i64 now] q0 q1 q2 q3):=Z9 ⟨_,_,_,_,uh HA⟩
 clear HA
 go_upto_if 133 with fail
 go_cut [] (fun wc=> ∃ q0 q1 q2 q3:Int,Abox a len cap bc w wc tb #[.slice a0 n0 p0,.slice a1 n1 p1,.slice a2 n2 p2,.slice a3 n3 p3,.slice a4 n4 p4,.int .i64 now] q0 q1 q2 q3)
 case first=>
  obtain ⟨q0,q1,q2,q3,hH⟩:=uh H
  have HA:=Z9 hH
  clear hH H
  cases bq
  ·
   go_wp2_with fail
   go_meet
   exact ⟨_,_,_,_,(uh HA)⟩
  go_wp2_with fail
  refine ((uh HA).bel 3).mono ?_
  rintro e w30 ⟨v4,rfl,v40,v41,HA⟩
  rcases (show v4=0\/v4=1\/v4=2 by omega) with rfl | rfl | rfl
  ·
   go_wp2_with fail
   refine ((uh HA).pck (n:=2) rfl rfl).mono ?_
   rintro e w31 ⟨v5,vv,rfl,v50,v51,hcell,HA⟩
   obtain ⟨⟨c0,f0⟩,_⟩:=(uh HA).z
   go_wp2_with fail
   go_meet
   exact ⟨_,_,_,_,(uh HA).set 0 vv rfl⟩
  ·
   go_wp2_with fail
   refine ((uh HA).pck (n:=2) rfl rfl).mono ?_
   rintro e w32 ⟨v5,vv,rfl,v50,v51,hcell,HA⟩
   obtain ⟨_,⟨c1,f1⟩,_⟩:=(uh HA).z
   go_wp2_with fail
   go_meet
   exact ⟨_,_,_,_,(uh HA).set 1 vv rfl⟩
  ·
   go_wp2_with fail
   refine ((uh HA).pck (n:=2) rfl rfl).mono ?_
   rintro e w33 ⟨v5,vv,rfl,v50,v51,hcell,HA⟩
   obtain ⟨_,_,⟨c2,f2⟩,_⟩:=(uh HA).z
   go_wp2_with fail
   go_meet
   exact ⟨_,_,_,_,(uh HA).set 2 vv rfl⟩
 case rest=>
 obtain ⟨q0,q1,q2,q3,hH⟩:=hcut
 have HA:=Z9 hH
 clear hH H
 obtain ⟨⟨z0,_⟩,⟨z1,_⟩,⟨z2,_⟩,⟨z3,_⟩⟩:=(uh HA).z
 obtain ⟨⟨o0,g0⟩,⟨o1,g1⟩,⟨o2,g2⟩,⟨o3,g3⟩⟩:=(uh HA).outs
 have hlo:=(uh HA).lo
 go_wp2_with fail
 refine bodyPost_ret (v:= .agg #[.int .i64 q0,.int .i64 q1,.int .i64 q2,.int .i64 q3]) (by simp [results,Tryz.results198,go_sem, *]) rfl ⟨q0,q1,q2,q3,rfl,?_,?_⟩
 ·iterate 4 (refine St.newer ?_ (by omega) _ _)
  exact (uh HA).st
 ·iterate 4 (refine Off.newer ?_ (by omega) _ _)
  exact (uh HA).off
end Go.Proofs.YtffcgajndmhpkaaGreatDoor
namespace Go.Proofs.YtffcgajndmhpkaaGreatDoor
open Go.ChangeShapes Go.WideShapes Go.ChangeAt Go.RowKit Go.Sort
set_option linter.unusedVariables false
def Zn (m:Z4) (b:Nat):Nat->Nat
 | 0=>0
 | k+1=>if (Z8 m.desks k).1 && !(k ==b) then Zn m b k ||| 2 ^ k else Zn m b k
theorem Sw (m:Z4) (b:Nat):∀ k j:Nat,(Zn m b k).testBit j=(decide (j<k) && ((Z8 m.desks j).1 && !(j ==b)))
 | 0,j=>by simp [Zn]
 | k+1,j=>by
  have ih:=Sw m b k j
  unfold Zn
  by_cases e:j=k
  ·subst e
   have hj:(Zn m b j).testBit j=false:=by rw [ih];simp
   split
   ·rename_i h
    rw [Nat.testBit_or,hj,Nat.testBit_two_pow_self,h];simp
   ·rename_i h
    rw [hj]
    have:((Z8 m.desks j).1 && !(j ==b))=false:=by simpa using h
    rw [this];simp
  ·have hd:decide (j<k+1)=decide (j<k):=by
    by_cases h:j<k
    ·rw [decide_eq_true h,decide_eq_true (by omega)]
    ·rw [decide_eq_false h,decide_eq_false (by omega)]
   rw [hd]
   split
   ·rw [Nat.testBit_or,ih,Nat.testBit_two_pow_of_ne (by omega),Bool.or_false]
   ·exact ih
theorem Ox (m:Z4) (b:Nat):∀ k:Nat,Zn m b k<2 ^ k
 | 0=>by simp [Zn]
 | k+1=>by
  have ih:=Ox m b k
  have hp:2 ^ (k+1)=2*2 ^ k:=by rw [Nat.pow_succ];omega
  unfold Zn
  split
  ·exact Nat.or_lt_two_pow (by omega) (by omega)
  ·omega
theorem NJ {x:Nat} (h:x ≠ 0):∃ j,x.testBit j=true:=by
 refine Classical.byContradiction fun hn=>h ?_
 apply Nat.eq_of_testBit_eq
 intro i
 rw [Nat.zero_testBit]
 cases hi:x.testBit i
 ·rfl
 ·exact absurd ⟨i,hi⟩ hn
theorem I8 {s:Int} (h:0<=s) (j:Nat):We s (j:Int)=s.toNat.testBit j:=by
 obtain ⟨n,rfl⟩:=Int.eq_ofNat_of_zero_le h
 unfold We
 rw [Nat.testBit_eq_decide_div_mod_eq]
 simp only [Int.toNat_natCast]
 congr 1
 apply propext
 constructor
 ·intro h
  exact_mod_cast h
 ·intro h
  exact_mod_cast h
def YT (n:Nat):Int:=(2:Int) ^ n-1
theorem PJ (n:Nat):YT n=((2 ^ n-1:Nat):Int):=by
 have h:1<=2 ^ n:=Nat.one_le_two_pow
 unfold YT
 rw [Int.natCast_sub h]
 push_cast
 rfl
theorem IX {n j:Nat} (h:j<n):We (YT n) (j:Int)=true:=by
 rw [I8 (by rw [PJ];omega),PJ,Int.toNat_natCast,Nat.testBit_two_pow_sub_one]
 exact decide_eq_true h
theorem NB {n:Nat} (h1:1<=n) (h8:n<=8):1<=YT n/\YT n<=255:=by
 have key:∀ k:Fin 8,1<=YT (k.val+1)/\YT (k.val+1)<=255:=by unfold YT;decide
 have:=key ⟨n-1,by omega⟩
 rwa [show n-1+1=n by omega] at this
def S8 (op n:Nat) (may:Int):Int:=if may.toNat &&& op=0 then YT n else may
theorem HH {op n:Nat} {may:Int} (h0:0<=may) (hop:op ≠ 0) (hn:∀ j,op.testBit j=true->j<n):∃ j,op.testBit j=true/\We (S8 op n may) (j:Int)=true:=by
 unfold S8
 split
 ·obtain ⟨j,hj⟩:=NJ hop
  exact ⟨j,hj,IX (hn j hj)⟩
 ·rename_i h
  obtain ⟨j,hj⟩:=NJ h
  rw [Nat.testBit_and] at hj
  simp only [Bool.and_eq_true] at hj
  exact ⟨j,hj.2,by rw [I8 h0];exact hj.1⟩
theorem Dt {op n:Nat} {may:Int} (h1:1<=n) (h8:n<=8) (m0:1<=may) (m1:may<=255):1<=S8 op n may/\S8 op n may<=255:=by
 unfold S8
 split
 ·exact NB h1 h8
 ·exact ⟨m0,m1⟩
def closeX (op:Nat) (m:Z4) (w:Nat):Z4:=XV m w (S8 op m.desks.length (Z8 m.smiths w).2.2.2.1)
def Lp (op:Nat) (m:Z4) (w:Nat):Int:=YA (closeX op m w) (w:Int)
def Wf (op:Nat) (m:Z4) (w:Nat):Z4:=setS (closeX op m w) w (putS (closeX op m w) (Z8 (closeX op m w).smiths w) (Lp op m w))
def YI (op:Nat) (m:Z4) (q:List Z6):Nat->Z4
 | 0=>m
 | k+1=>Wf op (YI op m q k) (Z7 q k).2.toNat
structure Shut (m0:Z4) (b:Nat) (P:Nat->Prop) (m:Z4):Prop where
 rooms:m.rooms=m0.rooms
 guilds:m.guilds=m0.guilds
 paces:m.paces=m0.paces
 now:m.now=m0.now
 desks:m.desks=(YH m0 b false).desks
 len:m.smiths.length=m0.smiths.length
 here:∀ i,i<m.smiths.length->Yv m (Z8 m.smiths i)=true
 seat:∀ i,i<m.smiths.length-> ¬ P i->Yj m (Z8 m.smiths i)=true
 left:∀ i,P i->i<m.smiths.length/\ZR (Z8 m.smiths i)=true/\(Z8 m.smiths i).2.1=(b:Int)/\Xw (XG (Z8 m.smiths i)) (XK m (b:Int))=true
theorem Pm {m:Z4} {b:Nat} (hb:b<m.desks.length) (o:Bool) (j:Nat):Z8 (YH m b o).desks j=if j=b then (o,(Z8 m.desks b).2) else Z8 m.desks j:=ZK hb j
theorem Vl (m:Z4) (b:Nat) (o:Bool):(YH m b o).desks.length=m.desks.length:=by unfold YH;simp
theorem QO {m:Z4} {b:Nat} (hb:b<m.desks.length) (o:Bool) (j:Nat):(Z8 (YH m b o).desks j).2=(Z8 m.desks j).2:=by
 rw [Pm hb]
 by_cases e:j=b
 ·rw [if_pos e,e]
 ·rw [if_neg e]
theorem Iu {m0:Z4} (h:Loose m0) {b:Nat} (hb:b<m0.desks.length):Shut m0 b (fun i=>i<m0.smiths.length/\(Z8 m0.smiths i).2.1=(b:Int)/\ZR (Z8 m0.smiths i)=true) (YH m0 b false):=by
 refine ⟨rfl,rfl,rfl,rfl,rfl,rfl,fun i hi=> ?_,fun i hi hn=> ?_,fun i hp=> ?_⟩
 ·rw [Xm (m:=m0) (m':=YH m0 b false) rfl (Vl _ _ _)]
  exact h.here i hi
 ·cases hp:ZR (Z8 m0.smiths i)
  ·exact Vw hp
  ·obtain ⟨a0,a1,a2,a3,a4⟩:=h.at (i:=i) hi hp
   have hne:(Z8 m0.smiths i).2.1.toNat ≠ b:=by
    intro e
    exact hn ⟨hi,by omega,hp⟩
   refine Pl (m:=YH m0 b false) (s:=Z8 m0.smiths i) ?_ a3 ?_
   ·rw [Pm hb,if_neg hne];exact a2
   ·rw [QO hb];exact a4
 ·obtain ⟨hi,e,hp⟩:=hp
  obtain ⟨a0,a1,a2,a3,a4⟩:=h.at (i:=i) hi hp
  refine ⟨hi,hp,e,?_⟩
  rw [e] at a4
  show Xw _ (Z8 (YH m0 b false).desks ((b:Int)).toNat).2.2=true
  rw [QO hb]
  exact a4
theorem Shut.bare {m0 m:Z4} {b:Nat} {P:Nat->Prop} (h:Shut m0 b P m) (h0:Loose m0) (hb:b<m0.desks.length) (hop:Zn m0 b m0.desks.length ≠ 0):Loose { m with smiths:=[] }:=by
 have hl:m.desks.length=m0.desks.length:=by rw [h.desks,Vl]
 refine ⟨?_,?_,?_,fun i hi=>absurd hi (Nat.not_lt_zero _),fun i hi=>absurd hi (Nat.not_lt_zero _),?_⟩
 ·have:=h0.head
  unfold Y2 at this ⊢
  simp only [Bool.and_eq_true,decide_eq_true_eq] at this ⊢
  rw [h.rooms,h.guilds,h.paces,h.now,hl]
  exact ⟨this.1,this.2.1,by simp,this.2.2.2⟩
 ·intro j hj
  show Ws (Z8 m.desks j)=true
  have hj':j<m.desks.length:=hj
  have:=h0.desk j (by omega)
  unfold Ws at this ⊢
  rw [h.desks,QO hb]
  exact this
 ·intro j hj
  have:=h0.pace j (by rw [<-h.paces];exact hj)
  unfold WS at this ⊢
  simp only
  rw [h.paces,h.rooms]
  exact this
 ·obtain ⟨j,hj⟩:=NJ hop
  rw [Sw] at hj
  simp only [Bool.and_eq_true,decide_eq_true_eq,Bool.not_eq_true',beq_eq_false_iff_ne] at hj
  refine ⟨j,(by show j<m.desks.length;omega),?_⟩
  show (Z8 m.desks j).1=true
  rw [h.desks,Pm hb,if_neg hj.2.2]
  exact hj.2.1
theorem Shut.pres {m0 m:Z4} {b:Nat} {P:Nat->Prop} (h:Shut m0 b P m) {i:Nat} (hp:P i):Zf (Z8 m.smiths i)=true/\(Z8 m.smiths i).2.2.2.2.1<m.guilds.length:=by
 obtain ⟨hi,hp1,_⟩:=h.left i hp
 rcases XR.1 (h.here i hi) with e | e
 ·rw [e] at hp1;cases hp1
 ·exact ⟨e.1,e.2.1⟩
theorem Shut.sane {m0 m:Z4} {b:Nat} {P:Nat->Prop} (h:Shut m0 b P m) (h0:Loose m0):Sane m:=by
 have s0:=h0.sane
 have lim:∀ i,i<m.smiths.length->(Z8 m.smiths i).1 ≠ 0->Zf (Z8 m.smiths i)=true/\(Z8 m.smiths i).2.2.2.2.1<m.guilds.length:=fun i hi hs=>by
  rcases XR.1 (h.here i hi) with e | e
  ·rw [e] at hs;exact absurd rfl hs
  ·exact ⟨e.1,e.2.1⟩
 refine ⟨by rw [h.rooms];exact s0.hall,by rw [h.rooms,h.desks,Vl];exact s0.desks,⟨by rw [h.guilds];exact s0.guilded.guilds,fun i hi hs=> ?_,fun i hi hs=>(lim i hi hs).2⟩,by rw [h.len];exact s0.few⟩
 have hp:=(lim i hi hs).1
 generalize Z8 m.smiths i=s at *
 obtain ⟨st,be,rk,my,gu,lo',hi',hd,ca,ut,wk⟩:=s
 exact (Zi hp).2.2.2.2.1.1
theorem Pk {m:Z4} {k:Nat} (hk:k<m.smiths.length) (may:Int) (i:Nat):Z8 (XV m k may).smiths i=if i=k then TQ (Z8 m.smiths k) may else Z8 m.smiths i:=ZK hk i
theorem Shut.may {m0 m:Z4} {b:Nat} {P:Nat->Prop} (h:Shut m0 b P m) {w:Nat} (hw:P w) {may:Int} (y0:1<=may) (y1:may<=255):Shut m0 b P (XV m w may):=by
 obtain ⟨hwl,hp,hbe,hba⟩:=h.left w hw
 obtain ⟨hpb,hg⟩:=h.pres hw
 have hlen:(XV m w may).smiths.length=m.smiths.length:=by unfold XV setS;simp
 refine ⟨h.rooms,h.guilds,h.paces,h.now,h.desks,by rw [hlen];exact h.len,fun i hi=> ?_,fun i hi hn=> ?_,fun i hi=> ?_⟩
 ·rw [Xm (m:=m) (m':=XV m w may) rfl rfl,Pk hwl]
  split
  ·refine XR.2 (.inr ⟨MA hpb y0 y1,hg,?_⟩)
   rcases XR.1 (h.here w hwl) with e | e
   ·rw [e] at hp;cases hp
   ·exact e.2.2
  ·exact h.here i (by omega)
 ·rw [Pk hwl,if_neg (fun e=>hn (by rw [e];exact hw))]
  exact h.seat i (by omega) hn
 ·obtain ⟨a,b1,c,d⟩:=h.left i hi
  refine ⟨by omega,?_⟩
  rw [Pk hwl]
  split
  ·rename_i e
   subst e
   exact ⟨b1,c,d⟩
  ·exact ⟨b1,c,d⟩
theorem Shut.chosen {m0 m:Z4} {b:Nat} {P:Nat->Prop} (h:Shut m0 b P m) (h0:Loose m0) (hb:b<m0.desks.length) (hop:Zn m0 b m0.desks.length ≠ 0) {w:Nat} (hw:P w):∃ j:Nat,j<m.desks.length/\Lp (Zn m0 b m0.desks.length) m w=(j:Int)/\Yb (closeX (Zn m0 b m0.desks.length) m w) (w:Int) j=true:=by
 obtain ⟨hwl,hp,hbe,hba⟩:=h.left w hw
 obtain ⟨hpb,hg⟩:=h.pres hw
 have hl:m.desks.length=m0.desks.length:=by rw [h.desks,Vl]
 rcases Vt (closeX (Zn m0 b m0.desks.length) m w) (w:Int) with ⟨_,hn⟩ | ⟨j,hj,e,hm⟩
 ·exfalso
  have hy:0<=(Z8 m.smiths w).2.2.2.1:=by
   generalize Z8 m.smiths w=s at *
   obtain ⟨st,be,rk,my,gu,lo',hi',hd,ca,ut,wk⟩:=s
   have:=(Zi hpb).2.2.2.1.1
   show 0<=my
   omega
  obtain ⟨j,hj,hbit⟩:=HH (op:=Zn m0 b m0.desks.length) (n:=m.desks.length) hy hop (fun j hj=>by
   rw [Sw] at hj
   simp only [Bool.and_eq_true,decide_eq_true_eq] at hj
   omega)
  rw [Sw] at hj
  simp only [Bool.and_eq_true,decide_eq_true_eq,Bool.not_eq_true',beq_eq_false_iff_ne] at hj
  have:=hn j (by show j<m.desks.length;omega)
  unfold Yb at this
  rw [show (Z8 (closeX (Zn m0 b m0.desks.length) m w).desks j).1=true from by
   show (Z8 m.desks j).1=true
   rw [h.desks,Pm hb,if_neg hj.2.2]
   exact hj.2.1,Int.toNat_natCast,show Z8 (closeX (Zn m0 b m0.desks.length) m w).smiths w=TQ (Z8 m.smiths w) (S8 (Zn m0 b m0.desks.length) m.desks.length (Z8 m.smiths w).2.2.2.1) from by
    unfold closeX
    rw [Pk hwl,if_pos rfl]] at this
  rw [show (TQ (Z8 m.smiths w) (S8 (Zn m0 b m0.desks.length) m.desks.length (Z8 m.smiths w).2.2.2.1)).2.2.2.1=S8 (Zn m0 b m0.desks.length) m.desks.length (Z8 m.smiths w).2.2.2.1 from rfl,hbit] at this
  cases this
 ·exact ⟨j,hj,e,hm⟩
theorem Shut.closeX {m0 m:Z4} {b:Nat} {P:Nat->Prop} (h:Shut m0 b P m) (h0:Loose m0) {w:Nat} (hw:P w) (op:Nat):Shut m0 b P (closeX op m w):=by
 obtain ⟨hpb,hg⟩:=h.pres hw
 have hl:m.desks.length=m0.desks.length:=by rw [h.desks,Vl]
 have h8:=WG h0
 obtain ⟨j,hj,_⟩:=h0.openD
 have hy:1<=(Z8 m.smiths w).2.2.2.1/\(Z8 m.smiths w).2.2.2.1<=255:=by
  generalize Z8 m.smiths w=s at *
  obtain ⟨st,be,rk,my,gu,lo',hi',hd,ca,ut,wk⟩:=s
  exact (Zi hpb).2.2.2.1
 obtain ⟨y0,y1⟩:=Dt (op:=op) (n:=m.desks.length) (by omega) (by omega) hy.1 hy.2
 exact h.may hw y0 y1
theorem Shut.step {m0 m:Z4} {b:Nat} {P:Nat->Prop} (h:Shut m0 b P m) (h0:Loose m0) (hb:b<m0.desks.length) (hop:Zn m0 b m0.desks.length ≠ 0) {w:Nat} (hw:P w) :
  Shut m0 b (fun i=>P i/\i ≠ w) (Wf (Zn m0 b m0.desks.length) m w):=by
 obtain ⟨j,hj,ej,hm⟩:=h.chosen h0 hb hop hw
 have hx:=h.closeX h0 hw (Zn m0 b m0.desks.length)
 unfold Wf
 rw [ej]
 generalize Go.Proofs.YtffcgajndmhpkaaGreatDoor.closeX (Zn m0 b m0.desks.length) m w=x at *
 have hjx:j<x.desks.length:=by rw [hx.desks,<-h.desks];exact hj
 obtain ⟨hwl,hp,hbe,hba⟩:=hx.left w hw
 obtain ⟨hpb,hg⟩:=hx.pres hw
 unfold Yb at hm
 simp only [Bool.and_eq_true,Int.toNat_natCast] at hm
 have hbl:b<x.desks.length:=by rw [hx.desks,Vl];exact hb
 have hk:=Oj (m:={ x with smiths:=[] }) (hx.bare h0 hb hop) (s:=Z8 x.smiths w) (b:=j) hpb hp hg (by omega) (by rw [hbe];show (b:Int)<x.desks.length;omega) (by rw [hbe];exact hba) hjx hm.1 hm.2
 have k1:Yv x (putS x (Z8 x.smiths w) (j:Int))=true:=hk.1
 have k2:Yj x (putS x (Z8 x.smiths w) (j:Int))=true:=hk.2
 have hat:∀ i,Z8 (setS x w (putS x (Z8 x.smiths w) (j:Int))).smiths i=if i=w then putS x (Z8 x.smiths w) (j:Int) else Z8 x.smiths i:=fun i=>ZK hwl i
 have hlen:(setS x w (putS x (Z8 x.smiths w) (j:Int))).smiths.length=x.smiths.length:=by unfold setS;simp
 refine ⟨hx.rooms,hx.guilds,hx.paces,hx.now,hx.desks,by rw [hlen];exact hx.len,fun i hi=> ?_,fun i hi hn=> ?_,fun i hi=> ?_⟩
 ·rw [Xm (m:=x) (m':=setS x w (putS x (Z8 x.smiths w) (j:Int))) rfl rfl,hat]
  split
  ·exact k1
  ·exact hx.here i (by omega)
 ·show Yj x (Z8 (setS x w (putS x (Z8 x.smiths w) (j:Int))).smiths i)=true
  rw [hat]
  split
  ·exact k2
  ·rename_i e
   exact hx.seat i (by omega) (fun hpi=>hn ⟨hpi,e⟩)
 ·obtain ⟨hpi,e⟩:=hi
  obtain ⟨a,b1,c,d⟩:=hx.left i hpi
  refine ⟨by omega,?_⟩
  rw [hat,if_neg e]
  exact ⟨b1,c,d⟩
theorem Shut.weak {m0 m:Z4} {b:Nat} {P Q:Nat->Prop} (h:Shut m0 b P m) (h1:∀ i,P i->Q i) (h2:∀ i,Q i->P i):Shut m0 b Q m:=
 ⟨h.rooms,h.guilds,h.paces,h.now,h.desks,h.len,h.here,fun i hi hn=>h.seat i hi (fun hp=>hn (h1 i hp)),fun i hi=>h.left i (h2 i hi)⟩
def La (q:List Z6) (k:Nat) (i:Nat):Prop:= ∃ j,k<=j/\j<q.length/\(Z7 q j).2=(i:Int)
theorem LW {m0:Z4} (h0:Loose m0) {b:Nat} (hb:b<m0.desks.length) (hop:Zn m0 b m0.desks.length ≠ 0):∀ k,k<=(atV m0.smiths b m0.smiths.length).length->
  Shut m0 b (La (atV m0.smiths b m0.smiths.length) k) (YI (Zn m0 b m0.desks.length) (YH m0 b false) (atV m0.smiths b m0.smiths.length) k)
 | 0,_=>by
  refine (Iu h0 hb).weak (fun i hi=> ?_) (fun i hi=> ?_)
  ·have hm:(XG (Z8 m0.smiths i),(i:Int)) ∈ atV m0.smiths b m0.smiths.length:=(Yt m0.smiths b _ m0.smiths.length).2 ⟨i,hi.1,hi.2.1,hi.2.2,rfl⟩
   obtain ⟨j,hj,e⟩:=TR hm
   exact ⟨j,Nat.zero_le _,hj,by rw [e]⟩
  ·obtain ⟨j,_,hj,e⟩:=hi
   obtain ⟨i',hi',h1,h2,e2⟩:=(Yt m0.smiths b _ m0.smiths.length).1 (XM hj)
   rw [e2] at e
   have:i'=i:=by
    have e3:(i':Int)=(i:Int):=e
    omega
   subst this
   exact ⟨hi',h1,h2⟩
 | k+1,hk=>by
  have ih:=LW h0 hb hop k (by omega)
  obtain ⟨i',hi',h1,h2,e2⟩:=(Yt m0.smiths b _ m0.smiths.length).1 (XM (show k<(atV m0.smiths b m0.smiths.length).length by omega))
  have hw:La (atV m0.smiths b m0.smiths.length) k i':=⟨k,Nat.le_refl _,by omega,by rw [e2]⟩
  have:=ih.step h0 hb hop hw
  unfold YI
  rw [e2]
  show Shut m0 b _ (Wf _ _ ((i':Int)).toNat)
  rw [Int.toNat_natCast]
  refine this.weak (fun i hi=> ?_) (fun i hi=> ?_)
  ·obtain ⟨⟨j,hj,hjl,e⟩,hne⟩:=hi
   refine ⟨j,?_,hjl,e⟩
   rcases Nat.lt_or_ge k j with hlt | hge
   ·omega
   ·exfalso
    have:j=k:=by omega
    subst this
    rw [e2] at e
    apply hne
    have:(i':Int)=(i:Int):=e
    omega
  ·obtain ⟨j,hj,hjl,e⟩:=hi
   refine ⟨⟨j,by omega,hjl,e⟩,fun hii=> ?_⟩
   subst hii
   have hpw:=Ue m0.smiths b m0.smiths.length
   have hat:∀ n (hn:n<(atV m0.smiths b m0.smiths.length).length),Z7 (atV m0.smiths b m0.smiths.length) n=(atV m0.smiths b m0.smiths.length)[n]:=fun n hn=>by unfold Z7;simp [List.getD,hn]
   have:=List.pairwise_iff_getElem.1 hpw k j (by omega) hjl (by omega)
   rw [<-hat k (by omega),<-hat j hjl] at this
   apply this
   rw [e2,e]
theorem It {m0:Z4} (h0:Loose m0) {b:Nat} (hb:b<m0.desks.length) (hop:Zn m0 b m0.desks.length ≠ 0):Loose (YI (Zn m0 b m0.desks.length) (YH m0 b false) (atV m0.smiths b m0.smiths.length) (atV m0.smiths b m0.smiths.length).length):=by
 have h:=LW h0 hb hop _ (Nat.le_refl _)
 have hno:∀ i,¬ La (atV m0.smiths b m0.smiths.length) (atV m0.smiths b m0.smiths.length).length i:=fun i hi=>by
  obtain ⟨j,h1,h2,_⟩:=hi
  omega
 generalize YI (Zn m0 b m0.desks.length) (YH m0 b false) (atV m0.smiths b m0.smiths.length) (atV m0.smiths b m0.smiths.length).length=x at *
 have hb':=h.bare h0 hb hop
 refine ⟨?_,hb'.desk,hb'.pace,h.here,fun i hi=>h.seat i hi (hno i),hb'.openD⟩
 have:=hb'.head
 unfold Y2 at this ⊢
 simp only [Bool.and_eq_true,decide_eq_true_eq] at this ⊢
 exact ⟨this.1,this.2.1,by rw [h.len];exact Zk h0,this.2.2.2⟩
def WO (m:Z4) (b:Int):Z4 × Int:=
 if ZP m then (if WX m b then (if (Z8 m.desks b.toNat).1 then (if Zn m b.toNat m.desks.length=0 then (m,5) else
  (ZX (YI (Zn m b.toNat m.desks.length) (YH m b.toNat false) (atV m.smiths b m.smiths.length) (atV m.smiths b m.smiths.length).length),0)) else (m,2)) else (m,1)) else (YJ,3)
theorem I5 {m:Z4} {b:Int} (h:WX m b=true):∃ k:Nat,b=(k:Int)/\k<m.desks.length:=by
 have:=ZU (show inB b 0 ((m.desks.length:Int)-1)=true from h)
 exact ⟨b.toNat,by omega,by omega⟩
theorem Lq {m:Z4} (h:ZP m=true) (b:Int):ZP (WO m b).1=true:=by
 unfold WO
 rw [h]
 simp only [if_true]
 split
 ·rename_i hb
  obtain ⟨k,rfl,hk⟩:=I5 hb
  rw [Int.toNat_natCast]
  split
  ·split
   ·exact h
   ·rename_i hop
    exact Y4 (It (ZY h) hk hop)
  ·exact h
 ·exact h
end Go.Proofs.YtffcgajndmhpkaaGreatDoor
