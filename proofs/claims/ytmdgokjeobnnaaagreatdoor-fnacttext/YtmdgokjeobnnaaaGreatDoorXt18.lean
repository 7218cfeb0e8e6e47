/- Part 18 of what the proof rests on. No condition but those that a theorem names. -/
import Derived.Test.YtmdgokjeobnnaaaGreatDoorXt10
import Derived.Test.YtmdgokjeobnnaaaGreatDoorXt15
import Derived.Deep.CutBlock
namespace Go.Proofs.YtmdgokjeobnnaaaGreatDoor
open Go.ChangeShapes Go.WideShapes Go.ChangeAt Go.RowKit Go.Sort Go.Proofs.Tryz
open Draw (St Off Row Cur)
set_option linter.unusedVariables false
set_option linter.unusedSimpArgs false
set_option maxRecDepth 100000
def Qn:Value->Bool
 | .int .i64 v=>decide (-4000000000000<=v/\v<=4000000000000)
 | _=>false
theorem J6 {bc:Nat} {w w':World} {cs:Array Value} {t:TypeId} {j:Int} (p:Off bc (w.alloc (.cells cs t)) w') (hb:bc<w.heap.size) (h0:0<=j) (h1:j<cs.size) (hz:cs.toList.all Qn=true):∃ v,w'.cell? ⟨w.heap.size,j.toNat,none⟩=some (.int .i64 v)/\ -4000000000000<=v/\v<=4000000000000:=by
 have hj:j.toNat<cs.size:=by omega
 rw [Array.all_toList,Array.all_eq_true] at hz;have h2:=hz j.toNat hj;obtain ⟨c,hc⟩:=ZE (cs[j.toNat]);rw [hc] at h2;unfold Qn at h2
 split at h2
 ·rename_i v
  have h3:w'.cell? ⟨w.heap.size,j.toNat,none⟩=some (.int .i64 v):=by
   rw [p.cell (p:=⟨w.heap.size,j.toNat,none⟩) (by simp) (by simp;omega),World.cell?_alloc_at _ _ _ _ rfl,Array.getElem?_eq_getElem hj,hc]
  have h4:=of_decide_eq_true h2;exact ⟨v,h3,h4⟩
 ·cases h2
structure Abox (a:Option Addr) (len cap bc:Nat) (w0 w:World) (tb:Nat) (mc:Array Value) (x0 x1 x2 x3:Int):Prop where
 st:St a len cap bc w
 off:Off bc w0 w
 kb:Blk w w0.heap.size 40 mc
 kr:Blk w (w0.heap.size+1) 25 #[.int .i64 0,.int .i64 0,.int .i64 0,.int .i64 0]
 ka:Blk w tb 25 #[.int .i64 x0,.int .i64 x1,.int .i64 x2,.int .i64 x3]
 lo:w0.heap.size+2<=tb
 bl:bc<w0.heap.size
 ok:∀ x ∈ [x0,x1,x2,x3],-4000000000000<=x/\x<=4000000000000
section
variable {a : Option Addr} {len cap bc : Nat} {w0 w w' : World} {tb : Nat} {mc : Array Value} {x0 x1 x2 x3 : Int}
theorem Abox.step (h:Abox a len cap bc w0 w tb mc x0 x1 x2 x3) (hs:St a len cap bc w') (ho:Off bc w w'):Abox a len cap bc w0 w' tb mc x0 x1 x2 x3:=
 have hl:=h.lo;have hb:=h.bl
 ⟨hs,h.off.trans ho,h.kb.same (ho.block _ h.kb.lt (by omega)),h.kr.same (ho.block _ h.kr.lt (by omega)),h.ka.same (ho.block _ h.ka.lt (by omega)),h.lo,h.bl,h.ok⟩
theorem Abox.below (h:Abox a len cap bc w0 w tb mc x0 x1 x2 x3) (hb:Below w.heap.size w w'):Abox a len cap bc w0 w' tb mc x0 x1 x2 x3:=
 h.step (YY h.st (hb.mono (Xs h.st))) ⟨hb.os,hb.tape,hb.output,hb.size,fun k hk _=>hb.block k hk⟩
theorem Abox.set (h:Abox a len cap bc w0 w tb mc x0 x1 x2 x3) (i:Nat) (v:Int) {y0 y1 y2 y3:Int} (hv:(#[.int .i64 x0,.int .i64 x1,.int .i64 x2,.int .i64 x3]:Array Value).setIfInBounds i (.int .i64 v)=#[.int .i64 y0,.int .i64 y1,.int .i64 y2,.int .i64 y3]) (vl : -4000000000000<=v:=by omega) (vu:v<=4000000000000:=by omega):Abox a len cap bc w0 (w.setCell ⟨tb,i,none⟩ (.int .i64 v)) tb mc y0 y1 y2 y3:=by
 have hl:=h.lo;have hb:=h.bl;have hz:=h.off.size;refine ⟨YY h.st ((Z2 _ _).setCell (p:=⟨tb,i,none⟩) (by show bc+1<=tb;omega) _),?_,h.kb.other (by show w0.heap.size ≠ tb;omega) _,h.kr.other (by show w0.heap.size+1 ≠ tb;omega) _,?_,h.lo,h.bl,?_⟩
 ·refine ⟨h.off.os,h.off.tape,h.off.output,by simpa using h.off.size,fun k hk hn=> ?_⟩
  rw [heap_setCell_other _ _ _ _ (by show k ≠ tb;omega)];exact h.off.block k hk hn
 ·rw [<-hv];exact h.ka.set i _
 ·have hok:=h.ok
  simp only [List.mem_cons,List.not_mem_nil,or_false,forall_eq_or_imp,forall_eq] at hok ⊢
  rcases i with _ | _ | _ | _ | i<;>simp [Array.setIfInBounds] at hv<;>obtain ⟨rfl,rfl,rfl,rfl⟩:=hv<;>simp only [*,and_self]
theorem Abox.bel (h:Abox a len cap bc w0 w tb mc x0 x1 x2 x3) (n:Int) (h1:0<n:=by omega) (h2:n<=4611686018427387904:=by omega):Calls prog 16 #[.pointer (some ⟨bc,0,none⟩),.int .i64 n] w fun e w'=> ∃ x:Int,e= .returned (.int .i64 x)/\0<=x/\x<n/\Hid (Abox a len cap bc w0 w' tb mc x0 x1 x2 x3):=by
 refine (Draw.below_any a len cap bc n h1 h2 _ h.st).mono ?_;rintro e w1 ⟨y,rfl,y0,y1,s9,p9⟩;exact ⟨y,rfl,y0,y1,Z9 (h.step s9 p9)⟩
theorem Abox.frm (h:Abox a len cap bc w0 w tb mc x0 x1 x2 x3) (lo hi:Int) (h0:lo<=hi:=by omega) (h1 : -1000000000000<=lo:=by omega) (h2:hi<=1000000000000:=by omega):Calls prog 17 #[.pointer (some ⟨bc,0,none⟩),.int .i64 lo,.int .i64 hi] w fun e w'=> ∃ x:Int,e= .returned (.int .i64 x)/\lo<=x/\x<=hi/\Hid (Abox a len cap bc w0 w' tb mc x0 x1 x2 x3):=by
 refine (Draw.from_any a len cap bc lo hi h0 h1 h2 _ h.st).mono ?_;rintro e w1 ⟨y,rfl,y0,y1,s9,p9⟩;exact ⟨y,rfl,y0,y1,Z9 (h.step s9 p9)⟩
theorem Abox.once (h:Abox a len cap bc w0 w tb mc x0 x1 x2 x3) (n:Int) (h1:0<n:=by omega) (h2:n<=4611686018427387904:=by omega):Calls prog 18 #[.pointer (some ⟨bc,0,none⟩),.int .i64 n] w fun e w'=> ∃ b:Bool,e= .returned (.bool b)/\Hid (Abox a len cap bc w0 w' tb mc x0 x1 x2 x3):=by
 refine (Draw.once_any a len cap bc n h1 h2 _ h.st).mono ?_;rintro e w1 ⟨y,rfl,s9,p9⟩;exact ⟨y,rfl,Z9 (h.step s9 p9)⟩
theorem Abox.z (h:Abox a len cap bc w0 w tb mc x0 x1 x2 x3):(w.cell? ⟨tb,0,none⟩=some (.int .i64 x0)/\w.frozen? ⟨tb,0,none⟩=false)/\(w.cell? ⟨tb,1,none⟩=some (.int .i64 x1)/\w.frozen? ⟨tb,1,none⟩=false)/\(w.cell? ⟨tb,2,none⟩=some (.int .i64 x2)/\w.frozen? ⟨tb,2,none⟩=false)/\(w.cell? ⟨tb,3,none⟩=some (.int .i64 x3)/\w.frozen? ⟨tb,3,none⟩=false):=⟨⟨h.ka.cell rfl,h.ka.free 0⟩,⟨h.ka.cell rfl,h.ka.free 1⟩,⟨h.ka.cell rfl,h.ka.free 2⟩,h.ka.cell rfl,h.ka.free 3⟩
theorem Abox.outs (h:Abox a len cap bc w0 w tb mc x0 x1 x2 x3):(w.cell? ⟨w0.heap.size+1,0,none⟩=some (.int .i64 0)/\w.frozen? ⟨w0.heap.size+1,0,none⟩=false)/\(w.cell? ⟨w0.heap.size+1,1,none⟩=some (.int .i64 0)/\w.frozen? ⟨w0.heap.size+1,1,none⟩=false)/\(w.cell? ⟨w0.heap.size+1,2,none⟩=some (.int .i64 0)/\w.frozen? ⟨w0.heap.size+1,2,none⟩=false)/\(w.cell? ⟨w0.heap.size+1,3,none⟩=some (.int .i64 0)/\w.frozen? ⟨w0.heap.size+1,3,none⟩=false):=⟨⟨h.kr.cell rfl,h.kr.free 0⟩,⟨h.kr.cell rfl,h.kr.free 1⟩,⟨h.kr.cell rfl,h.kr.free 2⟩,h.kr.cell rfl,h.kr.free 3⟩
theorem Abox.pck (h:Abox a len cap bc w0 w tb mc x0 x1 x2 x3) {cs:Array Value} {n:Int} (hn:(cs.size:Int)=n) (hz:cs.toList.all Qn=true) (h1:0<n:=by omega) (h2:n<=4611686018427387904:=by omega):Calls prog 16 #[.pointer (some ⟨bc,0,none⟩),.int .i64 n] (w.alloc (.cells cs 2)) fun e w'=> ∃ j v:Int,e= .returned (.int .i64 j)/\0<=j/\j<n/\w'.cell? ⟨w.heap.size,j.toNat,none⟩=some (.int .i64 v)/\ -4000000000000<=v/\v<=4000000000000/\Hid (Abox a len cap bc w0 w' tb mc x0 x1 x2 x3):=by
 have hA:=h.below ((Z2 _ _).alloc (Z3 _) (.cells cs 2));refine (Draw.below_any a len cap bc n h1 h2 _ hA.st).mono ?_;rintro e w1 ⟨j,rfl,j0,j1,s9,p9⟩;obtain ⟨v,hv,hn1,hn2⟩:=J6 p9 (Xs h.st) j0 (by omega) hz;exact ⟨j,v,rfl,j0,j1,hv,hn1,hn2,Z9 (hA.step s9 p9)⟩
end
set_option maxHeartbeats 16000000 in
theorem RQ (a:Option Addr) (len cap bc:Nat) (a0 a1 a2 a3 a4:Option Addr) (n0 n1 n2 n3 n4 p0 p1 p2 p3 p4:Nat) (now:Int) (h1:n1<=6) (h2:n2<=12) (h3:1<=n3) (h3':n3<=8) (h4:1<=n4) (h4':n4<=3) (w:World) (hs:St a len cap bc w) :
  Calls prog 31 #[.pointer (some ⟨bc,0,none⟩),.agg #[.slice a0 n0 p0,.slice a1 n1 p1,.slice a2 n2 p2,.slice a3 n3 p3,.slice a4 n4 p4,.int .i64 now]] w fun e w'=> ∃ k who A B:Int,e= .returned (.agg #[.int .i64 k,.int .i64 who,.int .i64 A,.int .i64 B])/\(∀ x ∈ [k,who,A,B],-4000000000000<=x/\x<=4000000000000)/\St a len cap bc w'/\Off bc w w':=by
 have Hs:=Z9 hs;have hbc:=Xs hs;clear hs;go_enter func31,ntmps31;go_upto_region 1 with fail;have kb:Hid (Blk ((w.alloc (.cells #[.slice a0 n0 p0,.slice a1 n1 p1,.slice a2 n2 p2,.slice a3 n3 p3,.slice a4 n4 p4,.int .i64 now] 40)).alloc (.cells #[.int .i64 0,.int .i64 0,.int .i64 0,.int .i64 0] 25)) w.heap.size 40 #[.slice a0 n0 p0,.slice a1 n1 p1,.slice a2 n2 p2,.slice a3 n3 p3,.slice a4 n4 p4,.int .i64 now]):=Z9 ((Blk.new w _ _).alloc _)
 have kr:Hid (Blk ((w.alloc (.cells #[.slice a0 n0 p0,.slice a1 n1 p1,.slice a2 n2 p2,.slice a3 n3 p3,.slice a4 n4 p4,.int .i64 now] 40)).alloc (.cells #[.int .i64 0,.int .i64 0,.int .i64 0,.int .i64 0] 25)) (w.heap.size+1) 25 #[.int .i64 0,.int .i64 0,.int .i64 0,.int .i64 0]):=Z9 (by
  have k:=Blk.new (w.alloc (.cells #[.slice a0 n0 p0,.slice a1 n1 p1,.slice a2 n2 p2,.slice a3 n3 p3,.slice a4 n4 p4,.int .i64 now] 40)) 25 #[.int .i64 0,.int .i64 0,.int .i64 0,.int .i64 0];rw [XX] at k
  exact k)
 have HO:Hid (Off bc w ((w.alloc (.cells #[.slice a0 n0 p0,.slice a1 n1 p1,.slice a2 n2 p2,.slice a3 n3 p3,.slice a4 n4 p4,.int .i64 now] 40)).alloc (.cells #[.int .i64 0,.int .i64 0,.int .i64 0,.int .i64 0] 25))):=Z9 (((Off.refl _ _).alloc _).alloc _);replace Hs:Hid (St a len cap bc ((w.alloc (.cells #[.slice a0 n0 p0,.slice a1 n1 p1,.slice a2 n2 p2,.slice a3 n3 p3,.slice a4 n4 p4,.int .i64 now] 40)).alloc (.cells #[.int .i64 0,.int .i64 0,.int .i64 0,.int .i64 0] 25))):=Z9 (((uh Hs).alloc _).alloc _);generalize (w.alloc (.cells #[.slice a0 n0 p0,.slice a1 n1 p1,.slice a2 n2 p2,.slice a3 n3 p3,.slice a4 n4 p4,.int .i64 now] 40)).alloc (.cells #[.int .i64 0,.int .i64 0,.int .i64 0,.int .i64 0] 25)=W at *;have c2:=(uh kb).cell (i:=2) (v:= .slice a2 n2 p2) rfl;have c3:=(uh kb).cell (i:=3) (v:= .slice a3 n3 p3) rfl;go_wp2_with fail;clear c2 c3;refine (Draw.below_any a len cap bc 20 (by omega) (by omega) _ (uh Hs)).mono ?_;rintro e w1 ⟨y,rfl,y0,y1,s9,p9⟩;replace kb:=Z9 ((uh kb).same (p9.block _ (uh kb).lt (by omega)));replace kr:=Z9 ((uh kr).same (p9.block _ (uh kr).lt (by omega)));replace HO:=Z9 ((uh HO).trans p9);replace Hs:=Z9 s9;clear s9 p9;go_upto_region 4 with fail;have H0:Hid (Abox a len cap bc w (w1.alloc (.cells #[.int .i64 10,.int .i64 0,.int .i64 (1+y),.int .i64 0] 25)) w1.heap.size #[.slice a0 n0 p0,.slice a1 n1 p1,.slice a2 n2 p2,.slice a3 n3 p3,.slice a4 n4 p4,.int .i64 now] 10 0 (1+y) 0):=Z9 ⟨(uh Hs).alloc _,(uh HO).alloc _,(uh kb).alloc _,(uh kr).alloc _,Blk.new _ _ _,by have:=(uh kr).lt;omega,hbc,by simp only [List.mem_cons,List.not_mem_nil,or_false,forall_eq_or_imp,forall_eq];omega⟩;clear kb kr HO Hs;generalize w1.alloc (.cells #[.int .i64 10,.int .i64 0,.int .i64 (1+y),.int .i64 0] 25)=W1 at *;generalize w1.heap.size=tb at *;have H:Hid (∃ q0 q1 q2 q3:Int,Abox a len cap bc w W1 tb #[.slice a0 n0 p0,.slice a1 n1 p1,.slice a2 n2 p2,.slice a3 n3 p3,.slice a4 n4 p4,.int .i64 now] q0 q1 q2 q3):=Z9 ⟨10,0,1+y,0,uh H0⟩;clear H0 y0 y1
 go_cut [31] (fun s wc=> ∃ bq:Bool,s= .bool bq/\ ∃ q0 q1 q2 q3:Int,Abox a len cap bc w wc tb #[.slice a0 n0 p0,.slice a1 n1 p1,.slice a2 n2 p2,.slice a3 n3 p3,.slice a4 n4 p4,.int .i64 now] q0 q1 q2 q3)
 case first=>
  as_aux_lemma=>
    obtain ⟨q0,q1,q2,q3,hH⟩:=uh H;have HA:=Z9 hH;clear hH H;by_cases hc3:(n2:Int)<3
    ·
     go_wp2_with fail;refine ((uh HA).once 2).mono ?_;rintro e w11 ⟨bq,rfl,HA⟩;cases bq
     ·
      have hc9:(n2:Int)<9:=by omega
      go_wp2_with fail;refine ((uh HA).once 8).mono ?_;rintro e w12 ⟨b2,rfl,HA⟩;go_wp2_with fail;go_meet;exact ⟨_,rfl,_,_,_,_,uh HA⟩
     ·
      go_wp2_with fail;go_meet;exact ⟨_,rfl,_,_,_,_,uh HA⟩
    ·
     by_cases hc9:(n2:Int)<9
     ·
      go_wp2_with fail;refine ((uh HA).once 8).mono ?_;rintro e w13 ⟨b2,rfl,HA⟩;go_wp2_with fail;go_meet;exact ⟨_,rfl,_,_,_,_,uh HA⟩
     ·
      go_wp2_with fail;go_meet;exact ⟨_,rfl,_,_,_,_,uh HA⟩
 case rest=>
 obtain ⟨bq,rfl,hq⟩:=hcut;replace H:=Z9 hq;clear hq;obtain ⟨w5,rfl⟩:∃ x,x=wc:=⟨wc,rfl⟩
 cases bq;rotate_left
 ·
  obtain ⟨q0,q1,q2,q3,hH⟩:=uh H;have HA:=Z9 hH;clear hH H;go_wp2_with fail;refine ((uh HA).frm (-5) 5).mono ?_;rintro e w14 ⟨v1,rfl,v10,v11,HA⟩;go_wp2_with fail;refine ((uh HA).bel 15).mono ?_;rintro e w15 ⟨v2,rfl,v20,v21,HA⟩;go_wp2_with fail;refine ((uh HA).pck (n:=4) rfl (by simp [Qn];omega)).mono ?_;rintro e w16 ⟨v3,vv,rfl,v30,v31,hcell,vn0,vn1,HA⟩;obtain ⟨⟨o0,g0⟩,⟨o1,g1⟩,⟨o2,g2⟩,⟨o3,g3⟩⟩:=(uh HA).outs;go_wp2_with fail;refine Zz (v:= .agg #[.int .i64 1,.int .i64 0,.int .i64 v1,.int .i64 vv]) (by simp [results,results31,go_sem, *]) rfl ⟨1,0,v1,vv,rfl,by simp only [List.mem_cons,List.not_mem_nil,or_false,forall_eq_or_imp,forall_eq];omega,?_,?_⟩
  ·iterate 4 (refine St.newer ?_ (by omega) _ _)
   exact (uh HA).st
  ·iterate 4 (refine Off.newer ?_ (by omega) _ _)
   exact (uh HA).off
 go_upto_if 44 with fail
 go_cut [] (fun wc=> ∃ q0 q1 q2 q3:Int,Abox a len cap bc w wc tb #[.slice a0 n0 p0,.slice a1 n1 p1,.slice a2 n2 p2,.slice a3 n3 p3,.slice a4 n4 p4,.int .i64 now] q0 q1 q2 q3)
 case first=>
  as_aux_lemma=>
    obtain ⟨q0,q1,q2,q3,hH⟩:=uh H;have HA:=Z9 hH;clear hH H;by_cases hn0:0<(n2:Int)
    ·
     go_wp2_with fail;refine ((uh HA).bel (n2:Int)).mono ?_;rintro e w17 ⟨v1,rfl,v10,v11,HA⟩;obtain ⟨_,⟨c1,f1⟩,_⟩:=(uh HA).z;go_wp2_with fail;go_meet;exact ⟨_,_,_,_,(uh HA).set 1 v1 rfl⟩
    ·
     go_wp2_with fail;go_meet;exact ⟨_,_,_,_,(uh HA)⟩
 case rest=>
 replace H:=Z9 hcut;obtain ⟨w6,rfl⟩:∃ x,x=wc:=⟨wc,rfl⟩
 clear hcut;obtain ⟨q0,q1,q2,q3,hH⟩:=uh H;have HA:=Z9 hH;clear hH H;go_wp2_with fail;refine ((uh HA).bel 20).mono ?_;rintro e w18 ⟨yy,rfl,yy0,yy1,HA⟩;have H:Hid (∃ q0 q1 q2 q3:Int,Abox a len cap bc w w18 tb #[.slice a0 n0 p0,.slice a1 n1 p1,.slice a2 n2 p2,.slice a3 n3 p3,.slice a4 n4 p4,.int .i64 now] q0 q1 q2 q3):=Z9 ⟨_,_,_,_,uh HA⟩;clear HA
 go_upto_block 0 with fail
 go_cut [] (fun wc=> ∃ q0 q1 q2 q3:Int,Abox a len cap bc w wc tb #[.slice a0 n0 p0,.slice a1 n1 p1,.slice a2 n2 p2,.slice a3 n3 p3,.slice a4 n4 p4,.int .i64 now] q0 q1 q2 q3)
 case first=>
  as_aux_lemma=>
    obtain ⟨q0,q1,q2,q3,hH⟩:=uh H;have HA:=Z9 hH;clear hH H
    rcases (show yy=0\/yy=1\/yy=2\/yy=3\/yy=4\/yy=5\/yy=6\/yy=7\/yy=8\/yy=9\/yy=10\/yy=11\/yy=12\/yy=13\/14<=yy by omega) with rfl | rfl | rfl | rfl | rfl | rfl | rfl | rfl | rfl | rfl | rfl | rfl | rfl | rfl | hyy
    iterate 2
     ·
      obtain ⟨⟨c0,f0⟩,_⟩:=(uh HA).z;go_wp2_with fail;go_meet;exact ⟨_,_,_,_,(uh HA).set 0 2 rfl⟩
    iterate 3
     ·
      obtain ⟨⟨c0,f0⟩,_⟩:=(uh HA).z;go_wp2_with fail;go_meet;exact ⟨_,_,_,_,(uh HA).set 0 3 rfl⟩
    ·
     go_wp2_with fail;refine ((uh HA).once 3).mono ?_;rintro e w19 ⟨bq,rfl,HA⟩;cases bq
     ·
      go_wp2_with fail;go_meet;exact ⟨_,_,_,_,(uh HA)⟩
     ·
      obtain ⟨⟨c0,f0⟩,_⟩:=(uh HA).z;go_wp2_with fail;go_meet;exact ⟨_,_,_,_,(uh HA).set 0 4 rfl⟩
    ·
     obtain ⟨⟨c0,f0⟩,_⟩:=(uh HA).z;go_wp2_with fail;clear c0 f0;refine (((uh HA).set 0 5 rfl).frm (-5) 5).mono ?_;rintro e w20 ⟨v1,rfl,v10,v11,HA⟩;obtain ⟨_,_,⟨c2,f2⟩,_⟩:=(uh HA).z;go_wp2_with fail;go_meet;exact ⟨_,_,_,_,(uh HA).set 2 v1 rfl⟩
    ·
     obtain ⟨⟨c0,f0⟩,_⟩:=(uh HA).z;go_wp2_with fail;clear c0 f0;have hd:(2:Int) ^ ((n3:Int)).toNat=((2 ^ n3:Nat):Int):=by rw [Zl];push_cast;rfl
     have hp1:2 ^ 1<=2 ^ n3:=Nat.pow_le_pow_right (by omega) h3;have hp8:2 ^ n3<=2 ^ 8:=Nat.pow_le_pow_right (by omega) h3';obtain ⟨pw,hpw⟩:∃ q,q=2 ^ n3:=⟨_,rfl⟩
     rw [<-hpw] at hd hp1 hp8;have Hd:=Z9 hd;clear hd hpw;replace HA:=Z9 ((uh HA).set 0 6 rfl);refine (Uf (n3:Int) (by omega) (by omega) _).mono ?_;rw [uh Hd];rintro e wz ⟨rfl,hwz⟩;subst wz;go_wp2_with fail;refine ((uh HA).bel ((pw:Int)-1)).mono ?_;rintro e w21 ⟨v1,rfl,v10,v11,HA⟩;obtain ⟨_,_,⟨c2,f2⟩,_⟩:=(uh HA).z;go_wp2_with fail;go_meet;exact ⟨_,_,_,_,(uh HA).set 2 (1+v1) rfl⟩
    ·
     obtain ⟨⟨c0,f0⟩,_⟩:=(uh HA).z;go_wp2_with fail;clear c0 f0;refine (((uh HA).set 0 7 rfl).bel 400).mono ?_;rintro e w22 ⟨v1,rfl,v10,v11,HA⟩;obtain ⟨_,_,⟨c2,f2⟩,_⟩:=(uh HA).z;go_upto_region 28 with fail;clear c2 f2;replace HA:=Z9 ((uh HA).set 2 v1 rfl);obtain ⟨Wq,hWq⟩:∃ x,x=w22.setCell ⟨tb,2,none⟩ (.int .i64 v1):=⟨_,rfl⟩
     rw [<-hWq] at HA ⊢;clear hWq;have c2:=(uh HA).ka.cell (i:=2) (v:= .int .i64 v1) rfl;go_wp2_with fail;clear c2;refine ((uh HA).frm v1 1024).mono ?_;rintro e w23 ⟨v2,rfl,v20,v21,HA⟩;obtain ⟨_,_,_,⟨c3,f3⟩⟩:=(uh HA).z;go_wp2_with fail;go_meet;exact ⟨_,_,_,_,(uh HA).set 3 v2 rfl⟩
    ·
     go_wp2_with fail;refine ((uh HA).pck (n:=2) rfl rfl).mono ?_;rintro e w24 ⟨v1,vv,rfl,v10,v11,hcell,vn0,vn1,HA⟩;obtain ⟨⟨c0,f0⟩,_⟩:=(uh HA).z;go_wp2_with fail;clear c0 f0;clear hcell;refine (((uh HA).set 0 vv rfl).bel (n3:Int)).mono ?_;rintro e w25 ⟨v2,rfl,v20,v21,HA⟩;obtain ⟨_,_,⟨c2,f2⟩,_⟩:=(uh HA).z;go_wp2_with fail;go_meet;exact ⟨_,_,_,_,(uh HA).set 2 v2 rfl⟩
    ·
     obtain ⟨⟨c0,f0⟩,_⟩:=(uh HA).z;go_upto_region 34 with fail;clear c0 f0;replace HA:=Z9 ((uh HA).set 0 11 rfl);obtain ⟨Wq,hWq⟩:∃ x,x=w18.setCell ⟨tb,0,none⟩ (.int .i64 11):=⟨_,rfl⟩
     rw [<-hWq] at HA ⊢;clear hWq;have m4:=(uh HA).kb.cell (i:=4) (v:= .slice a4 n4 p4) rfl;go_wp2_with fail;clear m4;refine ((uh HA).bel (n4:Int)).mono ?_;rintro e w26 ⟨v1,rfl,v10,v11,HA⟩;obtain ⟨_,_,⟨c2,f2⟩,_⟩:=(uh HA).z;go_wp2_with fail;clear c2 f2;refine (((uh HA).set 2 v1 rfl).bel 3).mono ?_;rintro e w27 ⟨v2,rfl,v20,v21,HA⟩;obtain ⟨_,_,_,⟨c3,f3⟩⟩:=(uh HA).z;go_wp2_with fail;go_meet;exact ⟨_,_,_,_,(uh HA).set 3 v2 rfl⟩
    ·
     obtain ⟨⟨c0,f0⟩,_⟩:=(uh HA).z;go_wp2_with fail;go_meet;exact ⟨_,_,_,_,(uh HA).set 0 12 rfl⟩
    ·
     obtain ⟨⟨c0,f0⟩,_⟩:=(uh HA).z;go_wp2_with fail;go_meet;exact ⟨_,_,_,_,(uh HA).set 0 13 rfl⟩
    ·
     obtain ⟨⟨c0,f0⟩,_⟩:=(uh HA).z;go_upto_region 42 with fail;clear c0 f0;replace HA:=Z9 ((uh HA).set 0 14 rfl);obtain ⟨Wq,hWq⟩:∃ x,x=w18.setCell ⟨tb,0,none⟩ (.int .i64 14):=⟨_,rfl⟩
     rw [<-hWq] at HA ⊢;clear hWq;have m1:=(uh HA).kb.cell (i:=1) (v:= .slice a1 n1 p1) rfl;go_wp2_with fail;clear m1;refine ((uh HA).frm (-1) ((n1:Int)-1)).mono ?_;rintro e w28 ⟨v1,rfl,v10,v11,HA⟩;obtain ⟨_,_,⟨c2,f2⟩,_⟩:=(uh HA).z;go_wp2_with fail;go_meet;exact ⟨_,_,_,_,(uh HA).set 2 v1 rfl⟩
    ·
     have k0:(yy ==0)=false:=by simp;omega
     have j0:decide (yy=0)=false:=by simp;omega
     have k1:(yy ==1)=false:=by simp;omega
     have j1:decide (yy=1)=false:=by simp;omega
     have k2:(yy ==2)=false:=by simp;omega
     have j2:decide (yy=2)=false:=by simp;omega
     have k3:(yy ==3)=false:=by simp;omega
     have j3:decide (yy=3)=false:=by simp;omega
     have k4:(yy ==4)=false:=by simp;omega
     have j4:decide (yy=4)=false:=by simp;omega
     have k5:(yy ==5)=false:=by simp;omega
     have j5:decide (yy=5)=false:=by simp;omega
     have k6:(yy ==6)=false:=by simp;omega
     have j6:decide (yy=6)=false:=by simp;omega
     have k7:(yy ==7)=false:=by simp;omega
     have j7:decide (yy=7)=false:=by simp;omega
     have k8:(yy ==8)=false:=by simp;omega
     have j8:decide (yy=8)=false:=by simp;omega
     have k9:(yy ==9)=false:=by simp;omega
     have j9:decide (yy=9)=false:=by simp;omega
     have k10:(yy ==10)=false:=by simp;omega
     have j10:decide (yy=10)=false:=by simp;omega
     have k11:(yy ==11)=false:=by simp;omega
     have j11:decide (yy=11)=false:=by simp;omega
     have k12:(yy ==12)=false:=by simp;omega
     have j12:decide (yy=12)=false:=by simp;omega
     have k13:(yy ==13)=false:=by simp;omega
     have j13:decide (yy=13)=false:=by simp;omega
     go_wp2_with fail;go_meet;exact ⟨_,_,_,_,(uh HA)⟩
 case rest=>
 obtain ⟨q0,q1,q2,q3,hH⟩:=hcut;have HA:=Z9 hH;clear hH H;obtain ⟨w8,rfl⟩:∃ x,x=wc:=⟨wc,rfl⟩
 go_wp2_with fail;refine ((uh HA).once 40).mono ?_;rintro e w29 ⟨bq,rfl,HA⟩;have H:Hid (∃ q0 q1 q2 q3:Int,Abox a len cap bc w w29 tb #[.slice a0 n0 p0,.slice a1 n1 p1,.slice a2 n2 p2,.slice a3 n3 p3,.slice a4 n4 p4,.int .i64 now] q0 q1 q2 q3):=Z9 ⟨_,_,_,_,uh HA⟩;clear HA
 go_upto_if 133 with fail
 go_cut [] (fun wc=> ∃ q0 q1 q2 q3:Int,Abox a len cap bc w wc tb #[.slice a0 n0 p0,.slice a1 n1 p1,.slice a2 n2 p2,.slice a3 n3 p3,.slice a4 n4 p4,.int .i64 now] q0 q1 q2 q3)
 case first=>
  as_aux_lemma=>
    obtain ⟨q0,q1,q2,q3,hH⟩:=uh H;have HA:=Z9 hH;clear hH H;cases bq
    ·
     go_wp2_with fail;go_meet;exact ⟨_,_,_,_,(uh HA)⟩
    go_wp2_with fail;refine ((uh HA).bel 3).mono ?_;rintro e w30 ⟨v4,rfl,v40,v41,HA⟩
    rcases (show v4=0\/v4=1\/v4=2 by omega) with rfl | rfl | rfl
    ·
     go_wp2_with fail;refine ((uh HA).pck (n:=2) rfl rfl).mono ?_;rintro e w31 ⟨v5,vv,rfl,v50,v51,hcell,vn0,vn1,HA⟩;obtain ⟨⟨c0,f0⟩,_⟩:=(uh HA).z;go_wp2_with fail;go_meet;exact ⟨_,_,_,_,(uh HA).set 0 vv rfl⟩
    ·
     go_wp2_with fail;refine ((uh HA).pck (n:=2) rfl (by simp [Qn];omega)).mono ?_;rintro e w32 ⟨v5,vv,rfl,v50,v51,hcell,vn0,vn1,HA⟩;obtain ⟨_,⟨c1,f1⟩,_⟩:=(uh HA).z;go_wp2_with fail;go_meet;exact ⟨_,_,_,_,(uh HA).set 1 vv rfl⟩
    ·
     go_wp2_with fail;refine ((uh HA).pck (n:=2) rfl rfl).mono ?_;rintro e w33 ⟨v5,vv,rfl,v50,v51,hcell,vn0,vn1,HA⟩;obtain ⟨_,_,⟨c2,f2⟩,_⟩:=(uh HA).z;go_wp2_with fail;go_meet;exact ⟨_,_,_,_,(uh HA).set 2 vv rfl⟩
 case rest=>
 obtain ⟨q0,q1,q2,q3,hH⟩:=hcut;have HA:=Z9 hH;clear hH H;obtain ⟨⟨z0,_⟩,⟨z1,_⟩,⟨z2,_⟩,⟨z3,_⟩⟩:=(uh HA).z;obtain ⟨⟨o0,g0⟩,⟨o1,g1⟩,⟨o2,g2⟩,⟨o3,g3⟩⟩:=(uh HA).outs;have hlo:=(uh HA).lo;go_wp2_with fail;refine Zz (v:= .agg #[.int .i64 q0,.int .i64 q1,.int .i64 q2,.int .i64 q3]) (by simp [results,results31,go_sem, *]) rfl ⟨q0,q1,q2,q3,rfl,(uh HA).ok,?_,?_⟩
 ·iterate 4 (refine St.newer ?_ (by omega) _ _)
  exact (uh HA).st
 ·iterate 4 (refine Off.newer ?_ (by omega) _ _)
  exact (uh HA).off
end Go.Proofs.YtmdgokjeobnnaaaGreatDoor
