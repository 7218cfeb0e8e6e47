/- Part 16 of what the proof rests on. No condition but those that a theorem names. -/
import Derived.Test.YtmdgokjeobnnaaaGreatDoorXt07
import Derived.Test.YtmdgokjeobnnaaaGreatDoorXt11
import Derived.Deep.DeepCutAuto
import Derived.Deep.CutBlock
import Derived.RangeFuncNested
import Derived.RangeFuncBound
import Derived.RangeFuncCalls
import Derived.RangeFuncLeaves
import Derived.RangeFuncBox
import Derived.Shelf.Abstract
import Derived.Shelf.RegionOpen
import Derived.OwnWalkIn
import Derived.TacticsInMore
import Derived.LoopNIn
import Derived.LoopIn
set_option maxHeartbeats 8000000
set_option maxRecDepth 100000
namespace Go.Proofs.YtmdgokjeobnnaaaGreatDoor
open Go.ChangeShapes Go.WideShapes Go.ChangeAt Go.RowKit Go.Sort Go.Proofs.Tryz
open Draw (St Off Row Cur)
set_option linter.unusedVariables false
structure Sbox (a:Option Addr) (len cap bc:Nat) (w0:World) (R S:Nat) (cs:Array Value) (w:World):Prop where
 st:St a len cap bc w
 off:Off bc w0 w
 gt:bc<w0.heap.size
 hR:w0.heap.size<=R
 hS:w0.heap.size<=S
 ne:R ≠ S
 ko:Blk w R 79 E11
 kb:Blk w S 79 cs
section
variable {a : Option Addr} {len cap bc : Nat} {w0 w w' : World} {R S : Nat} {cs : Array Value}
theorem Sbox.step (h:Sbox a len cap bc w0 R S cs w) (hs:St a len cap bc w') (ho:Off bc w w'):Sbox a len cap bc w0 R S cs w':=by
 have h1:=h.gt;have h2:=h.hR;have h3:=h.hS;exact ⟨hs,h.off.trans ho,h.gt,h.hR,h.hS,h.ne,h.ko.same (ho.block R h.ko.lt (by omega)),h.kb.same (ho.block S h.kb.lt (by omega))⟩
theorem Sbox.alloc (h:Sbox a len cap bc w0 R S cs w) (o:Obj):Sbox a len cap bc w0 R S cs (w.alloc o):=h.step (h.st.alloc _) ((Off.refl _ _).alloc _)
theorem Sbox.fin (h:Sbox a len cap bc w0 R S cs w) (hb:Below w0.heap.size w w'):St a len cap bc w'/\Off bc w0 w':=by
 have h1:=h.gt;exact ⟨YY h.st (hb.mono (by omega)),X7 h.off hb⟩
theorem Sbox.put (h:Sbox a len cap bc w0 R S cs w) (i:Nat) (v:Value):Sbox a len cap bc w0 R S (cs.setIfInBounds i v) (w.setCell ⟨S,i,none⟩ v):=by
 have hb:Below w0.heap.size w (w.setCell ⟨S,i,none⟩ v):=(Z2 _ _).setCell (p:=⟨S,i,none⟩) h.hS v;obtain ⟨h1,h2⟩:=h.fin hb;exact ⟨h1,h2,h.gt,h.hR,h.hS,h.ne,h.ko.other (a:=⟨S,i,none⟩) h.ne v,h.kb.set i v⟩
theorem Gn (hs:St a len cap bc w) (ho:Off bc w0 w) (hbc:bc<w0.heap.size) (hb:Below w0.heap.size w w'):St a len cap bc w'/\Off bc w0 w':=⟨YY hs (hb.mono (by omega)),X7 ho hb⟩
end
theorem LV (a:Option Addr) (len cap bc:Nat) (w:World) (hs:St a len cap bc w) :
  Calls prog 58 #[.pointer (some ⟨bc,0,none⟩)] w fun e w'=> ∃ x:Z6,e= .returned (.agg (ZZ x).toArray)/\St a len cap bc w'/\Off bc w w':=by
 have Hs:=Z9 hs;have hbc:=Xs hs;clear hs;go_enter func58,ntmps58;go_wp2_with fail;refine (Draw.from_any a len cap bc 0 3 (by omega) (by omega) (by omega) _ ((uh Hs).alloc _)).mono ?_;rintro e w1 ⟨st,rfl,t0,t1,s1,p1⟩;have ko1:Blk w1 w.heap.size 79 E11:=(Blk.new w 79 E11).same (p1.block w.heap.size (by simp) (by omega));have hz1:w.heap.size<w1.heap.size:=ko1.lt;have H1:Hid (Sbox a len cap bc w w.heap.size w1.heap.size (I11 st 0 0 0 0 0 0 0 0 0 0) (w1.alloc (.cells (I11 st 0 0 0 0 0 0 0 0 0 0) 79))):=Z9 ⟨s1.alloc _,(((Off.refl _ _).alloc _).trans p1).alloc _,hbc,Z3 _,by omega,by omega,ko1.alloc _,Blk.new _ _ _⟩;have Hw1:=Z9 (And.intro s1 (((Off.refl bc w).alloc (.cells E11 79)).trans p1));clear s1 p1 Hs;by_cases hst:st=0
 ·subst hst
  have o0:=ko1.cell (i:=0) (v:= .int .i64 0) rfl;have of0:=ko1.free 0;have o1:=ko1.cell (i:=1) (v:= .int .i64 0) rfl;have of1:=ko1.free 1;have o2:=ko1.cell (i:=2) (v:= .int .i64 0) rfl;have of2:=ko1.free 2;have o3:=ko1.cell (i:=3) (v:= .int .i64 0) rfl;have of3:=ko1.free 3;have o4:=ko1.cell (i:=4) (v:= .int .i64 0) rfl;have of4:=ko1.free 4;have o5:=ko1.cell (i:=5) (v:= .int .i64 0) rfl;have of5:=ko1.free 5;have o6:=ko1.cell (i:=6) (v:= .int .i64 0) rfl;have of6:=ko1.free 6;have o7:=ko1.cell (i:=7) (v:= .int .i64 0) rfl;have of7:=ko1.free 7;have o8:=ko1.cell (i:=8) (v:= .int .i64 0) rfl;have of8:=ko1.free 8;have o9:=ko1.cell (i:=9) (v:= .int .i64 0) rfl;have of9:=ko1.free 9;have o10:=ko1.cell (i:=10) (v:= .int .i64 0) rfl;have of10:=ko1.free 10;clear ko1;go_wp2_with fail;refine Zz (v:= .agg E11) (by simp [results,results58,go_sem,o0,o1,o2,o3,o4,o5,o6,o7,o8,o9,o10,hz1]) rfl ⟨(0,0,0,0,0,0,0,0,0,0,0),rfl,?_⟩;obtain ⟨s1,p1⟩:=uh Hw1;refine Gn s1 p1 hbc ?_;refine Below.alloc ?_ (by simp;omega) _
  iterate 11 (refine YU ?_ (by simp) _)
  exact Z2 _ _
 ·have hst2:(st ==0)=false:=by simpa using hst
  clear Hw1 ko1;go_wp2_with fail;generalize w1.alloc (.cells (I11 st 0 0 0 0 0 0 0 0 0 0) 79)=W at *;generalize w1.heap.size=S at *;have H:=H1;clear H1;refine (Draw.below_any a len cap bc 4 (by omega) (by omega) _ (uh H).st).mono ?_;rintro e w2 ⟨be,rfl,be0,be1,s9,p9⟩;have X:=(uh H).step s9 p9;have H2:=Z9 X;have c1:=X.kb.cell (i:=1) (v:= .int .i64 0) rfl;have f1:=X.kb.free 1;clear s9 p9 X H;go_wp2_with fail;have H3:Hid (Sbox a len cap bc w w.heap.size S (I11 st be 0 0 0 0 0 0 0 0 0) (w2.setCell ⟨S,1,none⟩ (.int .i64 be))):=Z9 ((uh H2).put 1 (.int .i64 be));clear H2 c1 f1;generalize (w2.setCell ⟨S,1,none⟩ (.int .i64 be))=W9 at *;obtain ⟨W,rfl⟩:∃ W,W=W9:=⟨W9,rfl⟩
  have H:=H3;clear H3;refine (Draw.from_any a len cap bc (-5) 5 (by omega) (by omega) (by omega) _ (uh H).st).mono ?_;rintro e w2 ⟨rk,rfl,rk0,rk1,s9,p9⟩;have X:=(uh H).step s9 p9;have H2:=Z9 X;have c2:=X.kb.cell (i:=2) (v:= .int .i64 0) rfl;have f2:=X.kb.free 2;clear s9 p9 X H;go_wp2_with fail;have H3:Hid (Sbox a len cap bc w w.heap.size S (I11 st be rk 0 0 0 0 0 0 0 0) (w2.setCell ⟨S,2,none⟩ (.int .i64 rk))):=Z9 ((uh H2).put 2 (.int .i64 rk));clear H2 c2 f2;generalize (w2.setCell ⟨S,2,none⟩ (.int .i64 rk))=W9 at *;obtain ⟨W,rfl⟩:∃ W,W=W9:=⟨W9,rfl⟩
  have H:=H3;clear H3;refine (Draw.below_any a len cap bc 255 (by omega) (by omega) _ (uh H).st).mono ?_;rintro e w2 ⟨my,rfl,my0,my1,s9,p9⟩;have X:=(uh H).step s9 p9;have H2:=Z9 X;have c3:=X.kb.cell (i:=3) (v:= .int .i64 0) rfl;have f3:=X.kb.free 3;clear s9 p9 X H;go_wp2_with fail;have H3:Hid (Sbox a len cap bc w w.heap.size S (I11 st be rk (1+my) 0 0 0 0 0 0 0) (w2.setCell ⟨S,3,none⟩ (.int .i64 (1+my)))):=Z9 ((uh H2).put 3 (.int .i64 (1+my)));clear H2 c3 f3;generalize (w2.setCell ⟨S,3,none⟩ (.int .i64 (1+my)))=W9 at *;obtain ⟨W,rfl⟩:∃ W,W=W9:=⟨W9,rfl⟩
  have H:=H3;clear H3;refine (Draw.from_any a len cap bc (-1) 1 (by omega) (by omega) (by omega) _ (uh H).st).mono ?_;rintro e w2 ⟨gu,rfl,gu0,gu1,s9,p9⟩;have X:=(uh H).step s9 p9;have H2:=Z9 X;have c4:=X.kb.cell (i:=4) (v:= .int .i64 0) rfl;have f4:=X.kb.free 4;have c6:=X.kb.cell (i:=6) (v:= .int .i64 0) rfl;have f6:=X.kb.free 6;clear s9 p9 X H;go_wp2_with fail;have H3:Hid (Sbox a len cap bc w w.heap.size S (I11 st be rk (1+my) gu 0 1024 0 0 0 0) ((w2.setCell ⟨S,4,none⟩ (.int .i64 gu)).setCell ⟨S,6,none⟩ (.int .i64 1024))):=Z9 (((uh H2).put 4 (.int .i64 gu)).put 6 (.int .i64 1024));clear H2 c4 f4 c6 f6;generalize ((w2.setCell ⟨S,4,none⟩ (.int .i64 gu)).setCell ⟨S,6,none⟩ (.int .i64 1024))=W9 at *;obtain ⟨W,rfl⟩:∃ W,W=W9:=⟨W9,rfl⟩
  have H:=H3;clear H3;refine (Draw.once_any a len cap bc 3 (by omega) (by omega) _ (uh H).st).mono ?_;rintro e w6 ⟨b,rfl,s9,p9⟩;have H6:=Z9 ((uh H).step s9 p9);clear s9 p9 H;have hr:inB rk (-5) 5=true:=YJ rk0 rk1;have x0:=WA hr;have x1:=(Vj rk).2;obtain ⟨x,hx⟩:=ZE (Zf rk);rw [hx] at x0 x1;have Hx:=Z9 hx;clear hx hr;have H:=H6;clear H6
  go_upto_if 26 with fail
  go_cut [] (fun wc=> ∃ lo:Int,Sbox a len cap bc w w.heap.size S (I11 st be rk (1+my) gu lo 1024 0 0 0 0) wc)
  case first=>
   cases b
   ·go_wp2_with fail
    go_meet;exact ⟨0,uh H⟩
   ·go_wp2_with fail
    refine (Draw.below_any a len cap bc 500 (by omega) (by omega) _ (uh H).st).mono ?_;rintro e w2 ⟨lo,rfl,lo0,lo1,s9,p9⟩;have X:=(uh H).step s9 p9;have H2:=Z9 X;have c5:=X.kb.cell (i:=5) (v:= .int .i64 0) rfl;have f5:=X.kb.free 5;clear s9 p9 X H;go_wp2_with fail;go_meet;exact ⟨lo,(uh H2).put 5 (.int .i64 lo)⟩
  case rest=>
  obtain ⟨lo,hX⟩:=hcut;replace H:=Z9 hX;clear hX;go_wp2_with fail;refine (Draw.below_any a len cap bc 100000 (by omega) (by omega) _ (uh H).st).mono ?_;rintro e w2 ⟨hd,rfl,hd0,hd1,s9,p9⟩;have X:=(uh H).step s9 p9;have H2:=Z9 X;have c7:=X.kb.cell (i:=7) (v:= .int .i64 0) rfl;have f7:=X.kb.free 7;have c2:=X.kb.cell (i:=2) (v:= .int .i64 rk) rfl;clear s9 p9 X H;go_wp2_with fail;have H3:Hid (Sbox a len cap bc w w.heap.size S (I11 st be rk (1+my) gu lo 1024 (hd-20000) 0 0 0) (w2.setCell ⟨S,7,none⟩ (.int .i64 (hd-20000)))):=Z9 ((uh H2).put 7 (.int .i64 (hd-20000)));clear H2 c7 f7 c2;generalize (w2.setCell ⟨S,7,none⟩ (.int .i64 (hd-20000)))=W9 at *;obtain ⟨W,rfl⟩:∃ W,W=W9:=⟨W9,rfl⟩
  have H:=H3;clear H3;refine ck (YT (uh Hx) _) fun w9 h9=> ?_;subst w9;go_wp2_with fail;refine (Draw.below_any a len cap bc x (by omega) (by omega) _ (uh H).st).mono ?_;rintro e w2 ⟨ca,rfl,ca0,ca1,s9,p9⟩;have X:=(uh H).step s9 p9;have H2:=Z9 X;have c8:=X.kb.cell (i:=8) (v:= .int .i64 0) rfl;have f8:=X.kb.free 8;clear s9 p9 X H;go_wp2_with fail;have H3:Hid (Sbox a len cap bc w w.heap.size S (I11 st be rk (1+my) gu lo 1024 (hd-20000) ca 0 0) (w2.setCell ⟨S,8,none⟩ (.int .i64 ca))):=Z9 ((uh H2).put 8 (.int .i64 ca));clear H2 c8 f8;generalize (w2.setCell ⟨S,8,none⟩ (.int .i64 ca))=W9 at *;obtain ⟨W,rfl⟩:∃ W,W=W9:=⟨W9,rfl⟩
  have H:=H3;clear H3;refine (Draw.below_any a len cap bc 1025 (by omega) (by omega) _ (uh H).st).mono ?_;rintro e w2 ⟨ut,rfl,ut0,ut1,s9,p9⟩;have X:=(uh H).step s9 p9;have H2:=Z9 X;have c9:=X.kb.cell (i:=9) (v:= .int .i64 0) rfl;have f9:=X.kb.free 9;clear s9 p9 X H;go_wp2_with fail;have H3:Hid (Sbox a len cap bc w w.heap.size S (I11 st be rk (1+my) gu lo 1024 (hd-20000) ca ut 0) (w2.setCell ⟨S,9,none⟩ (.int .i64 ut))):=Z9 ((uh H2).put 9 (.int .i64 ut));clear H2 c9 f9;generalize (w2.setCell ⟨S,9,none⟩ (.int .i64 ut))=W9 at *;obtain ⟨W,rfl⟩:∃ W,W=W9:=⟨W9,rfl⟩
  have H:=H3;clear H3;refine (Draw.below_any a len cap bc 1000000 (by omega) (by omega) _ (uh H).st).mono ?_;rintro e w8 ⟨wk,rfl,wk0,wk1,s9,p9⟩;have X:=(uh H).step s9 p9;have H2:=Z9 X;obtain ⟨c0,c1,c2,c3,c4,c5,c6,c7,c8,c9,c10⟩:=X.kb.c11;have f10:=X.kb.free 10;have o0:=X.ko.cell (i:=0) (v:= .int .i64 0) rfl;have of0:=X.ko.free 0;have o1:=X.ko.cell (i:=1) (v:= .int .i64 0) rfl;have of1:=X.ko.free 1;have o2:=X.ko.cell (i:=2) (v:= .int .i64 0) rfl;have of2:=X.ko.free 2;have o3:=X.ko.cell (i:=3) (v:= .int .i64 0) rfl;have of3:=X.ko.free 3;have o4:=X.ko.cell (i:=4) (v:= .int .i64 0) rfl;have of4:=X.ko.free 4;have o5:=X.ko.cell (i:=5) (v:= .int .i64 0) rfl;have of5:=X.ko.free 5;have o6:=X.ko.cell (i:=6) (v:= .int .i64 0) rfl;have of6:=X.ko.free 6;have o7:=X.ko.cell (i:=7) (v:= .int .i64 0) rfl;have of7:=X.ko.free 7;have o8:=X.ko.cell (i:=8) (v:= .int .i64 0) rfl;have of8:=X.ko.free 8;have o9:=X.ko.cell (i:=9) (v:= .int .i64 0) rfl;have of9:=X.ko.free 9;have o10:=X.ko.cell (i:=10) (v:= .int .i64 0) rfl;have of10:=X.ko.free 10;have hne:¬ w.heap.size=S:=X.ne;have hne2:¬ S=w.heap.size:=fun h=>X.ne h.symm;have hS9:=X.hS;clear s9 p9 X H;go_wp2_with fail;refine Zz (v:= .agg (I11 st be rk (1+my) gu lo 1024 (hd-20000) ca ut wk)) (by simp [results,results58,go_sem,o0,o1,o2,o3,o4,o5,o6,o7,o8,o9,o10]) rfl ⟨(st,be,rk,(1+my),gu,lo,1024,(hd-20000),ca,ut,wk),rfl,?_⟩;refine (uh H2).fin ?_
  iterate 12 (refine YU ?_ (by first | (simp;done) | (simp;omega)) _)
  exact Z2 _ _
end Go.Proofs.YtmdgokjeobnnaaaGreatDoor
namespace Go.Proofs.YtmdgokjeobnnaaaGreatDoor
open Go.ChangeShapes Go.WideShapes Go.ChangeAt Go.RowKit Go.Sort Go.Proofs.Tryz
open Draw (St Off Row Cur)
set_option linter.unusedVariables false
theorem GR (x:Z6) (i:Nat) (v:Int):∃ y:Z6,(ZZ x).toArray.setIfInBounds i (.int .i64 v)=(ZZ y).toArray:=by
 obtain ⟨x0,x1,x2,x3,x4,x5,x6,x7,x8,x9,x10⟩:=x
 match i with
 | 0=>exact ⟨(v,x1,x2,x3,x4,x5,x6,x7,x8,x9,x10),rfl⟩
 | 1=>exact ⟨(x0,v,x2,x3,x4,x5,x6,x7,x8,x9,x10),rfl⟩
 | 2=>exact ⟨(x0,x1,v,x3,x4,x5,x6,x7,x8,x9,x10),rfl⟩
 | 3=>exact ⟨(x0,x1,x2,v,x4,x5,x6,x7,x8,x9,x10),rfl⟩
 | 4=>exact ⟨(x0,x1,x2,x3,v,x5,x6,x7,x8,x9,x10),rfl⟩
 | 5=>exact ⟨(x0,x1,x2,x3,x4,v,x6,x7,x8,x9,x10),rfl⟩
 | 6=>exact ⟨(x0,x1,x2,x3,x4,x5,v,x7,x8,x9,x10),rfl⟩
 | 7=>exact ⟨(x0,x1,x2,x3,x4,x5,x6,v,x8,x9,x10),rfl⟩
 | 8=>exact ⟨(x0,x1,x2,x3,x4,x5,x6,x7,v,x9,x10),rfl⟩
 | 9=>exact ⟨(x0,x1,x2,x3,x4,x5,x6,x7,x8,v,x10),rfl⟩
 | 10=>exact ⟨(x0,x1,x2,x3,x4,x5,x6,x7,x8,x9,v),rfl⟩
 | n+11=>exact ⟨(x0,x1,x2,x3,x4,x5,x6,x7,x8,x9,x10),by rw [Array.setIfInBounds,dif_neg (by simp [ZZ])]⟩
theorem Sbox.any {a:Option Addr} {len cap bc:Nat} {w0 w:World} {R S:Nat} {x:Z6} (h:Sbox a len cap bc w0 R S (ZZ x).toArray w) (i:Nat) (v:Int):∃ y,Sbox a len cap bc w0 R S (ZZ y).toArray (w.setCell ⟨S,i,none⟩ (.int .i64 v)):=by
 obtain ⟨y,hy⟩:=GR x i v;exact ⟨y,hy ▸ h.put i _⟩
theorem PO (a:Option Addr) (len cap bc:Nat) (w:World) (hs:St a len cap bc w) :
  Calls prog 40 #[.pointer (some ⟨bc,0,none⟩)] w fun e w'=> ∃ x:Z6,e= .returned (.agg (ZZ x).toArray)/\St a len cap bc w'/\Off bc w w':=by
 have Hs:=Z9 hs;have hbc:=Xs hs;clear hs;go_enter func40,ntmps40;go_wp2_with fail;refine (LV a len cap bc _ ((uh Hs).alloc _)).mono ?_;rintro e w1 ⟨⟨x0,x1,x2,x3,x4,x5,x6,x7,x8,x9,x10⟩,rfl,s1,p1⟩;have ko1:=(Blk.new w 79 E11).same (p1.block w.heap.size (by simp) (by omega));have hz1:=ko1.lt;have H1:Hid (Sbox a len cap bc w w.heap.size w1.heap.size (I11 x0 x1 x2 x3 x4 x5 x6 x7 x8 x9 x10) (w1.alloc (.cells (I11 x0 x1 x2 x3 x4 x5 x6 x7 x8 x9 x10) 79))):=Z9 ⟨s1.alloc _,(((Off.refl _ _).alloc _).trans p1).alloc _,hbc,Z3 _,by omega,by omega,ko1.alloc _,Blk.new _ _ _⟩;clear s1 p1 Hs ko1;simp only [ZZ];go_wp2_with fail;generalize w1.alloc (.cells (I11 x0 x1 x2 x3 x4 x5 x6 x7 x8 x9 x10) 79)=W at *;generalize w1.heap.size=S at *;refine (Draw.once_any a len cap bc 6 (by omega) (by omega) _ (uh H1).st).mono ?_;rintro e w2 ⟨b,rfl,s9,p9⟩;have H:Hid (∃ x,Sbox a len cap bc w w.heap.size S (ZZ x).toArray w2):=Z9 ⟨(x0,x1,x2,x3,x4,x5,x6,x7,x8,x9,x10),(uh H1).step s9 p9⟩;clear s9 p9 H1
 go_upto_if 7 with fail
 go_cut [] (fun wc=> ∃ x,Sbox a len cap bc w w.heap.size S (ZZ x).toArray wc)
 case first=>
  cases b
  ·go_wp2_with fail
   go_meet;exact uh H
  obtain ⟨x,hX⟩:=uh H;replace H:=Z9 hX;clear hX;go_wp2_with fail;refine (Draw.below_any a len cap bc 8 (by omega) (by omega) _ (uh H).st).mono ?_;rintro e w3 ⟨y,rfl,y0,y1,s9,p9⟩;replace H:=Z9 ((uh H).step s9 p9);clear s9 p9
  rcases (show y=0\/y=1\/y=2\/y=3\/y=4\/y=5\/y=6\/y=7 by omega) with rfl | rfl | rfl | rfl | rfl | rfl | rfl | rfl
  all_goals
   clear y0 y1;go_wp2_with fail
   first
   | (refine Calls.mono (Draw.from_any a len cap bc _ _ (by omega) (by omega) (by omega) _ (uh H).st) ?_;rintro e w4 ⟨v,rfl,v0,v1,s9,p9⟩;replace H:=Z9 ((uh H).step s9 p9))
   | (refine Calls.mono (Draw.drawForce_any a len cap bc _ (uh H).st) ?_;rintro e w4 ⟨v,rfl,s9,p9⟩;replace H:=Z9 ((uh H).step s9 p9))
   | (refine Calls.mono (Draw.below_any a len cap bc _ (by omega) (by omega) _ ((uh H).alloc _).st) ?_;rintro e w4 ⟨j,rfl,j0,j1,s9,p9⟩;obtain ⟨v,hcell⟩:=Kg p9 (Xs (uh H).st) j0 j1 rfl;replace H:=Z9 (((uh H).alloc _).step s9 p9))
   clear s9 p9;obtain ⟨x0,x1,x2,x3,x4,x5,x6,x7,x8,x9,x10⟩:=x;have X:=uh H;have c0:=X.kb.cell (i:=0) (v:= .int .i64 x0) rfl;have f0:=X.kb.free 0;have c1:=X.kb.cell (i:=1) (v:= .int .i64 x1) rfl;have f1:=X.kb.free 1;have c2:=X.kb.cell (i:=2) (v:= .int .i64 x2) rfl;have f2:=X.kb.free 2;have c3:=X.kb.cell (i:=3) (v:= .int .i64 x3) rfl;have f3:=X.kb.free 3;have c4:=X.kb.cell (i:=4) (v:= .int .i64 x4) rfl;have f4:=X.kb.free 4;have c5:=X.kb.cell (i:=5) (v:= .int .i64 x5) rfl;have f5:=X.kb.free 5;have c6:=X.kb.cell (i:=6) (v:= .int .i64 x6) rfl;have f6:=X.kb.free 6;have c7:=X.kb.cell (i:=7) (v:= .int .i64 x7) rfl;have f7:=X.kb.free 7;have c8:=X.kb.cell (i:=8) (v:= .int .i64 x8) rfl;have f8:=X.kb.free 8;have c9:=X.kb.cell (i:=9) (v:= .int .i64 x9) rfl;have f9:=X.kb.free 9;have c10:=X.kb.cell (i:=10) (v:= .int .i64 x10) rfl;have f10:=X.kb.free 10;clear X;go_wp2_with fail;go_meet;exact (uh H).any _ _
 case rest=>
 obtain ⟨⟨x0,x1,x2,x3,x4,x5,x6,x7,x8,x9,x10⟩,X⟩:=hcut;have H2:=Z9 X;have c0:=X.kb.cell (i:=0) (v:= .int .i64 x0) rfl;have o0:=X.ko.cell (i:=0) (v:= .int .i64 0) rfl;have of0:=X.ko.free 0;have c1:=X.kb.cell (i:=1) (v:= .int .i64 x1) rfl;have o1:=X.ko.cell (i:=1) (v:= .int .i64 0) rfl;have of1:=X.ko.free 1;have c2:=X.kb.cell (i:=2) (v:= .int .i64 x2) rfl;have o2:=X.ko.cell (i:=2) (v:= .int .i64 0) rfl;have of2:=X.ko.free 2;have c3:=X.kb.cell (i:=3) (v:= .int .i64 x3) rfl;have o3:=X.ko.cell (i:=3) (v:= .int .i64 0) rfl;have of3:=X.ko.free 3;have c4:=X.kb.cell (i:=4) (v:= .int .i64 x4) rfl;have o4:=X.ko.cell (i:=4) (v:= .int .i64 0) rfl;have of4:=X.ko.free 4;have c5:=X.kb.cell (i:=5) (v:= .int .i64 x5) rfl;have o5:=X.ko.cell (i:=5) (v:= .int .i64 0) rfl;have of5:=X.ko.free 5;have c6:=X.kb.cell (i:=6) (v:= .int .i64 x6) rfl;have o6:=X.ko.cell (i:=6) (v:= .int .i64 0) rfl;have of6:=X.ko.free 6;have c7:=X.kb.cell (i:=7) (v:= .int .i64 x7) rfl;have o7:=X.ko.cell (i:=7) (v:= .int .i64 0) rfl;have of7:=X.ko.free 7;have c8:=X.kb.cell (i:=8) (v:= .int .i64 x8) rfl;have o8:=X.ko.cell (i:=8) (v:= .int .i64 0) rfl;have of8:=X.ko.free 8;have c9:=X.kb.cell (i:=9) (v:= .int .i64 x9) rfl;have o9:=X.ko.cell (i:=9) (v:= .int .i64 0) rfl;have of9:=X.ko.free 9;have c10:=X.kb.cell (i:=10) (v:= .int .i64 x10) rfl;have o10:=X.ko.cell (i:=10) (v:= .int .i64 0) rfl;have of10:=X.ko.free 10;have hne:¬ w.heap.size=S:=X.ne;have hne2:¬ S=w.heap.size:=fun h=>X.ne h.symm;have hS9:=X.hS;clear X H;go_wp2_with fail;refine Zz (v:= .agg (I11 x0 x1 x2 x3 x4 x5 x6 x7 x8 x9 x10)) (by simp [results,results40,go_sem,o0,o1,o2,o3,o4,o5,o6,o7,o8,o9,o10]) rfl ⟨(x0,x1,x2,x3,x4,x5,x6,x7,x8,x9,x10),rfl,?_⟩;refine (uh H2).fin ?_
 iterate 11 (refine YU ?_ (by first | (simp;done) | (simp;omega)) _)
 exact Z2 _ _
end Go.Proofs.YtmdgokjeobnnaaaGreatDoor
