/- Part 10 of what the proof rests on. No condition but those that a theorem names. -/
import Derived.Test.YtgdpaigcmoifbaaGreatDoorXr03
import Derived.Test.YtgdpaigcmoifbaaGreatDoorXr05
import Derived.Deep.Fields
import Derived.Deep.Slices
import Derived.Deep.SlicePairs
set_option maxHeartbeats 8000000
set_option maxRecDepth 100000
namespace Go.Proofs.YtgdpaigcmoifbaaGreatDoor
open Go.ChangeShapes Go.WideShapes Go.ChangeAt Go.RowKit Go.Sort Go.Proofs.Tryz
set_option linter.unusedVariables false
abbrev ZZ:=Int × Int × Int × Int × Int × Int × Int × Int × Int × Int × Int
def Zz (p:ZZ):List Value:=[.int .i64 p.1,.int .i64 p.2.1,.int .i64 p.2.2.1,.int .i64 p.2.2.2.1,.int .i64 p.2.2.2.2.1,.int .i64 p.2.2.2.2.2.1,.int .i64 p.2.2.2.2.2.2.1,.int .i64 p.2.2.2.2.2.2.2.1,.int .i64 p.2.2.2.2.2.2.2.2.1,.int .i64 p.2.2.2.2.2.2.2.2.2.1,.int .i64 p.2.2.2.2.2.2.2.2.2.2]
theorem ZV (p:ZZ):(Zz p).length=11:=rfl
abbrev YZ (w:World) (v:Value) (ps:List ZZ):Prop:=IsRec 11 Zz w v ps
abbrev SmithsAt (n₀:Nat) (w:World) (v:Value) (ps:List ZZ):Prop:=RecAt 59 11 Zz n₀ w v ps
theorem Fy:(prog.info? 59).map (fun i=>(i.zero,i.size,i.bytes))=some (some (.agg #[.int .i64 0,.int .i64 0,.int .i64 0,.int .i64 0,.int .i64 0,.int .i64 0,.int .i64 0,.int .i64 0,.int .i64 0,.int .i64 0,.int .i64 0]),11,88):=by kernel_rfl
theorem SmithsAt.list {n₀:Nat} {w:World} {v:Value} {ps:List ZZ} (h:SmithsAt n₀ w v ps):YZ w v ps:=RecAt.recs ZV (by omega) h
theorem ZB {w:World} {b off:Nat} {ps:List ZZ} (h:∀ j,j<ps.length-> ∀ i u,(Zz (Z8 ps j))[i]?=some u->w.cell? ⟨b,off+j*11+i,none⟩=some u) {j:Nat} (hj:j<ps.length) :
  w.cell? ⟨b,off+j*11,none⟩=some (.int .i64 (Z8 ps j).1)/\w.cell? ⟨b,off+j*11+1,none⟩=some (.int .i64 (Z8 ps j).2.1)/\w.cell? ⟨b,off+j*11+2,none⟩=some (.int .i64 (Z8 ps j).2.2.1)/\w.cell? ⟨b,off+j*11+3,none⟩=some (.int .i64 (Z8 ps j).2.2.2.1)/\w.cell? ⟨b,off+j*11+4,none⟩=some (.int .i64 (Z8 ps j).2.2.2.2.1)/\w.cell? ⟨b,off+j*11+5,none⟩=some (.int .i64 (Z8 ps j).2.2.2.2.2.1)/\w.cell? ⟨b,off+j*11+6,none⟩=some (.int .i64 (Z8 ps j).2.2.2.2.2.2.1)/\w.cell? ⟨b,off+j*11+7,none⟩=some (.int .i64 (Z8 ps j).2.2.2.2.2.2.2.1)/\w.cell? ⟨b,off+j*11+8,none⟩=some (.int .i64 (Z8 ps j).2.2.2.2.2.2.2.2.1)/\w.cell? ⟨b,off+j*11+9,none⟩=some (.int .i64 (Z8 ps j).2.2.2.2.2.2.2.2.2.1)/\w.cell? ⟨b,off+j*11+10,none⟩=some (.int .i64 (Z8 ps j).2.2.2.2.2.2.2.2.2.2):=
 ⟨h j hj 0 _ rfl,h j hj 1 _ rfl,h j hj 2 _ rfl,h j hj 3 _ rfl,h j hj 4 _ rfl,h j hj 5 _ rfl,h j hj 6 _ rfl,h j hj 7 _ rfl,h j hj 8 _ rfl,h j hj 9 _ rfl,h j hj 10 _ rfl⟩
theorem MA (a:Option Addr) (n cap:Nat) (left:Int) (hn:n<=9223372036854775807) (h0:0<=left) (h1:left<=1048576) (w:World) :
  cE 22 #[.slice a n cap,.int .i64 left] w (.int .i64 (szV n left)):=by
 by_cases h:left-n<0
 all_goals
  go_enter func22,ntmps22
  go_wp2
  go_ret;exact ⟨ZQ (by first | exact (TP (by omega)).symm | exact (TQ (by omega)).symm),rfl⟩
theorem JL (x0:Int) (x1:Int) (x2:Int) (x3:Int) (x4:Int) (x5:Int) (x6:Int) (x7:Int) (x8:Int) (x9:Int) (x10:Int) (w:World) :
  cB 85 #[.agg #[.int .i64 x0,.int .i64 x1,.int .i64 x2,.int .i64 x3,.int .i64 x4,.int .i64 x5,.int .i64 x6,.int .i64 x7,.int .i64 x8,.int .i64 x9,.int .i64 x10],.agg #[.int .i64 x0,.int .i64 x1,.int .i64 x2,.int .i64 x3,.int .i64 x4,.int .i64 x5,.int .i64 x6,.int .i64 x7,.int .i64 x8,.int .i64 x9,.int .i64 x10]] w (.bool true):=by
 go_enter func85,ntmps85;go_wp2_with fail;go_ret;exact ⟨rfl,((ba _ _)).alloc (by simp) _⟩
theorem LI {w:World} {v u:Value} {ps:List ZZ} (hv:YZ w v ps) (hu:YZ w u ps) :
  cB 42 #[v,u] w (.bool true):=by
 obtain ⟨a,cap,rfl,hc,hm,hr⟩:=hv;obtain ⟨a',cap',rfl,hc',hm',hr'⟩:=hu;have Hr:=Z9 hr;have Hr':=Z9 hr';clear hr hr';go_enter func42,ntmps42;go_wp2_with fail
 go_loopw [5] (fun i wr=> ∃ k:Nat,k<=ps.length/\i= .int .i64 k/\Below w.heap.size w wr) (fun i _=>ps.length-(intOf i).toNat)
 case atStart=>exact ⟨0,ZR _,rfl,Z0 _ _⟩
 case round=>
  obtain ⟨k,hk,rfl,hb⟩:=hrel;have Hb:=Z9 hb;by_cases hlt:k<ps.length
  ·rcases uh Hr with h0 | ⟨b,off,rfl,hbw,hcl⟩
   ·rw [h0] at hlt;simp at hlt
   rcases uh Hr' with h0 | ⟨b',off',rfl,hbw',hcl'⟩
   ·rw [h0] at hlt;simp at hlt
   obtain ⟨c0,c1,c2,c3,c4,c5,c6,c7,c8,c9,c10⟩:=ZB hcl hlt;obtain ⟨d0,d1,d2,d3,d4,d5,d6,d7,d8,d9,d10⟩:=ZB hcl' hlt;generalize Z8 ps k=p at *;obtain ⟨x0,x1,x2,x3,x4,x5,x6,x7,x8,x9,x10⟩:=p;simp only at c0 c1 c2 c3 c4 c5 c6 c7 c8 c9 c10 d0 d1 d2 d3 d4 d5 d6 d7 d8 d9 d10;have k0:=Z1 ((hb.cell (p:=⟨b,off+k*11,none⟩) hbw).trans c0);have m0:=Z1 ((hb.cell (p:=⟨b',off'+k*11,none⟩) hbw').trans d0);have k1:=Z1 ((hb.cell (p:=⟨b,off+k*11+1,none⟩) hbw).trans c1);have m1:=Z1 ((hb.cell (p:=⟨b',off'+k*11+1,none⟩) hbw').trans d1);have k2:=Z1 ((hb.cell (p:=⟨b,off+k*11+2,none⟩) hbw).trans c2);have m2:=Z1 ((hb.cell (p:=⟨b',off'+k*11+2,none⟩) hbw').trans d2);have k3:=Z1 ((hb.cell (p:=⟨b,off+k*11+3,none⟩) hbw).trans c3);have m3:=Z1 ((hb.cell (p:=⟨b',off'+k*11+3,none⟩) hbw').trans d3);have k4:=Z1 ((hb.cell (p:=⟨b,off+k*11+4,none⟩) hbw).trans c4);have m4:=Z1 ((hb.cell (p:=⟨b',off'+k*11+4,none⟩) hbw').trans d4);have k5:=Z1 ((hb.cell (p:=⟨b,off+k*11+5,none⟩) hbw).trans c5);have m5:=Z1 ((hb.cell (p:=⟨b',off'+k*11+5,none⟩) hbw').trans d5);have k6:=Z1 ((hb.cell (p:=⟨b,off+k*11+6,none⟩) hbw).trans c6);have m6:=Z1 ((hb.cell (p:=⟨b',off'+k*11+6,none⟩) hbw').trans d6);have k7:=Z1 ((hb.cell (p:=⟨b,off+k*11+7,none⟩) hbw).trans c7);have m7:=Z1 ((hb.cell (p:=⟨b',off'+k*11+7,none⟩) hbw').trans d7);have k8:=Z1 ((hb.cell (p:=⟨b,off+k*11+8,none⟩) hbw).trans c8);have m8:=Z1 ((hb.cell (p:=⟨b',off'+k*11+8,none⟩) hbw').trans d8);have k9:=Z1 ((hb.cell (p:=⟨b,off+k*11+9,none⟩) hbw).trans c9);have m9:=Z1 ((hb.cell (p:=⟨b',off'+k*11+9,none⟩) hbw').trans d9);have k10:=Z1 ((hb.cell (p:=⟨b,off+k*11+10,none⟩) hbw).trans c10);have m10:=Z1 ((hb.cell (p:=⟨b',off'+k*11+10,none⟩) hbw').trans d10);clear hcl hcl' hb c0 c1 c2 c3 c4 c5 c6 c7 c8 c9 c10 d0 d1 d2 d3 d4 d5 d6 d7 d8 d9 d10;go_wp2_with fail;refine wq ?_
   repeat (go_big_quiet_step (exact ZX (JL _ _ _ _ _ _ _ _ _ _ _ _)))
   refine wpQuiet_nil ?_;intro _ hw';obtain ⟨⟨dq,osq⟩,hw''⟩:=hw';subst hw'';go_wp2_with fail;go_roundw
   case rel=>exact ⟨k+1,by omega,by go_num,(uh Hb).trans ((Z2 _ _ _).mono (uh Hb).size)⟩
   case measure=>exact ms
  ·go_wp2_with fail
   go_ret;exact ⟨rfl,hb⟩
theorem K8 (x0:Int) (x1:Int) (x2:Int) (x3:Int) (x4:Int) (x5:Int) (x6:Int) (x7:Int) (x8:Int) (x9:Int) (x10:Int) (w:World) :
  cB 74 #[.agg #[.int .i64 x0,.int .i64 x1,.int .i64 x2,.int .i64 x3,.int .i64 x4,.int .i64 x5,.int .i64 x6,.int .i64 x7,.int .i64 x8,.int .i64 x9,.int .i64 x10]] w (.agg #[.int .i64 x0,.int .i64 x1,.int .i64 x2,.int .i64 x3,.int .i64 x4,.int .i64 x5,.int .i64 x6,.int .i64 x7,.int .i64 x8,.int .i64 x9,.int .i64 x10]):=by
 go_enter func74,ntmps74;go_wp2_with fail;exact Y7 (v:= .agg #[.int .i64 x0,.int .i64 x1,.int .i64 x2,.int .i64 x3,.int .i64 x4,.int .i64 x5,.int .i64 x6,.int .i64 x7,.int .i64 x8,.int .i64 x9,.int .i64 x10]) (by simp [results,results74,go_sem]) rfl ⟨rfl,(((ba _ _)).alloc (by simp) _).alloc (by simp;omega) _⟩
theorem RF {w:World} {v:Value} {ps:List ZZ} (h:YZ w v ps) (hs:ps.length<=1048576) :
  Calls prog 33 #[v] w fun e w'=> ∃ v',e= .returned v'/\SmithsAt w.heap.size w' v' ps/\Below w.heap.size w w':=by
 obtain ⟨a,cap,rfl,hc,hm,hr⟩:=h;have Hr:=Z9 hr;clear hr;obtain ⟨i0,hi,hz0,hz1,hz2⟩:=info_parts Fy;go_enter func33,ntmps33;go_wp2_with (at_make;refine wpList_make_full _ rfl _ _ 36 rfl w.heap.size 59 i0 (.agg #[.int .i64 0,.int .i64 0,.int .i64 0,.int .i64 0,.int .i64 0,.int .i64 0,.int .i64 0,.int .i64 0,.int .i64 0,.int .i64 0,.int .i64 0]) 11 underlying36 hi hz0 hz1 _ _ _ _ ps.length rfl rfl rfl rfl (by rw [hz2];omega) (by unfold maxLen;omega) (ZY _) ?_;intro w0 hown hgrow)
 have Hown:Hid (SmithsAt w.heap.size w0 (.slice (some ⟨w.heap.size,0,none⟩) ps.length ps.length) (WI ps (0,0,0,0,0,0,0,0,0,0,0) 0)):=Z9 (by
  rw [SF ZV (by omega) (0,0,0,0,0,0,0,0,0,0,0) (Value.agg #[.int .i64 0,.int .i64 0,.int .i64 0,.int .i64 0,.int .i64 0,.int .i64 0,.int .i64 0,.int .i64 0,.int .i64 0,.int .i64 0,.int .i64 0]).cells rfl ps.length] at hown;rw [T0];show w0.ownsRow _ _ _ _ (List.replicate ps.length _).length _;rw [List.length_replicate]
  exact hown)
 have Hgr:=Z9 hgrow;clear hown hgrow
 go_loopw [4] (fun i wr=> ∃ k:Nat,k<=ps.length/\i= .int .i64 k/\SmithsAt w.heap.size wr (.slice (some ⟨w.heap.size,0,none⟩) ps.length ps.length) (WI ps (0,0,0,0,0,0,0,0,0,0,0) k)/\Below w.heap.size w wr) (fun i _=>ps.length-(intOf i).toNat)
 case atStart=>exact ⟨0,ZR _,rfl,uh Hown,(Z0 _ _).grown (uh Hgr) (ZY _) (fun k e=>by cases e)⟩
 case round=>
  obtain ⟨k,hk,rfl,hown,hb⟩:=hrel;have Hb:=Z9 hb;by_cases hlt:k<ps.length
  ·rcases uh Hr with h0 | ⟨b,off,rfl,hbw,hcl⟩
   ·rw [h0] at hlt;simp at hlt
   obtain ⟨c0,c1,c2,c3,c4,c5,c6,c7,c8,c9,c10⟩:=ZB hcl hlt;rw [<-hb.cell (p:=⟨b,off+k*11,none⟩) hbw] at c0;rw [<-hb.cell (p:=⟨b,off+k*11+1,none⟩) hbw] at c1;rw [<-hb.cell (p:=⟨b,off+k*11+2,none⟩) hbw] at c2;rw [<-hb.cell (p:=⟨b,off+k*11+3,none⟩) hbw] at c3;rw [<-hb.cell (p:=⟨b,off+k*11+4,none⟩) hbw] at c4;rw [<-hb.cell (p:=⟨b,off+k*11+5,none⟩) hbw] at c5;rw [<-hb.cell (p:=⟨b,off+k*11+6,none⟩) hbw] at c6;rw [<-hb.cell (p:=⟨b,off+k*11+7,none⟩) hbw] at c7;rw [<-hb.cell (p:=⟨b,off+k*11+8,none⟩) hbw] at c8;rw [<-hb.cell (p:=⟨b,off+k*11+9,none⟩) hbw] at c9;rw [<-hb.cell (p:=⟨b,off+k*11+10,none⟩) hbw] at c10;have Ho:=Z9 hown;have HS:=Z9 (Sx (z:=((0,0,0,0,0,0,0,0,0,0,0):ZZ)) hlt);generalize hp:Z8 ps k=p at *;obtain ⟨x0,x1,x2,x3,x4,x5,x6,x7,x8,x9,x10⟩:=p;simp only at c0 c1 c2 c3 c4 c5 c6 c7 c8 c9 c10;clear hcl hb hown hp;go_wp2_with fail;refine ck (K8 _ _ _ _ _ _ _ _ _ _ _ _) fun w1 hb1=> ?_;have ho1:=RecAt.later (uh Ho) hb1;have hfl:=Sw (z:=((0,0,0,0,0,0,0,0,0,0,0):ZZ)) hk;obtain ⟨g,hg,_,_,hcells,hfz⟩:=RecAt.view ZV (by omega) ho1 hfl.symm (by omega);cases hg;have hq:=fun i u hu=>hcells k (by omega) i u hu;generalize Z8 (WI ps (0,0,0,0,0,0,0,0,0,0,0) k) k=old at hq;have o0:=hq 0 _ rfl;have f0:=hfz (k*11);have o1:=hq 1 _ rfl;have f1:=hfz (k*11+1);have o2:=hq 2 _ rfl;have f2:=hfz (k*11+2);have o3:=hq 3 _ rfl;have f3:=hfz (k*11+3);have o4:=hq 4 _ rfl;have f4:=hfz (k*11+4);have o5:=hq 5 _ rfl;have f5:=hfz (k*11+5);have o6:=hq 6 _ rfl;have f6:=hfz (k*11+6);have o7:=hq 7 _ rfl;have f7:=hfz (k*11+7);have o8:=hq 8 _ rfl;have f8:=hfz (k*11+8);have o9:=hq 9 _ rfl;have f9:=hfz (k*11+9);have o10:=hq 10 _ rfl;have f10:=hfz (k*11+10);simp only [Nat.add_zero] at o0;have Hp2:=Z9 (RecAt.put ZV (by omega) ho1 hfl.symm (j:=k) (by omega) (x0,x1,x2,x3,x4,x5,x6,x7,x8,x9,x10));have Hb1:=Z9 hb1;have hsz:=hb1.size;have hsz0:=(uh Hb).size;clear ho1 hb1 hcells hq hfz hfl;go_wp2_with fail;go_roundw
   case rel=>exact ⟨k+1,by omega,by go_num,by have h9:=(uh Hp2).1;rw [uh HS] at h9;exact h9,((uh Hb).trans ((uh Hb1).mono hsz0)).trans (XR (uh Hp2).2 (ZY _) (by omega))⟩
   case measure=>exact ms
  ·obtain rfl:k=ps.length:=by omega
   rw [Sv] at hown;go_wp2_with fail;go_ret;exact ⟨_,rfl,hown,hb⟩
theorem EF {w:World} {g o:Nat} {x:ZZ} (h:∀ i u,(Zz x)[i]?=some u->w.cell? ⟨g,o+i,none⟩=some u):w.cell? ⟨g,o+0,none⟩=some (.int .i64 x.1)/\w.cell? ⟨g,o+1,none⟩=some (.int .i64 x.2.1)/\w.cell? ⟨g,o+2,none⟩=some (.int .i64 x.2.2.1)/\w.cell? ⟨g,o+3,none⟩=some (.int .i64 x.2.2.2.1)/\w.cell? ⟨g,o+4,none⟩=some (.int .i64 x.2.2.2.2.1)/\w.cell? ⟨g,o+5,none⟩=some (.int .i64 x.2.2.2.2.2.1)/\w.cell? ⟨g,o+6,none⟩=some (.int .i64 x.2.2.2.2.2.2.1)/\w.cell? ⟨g,o+7,none⟩=some (.int .i64 x.2.2.2.2.2.2.2.1)/\w.cell? ⟨g,o+8,none⟩=some (.int .i64 x.2.2.2.2.2.2.2.2.1)/\w.cell? ⟨g,o+9,none⟩=some (.int .i64 x.2.2.2.2.2.2.2.2.2.1)/\w.cell? ⟨g,o+10,none⟩=some (.int .i64 x.2.2.2.2.2.2.2.2.2.2):=⟨h 0 _ rfl,h 1 _ rfl,h 2 _ rfl,h 3 _ rfl,h 4 _ rfl,h 5 _ rfl,h 6 _ rfl,h 7 _ rfl,h 8 _ rfl,h 9 _ rfl,h 10 _ rfl⟩
theorem Ce {w:World} {g:Nat} (h:∀ o,w.frozen? ⟨g,o,none⟩=false) (o:Nat):w.frozen? ⟨g,o+0,none⟩=false/\w.frozen? ⟨g,o+1,none⟩=false/\w.frozen? ⟨g,o+2,none⟩=false/\w.frozen? ⟨g,o+3,none⟩=false/\w.frozen? ⟨g,o+4,none⟩=false/\w.frozen? ⟨g,o+5,none⟩=false/\w.frozen? ⟨g,o+6,none⟩=false/\w.frozen? ⟨g,o+7,none⟩=false/\w.frozen? ⟨g,o+8,none⟩=false/\w.frozen? ⟨g,o+9,none⟩=false/\w.frozen? ⟨g,o+10,none⟩=false:=⟨h _,h _,h _,h _,h _,h _,h _,h _,h _,h _,h _⟩
theorem Cd {w:World} {g:Nat} (h:∀ o,w.frozen? ⟨g,o,none⟩=false) (o:Nat):w.frozen? ⟨g,o,none⟩=false/\w.frozen? ⟨g,o+1,none⟩=false/\w.frozen? ⟨g,o+2,none⟩=false/\w.frozen? ⟨g,o+3,none⟩=false/\w.frozen? ⟨g,o+4,none⟩=false/\w.frozen? ⟨g,o+5,none⟩=false/\w.frozen? ⟨g,o+6,none⟩=false/\w.frozen? ⟨g,o+7,none⟩=false/\w.frozen? ⟨g,o+8,none⟩=false/\w.frozen? ⟨g,o+9,none⟩=false/\w.frozen? ⟨g,o+10,none⟩=false:=Ce h o
open Go.ChangeShapes Go.WideShapes Go.ChangeAt Go.RowKit Go.Deep
section
variable {α : Type} {k : Nat} {enc : α → List Value} {H : Type} {en : TypeId × Value → H} {P : Program} {w : World} {base : Nat} {spare : Nat → Bool} {held : Bool}
theorem Mx {t:TypeId} {fs:Array Field} {fuel:Nat} {cs:List Value} {x:DataW H × List MemPlace} (hs:P.underlying t=some (.struct fs)) (hone:oneCellFields P fs=true) (hC:P.cellsOf t=k) (hfs:fs.size=k)
  (h:DataW.trod en P w base spare held fuel t cs=some x):cs.length=k/\ ∀ (i:Nat) (f:Field),fs[i]?=some f-> ∃ u n y,cs[i]?=some u/\DataW.trod en P w base spare held n f.type [u]=some y:=by
 obtain ⟨xs,n,_,_,hl,hxl,hf⟩:=DataW.trod_struct hs h;rw [hC] at hl;refine ⟨hl,fun i f hi=> ?_⟩;have hlt:i<fs.size:=(Array.getElem?_eq_some_iff.1 hi).1;obtain ⟨ho,hc⟩:=hone_of hone i f hi;have g:=hf i f hi;rw [ho,hc] at g;have hd:(cs.drop i).take 1=[cs[i]'(by omega)]:=by rw [List.drop_eq_getElem_cons (by omega)];rfl
 rw [hd,List.getElem?_eq_getElem (by omega)] at g;exact ⟨cs[i]'(by omega),n,_,List.getElem?_eq_getElem _,g⟩
theorem QU [Inhabited α] {t e:TypeId} {fs:Array Field} {fuel:Nat} {v:Value} {x:DataW H × List MemPlace}
  (ht:P.underlying t=some (.slice e)) (he:P.underlying e=some (.struct fs)) (ce:P.cellsOf e=k) (hfs:fs.size=k) (hone:oneCellFields P fs=true) (h0:0<k)
  (cl:∀ cs:List Value,cs.length=k->(∀ (i:Nat) (f:Field),fs[i]?=some f-> ∃ u n y,cs[i]?=some u/\DataW.trod en P w base spare held n f.type [u]=some y)-> ∃ x:α,enc x=cs)
  (h:DataW.trod en P w base spare held fuel t [v]=some x):∃ ps:List α,IsRec k enc w v ps:=by
 rcases open_slice ht h with ⟨hv,_⟩ | ⟨a,len,cap,m,n,D,Pl,hv,_,hl,hm,hmm,_,hx⟩
 ·cases hv
  exact ⟨[],none,0,rfl,ZY _,by omega,.inl rfl⟩
 ·cases hv
  have hlm:len<=m:=by rw [hmm];split<;>omega
  have each:∀ i,i<len-> ∃ q:α,(enc q).length=k/\ ∀ j,j<k->w.cell? (a.add (i*k+j))=(enc q)[j]?:=by
   intro i hi;obtain ⟨cs,h1,h2⟩:=hx i (by omega);rw [ce] at h1;obtain ⟨_,hlen,hcell⟩:=World.cells?_some h1;obtain ⟨h3,h4⟩:=Mx he hone ce hfs h2;obtain ⟨q,hq⟩:=cl cs h3 h4;refine ⟨q,by rw [hq];exact h3,fun j hj=> ?_⟩;have:=hcell j hj;rw [add_add] at this;rw [hq];exact this
  obtain ⟨F,hF⟩:=choose_lt each;have hlen:((List.range len).map F).length=len:=by simp
  refine ⟨(List.range len).map F,some a,cap,by rw [hlen],by rw [hlen];exact hl,by unfold maxLen at hm;omega,?_⟩;by_cases hz:len=0
  ·exact .inl (by simp [hz])
  ·obtain ⟨hk0,hc0⟩:=hF 0 (by omega)
   have h00:=hc0 0 h0;rw [List.getElem?_eq_getElem (by omega)] at h00;have sp:=World.cell?_spot h00;have hlt:=World.block_lt_of_cell? _ _ h00;obtain ⟨b,off,spot⟩:=a;have hspot:spot=none:=by simpa [Addr.add] using sp
   subst hspot;refine .inr ⟨b,off,rfl,by simpa [Addr.add] using hlt,fun j hj i u hu=> ?_⟩;rw [hlen] at hj;have hat:Z8 ((List.range len).map F) j=F j:=by unfold Z8;simp [List.getD,hj]
   rw [hat] at hu;obtain ⟨hk1,hc1⟩:=hF j hj
   have hi:i<k:=by
    rcases Nat.lt_or_ge i k with h | h
    ·exact h
    ·rw [List.getElem?_eq_none (by omega)] at hu;cases hu
   have:=hc1 i hi;rw [hu,add_plain,<-Nat.add_assoc] at this;exact this
end
end Go.Proofs.YtgdpaigcmoifbaaGreatDoor
namespace Go.Proofs.YtgdpaigcmoifbaaGreatDoor
open Go.ChangeShapes Go.WideShapes Go.ChangeAt Go.RowKit Go.Sort Go.Deep Go.Proofs.Tryz
set_option linter.unusedVariables false
def VS (z:Int):List Value:=[.int .i64 z]
theorem Yd (z:Int):(VS z).length=1:=rfl
abbrev SO (w:World) (v:Value) (zs:List Int):Prop:=IsRec 1 VS w v zs
abbrev NumsAt (n₀:Nat) (w:World) (v:Value) (zs:List Int):Prop:=RecAt 2 1 VS n₀ w v zs
theorem Dl:(prog.info? 2).map (fun i=>(i.zero,i.size,i.bytes))=some (some (.int .i64 0),1,8):=by kernel_rfl
theorem NumsAt.list {n₀:Nat} {w:World} {v:Value} {zs:List Int} (h:NumsAt n₀ w v zs):SO w v zs:=RecAt.recs Yd (by omega) h
theorem Rt {w:World} {b off:Nat} {zs:List Int} (h:∀ j,j<zs.length-> ∀ i u,(VS (Z8 zs j))[i]?=some u->w.cell? ⟨b,off+j*1+i,none⟩=some u) {j:Nat} (hj:j<zs.length) :
  w.cell? ⟨b,off+j,none⟩=some (.int .i64 (Z8 zs j)):=by
 have:=h j hj 0 _ rfl;simpa using this
theorem Mz (a:Option Addr) (n cap:Nat) (left:Int) (hn:n<=9223372036854775807) (h0:0<=left) (h1:left<=1048576) (w:World) :
  cE 24 #[.slice a n cap,.int .i64 left] w (.int .i64 (szV n left)):=by
 by_cases h:left-n<0
 all_goals
  go_enter func24,ntmps24
  go_wp2
  go_ret;exact ⟨ZQ (by first | exact (TP (by omega)).symm | exact (TQ (by omega)).symm),rfl⟩
theorem RE {w:World} {v:Value} {zs:List Int} (h:SO w v zs) (hs:zs.length<=1048576) :
  Calls prog 35 #[v] w fun e w'=> ∃ v',e= .returned v'/\NumsAt w.heap.size w' v' zs/\Below w.heap.size w w':=by
 obtain ⟨a,cap,rfl,hc,hm,hr⟩:=h;have Hr:=Z9 hr;clear hr;obtain ⟨i0,hi,hz0,hz1,hz2⟩:=info_parts Dl;go_enter func35,ntmps35;go_wp2_with (at_make;refine wpList_make_full _ rfl _ _ 28 rfl w.heap.size 2 i0 (.int .i64 0) 1 underlying28 hi hz0 hz1 _ _ _ _ zs.length rfl rfl rfl rfl (by rw [hz2];omega) (by unfold maxLen;omega) (ZY _) ?_;intro w0 hown hgrow)
 have Hown:Hid (NumsAt w.heap.size w0 (.slice (some ⟨w.heap.size,0,none⟩) zs.length zs.length) (WI zs 0 0)):=Z9 (by
  rw [SF Yd (by omega) (0:Int) (Value.int .i64 0).cells rfl zs.length] at hown;rw [T0];show w0.ownsRow _ _ _ _ (List.replicate zs.length _).length _;rw [List.length_replicate]
  exact hown)
 have Hgr:=Z9 hgrow;clear hown hgrow
 go_loopw [4] (fun i wr=> ∃ k:Nat,k<=zs.length/\i= .int .i64 k/\NumsAt w.heap.size wr (.slice (some ⟨w.heap.size,0,none⟩) zs.length zs.length) (WI zs 0 k)/\Below w.heap.size w wr) (fun i _=>zs.length-(intOf i).toNat)
 case atStart=>exact ⟨0,ZR _,rfl,uh Hown,(Z0 _ _).grown (uh Hgr) (ZY _) (fun k e=>by cases e)⟩
 case round=>
  obtain ⟨k,hk,rfl,hown,hb⟩:=hrel;have Hb:=Z9 hb;by_cases hlt:k<zs.length
  ·rcases uh Hr with h0 | ⟨b,off,rfl,hbw,hcl⟩
   ·rw [h0] at hlt;simp at hlt
   have c0:=Rt hcl hlt;rw [<-hb.cell (p:=⟨b,off+k,none⟩) hbw] at c0;have HS:=Z9 (Sx (z:=(0:Int)) hlt);have hfl:=Sw (z:=(0:Int)) hk;obtain ⟨g,hg,_,_,hcells,hfz⟩:=RecAt.view Yd (by omega) hown hfl.symm (by omega);cases hg;have o0:=hcells k (by omega) 0 _ rfl;have f0:=hfz (k*1);simp only [Nat.mul_one,Nat.add_zero] at o0 f0;have Hp2:=Z9 (RecAt.put Yd (by omega) hown hfl.symm (j:=k) (by omega) (Z8 zs k));generalize Z8 zs k=z at *;clear hcl hb hown hcells hfz hfl;go_wp2_with fail;go_roundw
   case rel=>exact ⟨k+1,by omega,by go_num,by have h9:=(uh Hp2).1;rw [uh HS] at h9;simpa [Sm,VS] using h9,(uh Hb).trans (XR (by have h9:=(uh Hp2).2;simpa [Sm,VS] using h9) (ZY _) (by have:=(uh Hb).size;omega))⟩
   case measure=>exact ms
  ·obtain rfl:k=zs.length:=by omega
   rw [Sv] at hown;go_wp2_with fail;go_ret;exact ⟨_,rfl,hown,hb⟩
theorem HZ {w:World} {v u:Value} {zs:List Int} (hv:SO w v zs) (hu:SO w u zs) :
  cB 44 #[v,u] w (.bool true):=by
 obtain ⟨a,cap,rfl,hc,hm,hr⟩:=hv;obtain ⟨a',cap',rfl,hc',hm',hr'⟩:=hu;have Hr:=Z9 hr;have Hr':=Z9 hr';clear hr hr';go_enter func44,ntmps44;go_wp2_with fail
 go_loopw [5] (fun i wr=> ∃ k:Nat,k<=zs.length/\i= .int .i64 k/\Below w.heap.size w wr) (fun i _=>zs.length-(intOf i).toNat)
 case atStart=>exact ⟨0,ZR _,rfl,Z0 _ _⟩
 case round=>
  obtain ⟨k,hk,rfl,hb⟩:=hrel;have Hb:=Z9 hb;by_cases hlt:k<zs.length
  ·rcases uh Hr with h0 | ⟨b,off,rfl,hbw,hcl⟩
   ·rw [h0] at hlt;simp at hlt
   rcases uh Hr' with h0 | ⟨b',off',rfl,hbw',hcl'⟩
   ·rw [h0] at hlt;simp at hlt
   have c0:=Rt hcl hlt;have d0:=Rt hcl' hlt;rw [<-hb.cell (p:=⟨b,off+k,none⟩) hbw] at c0;rw [<-hb.cell (p:=⟨b',off'+k,none⟩) hbw'] at d0;generalize Z8 zs k=z at *;clear hcl hcl' hb;go_wp2_with fail;go_quiet (fail);go_wp2_with fail;go_roundw
   case rel=>exact ⟨k+1,by omega,by go_num,⟨(uh Hb).os,(uh Hb).tape,(uh Hb).output,(uh Hb).size,(uh Hb).block⟩⟩
   case measure=>exact ms
  ·go_wp2_with fail
   go_ret;exact ⟨rfl,hb⟩
def MC (W:World) (a:Addr) (i:Nat) (q:Int):Prop:=W.cell? (a.add i)=some (.int .i64 q)
theorem FI {H:Type} {enc:TypeId × Value->H} {W:World} {spare:Nat->Bool} {held:Bool} {n:Nat} {v:Value} {y:DataW H × List MemPlace}
  (h:DataW.trod enc prog W 0 spare held n 28 [v]=some y):∃ zs,SO W v zs:=by
 rcases open_slice underlying28 h with ⟨hv,_⟩ | ⟨a,len,cap,m,n',D,Pl,hv,_,hl,hm,hmm,_,hx⟩
 ·cases hv
  exact ⟨[],none,0,rfl,ZY _,by omega,.inl rfl⟩
 ·cases hv
  have hlm:len<=m:=by rw [hmm];split<;>omega
  have ce:prog.cellsOf 2=1:=by kernel_rfl
  have each:∀ i,i<len-> ∃ q:Int,MC W a i q:=by
   intro i hi;obtain ⟨cs,h1,h2⟩:=hx i (by omega);rw [ce] at h1;obtain ⟨_,hlen,hcell⟩:=World.cells?_some h1
   obtain ⟨c,rfl⟩:∃ c,cs=[c]:=by
    match cs,hlen with
    | [c],_=>exact ⟨c,rfl⟩
   obtain ⟨z,hz,_⟩:=DataW.trod_int underlying2 h2;cases hz;have:=hcell 0 (by omega);exact ⟨z,by simpa [MC,Addr.add] using this⟩
  obtain ⟨F,hF⟩:=choose_lt each;have hlen:((List.range len).map F).length=len:=by simp
  refine ⟨(List.range len).map F,some a,cap,by rw [hlen],by rw [hlen];exact hl,by unfold maxLen at hm;omega,?_⟩;by_cases hz:len=0
  ·exact .inl (by simp [hz])
  ·have h0:W.cell? (a.add 0)=some (.int .i64 (F 0)):=by simpa [MC] using hF 0 (by omega)
   have sp:=World.cell?_spot h0;have hlt:=World.block_lt_of_cell? _ _ h0;obtain ⟨b,off,spot⟩:=a;have hspot:spot=none:=by simpa [Addr.add] using sp
   subst hspot;refine .inr ⟨b,off,rfl,by simpa [Addr.add] using hlt,fun j hj i u hu=> ?_⟩;rw [hlen] at hj;have hat:Z8 ((List.range len).map F) j=F j:=by unfold Z8;simp [List.getD,hj]
   rw [hat] at hu
   have hi:i=0:=by
    rcases Nat.eq_zero_or_pos i with h | h
    ·exact h
    ·rw [List.getElem?_eq_none (by unfold VS;simp;omega)] at hu;cases hu
   subst hi;have hj2:=hF j hj;unfold MC at hj2;rw [add_plain] at hj2;simp only [VS,List.getElem?_cons_zero,Option.some.injEq] at hu;subst hu;simpa using hj2
open Go.ChangeShapes Go.WideShapes Go.ChangeAt Go.RowKit Go.Sort Go.Proofs.Tryz
theorem Lt (g o i:Nat):(⟨g,o,none⟩:Addr).add i=⟨g,o+i,none⟩:=by unfold Addr.add;split<;>simp_all
theorem Rv {e k bytes:Nat} {z:Value} (h:(prog.info? e).map (fun i=>(i.zero,i.size,i.bytes))=some (some z,k,bytes)):∃ i,prog.info? e=some i/\i.zero=some z/\i.size=k/\i.bytes=bytes:=by
 cases hi:prog.info? e with
 | none=>rw [hi] at h;cases h
 | some i=>
  rw [hi] at h;simp only [Option.map_some,Option.some.injEq,Prod.mk.injEq] at h;exact ⟨i,rfl,h.1,h.2.1,h.2.2⟩
theorem TL {w:World} {base t ty e size n:Nat} {i:TypeInfo} (ht:prog.underlying t=some (.slice e)) (hi:prog.info? e=some i) {v:Value} {xs:List Value} (hown:w.ownsRow base e size v n xs) (a:Option Addr) (c:Nat) :
  (Builtin.append_ #[t,t] ty #[v,.slice a 0 c]).run prog w= .ok v w:=by
 rcases hown.2 with ⟨rfl,rfl⟩ | ⟨g,cap,cur,rfl,_,_,hnc,_⟩
 ·cases a<;>simp [Builtin.append_,run_underlying ht,sizeOf,typeInfo,hi,Builtin.lenOf,Builtin.firstCells,loadCells,loadCellsFrom]
 ·cases a<;>simp [Builtin.append_,run_underlying ht,sizeOf,typeInfo,hi,Builtin.lenOf,Builtin.firstCells,hnc,storeCells,loadCells,loadCellsFrom]
structure N6 {α:Type} (e k:Nat) (z:Value) (enc:α->List Value):Prop where
 info:(prog.info? e).map (fun i=>(i.zero,i.size,i.bytes))=some (some z,k,8*k)
 zero:z.cells.size=k
 len:∀ x,(enc x).length=k
 pos:0<k
 few:k<=100
 one:∀ x,∀ u ∈ enc x,u.oneCell'=true
section
variable {α : Type} {e k : Nat} {enc : α → List Value}
theorem JN (hone:∀ x:α,∀ u ∈ enc x,u.oneCell'=true) (qs:List α):∀ u ∈ VT enc qs,u.oneCell'=true:=fun u hu=>by
 unfold VT at hu;obtain ⟨p,_,hp⟩:=List.mem_flatMap.1 hu;exact hone p u hp
theorem Zh {B g:Nat} {w:World} (hg:g=w.heap.size) (hB:B<=g):RecAt e k enc B (w.alloc (.cells #[] e)) (.slice (some ⟨g,0,none⟩) 0 0) []:=by
 subst hg;exact ⟨by simp [VT],.inr ⟨_,0,#[],rfl,hB,heap_alloc_new w _,ZY _,ZR _,by simp,by simp [VT]⟩⟩
end
section
variable {α : Type} [Inhabited α] {e k : Nat} {enc : α → List Value} {z : Value}
theorem M8 (hk:∀ x,(enc x).length=k) (h0:0<k) {w:World} {b off:Nat} {qs:List α} (h:∀ j,j<qs.length-> ∀ i u,(enc (Z8 qs j))[i]?=some u->w.cell? ⟨b,off+j*k+i,none⟩=some u) :
  ∀ (j:Nat) (u:Value),(VT enc qs)[j]?=some u->w.cell? ((⟨b,off,none⟩:Addr).add j)=some u:=fun j u hj=>by
 have hlt:j<qs.length*k:=by
  rcases Nat.lt_or_ge j (qs.length*k) with h | h
  ·exact h
  ·rw [List.getElem?_eq_none (by rw [Wx hk];exact h)] at hj;cases hj
 have hd:j / k<qs.length:=(Nat.div_lt_iff_lt_mul h0).2 hlt;have hr:j%k<k:=Nat.mod_lt _ h0;have he:j=j / k*k+j%k:=by rw [Nat.mul_comm];exact (Nat.div_add_mod j k).symm
 rw [Lt];rw [he,Ww hk qs (j / k) hd (j%k) hr] at hj;have:=h (j / k) hd (j%k) u hj;rw [Nat.add_assoc,<-he] at this;exact this
theorem VX (T:N6 e k z enc) {w:World} {base t ty:Nat} (ht:prog.underlying t=some (.slice e)) {v x:Value} {ps qs:List α} (hown:RecAt e k enc base w v ps) (hx:IsRec k enc w x qs) (hb:ps.length+qs.length<=4000) (hbase:base<=w.heap.size) :
  ∃ v' w',(Builtin.append_ #[t,t] ty #[v,x]).run prog w= .ok v' w'/\RecAt e k enc base w' v' (ps++qs)/\w.grownBy w' v.ownBlock/\(v'.ownBlock=v.ownBlock\/v'.ownBlock=some w.heap.size):=by
 obtain ⟨i0,hi,hz0,hz1,hz2⟩:=Rv T.info;obtain ⟨a,c,rfl,hc,hm,hr⟩:=hx;by_cases h0:qs=[]
 ·subst h0
  refine ⟨v,w,TL ht hi hown a c,by simpa using hown,Xr _ _,.inl rfl⟩
 ·rcases hr with hr | ⟨b,off,rfl,hlt,hcl⟩
  ·exact absurd hr h0
  ·have hk:=T.few
   have hmul:(ps.length+qs.length)*(8*k)<=4000*800:=Nat.mul_le_mul hb (by omega)
   obtain ⟨v',w',hr,h2,h3,_,h5⟩:=run_append_own_at (P:=prog) w base t ty e i0 z k (8*k) ht hi hz0 hz1 hz2 T.zero T.pos v ps.length _ hown ⟨b,off,none⟩ qs.length c (VT enc qs) (Wx T.len qs)
    (M8 T.len T.pos hcl) (JN T.one qs) (by simp only [maxLen];omega) (by omega) hbase
   refine ⟨v',w',hr,?_,h3,h5⟩;unfold RecAt;rw [Qe,List.length_append];exact h2
theorem ZN (T:N6 e k z enc) {w:World} {ops:Array Oper} {rest:List Oper} {o:Oper} {a:Act} {Q:Exit->Act->World->Prop} (hgd:o.guard=none) (s x:Operand) (t:TypeId) (ht:prog.underlying t=some (.slice e))
  (ho:o.op= .call { callee:= .builtin .append,args:=#[s,x],argTypes:=#[t,t] }) (base:Nat) (v u:Value) (ps qs:List α) (hs:a.eval s=v) (hx:a.eval x=u) (hown:RecAt e k enc base w v ps) (hr:IsRec k enc w u qs)
  (hb:ps.length+qs.length<=4000) (hbase:base<=w.heap.size)
  (h:∀ v' w',RecAt e k enc base w' v' (ps++qs)->w.grownBy w' v.ownBlock->(v'.ownBlock=v.ownBlock\/v'.ownBlock=some w.heap.size)->wpList prog ops Q rest (a.put o.dst v') w') :
  wpList prog ops Q (o::rest) a w:=by
 refine wpList_plain hgd fun K hK=> ?_;obtain ⟨v',w',hrun,h2,h3,h5⟩:=VX T (ty:=o.type) ht hown hr hb hbase;unfold Oper.wp execOp;simp only [ho,resolve,invoke,builtin,Sem.run_bind,Sem.run_pure,Result.andThen_ok,List.map_toArray,List.map_cons,List.map_nil,hs,hx,hrun];exact hK _ _ (h v' w' h2 h3 h5)
theorem Wa {w:World} (x:α) {g c:Nat} (hg:g=w.heap.size) (hc:1<=c) (hc2:c<=4000):IsRec k enc (w.alloc (.cells (enc x).toArray e)) (.slice (some ⟨g,0,none⟩) 1 c) [x]:=by
 subst hg;refine ⟨_,c,rfl,hc,by omega,.inr ⟨_,0,rfl,by simp,fun j hj i u hu=> ?_⟩⟩;obtain rfl:j=0:=by simpa using hj
 rw [Nat.zero_mul,Nat.zero_add,World.cell?_alloc_at _ _ _ _ rfl];have hr:Z8 [x] 0=x:=rfl;rw [hr] at hu;simpa using hu
theorem Fv (hk:∀ x,(enc x).length=k) (h0:0<k) (xs:List α) {j i:Nat} (hj:j<xs.length) (hi:i<k) (u:Value) (x:α) (hx:enc x=(enc (Z8 xs j)).set i u):(VT enc xs).set (j*k+i) u=VT enc (xs.set j x):=by
 have hl:=Wx hk xs;have hjk:j*k+k<=xs.length*k:=by rw [<-Nat.succ_mul];exact Nat.mul_le_mul_right k hj
 apply List.ext_getElem?;intro m;by_cases hm:m<xs.length*k
 ·have hd:m / k<xs.length:=(Nat.div_lt_iff_lt_mul h0).2 hm
  have hr:m%k<k:=Nat.mod_lt _ h0;have he:m=m / k*k+m%k:=by rw [Nat.mul_comm];exact (Nat.div_add_mod m k).symm
  have hg:=Ww hk (xs.set j x) (m / k) (by simpa using hd) (m%k) hr;have hg0:=Ww hk xs (m / k) hd (m%k) hr;rw [<-he] at hg hg0;rw [hg,ZC hj];by_cases e:m / k=j
  ·rw [if_pos e,hx]
   by_cases ei:m%k=i
   ·have hmi:m=j*k+i:=by rw [<-e,<-ei];exact he
    rw [ei,hmi,List.getElem?_set_self (by rw [hl];omega),List.getElem?_set_self (by rw [hk];exact hi)]
   ·have hmi:j*k+i ≠ m:=by rw [<-e];omega
    rw [List.getElem?_set_ne hmi,List.getElem?_set_ne (Ne.symm ei),hg0,e]
  ·rw [if_neg e,List.getElem?_set_ne,hg0]
   intro h;apply e;rw [<-h];exact Nat.div_eq_of_lt_le (Nat.le_add_right _ _) (by rw [Nat.succ_mul];omega)
 ·rw [List.getElem?_eq_none (by simp;omega),List.getElem?_eq_none (by rw [Wx hk];simp;omega)]
theorem RecAt.put1 (hk:∀ x,(enc x).length=k) (h0:0<k) {t n₀ n cap g:Nat} {w:World} {xs:List α} (h:RecAt t k enc n₀ w (.slice (some ⟨g,0,none⟩) n cap) xs) (hn:n=xs.length) {j i:Nat} (hj:j<xs.length) (hi:i<k) (u:Value) (x:α) (hx:enc x=(enc (Z8 xs j)).set i u) :
  RecAt t k enc n₀ (w.setCell ⟨g,j*k+i,none⟩ u) (.slice (some ⟨g,0,none⟩) n cap) (xs.set j x)/\w.grownBy (w.setCell ⟨g,j*k+i,none⟩ u) (some g):=by
 subst hn;obtain ⟨h1,h2⟩:=World.ownsRow.stored h (j*k+i) u;rw [Fv hk h0 xs hj hi u x hx] at h1;refine ⟨?_,h2⟩;unfold RecAt;rw [UX];exact h1
end
end Go.Proofs.YtgdpaigcmoifbaaGreatDoor
namespace Go.Proofs.YtgdpaigcmoifbaaGreatDoor
open Go.ChangeShapes Go.WideShapes Go.ChangeAt Go.RowKit Go.Sort Go.Proofs.Tryz
set_option linter.unusedVariables false
theorem DD {ps:List Z6} {k:Nat} {p:Z6} (hp:Z7 ps k=p) (h:Ok p=false):Wr ps k=false:=by unfold Wr;rw [hp];simp [h]
theorem DE {ps:List Z6} {k:Nat} {p q:Z6} (hz:0<k) (hp:Z7 ps k=p) (hq:Z7 ps (k-1)=q) (h:ltB q p=false):Wr ps k=false:=by unfold Wr;rw [hp,hq];simp [h];omega
theorem DF {ps:List Z6} {k:Nat} {f z:Int} (hp:Z7 ps k=(f,z)) (h:0<=Wu (ps.take k) z):Wr ps k=false:=by unfold Wr;rw [hp];simp;intros;exact h
theorem DG {ps:List Z6} {k:Nat} {f z:Int} {q:Z6} (hz:0<k) (hp:Z7 ps k=(f,z)) (hq:Z7 ps (k-1)=q) (h1:Ok (f,z)=true) (h2:ltB q (f,z)=true) (h:Wu (ps.take k) z<0):Wr ps k=true:=by unfold Wr;rw [hp,hq];simp [h1,h2,h]
theorem DC {ps:List Z6} {p:Z6} (hp:Z7 ps 0=p) (h:Ok p=true):Wr ps 0=true:=by unfold Wr;rw [hp];simp [h,Wu]
theorem UE {w:World} {v:Value} {ps:List Z6} {who F:Int} (hF:Wu ps who=F) (h:IsPaces w v ps) :
  cB 235 #[v,.int .i64 who] w (.int .i64 F):=by
 subst hF;exact Kv who h
theorem YA {w:World} {v:Value} {ps:List Z6} (h:IsPaces w v ps) :
  cB 199 #[v] w (.bool (YP ps)):=by
 have Hr2:=Z9 h;obtain ⟨a,cap,rfl,hc,hm,hr⟩:=h;have Hr:=Z9 hr;clear hr;by_cases hbig:100<ps.length
 ·go_enter func199,ntmps199
  go_wp2_with fail;go_ret;exact ⟨Z5 (IK hbig).symm,Z0 _ _⟩
 go_enter func199,ntmps199;go_wp2_with fail
 go_loopw [10] (fun i wr=> ∃ k:Nat,k<=ps.length/\i= .int .i64 k/\(∀ j,j<k->Wr ps j=true)/\Below w.heap.size w wr) (fun i _=>ps.length-(intOf i).toNat)
 case atStart=>exact ⟨0,ZR _,rfl,fun j hj=>by omega,Z0 _ _⟩
 case round=>
  obtain ⟨k,hk,rfl,hst,hb⟩:=hrel;have Hst:=Z9 hst;have Hb:=Z9 hb;clear hst;by_cases hlt:k<ps.length
  ·rcases uh Hr with h0 | ⟨b,off,rfl,hbw,hcl⟩
   ·rw [h0] at hlt;simp at hlt
   have hbr:b<wr.heap.size:=ZD hbw hb.size;have hne:b ≠ wr.heap.size:=Vd hbr;obtain ⟨c0,c1⟩:=hcl k hlt;rw [<-hb.cell (p:=⟨b,off+k*2,none⟩) hbw] at c0;rw [<-hb.cell (p:=⟨b,off+k*2+1,none⟩) hbw] at c1;generalize hp:Z7 ps k=p at c0 c1;have Hp:=Z9 hp;clear hp;obtain ⟨f,z⟩:=p;simp only at c0 c1;have Hip:=Z9 ((((uh Hr2).below hb).cut (n:=k) (by omega)).below ((Z0 _ _).alloc (ZY _) (.cells #[.int .i64 f,.int .i64 z] 138)));have d0:(wr.alloc (.cells #[.int .i64 f,.int .i64 z] 138)).cell? ⟨wr.heap.size,0,none⟩=some (.int .i64 f):=by simp
   have d1:(wr.alloc (.cells #[.int .i64 f,.int .i64 z] 138)).cell? ⟨wr.heap.size,1,none⟩=some (.int .i64 z):=by simp
   have k0:=Z1 d0;have k1:=Z1 d1;clear d0 d1;obtain ⟨F,hF⟩:=ZI (Wu (ps.take k) z);have hFb:=DZ (ps.take k) z;rw [hF] at hFb;have HF:=Z9 hF;clear hF;cases hpb:Ok (f,z)
   ·clear hcl
    go_wp2_with fail;refine wq ?_
    repeat (go_big_quiet_step (first | exact ZX (V3 _ _ _) | exact ZX (Xl _ _ _ _ _) | exact ZX (UE (uh HF) ((uh Hip).below (Z2 _ _ _)))))
    refine wpQuiet_nil ?_;intro _ hw';obtain ⟨⟨dq,osq⟩,hw''⟩:=hw';subst hw'';go_wp2_with fail;go_ret;exact ⟨Z5 (O8 hlt (DD (uh Hp) hpb)).symm,(uh Hb).trans (((Z0 _ _).alloc (uh Hb).size _).trans ((Z2 _ _ _).mono (by simp;have:=(uh Hb).size;omega)))⟩
   ·by_cases hz:0<k
    ·have hd:decide (0<k)=true:=Sf hz
     obtain ⟨e0,e1⟩:=hcl (k-1) (by omega);rw [<-hb.cell (p:=⟨b,off+(k-1)*2,none⟩) hbw] at e0;rw [<-hb.cell (p:=⟨b,off+(k-1)*2+1,none⟩) hbw] at e1;generalize hq:Z7 ps (k-1)=q at e0 e1;have Hq:=Z9 hq;clear hq;obtain ⟨f',z'⟩:=q;simp only at e0 e1;have m0:=Z1 (w:=wr.alloc (.cells #[.int .i64 f,.int .i64 z] 138)) (a:=⟨b,off+(k-1)*2,none⟩) (v:= .int .i64 f') (by rw [World.cell?_alloc_old _ _ _ hne];exact e0);have m1:=Z1 (w:=wr.alloc (.cells #[.int .i64 f,.int .i64 z] 138)) (a:=⟨b,off+(k-1)*2+1,none⟩) (v:= .int .i64 z') (by rw [World.cell?_alloc_old _ _ _ hne];exact e1);clear hcl e0 e1;cases hab:ltB (f',z') (f,z)
     ·go_wp2_with fail
      refine wq ?_
      repeat (go_big_quiet_step (first | exact ZX (V3 _ _ _) | exact ZX (Xl _ _ _ _ _) | exact ZX (UE (uh HF) ((uh Hip).below (Z2 _ _ _)))))
      refine wpQuiet_nil ?_;intro _ hw';obtain ⟨⟨dq,osq⟩,hw''⟩:=hw';subst hw'';go_wp2_with fail;go_ret;exact ⟨Z5 (O8 hlt (DE hz (uh Hp) (uh Hq) hab)).symm,(uh Hb).trans (((Z0 _ _).alloc (uh Hb).size _).trans ((Z2 _ _ _).mono (by simp;have:=(uh Hb).size;omega)))⟩
     ·by_cases hF0:F= -1
      ·subst hF0
       go_wp2_with fail;refine wq ?_
       repeat (go_big_quiet_step (first | exact ZX (V3 _ _ _) | exact ZX (Xl _ _ _ _ _) | exact ZX (UE (uh HF) ((uh Hip).below (Z2 _ _ _)))))
       refine wpQuiet_nil ?_;intro _ hw';obtain ⟨⟨dq,osq⟩,hw''⟩:=hw';subst hw'';go_wp2_with fail;go_roundw
       case rel=>exact ⟨k+1,by omega,by go_num,Y4 (uh Hst) (DG hz (uh Hp) (uh Hq) hpb hab (by rw [uh HF];omega)),(uh Hb).trans (((Z0 _ _).alloc (uh Hb).size _).trans ((Z2 _ _ _).mono (by simp;have:=(uh Hb).size;omega)))⟩
       case measure=>exact ms
      ·have hF1:0<=F:=by omega
       have hF2:(F == -1)=false:=by simpa using hF0
       have hF3:(F != -1)=true:=by simpa using hF0
       clear hF0;go_wp2_with fail;refine wq ?_
       repeat (go_big_quiet_step (first | exact ZX (V3 _ _ _) | exact ZX (Xl _ _ _ _ _) | exact ZX (UE (uh HF) ((uh Hip).below (Z2 _ _ _)))))
       refine wpQuiet_nil ?_;intro _ hw';obtain ⟨⟨dq,osq⟩,hw''⟩:=hw';subst hw'';go_wp2_with fail;go_ret;exact ⟨Z5 (O8 hlt (DF (uh Hp) (by rw [uh HF];exact hF1))).symm,(uh Hb).trans (((Z0 _ _).alloc (uh Hb).size _).trans ((Z2 _ _ _).mono (by simp;have:=(uh Hb).size;omega)))⟩
    ·obtain rfl:k=0:=by omega
     obtain rfl:F= -1:=by simp at hFb;omega
     simp only [Nat.zero_mul,Nat.add_zero] at c0 c1 k0 k1;clear hcl hz;go_wp2_with fail;refine wq ?_
     repeat (go_big_quiet_step (first | exact ZX (V3 _ _ _) | exact ZX (Xl _ _ _ _ _) | exact ZX (UE (uh HF) ((uh Hip).below (Z2 _ _ _)))))
     refine wpQuiet_nil ?_;intro _ hw';obtain ⟨⟨dq,osq⟩,hw''⟩:=hw';subst hw'';go_wp2_with fail;go_roundw
     case rel=>exact ⟨1,by omega,by go_num,Y4 (uh Hst) (DC (uh Hp) hpb),(uh Hb).trans (((Z0 _ _).alloc (uh Hb).size _).trans ((Z2 _ _ _).mono (by simp;have:=(uh Hb).size;omega)))⟩
     case measure=>exact ms
  ·obtain rfl:k=ps.length:=by omega
   go_wp2_with fail;go_ret;exact ⟨Z5 (KA (by omega) (uh Hst)).symm,hb⟩
theorem Sy {ps:List Z6} (h:(YP ps && decide (0<ps.length))=false):T6 ps=((0,0),false):=by unfold T6;rw [h];rfl
theorem Oo {ps:List Z6} (h:YP ps=true) (hl:0<ps.length):T6 ps=(Z7 ps 0,true):=by unfold T6;rw [h,decide_eq_true hl];rfl
theorem PO {w:World} {v:Value} {ps:List Z6} (h:IsPaces w v ps) :
  cB 168 #[v] w (.tuple #[.agg #[.int .i64 (T6 ps).1.1,.int .i64 (T6 ps).1.2],.bool (T6 ps).2]):=by
 have Hv:=Z9 h;obtain ⟨a,cap,rfl,hc,hm,hr⟩:=h;cases hq:YP ps
 ·rw [Sy (by rw [hq];rfl)]
  clear hr;go_enter func168,ntmps168;go_wp2_with fail;refine (YA ((uh Hv).below ((ba _ _)))).mono ?_;rw [hq];rintro e w1 ⟨rfl,hb⟩;have Hb:=Z9 hb;have hsz:=hb.size;simp at hsz;obtain ⟨k1,k2⟩:=Rb hb;clear hb;go_wp2_with fail;exact Y7 (v:= .tuple #[.agg #[.int .i64 0,.int .i64 0],.bool false]) (by simp [results,results168,go_sem,k1]) rfl ⟨rfl,((((ba _ _)).trans ((uh Hb).mono (by simp))).setCell (by simp) _).setCell (by simp) _⟩
 ·rcases hr with hr | ⟨b,off,rfl,hbw,hcl⟩
  ·subst hr
   rw [Sy (by simp)];go_enter func168,ntmps168;go_wp2_with fail;refine (YA ((uh Hv).below ((ba _ _)))).mono ?_;rw [hq];rintro e w1 ⟨rfl,hb⟩;have Hb:=Z9 hb;have hsz:=hb.size;simp at hsz;obtain ⟨k1,k2⟩:=Rb hb;clear hb;go_wp2_with fail;exact Y7 (v:= .tuple #[.agg #[.int .i64 0,.int .i64 0],.bool false]) (by simp [results,results168,go_sem,k1]) rfl ⟨rfl,((((ba _ _)).trans ((uh Hb).mono (by simp))).setCell (by simp) _).setCell (by simp) _⟩
  ·by_cases hl:0<ps.length
   ·rw [Oo hq hl]
    obtain ⟨c0,c1⟩:=hcl 0 hl;simp only [Nat.zero_mul,Nat.add_zero] at c0 c1;generalize Z7 ps 0=p at *;obtain ⟨f,z⟩:=p;simp only at c0 c1;have hl2:(ps.length ==0)=false:=beq_eq_false_iff_ne.2 (by omega);have hl3:((ps.length:Int) ==0)=false:=beq_eq_false_iff_ne.2 (by omega);have hne:b ≠ w.heap.size:=Vd hbw;clear hcl;go_enter func168,ntmps168;go_wp2_with fail;refine (YA ((uh Hv).below ((ba _ _)))).mono ?_;rw [hq];rintro e w1 ⟨rfl,hb⟩;have Hb:=Z9 hb;have hsz:=hb.size;simp at hsz;have c0':=(hb.cell (p:=⟨b,off,none⟩) (by simp;omega)).trans ((World.cell?_alloc_old _ _ _ hne).trans c0);have c1':=(hb.cell (p:=⟨b,off+1,none⟩) (by simp;omega)).trans ((World.cell?_alloc_old _ _ _ hne).trans c1);obtain ⟨k1,k2⟩:=Rb hb;clear hb c0 c1;go_wp2_with fail;exact Y7 (v:= .tuple #[.agg #[.int .i64 f,.int .i64 z],.bool true]) (by simp [results,results168,go_sem,k1]) rfl ⟨rfl,((((ba _ _)).trans ((uh Hb).mono (by simp))).setCell (by simp) _).setCell (by simp) _⟩
   ·obtain rfl:ps=[]:=List.eq_nil_of_length_eq_zero (by omega)
    rw [Sy (by simp)];clear hcl;go_enter func168,ntmps168;go_wp2_with fail;refine (YA ((uh Hv).below ((ba _ _)))).mono ?_;rw [hq];rintro e w1 ⟨rfl,hb⟩;have Hb:=Z9 hb;have hsz:=hb.size;simp at hsz;obtain ⟨k1,k2⟩:=Rb hb;clear hb;go_wp2_with fail;exact Y7 (v:= .tuple #[.agg #[.int .i64 0,.int .i64 0],.bool false]) (by simp [results,results168,go_sem,k1]) rfl ⟨rfl,((((ba _ _)).trans ((uh Hb).mono (by simp))).setCell (by simp) _).setCell (by simp) _⟩
def VD (c:Int):ZZ:=(c,c+1,c+1+1,c+1+1+1,c+1+1+1+1,c+1+1+1+1+1,c+1+1+1+1+1+1,c+1+1+1+1+1+1+1,c+1+1+1+1+1+1+1+1,c+1+1+1+1+1+1+1+1+1,c+1+1+1+1+1+1+1+1+1+1)
theorem OX {n₀:Nat} {w:World} {v:Value} {ps:List ZZ} (c:Int) (h:SmithsAt n₀ w v ps) (hk0:0<=c) (hk1:c<=1000000000000000) (hl:ps.length<=10000000) :
  Calls prog 47 #[v,.int .i64 c] w fun e w'=>e= .returned (.int .i64 (c+11*(ps.length:Int)))/\SmithsAt n₀ w' v (WL VD 11 c ps.length)/\w.grownBy w' v.ownBlock:=by
 have Hv:=Z9 h;obtain ⟨a,cap,rfl⟩:=RecAt.shape h;clear h;go_enter func47,ntmps47;go_wp2_with fail
 go_loopw [5,1] (fun i q wr=> ∃ j:Nat,j<=ps.length/\i= .int .i64 j/\q= .int .i64 (c+11*(j:Int))/\SmithsAt n₀ wr (.slice a ps.length cap) (XK VD 11 c ps j)/\w.grownBy wr (Value.ownBlock (.slice a ps.length cap))) (fun i _ _=>ps.length-(intOf i).toNat)
 case atStart=>exact ⟨0,ZR _,rfl,by simp,by rw [Ud];exact uh Hv,Xr _ _⟩
 case round=>
  obtain ⟨j,hj,rfl,rfl,hin,hgr⟩:=hrel;by_cases hlt:j<ps.length
  ·have hfl:=Tl (mk:=VD) (d:=11) (c:=c) hj
   obtain ⟨g,rfl,_,_,hcells,hfz⟩:=RecAt.view ZV (by omega) hin hfl.symm (by omega);have hq:=fun i u hu=>hcells j (by omega) i u hu;generalize Z8 (XK VD 11 c ps j) j=old at hq;obtain ⟨o0,o1,o2,o3,o4,o5,o6,o7,o8,o9,o10⟩:=EF (hq);obtain ⟨f0,f1,f2,f3,f4,f5,f6,f7,f8,f9,f10⟩:=Cd hfz (j*11);simp only [Nat.add_zero] at o0;have hp:=RecAt.put ZV (by omega) hin hfl.symm (j:=j) (by omega) (VD (c+11*(j:Int)));have hs9:=Tm (mk:=VD) (d:=11) (c:=c) hlt;rw [show ((11:Nat):Int)=11 from rfl] at hs9;have HS:=Z9 hs9;clear hs9;have H1:=Z9 hp.1;have H2:=Z9 (XS hgr hp.2);clear hin hgr hcells hq hfz hp hfl;go_wp2_with fail;go_roundw
   case rel=>exact ⟨j+1,by omega,by go_num,by go_num,by have h9:=uh H1;rw [uh HS] at h9;exact h9,uh H2⟩
   case measure=>exact ms
  ·obtain rfl:j=ps.length:=by omega
   rw [Tk] at hin;go_wp2_with fail;go_ret;exact ⟨rfl,hin,hgr⟩
theorem Ov {w:World} {v:Value} (c:Int) (n:Nat) (h:YZ w v (WL VD 11 c n)) (hk0:0<=c) (hk1:c<=1000000000000000) (hl:n<=10000000) :
  cE 52 #[v,.int .i64 c] w (.int .i64 (c+11*(n:Int))):=by
 obtain ⟨a,cap,rfl,hc,hm,hrow⟩:=h;rw [Yk] at *;have Hrow:=Z9 hrow;clear hrow;go_enter func52,ntmps52;go_wp2_with fail
 go_loop [5,1] (fun i q=> ∃ j:Nat,j<=n/\i= .int .i64 j/\q= .int .i64 (c+11*(j:Int))) (fun i _=>n-(intOf i).toNat)
 case atStart=>exact ⟨0,ZR _,rfl,by simp⟩
 case round=>
  obtain ⟨j,hj,rfl,rfl⟩:=hrel;by_cases hlt:j<n
  ·rcases uh Hrow with h0 | ⟨bk,off,rfl,hbw,hcl⟩
   ·have:=congrArg List.length h0;rw [Yk] at this;simp at this;omega
   have hq:=fun i u hu=>hcl j hlt i u hu;rw [OV _ _ _ hlt,show ((11:Nat):Int)=11 from rfl] at hq;have c0:w.cell? ⟨bk,off+j*11,none⟩=some (.int .i64 ((c+11*(j:Int)))):=hq 0 _ rfl;have c1:w.cell? ⟨bk,off+j*11+1,none⟩=some (.int .i64 ((c+11*(j:Int))+1)):=hq 1 _ rfl;have c2:w.cell? ⟨bk,off+j*11+2,none⟩=some (.int .i64 ((c+11*(j:Int))+1+1)):=hq 2 _ rfl;have c3:w.cell? ⟨bk,off+j*11+3,none⟩=some (.int .i64 ((c+11*(j:Int))+1+1+1)):=hq 3 _ rfl;have c4:w.cell? ⟨bk,off+j*11+4,none⟩=some (.int .i64 ((c+11*(j:Int))+1+1+1+1)):=hq 4 _ rfl;have c5:w.cell? ⟨bk,off+j*11+5,none⟩=some (.int .i64 ((c+11*(j:Int))+1+1+1+1+1)):=hq 5 _ rfl;have c6:w.cell? ⟨bk,off+j*11+6,none⟩=some (.int .i64 ((c+11*(j:Int))+1+1+1+1+1+1)):=hq 6 _ rfl;have c7:w.cell? ⟨bk,off+j*11+7,none⟩=some (.int .i64 ((c+11*(j:Int))+1+1+1+1+1+1+1)):=hq 7 _ rfl;have c8:w.cell? ⟨bk,off+j*11+8,none⟩=some (.int .i64 ((c+11*(j:Int))+1+1+1+1+1+1+1+1)):=hq 8 _ rfl;have c9:w.cell? ⟨bk,off+j*11+9,none⟩=some (.int .i64 ((c+11*(j:Int))+1+1+1+1+1+1+1+1+1)):=hq 9 _ rfl;have c10:w.cell? ⟨bk,off+j*11+10,none⟩=some (.int .i64 ((c+11*(j:Int))+1+1+1+1+1+1+1+1+1+1)):=hq 10 _ rfl;clear hcl hq;go_wp2_with fail
   go_round
   case rel=>exact ⟨j+1,by omega,by go_num,by go_num⟩
   case measure=>exact ms
  ·obtain rfl:j=n:=by omega
   go_wp2_with fail;go_ret;exact ⟨rfl,rfl⟩
theorem JM:∀ zs:List Int,VT VS zs=zs.map (Value.int .i64)
 | []=>rfl
 | z::zs=>by
  have:=JM zs;unfold VT at this ⊢;rw [List.flatMap_cons,this];rfl
theorem QS {n₀:Nat} {w:World} {v:Value} {zs:List Int} : NumsAt n₀ w v zs ↔ IntsAt n₀ w v zs:=by
 unfold NumsAt RecAt IntsAt;rw [JM]
theorem Mf {n₀:Nat} {w:World} {v:Value} {zs:List Int} (k:Int) (h:NumsAt n₀ w v zs) (hk0:0<=k) (hk1:k<=1000000000000000) (hl:zs.length<=1000000000) :
  Calls prog 49 #[v,.int .i64 k] w fun e w'=>e= .returned (.int .i64 (k+zs.length))/\NumsAt n₀ w' v (UA k zs.length)/\w.grownBy w' v.ownBlock:=
 (Me k (QS.1 h) hk0 hk1 hl).mono fun e w' ⟨h1,h2,h3⟩=>⟨h1,QS.2 h2,h3⟩
theorem LV {n₀:Nat} {w:World} {v:Value} (k:Int) (n:Nat) (h:NumsAt n₀ w v (UA k n)) (hk0:0<=k) (hk1:k<=1000000000000000) (hl:n<=1000000000) :
  cE 54 #[v,.int .i64 k] w (.int .i64 (k+n)):=
 LS k n (QS.1 h) hk0 hk1 hl
open Go.ChangeShapes Go.WideShapes Go.ChangeAt Go.RowKit Go.Deep Go.Proofs.Tryz
theorem N7 {w:World} {b off i:Nat} {u u':Value} (h1:w.cell? ((⟨b,off,none⟩:Addr).add (i*2))=some u) (h2:w.cell? ((⟨b,off,none⟩:Addr).add (i*2+1))=some u') :
  w.cell? ⟨b,off+i*2,none⟩=some u/\w.cell? ⟨b,off+i*2+1,none⟩=some u':=by
 by_cases hi:i=0
 ·subst hi
  simp [Addr.add] at h1 h2 ⊢;exact ⟨h1,h2⟩
 ·have h2i:¬ i*2=0:=by omega
  simp [Addr.add,h2i] at h1 h2 ⊢;exact ⟨h1,h2⟩
theorem IB {H:Type} {enc:TypeId × Value->H} {W:World} {spare:Nat->Bool} {held:Bool} {n:Nat} {v:Value} {y:DataW H × List MemPlace}
  (h:DataW.trod enc prog W 0 spare held n 132 [v]=some y):∃ ps,IsPaces W v ps:=by
 rcases open_slice_pairs underlying132 underlying219 (by kernel_rfl) rfl rfl (by kernel_rfl) (by kernel_rfl) h with ⟨hv,_⟩ | ⟨a,len,cap,m,n',V0,V1,D0,D1,P0,P1,hv,_,hl,hm,hmm,_,hx⟩
 ·cases hv
  exact ⟨[],none,0,rfl,ZY _,by omega,.inl rfl⟩
 ·cases hv
  have hlm:len<=m:=by rw [hmm];split<;>omega
  obtain ⟨F,hF⟩:=choose_lt (α:=Int × Int) (n:=len) (p:=fun i q=>V0 i= .int .i64 q.1/\V1 i= .int .i64 q.2) (fun i hi=>by
   obtain ⟨_,_,t0,t1⟩:=hx i (by omega);obtain ⟨q0,e0,_⟩:=DataW.trod_int underlying2 t0;obtain ⟨q1,e1,_⟩:=DataW.trod_int underlying2 t1
   exact ⟨(q0,q1),by simpa using e0,by simpa using e1⟩)
  have hlen:((List.range len).map F).length=len:=by simp
  refine ⟨(List.range len).map F,some a,cap,by rw [hlen],by rw [hlen];exact hl,by unfold maxLen at hm;omega,?_⟩;by_cases hz:len=0
  ·exact .inl (by simp [hz])
  ·have h0:=hx 0 (by omega)
   have sp:=World.cell?_spot h0.1;have hlt:=World.block_lt_of_cell? _ _ h0.1;obtain ⟨b,off,spot⟩:=a;have hspot:spot=none:=by simpa [Addr.add] using sp
   subst hspot;refine .inr ⟨b,off,rfl,by simpa [Addr.add] using hlt,fun k hk=> ?_⟩;rw [hlen] at hk;obtain ⟨c0,c1,_,_⟩:=hx k (by omega);obtain ⟨e0,e1⟩:=hF k hk;have hat:Z7 ((List.range len).map F) k=F k:=by unfold Z7;simp [List.getD,hk]
   rw [hat,<-e0,<-e1];exact N7 c0 c1
theorem IC {H:Type} {enc:TypeId × Value->H} {W:World} {spare:Nat->Bool} {held:Bool} {n:Nat} {v:Value} {y:DataW H × List MemPlace}
  (h:DataW.trod enc prog W 0 spare held n 22 [v]=some y):∃ rs,IsRooms W v rs:=by
 rcases open_slice_pairs underlying22 underlying134 (by kernel_rfl) rfl rfl (by kernel_rfl) (by kernel_rfl) h with ⟨hv,_⟩ | ⟨a,len,cap,m,n',V0,V1,D0,D1,P0,P1,hv,_,hl,hm,hmm,_,hx⟩
 ·cases hv
  exact ⟨[],none,0,rfl,ZY _,by omega,.inl rfl⟩
 ·cases hv
  have hlm:len<=m:=by rw [hmm];split<;>omega
  obtain ⟨F,hF⟩:=choose_lt (α:=Z4) (n:=len) (p:=fun i q=>V0 i= .int .i64 q.1/\IsPaces W (V1 i) q.2) (fun i hi=>by
   obtain ⟨_,_,t0,t1⟩:=hx i (by omega);obtain ⟨q0,e0,_⟩:=DataW.trod_int underlying2 t0;obtain ⟨ps,e1⟩:=IB t1
   exact ⟨(q0,ps),by simpa using e0,e1⟩)
  have hlen:((List.range len).map F).length=len:=by simp
  refine ⟨(List.range len).map F,some a,cap,by rw [hlen],by rw [hlen];exact hl,by unfold maxLen at hm;omega,?_⟩;by_cases hz:len=0
  ·exact .inl (by simp [hz])
  ·have h0:=hx 0 (by omega)
   have sp:=World.cell?_spot h0.1;have hlt:=World.block_lt_of_cell? _ _ h0.1;obtain ⟨b,off,spot⟩:=a;have hspot:spot=none:=by simpa [Addr.add] using sp
   subst hspot;refine .inr ⟨b,off,rfl,by simpa [Addr.add] using hlt,fun k hk=> ?_⟩;rw [hlen] at hk;obtain ⟨c0,c1,_,_⟩:=hx k (by omega);obtain ⟨e0,e1⟩:=hF k hk;have hat:ZU ((List.range len).map F) k=F k:=by unfold ZU;simp [List.getD,hk]
   rw [hat,<-e0];exact ⟨(N7 c0 c1).1,V1 k,(N7 c0 c1).2,e1⟩
theorem Lb {H:Type} {enc:TypeId × Value->H} {W:World} {spare:Nat->Bool} {held:Bool} {n:Nat} {v:Value} {y:DataW H × List MemPlace}
  (h:DataW.trod enc prog W 0 spare held n 25 [v]=some y):∃ ps,Y9 W v ps:=by
 refine QU (k:=3) (enc:=Vf) underlying25 underlying99 (by kernel_rfl) rfl (by kernel_rfl) (by omega) ?_ h;intro cs hl hc
 match cs,hl with
 | [c0,c1,c2],_=>
  obtain ⟨u0,n0,y0,e0,t0⟩:=hc 0 _ rfl;obtain ⟨u1,n1,y1,e1,t1⟩:=hc 1 _ rfl;obtain ⟨u2,n2,y2,e2,t2⟩:=hc 2 _ rfl;obtain ⟨z0,q0,_⟩:=DataW.trod_int underlying2 t0;obtain ⟨z1,q1,_⟩:=DataW.trod_int underlying2 t1;obtain ⟨z2,q2,_⟩:=DataW.trod_int underlying2 t2;cases e0;cases e1;cases e2;cases q0;cases q1;cases q2;exact ⟨(z0,z1,z2),rfl⟩
theorem Lc {H:Type} {enc:TypeId × Value->H} {W:World} {spare:Nat->Bool} {held:Bool} {n:Nat} {v:Value} {y:DataW H × List MemPlace}
  (h:DataW.trod enc prog W 0 spare held n 26 [v]=some y):∃ ps,YZ W v ps:=by
 refine QU (k:=11) (enc:=Zz) underlying26 underlying101 (by kernel_rfl) rfl (by kernel_rfl) (by omega) ?_ h;intro cs hl hc
 match cs,hl with
 | [c0,c1,c2,c3,c4,c5,c6,c7,c8,c9,c10],_=>
  obtain ⟨u0,n0,y0,e0,t0⟩:=hc 0 _ rfl;obtain ⟨u1,n1,y1,e1,t1⟩:=hc 1 _ rfl;obtain ⟨u2,n2,y2,e2,t2⟩:=hc 2 _ rfl;obtain ⟨u3,n3,y3,e3,t3⟩:=hc 3 _ rfl;obtain ⟨u4,n4,y4,e4,t4⟩:=hc 4 _ rfl;obtain ⟨u5,n5,y5,e5,t5⟩:=hc 5 _ rfl;obtain ⟨u6,n6,y6,e6,t6⟩:=hc 6 _ rfl;obtain ⟨u7,n7,y7,e7,t7⟩:=hc 7 _ rfl;obtain ⟨u8,n8,y8,e8,t8⟩:=hc 8 _ rfl;obtain ⟨u9,n9,y9,e9,t9⟩:=hc 9 _ rfl;obtain ⟨u10,n10,y10,e10,t10⟩:=hc 10 _ rfl;obtain ⟨z0,q0,_⟩:=DataW.trod_int underlying2 t0;obtain ⟨z1,q1,_⟩:=DataW.trod_int underlying2 t1;obtain ⟨z2,q2,_⟩:=DataW.trod_int underlying2 t2;obtain ⟨z3,q3,_⟩:=DataW.trod_int underlying2 t3;obtain ⟨z4,q4,_⟩:=DataW.trod_int underlying2 t4;obtain ⟨z5,q5,_⟩:=DataW.trod_int underlying2 t5;obtain ⟨z6,q6,_⟩:=DataW.trod_int underlying2 t6;obtain ⟨z7,q7,_⟩:=DataW.trod_int underlying2 t7;obtain ⟨z8,q8,_⟩:=DataW.trod_int underlying2 t8;obtain ⟨z9,q9,_⟩:=DataW.trod_int underlying2 t9;obtain ⟨z10,q10,_⟩:=DataW.trod_int underlying2 t10;cases e0;cases e1;cases e2;cases e3;cases e4;cases e5;cases e6;cases e7;cases e8;cases e9;cases e10;cases q0;cases q1;cases q2;cases q3;cases q4;cases q5;cases q6;cases q7;cases q8;cases q9;cases q10;exact ⟨(z0,z1,z2,z3,z4,z5,z6,z7,z8,z9,z10),rfl⟩
end Go.Proofs.YtgdpaigcmoifbaaGreatDoor
