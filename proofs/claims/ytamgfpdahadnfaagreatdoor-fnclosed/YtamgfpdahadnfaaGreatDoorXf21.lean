/- Part 21 of what the proof rests on. No condition but those that a theorem names. -/
import Derived.Test.YtamgfpdahadnfaaGreatDoorXf14
import Derived.Test.YtamgfpdahadnfaaGreatDoorXf16
import Derived.LaidMore
import Derived.Stop.Joined
import Derived.Stop.LaidErr
import Derived.Stop.LaidTwo
import Derived.LaidSub
import Derived.LaidHandle
set_option maxHeartbeats 8000000
set_option maxRecDepth 100000
namespace Go.Proofs.YtamgfpdahadnfaaGreatDoor
open Go.ChangeShapes Go.WideShapes Go.ChangeAt Go.RowKit Go.Sort
set_option linter.unusedVariables false
set_option linter.unusedSimpArgs false
set_option maxRecDepth 100000
variable {w w' w0 w1 w2 w3 w₀ wr W W' X A B C : World}
structure Errs (w:World) (q:Int->Addr):Prop where
 c1:w.cell? ⟨3,0,none⟩=some (YA (q 1))
 c2:w.cell? ⟨2,0,none⟩=some (YA (q 2))
 c3:w.cell? ⟨0,0,none⟩=some (YA (q 3))
 c4:w.cell? ⟨1,0,none⟩=some (YA (q 4))
 c5:w.cell? ⟨4,0,none⟩=some (YA (q 5))
 ct:w.cell? ⟨5,0,none⟩=some (rty 62)
 b1:∃ c t,w.heap[(q 1).block]?=some (.cells c t (0,0))
 b2:∃ c t,w.heap[(q 2).block]?=some (.cells c t (0,0))
 b3:∃ c t,w.heap[(q 3).block]?=some (.cells c t (0,0))
 b4:∃ c t,w.heap[(q 4).block]?=some (.cells c t (0,0))
 b5:∃ c t,w.heap[(q 5).block]?=some (.cells c t (0,0))
 n12:q 1 ≠ q 2
 n13:q 1 ≠ q 3
 n14:q 1 ≠ q 4
 n15:q 1 ≠ q 5
 n23:q 2 ≠ q 3
 n24:q 2 ≠ q 4
 n25:q 2 ≠ q 5
 n34:q 3 ≠ q 4
 n35:q 3 ≠ q 5
 n45:q 4 ≠ q 5
theorem SY {k:Nat} (h:∃ c t,w.heap[k]?=some (.cells c t (0,0))) (hb:Below w.heap.size w w'):∃ c t,w'.heap[k]?=some (.cells c t (0,0)):=by
 obtain ⟨c,t,e⟩:=h;exact ⟨c,t,(hb.block k (Array.getElem?_eq_some_iff.1 e).1).trans e⟩
theorem Errs.below {q:Int->Addr} (h:Errs w q) (hb:Below w.heap.size w w'):Errs w' q:=
 ⟨(hb.cell (World.block_lt_of_cell? _ _ h.c1)).trans h.c1,(hb.cell (World.block_lt_of_cell? _ _ h.c2)).trans h.c2,(hb.cell (World.block_lt_of_cell? _ _ h.c3)).trans h.c3,(hb.cell (World.block_lt_of_cell? _ _ h.c4)).trans h.c4,(hb.cell (World.block_lt_of_cell? _ _ h.c5)).trans h.c5,(hb.cell (World.block_lt_of_cell? _ _ h.ct)).trans h.ct,SY h.b1 hb,SY h.b2 hb,SY h.b3 hb,SY h.b4 hb,SY h.b5 hb,h.n12,h.n13,h.n14,h.n15,h.n23,h.n24,h.n25,h.n34,h.n35,h.n45⟩
theorem DZ (w:World):Calls Tryz.prog 93 #[.nilIface] w fun e w'=>e= .returned (.int .i64 0)/\w'=w:=by
 go_enter Tryz.func93,Tryz.ntmps93;go_wp2_with fail;go_ret;exact ⟨rfl,rfl⟩
theorem I5 (p:Nat) {q:Int->Addr} (h:Errs w q) (hp:w.cell? ⟨p,6,none⟩=some (YA (q 1))):Calls Tryz.prog 93 #[OY p] w fun e w'=>e= .returned (.int .i64 1)/\w'=w:=by
 have HE:=Z9 h;have Hp:=Z9 hp;clear hp;obtain ⟨x1,x2,x3,x4,x5,_⟩:=h;go_enter Tryz.func93,Tryz.ntmps93;go_wp2_with fail;refine (UG p (q 1) _ (uh Hp)).mono ?_;rintro e w' ⟨rfl,h9⟩;subst w';go_wp2_with fail;go_ret;exact ⟨rfl,rfl⟩
theorem I6 (p:Nat) {q:Int->Addr} (h:Errs w q) (hp:w.cell? ⟨p,6,none⟩=some (YA (q 2))):Calls Tryz.prog 93 #[OY p] w fun e w'=>e= .returned (.int .i64 2)/\w'=w:=by
 have HE:=Z9 h;have Hp:=Z9 hp;clear hp;obtain ⟨x1,x2,x3,x4,x5,_⟩:=h;go_enter Tryz.func93,Tryz.ntmps93;go_wp2_with fail;obtain ⟨ca,ta,ha⟩:=(uh HE).b2;obtain ⟨cb,tb,hb⟩:=(uh HE).b1;refine (Yx p _ (uh Hp) ((uh HE).n12.symm) ha hb).mono ?_;clear ha hb;rintro e w' ⟨rfl,h9⟩;subst w';go_wp2_with fail;refine (UG p (q 2) _ (uh Hp)).mono ?_;rintro e w' ⟨rfl,h9⟩;subst w';go_wp2_with fail;go_ret;exact ⟨rfl,rfl⟩
theorem I7 (p:Nat) {q:Int->Addr} (h:Errs w q) (hp:w.cell? ⟨p,6,none⟩=some (YA (q 3))):Calls Tryz.prog 93 #[OY p] w fun e w'=>e= .returned (.int .i64 3)/\w'=w:=by
 have HE:=Z9 h;have Hp:=Z9 hp;clear hp;obtain ⟨x1,x2,x3,x4,x5,_⟩:=h;go_enter Tryz.func93,Tryz.ntmps93;go_wp2_with fail;obtain ⟨ca,ta,ha⟩:=(uh HE).b3;obtain ⟨cb,tb,hb⟩:=(uh HE).b1;refine (Yx p _ (uh Hp) ((uh HE).n13.symm) ha hb).mono ?_;clear ha hb;rintro e w' ⟨rfl,h9⟩;subst w';go_wp2_with fail;obtain ⟨ca,ta,ha⟩:=(uh HE).b3;obtain ⟨cb,tb,hb⟩:=(uh HE).b2;refine (Yx p _ (uh Hp) ((uh HE).n23.symm) ha hb).mono ?_;clear ha hb;rintro e w' ⟨rfl,h9⟩;subst w';go_wp2_with fail;obtain ⟨ca,ta,ha⟩:=(uh HE).b3;obtain ⟨cb,tb,hb⟩:=(uh HE).b4;refine (Yx p _ (uh Hp) ((uh HE).n34) ha hb).mono ?_;clear ha hb;rintro e w' ⟨rfl,h9⟩;subst w';go_wp2_with fail;obtain ⟨ca,ta,ha⟩:=(uh HE).b3;obtain ⟨cb,tb,hb⟩:=(uh HE).b5;refine (Yx p _ (uh Hp) ((uh HE).n35) ha hb).mono ?_;clear ha hb;rintro e w' ⟨rfl,h9⟩;subst w';go_wp2_with fail;go_ret;exact ⟨rfl,rfl⟩
theorem I8 (p:Nat) {q:Int->Addr} (h:Errs w q) (hp:w.cell? ⟨p,6,none⟩=some (YA (q 4))):Calls Tryz.prog 93 #[OY p] w fun e w'=>e= .returned (.int .i64 4)/\w'=w:=by
 have HE:=Z9 h;have Hp:=Z9 hp;clear hp;obtain ⟨x1,x2,x3,x4,x5,_⟩:=h;go_enter Tryz.func93,Tryz.ntmps93;go_wp2_with fail;obtain ⟨ca,ta,ha⟩:=(uh HE).b4;obtain ⟨cb,tb,hb⟩:=(uh HE).b1;refine (Yx p _ (uh Hp) ((uh HE).n14.symm) ha hb).mono ?_;clear ha hb;rintro e w' ⟨rfl,h9⟩;subst w';go_wp2_with fail;obtain ⟨ca,ta,ha⟩:=(uh HE).b4;obtain ⟨cb,tb,hb⟩:=(uh HE).b2;refine (Yx p _ (uh Hp) ((uh HE).n24.symm) ha hb).mono ?_;clear ha hb;rintro e w' ⟨rfl,h9⟩;subst w';go_wp2_with fail;refine (UG p (q 4) _ (uh Hp)).mono ?_;rintro e w' ⟨rfl,h9⟩;subst w';go_wp2_with fail;go_ret;exact ⟨rfl,rfl⟩
theorem I9 (p:Nat) {q:Int->Addr} (h:Errs w q) (hp:w.cell? ⟨p,6,none⟩=some (YA (q 5))):Calls Tryz.prog 93 #[OY p] w fun e w'=>e= .returned (.int .i64 5)/\w'=w:=by
 have HE:=Z9 h;have Hp:=Z9 hp;clear hp;obtain ⟨x1,x2,x3,x4,x5,_⟩:=h;go_enter Tryz.func93,Tryz.ntmps93;go_wp2_with fail;obtain ⟨ca,ta,ha⟩:=(uh HE).b5;obtain ⟨cb,tb,hb⟩:=(uh HE).b1;refine (Yx p _ (uh Hp) ((uh HE).n15.symm) ha hb).mono ?_;clear ha hb;rintro e w' ⟨rfl,h9⟩;subst w';go_wp2_with fail;obtain ⟨ca,ta,ha⟩:=(uh HE).b5;obtain ⟨cb,tb,hb⟩:=(uh HE).b2;refine (Yx p _ (uh Hp) ((uh HE).n25.symm) ha hb).mono ?_;clear ha hb;rintro e w' ⟨rfl,h9⟩;subst w';go_wp2_with fail;obtain ⟨ca,ta,ha⟩:=(uh HE).b5;obtain ⟨cb,tb,hb⟩:=(uh HE).b4;refine (Yx p _ (uh Hp) ((uh HE).n45.symm) ha hb).mono ?_;clear ha hb;rintro e w' ⟨rfl,h9⟩;subst w';go_wp2_with fail;refine (UG p (q 5) _ (uh Hp)).mono ?_;rintro e w' ⟨rfl,h9⟩;subst w';go_wp2_with fail;go_ret;exact ⟨rfl,rfl⟩
theorem FV {q:Int->Addr} (h:Errs w q):Calls Tryz.prog 93 #[YA (q 3)] w fun e w'=>e= .returned (.int .i64 3)/\w'=w:=by
 have HE:=Z9 h;obtain ⟨x1,x2,x3,x4,x5,_⟩:=h;go_enter Tryz.func93,Tryz.ntmps93;go_wp2_with fail;obtain ⟨ca,ta,ha⟩:=(uh HE).b3;obtain ⟨cb,tb,hb⟩:=(uh HE).b1;refine (Pu _ ((uh HE).n13.symm) ha hb).mono ?_;clear ha hb;rintro e w' ⟨rfl,h9⟩;subst w';go_wp2_with fail;obtain ⟨ca,ta,ha⟩:=(uh HE).b3;obtain ⟨cb,tb,hb⟩:=(uh HE).b2;refine (Pu _ ((uh HE).n23.symm) ha hb).mono ?_;clear ha hb;rintro e w' ⟨rfl,h9⟩;subst w';go_wp2_with fail;obtain ⟨ca,ta,ha⟩:=(uh HE).b3;obtain ⟨cb,tb,hb⟩:=(uh HE).b4;refine (Pu _ ((uh HE).n34) ha hb).mono ?_;clear ha hb;rintro e w' ⟨rfl,h9⟩;subst w';go_wp2_with fail;obtain ⟨ca,ta,ha⟩:=(uh HE).b3;obtain ⟨cb,tb,hb⟩:=(uh HE).b5;refine (Pu _ ((uh HE).n35) ha hb).mono ?_;clear ha hb;rintro e w' ⟨rfl,h9⟩;subst w';go_wp2_with fail;go_ret;exact ⟨rfl,rfl⟩
theorem FW {c:Int} (hc:c=1\/c=2\/c=3\/c=4\/c=5) (p:Nat) {q:Int->Addr} (h:Errs w q) (hp:w.cell? ⟨p,6,none⟩=some (YA (q c))):Calls Tryz.prog 93 #[OY p] w fun e w'=>e= .returned (.int .i64 c)/\w'=w:=by
 rcases hc with rfl | rfl | rfl | rfl | rfl
 ·exact I5 p h hp
 ·exact I6 p h hp
 ·exact I7 p h hp
 ·exact I8 p h hp
 ·exact I9 p h hp
open Draw (St Off Row Cur)
theorem Gc {ps:List Zt} {ab low hi:Int} (h:Zg ps=true) (hl:ps.length<=5) (a0:0<=ab) (a1:ab<(ps.length:Int)+1) (l0:0<=low) (l1:low<=hi) (h1:hi<=1024):Zg (ps++[(ab-1,low,hi)])=true:=by
 obtain ⟨hu,_⟩:=Vl h;unfold Zg;rw [List.length_append];show (TW _ (ps.length+1) && decide (ps.length+1<=6))=true;rw [decide_eq_true (by omega),Bool.and_true,Ql]
 have hsame:TW (ps++[(ab-1,low,hi)]) ps.length=true:=by
  unfold TW;refine List.all_eq_true.2 fun j hj=> ?_;have hj':=List.mem_range.1 hj;rw [Vu,if_neg (by omega)];exact Iy hu hj'
 rw [hsame,Vu,if_pos rfl,Bool.true_and];unfold Xd Ya;simp only [ZL,YZ];exact ⟨Zp (by omega) (by omega),⟨Zp l0 (by omega),Zp (by omega) h1⟩,l1⟩
theorem Jh (a:Option Addr) (len cap bc:Nat) (w:World) (hs:St a len cap bc w) :
  Calls Tryz.prog 149 #[.pointer (some ⟨bc,0,none⟩)] w fun e w'=> ∃ v ps,e= .returned v/\Zg ps=true/\Gbox a len cap bc w w' v ps:=by
 have Hs:=Z9 hs;have hbc:=Wa hs;clear hs;go_enter Tryz.func149,Tryz.ntmps149;go_wp2_with fail;have HE:Hid (GuildsAt w.heap.size (w.alloc (.cells #[] 75)) (.slice (some ⟨w.heap.size,0,none⟩) 0 0) []):=Z9 (Y3 rfl (Z2 _));refine (Draw.below_any a len cap bc 5 (by omega) (by omega) _ ((uh Hs).alloc _)).mono ?_;rintro e w1 ⟨n,rfl,n0,n1,s1,o1⟩;have HG1:Hid (Gbox a len cap bc w w1 (.slice (some ⟨w.heap.size,0,none⟩) 0 0) []):=Z9 (Gbox.step ⟨(uh Hs).alloc _,(Off.refl _ _).alloc _,hbc,uh HE⟩ s1 o1);clear s1 o1 HE;go_wp2_with fail
 go_loopw [3,4] (fun s i wr=> ∃ (k:Nat) (ps:List Zt),ps.length+k<=4/\Zg ps=true/\i= .int .i64 k/\Gbox a len cap bc w wr s ps) (fun _ i _=>(intOf i).toNat)
 case atStart=>exact ⟨n.toNat,[],by simp;omega,rfl,by rw [show ((n.toNat:Nat):Int)=n by omega],uh HG1⟩
 case round=>
  obtain ⟨k,ps,hk,hgs,rfl,hG⟩:=hrel;have Hgs:=Z9 hgs;clear hgs;obtain ⟨ra,rcap,rfl⟩:=RecAt.shape hG.row;have HG:=Z9 hG;clear hG;by_cases hk0:0<k
  ·go_wp2_with fail
   refine (Draw.below_any a len cap bc 600 (by omega) (by omega) _ (uh HG).st).mono ?_;rintro e w2 ⟨low,rfl,l0,l1,s2,o2⟩;have HG2:=Z9 ((uh HG).step s2 o2);clear s2 o2 HG;go_wp2_with fail;refine (Draw.below_any a len cap bc _ (by omega) (by omega) _ (uh HG2).st).mono ?_;rintro e w3 ⟨ab,rfl,a0,a1,s3,o3⟩;have HG3:=Z9 ((uh HG2).step s3 o3);clear s3 o3 HG2;go_wp2_with fail;refine (Draw.from_any a len cap bc low 1024 (by omega) (by omega) (by omega) _ (uh HG3).st).mono ?_;rintro e w4 ⟨hi,rfl,h0,h1,s4,o4⟩;have HG4:=Z9 ((uh HG3).step s4 o4);have hsz:=(uh HG4).off.size;clear s4 o4 HG3;go_wp2_with (at_builtin;refine ZE DI rfl (.tmp 15) (.tmp 27) 27 Tryz.underlying27 rfl w.heap.size _ _ ps [(ab-1,low,hi)] rfl rfl ((uh HG4).alloc _).row (L7 _ _ _ rfl (Z2 _) (by omega)) (by simp;omega) (by simp;omega) ?_;intro v' w5 hown hgrow hat)
   have HG5:=Z9 (((uh HG4).alloc _).grown hgrow hown);clear hown hgrow hat;go_wp2_with fail;go_roundw
   case rel=>exact ⟨k-1,ps++[(ab-1,low,hi)],by simp;omega,Gc (uh Hgs) (by omega) (by omega) (by omega) (by omega) (by omega) (by omega),by rw [show ((k:Int)-1)=((k-1:Nat):Int) by omega],uh HG5⟩
   case measure=>exact ms
  ·obtain rfl:k=0:=by omega
   go_wp2_with fail;go_ret;exact ⟨_,ps,rfl,uh Hgs,uh HG⟩
theorem G0 (st be rk my gu lo hi hd ca ut wk:Int) (w:World):Calls Tryz.prog 14 #[.agg (I11 st be rk my gu lo hi hd ca ut wk)] w fun e w'=>
  e= .returned (.bool (ZR (st,be,rk,my,gu,lo,hi,hd,ca,ut,wk)))/\Below w.heap.size w w':=by
 unfold ZR;simp only;cases h2:(st ==2)
 all_goals
  go_enter Tryz.func14,Tryz.ntmps14;go_wp2_with fail;go_ret;exact ⟨by first | rfl | (simp),(ba _ _)⟩
theorem OW {st be rk my gu lo hi hd ca ut wk:Int} {q:Bool} (h:ZR (st,be,rk,my,gu,lo,hi,hd,ca,ut,wk)=q) (w:World):Calls Tryz.prog 14 #[.agg (I11 st be rk my gu lo hi hd ca ut wk)] w fun e w'=>e= .returned (.bool q)/\Below w.heap.size w w':=by
 have:=G0 st be rk my gu lo hi hd ca ut wk w;rw [h] at this;exact this
open Go.ChangeShapes Go.WideShapes Go.ChangeAt Go.RowKit
set_option maxRecDepth 100000
theorem xE : "*" ++ "errors.errorString" = "*errors.errorString" := by decide
theorem AP (u : TypeId) (h : Tryz.prog.typeName? 3 u = some "*errors.errorString") : u = 288 :=
 typeName_ptr_named (nm := "errors.errorString") (by rw [xE]; kernel_rfl) (by kernel_rfl) (by decide) u (by rw [xE]; exact h)
theorem xv : (Tryz.prog.cutTypes.find? (·.1 == "internal/reflectlite.rtype")).map (·.2) = some 193 := by kernel_rfl
theorem ym:((List.range Tryz.prog.types.size).filter fun t=>Tryz.prog.rowNamed t [101,114,114,111,114])=[62]:=by kernel_rfl
theorem xB : Tryz.prog.globalNamed "errors.errorType" = some 5 := by kernel_rfl
theorem Ic {a b:Addr} {x:Option (Array Value)} (h:x=some #[YA a]) (k:x=some #[YA b]):a=b:=by
 rw [h] at k;simpa using k
theorem RE {n : String} {g : Nat} {text : List UInt8} {r : List (String × DataW Unit)} (h : laidMet Tryz.prog ((n, .iface "*errors.errorString" (.ptr (.agg [.lit (.string text)]))) :: r) W)
  (hg:Tryz.prog.globalNamed n=some g) (ht:(Tryz.prog.globals[g]?).map (·.type)=some 62):∃ a,W.var? Tryz.prog n=some #[YA a]/\W.cell? ⟨g,0,none⟩=some (YA a):=by
 obtain ⟨a,s,hv,_⟩:=laid_sentinel h hg ht Tryz.underlying62 AP Tryz.underlying288 Tryz.underlying315 rfl rfl Tryz.underlying9 (by kernel_rfl) (by kernel_rfl);exact ⟨a,hv,by rw [World.var?_cell hg hv 0];rfl⟩
theorem Wb {n0 n1 : String} {g0 g1 : Nat} {text0 text1 : List UInt8} {r : List (String × DataW Unit)} {a0 a1 : Addr} (h : laidMet Tryz.prog ((n0, .iface "*errors.errorString" (.ptr (.agg [.lit (.string text0)]))) :: (n1, .iface "*errors.errorString" (.ptr (.agg [.lit (.string text1)]))) :: r) W)
  (hg0:Tryz.prog.globalNamed n0=some g0) (ht0:(Tryz.prog.globals[g0]?).map (·.type)=some 62) (hg1:Tryz.prog.globalNamed n1=some g1) (ht1:(Tryz.prog.globals[g1]?).map (·.type)=some 62)
  (v0:W.var? Tryz.prog n0=some #[YA a0]) (v1:W.var? Tryz.prog n1=some #[YA a1]):a0 ≠ a1/\(∃ c t,W.heap[a0.block]?=some (.cells c t (0,0)))/\(∃ c t,W.heap[a1.block]?=some (.cells c t (0,0))):=by
 obtain ⟨b0,b1,s0,s1,c0,c1,t0,t1,hv0,hv1,_,_,_,_,_,_,hne,hb0,hb1⟩:=laid_sentinels2 h hg0 ht0 hg1 ht1 Tryz.underlying62 AP Tryz.underlying288 Tryz.underlying315 rfl rfl Tryz.underlying9 (by kernel_rfl) (by kernel_rfl);obtain rfl:=Ic hv0 v0;obtain rfl:=Ic hv1 v1;exact ⟨hne,⟨c0,t0,hb0⟩,⟨c1,t1,hb1⟩⟩
theorem Tb : Tryz.prog.globalNamed "loop.example/g00553/impl.errNone" = some 3 := by kernel_rfl
theorem Tt:(Tryz.prog.globals[3]?).map (·.type)=some 62:=by kernel_rfl
theorem Ua : Tryz.prog.globalNamed "loop.example/g00553/impl.errState" = some 2 := by kernel_rfl
theorem Ut:(Tryz.prog.globals[2]?).map (·.type)=some 62:=by kernel_rfl
theorem T6 : Tryz.prog.globalNamed "loop.example/g00553/impl.errRange" = some 0 := by kernel_rfl
theorem Us:(Tryz.prog.globals[0]?).map (·.type)=some 62:=by kernel_rfl
theorem S9 : Tryz.prog.globalNamed "loop.example/g00553/impl.errFull" = some 1 := by kernel_rfl
theorem Tq:(Tryz.prog.globals[1]?).map (·.type)=some 62:=by kernel_rfl
theorem Ta : Tryz.prog.globalNamed "loop.example/g00553/impl.errLast" = some 4 := by kernel_rfl
theorem Ts:(Tryz.prog.globals[4]?).map (·.type)=some 62:=by kernel_rfl
theorem yh (h : laidMetH Tryz.prog (("errors.errorType", Rows.laid_errors_errorType) :: [("loop.example/g00553/impl.errNone", Rows.laid_loop_example_g00553_impl_errNone), ("loop.example/g00553/impl.errState", Rows.laid_loop_example_g00553_impl_errState), ("loop.example/g00553/impl.errRange", Rows.laid_loop_example_g00553_impl_errRange), ("loop.example/g00553/impl.errFull", Rows.laid_loop_example_g00553_impl_errFull), ("loop.example/g00553/impl.errLast", Rows.laid_loop_example_g00553_impl_errLast)]) W) : ∃ q, Errs W q := by
 have h' : laidMet Tryz.prog [("loop.example/g00553/impl.errNone", Rows.laid_loop_example_g00553_impl_errNone), ("loop.example/g00553/impl.errState", Rows.laid_loop_example_g00553_impl_errState), ("loop.example/g00553/impl.errRange", Rows.laid_loop_example_g00553_impl_errRange), ("loop.example/g00553/impl.errFull", Rows.laid_loop_example_g00553_impl_errFull), ("loop.example/g00553/impl.errLast", Rows.laid_loop_example_g00553_impl_errLast)] W ∧ handlesMet Tryz.prog [("errors.errorType", Rows.laid_errors_errorType)] W := h;obtain ⟨h0,hh⟩:=h'
 have ct:W.cell? ⟨5,0,none⟩=some (rty 62):=by
  obtain ⟨name,u,ty,e1,e2,e3,e4,e5⟩:=hh _ (List.mem_singleton.2 rfl);have en:name=[101,114,114,111,114]:=(Option.some.inj e1).symm;subst en;obtain rfl:=Option.some.inj (xv.symm.trans e2);have hm:ty ∈ (List.range Tryz.prog.types.size).filter fun t=>Tryz.prog.rowNamed t [101,114,114,111,114]:=List.mem_filter.2 ⟨List.mem_range.2 e3,e4⟩;rw [ym] at hm;obtain rfl:=List.mem_singleton.1 hm;have h9:typeHandle Tryz.prog 62= .pointer (some ⟨6,62,none⟩):=by kernel_rfl
  rw [h9] at e5;rw [World.var?_cell xB e5 0];rfl
 have h13 : laidMet Tryz.prog [("loop.example/g00553/impl.errNone", Rows.laid_loop_example_g00553_impl_errNone), ("loop.example/g00553/impl.errRange", Rows.laid_loop_example_g00553_impl_errRange)] W := by
  have k := h0.filter (fun x => x.1 != "loop.example/g00553/impl.errState" && x.1 != "loop.example/g00553/impl.errFull" && x.1 != "loop.example/g00553/impl.errLast")
  rwa [show List.filter (fun x => x.1 != "loop.example/g00553/impl.errState" && x.1 != "loop.example/g00553/impl.errFull" && x.1 != "loop.example/g00553/impl.errLast") [("loop.example/g00553/impl.errNone", Rows.laid_loop_example_g00553_impl_errNone), ("loop.example/g00553/impl.errState", Rows.laid_loop_example_g00553_impl_errState), ("loop.example/g00553/impl.errRange", Rows.laid_loop_example_g00553_impl_errRange), ("loop.example/g00553/impl.errFull", Rows.laid_loop_example_g00553_impl_errFull), ("loop.example/g00553/impl.errLast", Rows.laid_loop_example_g00553_impl_errLast)] = [("loop.example/g00553/impl.errNone", Rows.laid_loop_example_g00553_impl_errNone), ("loop.example/g00553/impl.errRange", Rows.laid_loop_example_g00553_impl_errRange)] from by kernel_rfl] at k
 have h14 : laidMet Tryz.prog [("loop.example/g00553/impl.errNone", Rows.laid_loop_example_g00553_impl_errNone), ("loop.example/g00553/impl.errFull", Rows.laid_loop_example_g00553_impl_errFull)] W := by
  have k := h0.filter (fun x => x.1 != "loop.example/g00553/impl.errState" && x.1 != "loop.example/g00553/impl.errRange" && x.1 != "loop.example/g00553/impl.errLast")
  rwa [show List.filter (fun x => x.1 != "loop.example/g00553/impl.errState" && x.1 != "loop.example/g00553/impl.errRange" && x.1 != "loop.example/g00553/impl.errLast") [("loop.example/g00553/impl.errNone", Rows.laid_loop_example_g00553_impl_errNone), ("loop.example/g00553/impl.errState", Rows.laid_loop_example_g00553_impl_errState), ("loop.example/g00553/impl.errRange", Rows.laid_loop_example_g00553_impl_errRange), ("loop.example/g00553/impl.errFull", Rows.laid_loop_example_g00553_impl_errFull), ("loop.example/g00553/impl.errLast", Rows.laid_loop_example_g00553_impl_errLast)] = [("loop.example/g00553/impl.errNone", Rows.laid_loop_example_g00553_impl_errNone), ("loop.example/g00553/impl.errFull", Rows.laid_loop_example_g00553_impl_errFull)] from by kernel_rfl] at k
 have h15 : laidMet Tryz.prog [("loop.example/g00553/impl.errNone", Rows.laid_loop_example_g00553_impl_errNone), ("loop.example/g00553/impl.errLast", Rows.laid_loop_example_g00553_impl_errLast)] W := by
  have k := h0.filter (fun x => x.1 != "loop.example/g00553/impl.errState" && x.1 != "loop.example/g00553/impl.errRange" && x.1 != "loop.example/g00553/impl.errFull")
  rwa [show List.filter (fun x => x.1 != "loop.example/g00553/impl.errState" && x.1 != "loop.example/g00553/impl.errRange" && x.1 != "loop.example/g00553/impl.errFull") [("loop.example/g00553/impl.errNone", Rows.laid_loop_example_g00553_impl_errNone), ("loop.example/g00553/impl.errState", Rows.laid_loop_example_g00553_impl_errState), ("loop.example/g00553/impl.errRange", Rows.laid_loop_example_g00553_impl_errRange), ("loop.example/g00553/impl.errFull", Rows.laid_loop_example_g00553_impl_errFull), ("loop.example/g00553/impl.errLast", Rows.laid_loop_example_g00553_impl_errLast)] = [("loop.example/g00553/impl.errNone", Rows.laid_loop_example_g00553_impl_errNone), ("loop.example/g00553/impl.errLast", Rows.laid_loop_example_g00553_impl_errLast)] from by kernel_rfl] at k
 have h24 : laidMet Tryz.prog [("loop.example/g00553/impl.errState", Rows.laid_loop_example_g00553_impl_errState), ("loop.example/g00553/impl.errFull", Rows.laid_loop_example_g00553_impl_errFull)] W := by
  have k := h0.filter (fun x => x.1 != "loop.example/g00553/impl.errNone" && x.1 != "loop.example/g00553/impl.errRange" && x.1 != "loop.example/g00553/impl.errLast")
  rwa [show List.filter (fun x => x.1 != "loop.example/g00553/impl.errNone" && x.1 != "loop.example/g00553/impl.errRange" && x.1 != "loop.example/g00553/impl.errLast") [("loop.example/g00553/impl.errNone", Rows.laid_loop_example_g00553_impl_errNone), ("loop.example/g00553/impl.errState", Rows.laid_loop_example_g00553_impl_errState), ("loop.example/g00553/impl.errRange", Rows.laid_loop_example_g00553_impl_errRange), ("loop.example/g00553/impl.errFull", Rows.laid_loop_example_g00553_impl_errFull), ("loop.example/g00553/impl.errLast", Rows.laid_loop_example_g00553_impl_errLast)] = [("loop.example/g00553/impl.errState", Rows.laid_loop_example_g00553_impl_errState), ("loop.example/g00553/impl.errFull", Rows.laid_loop_example_g00553_impl_errFull)] from by kernel_rfl] at k
 have h25 : laidMet Tryz.prog [("loop.example/g00553/impl.errState", Rows.laid_loop_example_g00553_impl_errState), ("loop.example/g00553/impl.errLast", Rows.laid_loop_example_g00553_impl_errLast)] W := by
  have k := h0.filter (fun x => x.1 != "loop.example/g00553/impl.errNone" && x.1 != "loop.example/g00553/impl.errRange" && x.1 != "loop.example/g00553/impl.errFull")
  rwa [show List.filter (fun x => x.1 != "loop.example/g00553/impl.errNone" && x.1 != "loop.example/g00553/impl.errRange" && x.1 != "loop.example/g00553/impl.errFull") [("loop.example/g00553/impl.errNone", Rows.laid_loop_example_g00553_impl_errNone), ("loop.example/g00553/impl.errState", Rows.laid_loop_example_g00553_impl_errState), ("loop.example/g00553/impl.errRange", Rows.laid_loop_example_g00553_impl_errRange), ("loop.example/g00553/impl.errFull", Rows.laid_loop_example_g00553_impl_errFull), ("loop.example/g00553/impl.errLast", Rows.laid_loop_example_g00553_impl_errLast)] = [("loop.example/g00553/impl.errState", Rows.laid_loop_example_g00553_impl_errState), ("loop.example/g00553/impl.errLast", Rows.laid_loop_example_g00553_impl_errLast)] from by kernel_rfl] at k
 have h35 : laidMet Tryz.prog [("loop.example/g00553/impl.errRange", Rows.laid_loop_example_g00553_impl_errRange), ("loop.example/g00553/impl.errLast", Rows.laid_loop_example_g00553_impl_errLast)] W := by
  have k := h0.filter (fun x => x.1 != "loop.example/g00553/impl.errNone" && x.1 != "loop.example/g00553/impl.errState" && x.1 != "loop.example/g00553/impl.errFull")
  rwa [show List.filter (fun x => x.1 != "loop.example/g00553/impl.errNone" && x.1 != "loop.example/g00553/impl.errState" && x.1 != "loop.example/g00553/impl.errFull") [("loop.example/g00553/impl.errNone", Rows.laid_loop_example_g00553_impl_errNone), ("loop.example/g00553/impl.errState", Rows.laid_loop_example_g00553_impl_errState), ("loop.example/g00553/impl.errRange", Rows.laid_loop_example_g00553_impl_errRange), ("loop.example/g00553/impl.errFull", Rows.laid_loop_example_g00553_impl_errFull), ("loop.example/g00553/impl.errLast", Rows.laid_loop_example_g00553_impl_errLast)] = [("loop.example/g00553/impl.errRange", Rows.laid_loop_example_g00553_impl_errRange), ("loop.example/g00553/impl.errLast", Rows.laid_loop_example_g00553_impl_errLast)] from by kernel_rfl] at k
 obtain ⟨a1,v1,c1⟩:=RE h0 Tb Tt;obtain ⟨a2,v2,c2⟩:=RE h0.tail Ua Ut;obtain ⟨a3,v3,c3⟩:=RE h0.tail.tail T6 Us;obtain ⟨a4,v4,c4⟩:=RE h0.tail.tail.tail S9 Tq;obtain ⟨a5,v5,c5⟩:=RE h0.tail.tail.tail.tail Ta Ts;obtain ⟨n12,b12a,b12b⟩:=Wb h0 Tb Tt Ua Ut v1 v2;obtain ⟨n13,b13a,b13b⟩:=Wb h13 Tb Tt T6 Us v1 v3;obtain ⟨n14,b14a,b14b⟩:=Wb h14 Tb Tt S9 Tq v1 v4;obtain ⟨n15,b15a,b15b⟩:=Wb h15 Tb Tt Ta Ts v1 v5;obtain ⟨n23,b23a,b23b⟩:=Wb h0.tail Ua Ut T6 Us v2 v3;obtain ⟨n24,b24a,b24b⟩:=Wb h24 Ua Ut S9 Tq v2 v4;obtain ⟨n25,b25a,b25b⟩:=Wb h25 Ua Ut Ta Ts v2 v5;obtain ⟨n34,b34a,b34b⟩:=Wb h0.tail.tail T6 Us S9 Tq v3 v4;obtain ⟨n35,b35a,b35b⟩:=Wb h35 T6 Us Ta Ts v3 v5;obtain ⟨n45,b45a,b45b⟩:=Wb h0.tail.tail.tail S9 Tq Ta Ts v4 v5;exact ⟨fun i=>if i=1 then a1 else if i=2 then a2 else if i=3 then a3 else if i=4 then a4 else a5,c1,c2,c3,c4,c5,ct,b12a,b12b,b23b,b34b,b45b,n12,n13,n14,n15,n23,n24,n25,n34,n35,n45⟩
end Go.Proofs.YtamgfpdahadnfaaGreatDoor
