/- Part 22 of what the proof rests on. No condition but those that a theorem names. -/
import Derived.Test.YtgdpaigcmoifbaaGreatDoorXr03
import Derived.Test.YtgdpaigcmoifbaaGreatDoorXr19
import Derived.Test.YtgdpaigcmoifbaaGreatDoorRows
import Derived.LaidMore
import Derived.Stop.Joined
import Derived.Stop.LaidErr
import Derived.Stop.LaidTwo
import Derived.LaidSub
import Derived.LaidHandle
namespace Go.Proofs.YtgdpaigcmoifbaaGreatDoor
open Go.ChangeShapes Go.WideShapes Go.ChangeAt Go.RowKit Go.Sort Go.Proofs.Tryz
set_option linter.unusedVariables false
set_option linter.unusedSimpArgs false
set_option maxRecDepth 100000
variable {w w' w0 w1 w2 w3 w₀ wr W W' X A B C : World}
structure Errs (w:World) (q:Int->Addr):Prop where
 c1:w.cell? ⟨1,0,none⟩=some (Xx (q 1))
 c2:w.cell? ⟨2,0,none⟩=some (Xx (q 2))
 c3:w.cell? ⟨0,0,none⟩=some (Xx (q 3))
 c4:w.cell? ⟨3,0,none⟩=some (Xx (q 4))
 c5:w.cell? ⟨5,0,none⟩=some (Xx (q 5))
 ct:w.cell? ⟨4,0,none⟩=some (rty 69)
 b1:∃ c t,w.heap[(q 1).block]?=some (.cells c t (0,0))
 b2:∃ c t,w.heap[(q 2).block]?=some (.cells c t (0,0))
 b3:∃ c t,w.heap[(q 3).block]?=some (.cells c t (0,0))
 b4:∃ c t,w.heap[(q 4).block]?=some (.cells c t (0,0))
 b5:∃ c t,w.heap[(q 5).block]?=some (.cells c t (0,0))
 n12:q 1 ≠ q 2
 n13:q 1 ≠ q 3
 n14:q 1 ≠ q 4
 n15:q 1 ≠ q 5
 n23:q 2 ≠ q 3
 n24:q 2 ≠ q 4
 n25:q 2 ≠ q 5
 n34:q 3 ≠ q 4
 n35:q 3 ≠ q 5
 n45:q 4 ≠ q 5
theorem Ut {k:Nat} (h:∃ c t,w.heap[k]?=some (.cells c t (0,0))) (hb:Below w.heap.size w w'):∃ c t,w'.heap[k]?=some (.cells c t (0,0)):=by
 obtain ⟨c,t,e⟩:=h;exact ⟨c,t,(hb.block k (Array.getElem?_eq_some_iff.1 e).1).trans e⟩
theorem Errs.below {q:Int->Addr} (h:Errs w q) (hb:Below w.heap.size w w'):Errs w' q:=
 ⟨(hb.cell (World.block_lt_of_cell? _ _ h.c1)).trans h.c1,(hb.cell (World.block_lt_of_cell? _ _ h.c2)).trans h.c2,(hb.cell (World.block_lt_of_cell? _ _ h.c3)).trans h.c3,(hb.cell (World.block_lt_of_cell? _ _ h.c4)).trans h.c4,(hb.cell (World.block_lt_of_cell? _ _ h.c5)).trans h.c5,(hb.cell (World.block_lt_of_cell? _ _ h.ct)).trans h.ct,Ut h.b1 hb,Ut h.b2 hb,Ut h.b3 hb,Ut h.b4 hb,Ut h.b5 hb,h.n12,h.n13,h.n14,h.n15,h.n23,h.n24,h.n25,h.n34,h.n35,h.n45⟩
theorem G5 (w:World):cE 77 #[.nilIface] w (.int .i64 0):=by
 go_enter func77,ntmps77;go_wp2_with fail;go_ret;exact ⟨rfl,rfl⟩
theorem LA (p:Nat) {q:Int->Addr} (h:Errs w q) (hp:w.cell? ⟨p,6,none⟩=some (Xx (q 1))):cE 77 #[QW p] w (.int .i64 1):=by
 have HE:=Z9 h;have Hp:=Z9 hp;clear hp;obtain ⟨x1,x2,x3,x4,x5,_⟩:=h;go_enter func77,ntmps77;go_wp2_with fail;refine (VB p (q 1) _ (uh Hp)).mono ?_;rintro e w' ⟨rfl,h9⟩;subst w';go_wp2_with fail;go_ret;exact ⟨rfl,rfl⟩
theorem LB (p:Nat) {q:Int->Addr} (h:Errs w q) (hp:w.cell? ⟨p,6,none⟩=some (Xx (q 2))):cE 77 #[QW p] w (.int .i64 2):=by
 have HE:=Z9 h;have Hp:=Z9 hp;clear hp;obtain ⟨x1,x2,x3,x4,x5,_⟩:=h;go_enter func77,ntmps77;go_wp2_with fail;obtain ⟨ca,ta,ha⟩:=(uh HE).b2;obtain ⟨cb,tb,hb⟩:=(uh HE).b1;refine (Y6 p _ (uh Hp) ((uh HE).n12.symm) ha hb).mono ?_;clear ha hb;rintro e w' ⟨rfl,h9⟩;subst w';go_wp2_with fail;refine (VB p (q 2) _ (uh Hp)).mono ?_;rintro e w' ⟨rfl,h9⟩;subst w';go_wp2_with fail;go_ret;exact ⟨rfl,rfl⟩
theorem LC (p:Nat) {q:Int->Addr} (h:Errs w q) (hp:w.cell? ⟨p,6,none⟩=some (Xx (q 3))):cE 77 #[QW p] w (.int .i64 3):=by
 have HE:=Z9 h;have Hp:=Z9 hp;clear hp;obtain ⟨x1,x2,x3,x4,x5,_⟩:=h;go_enter func77,ntmps77;go_wp2_with fail;obtain ⟨ca,ta,ha⟩:=(uh HE).b3;obtain ⟨cb,tb,hb⟩:=(uh HE).b1;refine (Y6 p _ (uh Hp) ((uh HE).n13.symm) ha hb).mono ?_;clear ha hb;rintro e w' ⟨rfl,h9⟩;subst w';go_wp2_with fail;obtain ⟨ca,ta,ha⟩:=(uh HE).b3;obtain ⟨cb,tb,hb⟩:=(uh HE).b2;refine (Y6 p _ (uh Hp) ((uh HE).n23.symm) ha hb).mono ?_;clear ha hb;rintro e w' ⟨rfl,h9⟩;subst w';go_wp2_with fail;obtain ⟨ca,ta,ha⟩:=(uh HE).b3;obtain ⟨cb,tb,hb⟩:=(uh HE).b4;refine (Y6 p _ (uh Hp) ((uh HE).n34) ha hb).mono ?_;clear ha hb;rintro e w' ⟨rfl,h9⟩;subst w';go_wp2_with fail;obtain ⟨ca,ta,ha⟩:=(uh HE).b3;obtain ⟨cb,tb,hb⟩:=(uh HE).b5;refine (Y6 p _ (uh Hp) ((uh HE).n35) ha hb).mono ?_;clear ha hb;rintro e w' ⟨rfl,h9⟩;subst w';go_wp2_with fail;go_ret;exact ⟨rfl,rfl⟩
theorem LD (p:Nat) {q:Int->Addr} (h:Errs w q) (hp:w.cell? ⟨p,6,none⟩=some (Xx (q 4))):cE 77 #[QW p] w (.int .i64 4):=by
 have HE:=Z9 h;have Hp:=Z9 hp;clear hp;obtain ⟨x1,x2,x3,x4,x5,_⟩:=h;go_enter func77,ntmps77;go_wp2_with fail;obtain ⟨ca,ta,ha⟩:=(uh HE).b4;obtain ⟨cb,tb,hb⟩:=(uh HE).b1;refine (Y6 p _ (uh Hp) ((uh HE).n14.symm) ha hb).mono ?_;clear ha hb;rintro e w' ⟨rfl,h9⟩;subst w';go_wp2_with fail;obtain ⟨ca,ta,ha⟩:=(uh HE).b4;obtain ⟨cb,tb,hb⟩:=(uh HE).b2;refine (Y6 p _ (uh Hp) ((uh HE).n24.symm) ha hb).mono ?_;clear ha hb;rintro e w' ⟨rfl,h9⟩;subst w';go_wp2_with fail;refine (VB p (q 4) _ (uh Hp)).mono ?_;rintro e w' ⟨rfl,h9⟩;subst w';go_wp2_with fail;go_ret;exact ⟨rfl,rfl⟩
theorem LF (p:Nat) {q:Int->Addr} (h:Errs w q) (hp:w.cell? ⟨p,6,none⟩=some (Xx (q 5))):cE 77 #[QW p] w (.int .i64 5):=by
 have HE:=Z9 h;have Hp:=Z9 hp;clear hp;obtain ⟨x1,x2,x3,x4,x5,_⟩:=h;go_enter func77,ntmps77;go_wp2_with fail;obtain ⟨ca,ta,ha⟩:=(uh HE).b5;obtain ⟨cb,tb,hb⟩:=(uh HE).b1;refine (Y6 p _ (uh Hp) ((uh HE).n15.symm) ha hb).mono ?_;clear ha hb;rintro e w' ⟨rfl,h9⟩;subst w';go_wp2_with fail;obtain ⟨ca,ta,ha⟩:=(uh HE).b5;obtain ⟨cb,tb,hb⟩:=(uh HE).b2;refine (Y6 p _ (uh Hp) ((uh HE).n25.symm) ha hb).mono ?_;clear ha hb;rintro e w' ⟨rfl,h9⟩;subst w';go_wp2_with fail;obtain ⟨ca,ta,ha⟩:=(uh HE).b5;obtain ⟨cb,tb,hb⟩:=(uh HE).b4;refine (Y6 p _ (uh Hp) ((uh HE).n45.symm) ha hb).mono ?_;clear ha hb;rintro e w' ⟨rfl,h9⟩;subst w';go_wp2_with fail;refine (VB p (q 5) _ (uh Hp)).mono ?_;rintro e w' ⟨rfl,h9⟩;subst w';go_wp2_with fail;go_ret;exact ⟨rfl,rfl⟩
theorem JB {q:Int->Addr} (h:Errs w q):cE 77 #[Xx (q 3)] w (.int .i64 3):=by
 have HE:=Z9 h;obtain ⟨x1,x2,x3,x4,x5,_⟩:=h;go_enter func77,ntmps77;go_wp2_with fail;obtain ⟨ca,ta,ha⟩:=(uh HE).b3;obtain ⟨cb,tb,hb⟩:=(uh HE).b1;refine (Rm _ ((uh HE).n13.symm) ha hb).mono ?_;clear ha hb;rintro e w' ⟨rfl,h9⟩;subst w';go_wp2_with fail;obtain ⟨ca,ta,ha⟩:=(uh HE).b3;obtain ⟨cb,tb,hb⟩:=(uh HE).b2;refine (Rm _ ((uh HE).n23.symm) ha hb).mono ?_;clear ha hb;rintro e w' ⟨rfl,h9⟩;subst w';go_wp2_with fail;obtain ⟨ca,ta,ha⟩:=(uh HE).b3;obtain ⟨cb,tb,hb⟩:=(uh HE).b4;refine (Rm _ ((uh HE).n34) ha hb).mono ?_;clear ha hb;rintro e w' ⟨rfl,h9⟩;subst w';go_wp2_with fail;obtain ⟨ca,ta,ha⟩:=(uh HE).b3;obtain ⟨cb,tb,hb⟩:=(uh HE).b5;refine (Rm _ ((uh HE).n35) ha hb).mono ?_;clear ha hb;rintro e w' ⟨rfl,h9⟩;subst w';go_wp2_with fail;go_ret;exact ⟨rfl,rfl⟩
theorem JC {c:Int} (hc:c=1\/c=2\/c=3\/c=4\/c=5) (p:Nat) {q:Int->Addr} (h:Errs w q) (hp:w.cell? ⟨p,6,none⟩=some (Xx (q c))):cE 77 #[QW p] w (.int .i64 c):=by
 rcases hc with rfl | rfl | rfl | rfl | rfl
 ·exact LA p h hp
 ·exact LB p h hp
 ·exact LC p h hp
 ·exact LD p h hp
 ·exact LF p h hp
open Go.ChangeShapes Go.WideShapes Go.ChangeAt Go.RowKit Go.Proofs.Tryz
set_option maxRecDepth 100000
theorem Ck : "*" ++ "errors.errorString" = "*errors.errorString" := by decide
theorem ED (u : TypeId) (h : prog.typeName? 3 u = some "*errors.errorString") : u = 290 :=
 typeName_ptr_named (nm := "errors.errorString") (by rw [Ck]; kernel_rfl) (by kernel_rfl) (by decide) u (by rw [Ck]; exact h)
theorem B0 : (prog.cutTypes.find? (·.1 == "internal/reflectlite.rtype")).map (·.2) = some 184 := by kernel_rfl
theorem CL:((List.range prog.types.size).filter fun t=>prog.rowNamed t [101,114,114,111,114])=[69]:=by kernel_rfl
theorem Cf : prog.globalNamed "errors.errorType" = some 4 := by kernel_rfl
theorem KH {a b:Addr} {x:Option (Array Value)} (h:x=some #[Xx a]) (k:x=some #[Xx b]):a=b:=by
 rw [h] at k;simpa using k
theorem Tp {n : String} {g : Nat} {text : List UInt8} {r : List (String × DataW Unit)} (h : laidMet prog ((n, .iface "*errors.errorString" (.ptr (.agg [.lit (.string text)]))) :: r) W)
  (hg:prog.globalNamed n=some g) (ht:(prog.globals[g]?).map (·.type)=some 69):∃ a,W.var? prog n=some #[Xx a]/\W.cell? ⟨g,0,none⟩=some (Xx a):=by
 obtain ⟨a,s,hv,_⟩:=laid_sentinel h hg ht underlying69 ED underlying290 underlying317 rfl rfl underlying9 (by kernel_rfl) (by kernel_rfl);exact ⟨a,hv,by rw [World.var?_cell hg hv 0];rfl⟩
theorem W6 {n0 n1 : String} {g0 g1 : Nat} {text0 text1 : List UInt8} {r : List (String × DataW Unit)} {a0 a1 : Addr} (h : laidMet prog ((n0, .iface "*errors.errorString" (.ptr (.agg [.lit (.string text0)]))) :: (n1, .iface "*errors.errorString" (.ptr (.agg [.lit (.string text1)]))) :: r) W)
  (hg0:prog.globalNamed n0=some g0) (ht0:(prog.globals[g0]?).map (·.type)=some 69) (hg1:prog.globalNamed n1=some g1) (ht1:(prog.globals[g1]?).map (·.type)=some 69)
  (v0:W.var? prog n0=some #[Xx a0]) (v1:W.var? prog n1=some #[Xx a1]):a0 ≠ a1/\(∃ c t,W.heap[a0.block]?=some (.cells c t (0,0)))/\(∃ c t,W.heap[a1.block]?=some (.cells c t (0,0))):=by
 obtain ⟨b0,b1,s0,s1,c0,c1,t0,t1,hv0,hv1,_,_,_,_,_,_,hne,hb0,hb1⟩:=laid_sentinels2 h hg0 ht0 hg1 ht1 underlying69 ED underlying290 underlying317 rfl rfl underlying9 (by kernel_rfl) (by kernel_rfl);obtain rfl:=KH hv0 v0;obtain rfl:=KH hv1 v1;exact ⟨hne,⟨c0,t0,hb0⟩,⟨c1,t1,hb1⟩⟩
theorem Ux : prog.globalNamed "loop.example/g00553/impl.errNone" = some 1 := by kernel_rfl
theorem UK:(prog.globals[1]?).map (·.type)=some 69:=by kernel_rfl
theorem Vi : prog.globalNamed "loop.example/g00553/impl.errState" = some 2 := by kernel_rfl
theorem Vq:(prog.globals[2]?).map (·.type)=some 69:=by kernel_rfl
theorem Vh : prog.globalNamed "loop.example/g00553/impl.errRange" = some 0 := by kernel_rfl
theorem Vp:(prog.globals[0]?).map (·.type)=some 69:=by kernel_rfl
theorem Uv : prog.globalNamed "loop.example/g00553/impl.errFull" = some 3 := by kernel_rfl
theorem UI:(prog.globals[3]?).map (·.type)=some 69:=by kernel_rfl
theorem Uw : prog.globalNamed "loop.example/g00553/impl.errLast" = some 5 := by kernel_rfl
theorem UJ:(prog.globals[5]?).map (·.type)=some 69:=by kernel_rfl
theorem Mm (h : laidMetH prog (("errors.errorType", Rows.laid_errors_errorType) :: [("loop.example/g00553/impl.errNone", Rows.laid_loop_example_g00553_impl_errNone), ("loop.example/g00553/impl.errState", Rows.laid_loop_example_g00553_impl_errState), ("loop.example/g00553/impl.errRange", Rows.laid_loop_example_g00553_impl_errRange), ("loop.example/g00553/impl.errFull", Rows.laid_loop_example_g00553_impl_errFull), ("loop.example/g00553/impl.errLast", Rows.laid_loop_example_g00553_impl_errLast)]) W) : ∃ q, Errs W q := by
 have h' : laidMet prog [("loop.example/g00553/impl.errNone", Rows.laid_loop_example_g00553_impl_errNone), ("loop.example/g00553/impl.errState", Rows.laid_loop_example_g00553_impl_errState), ("loop.example/g00553/impl.errRange", Rows.laid_loop_example_g00553_impl_errRange), ("loop.example/g00553/impl.errFull", Rows.laid_loop_example_g00553_impl_errFull), ("loop.example/g00553/impl.errLast", Rows.laid_loop_example_g00553_impl_errLast)] W ∧ handlesMet prog [("errors.errorType", Rows.laid_errors_errorType)] W := h;obtain ⟨h0,hh⟩:=h'
 have ct:W.cell? ⟨4,0,none⟩=some (rty 69):=by
  obtain ⟨name,u,ty,e1,e2,e3,e4,e5⟩:=hh _ (List.mem_singleton.2 rfl);have en:name=[101,114,114,111,114]:=(Option.some.inj e1).symm;subst en;obtain rfl:=Option.some.inj (B0.symm.trans e2);have hm:ty ∈ (List.range prog.types.size).filter fun t=>prog.rowNamed t [101,114,114,111,114]:=List.mem_filter.2 ⟨List.mem_range.2 e3,e4⟩;rw [CL] at hm;obtain rfl:=List.mem_singleton.1 hm;have h9:typeHandle prog 69= .pointer (some ⟨6,69,none⟩):=by kernel_rfl
  rw [h9] at e5;rw [World.var?_cell Cf e5 0];rfl
 have h13 : laidMet prog [("loop.example/g00553/impl.errNone", Rows.laid_loop_example_g00553_impl_errNone), ("loop.example/g00553/impl.errRange", Rows.laid_loop_example_g00553_impl_errRange)] W := by
  have k := h0.filter (fun x => x.1 != "loop.example/g00553/impl.errState" && x.1 != "loop.example/g00553/impl.errFull" && x.1 != "loop.example/g00553/impl.errLast")
  rwa [show List.filter (fun x => x.1 != "loop.example/g00553/impl.errState" && x.1 != "loop.example/g00553/impl.errFull" && x.1 != "loop.example/g00553/impl.errLast") [("loop.example/g00553/impl.errNone", Rows.laid_loop_example_g00553_impl_errNone), ("loop.example/g00553/impl.errState", Rows.laid_loop_example_g00553_impl_errState), ("loop.example/g00553/impl.errRange", Rows.laid_loop_example_g00553_impl_errRange), ("loop.example/g00553/impl.errFull", Rows.laid_loop_example_g00553_impl_errFull), ("loop.example/g00553/impl.errLast", Rows.laid_loop_example_g00553_impl_errLast)] = [("loop.example/g00553/impl.errNone", Rows.laid_loop_example_g00553_impl_errNone), ("loop.example/g00553/impl.errRange", Rows.laid_loop_example_g00553_impl_errRange)] from by kernel_rfl] at k
 have h14 : laidMet prog [("loop.example/g00553/impl.errNone", Rows.laid_loop_example_g00553_impl_errNone), ("loop.example/g00553/impl.errFull", Rows.laid_loop_example_g00553_impl_errFull)] W := by
  have k := h0.filter (fun x => x.1 != "loop.example/g00553/impl.errState" && x.1 != "loop.example/g00553/impl.errRange" && x.1 != "loop.example/g00553/impl.errLast")
  rwa [show List.filter (fun x => x.1 != "loop.example/g00553/impl.errState" && x.1 != "loop.example/g00553/impl.errRange" && x.1 != "loop.example/g00553/impl.errLast") [("loop.example/g00553/impl.errNone", Rows.laid_loop_example_g00553_impl_errNone), ("loop.example/g00553/impl.errState", Rows.laid_loop_example_g00553_impl_errState), ("loop.example/g00553/impl.errRange", Rows.laid_loop_example_g00553_impl_errRange), ("loop.example/g00553/impl.errFull", Rows.laid_loop_example_g00553_impl_errFull), ("loop.example/g00553/impl.errLast", Rows.laid_loop_example_g00553_impl_errLast)] = [("loop.example/g00553/impl.errNone", Rows.laid_loop_example_g00553_impl_errNone), ("loop.example/g00553/impl.errFull", Rows.laid_loop_example_g00553_impl_errFull)] from by kernel_rfl] at k
 have h15 : laidMet prog [("loop.example/g00553/impl.errNone", Rows.laid_loop_example_g00553_impl_errNone), ("loop.example/g00553/impl.errLast", Rows.laid_loop_example_g00553_impl_errLast)] W := by
  have k := h0.filter (fun x => x.1 != "loop.example/g00553/impl.errState" && x.1 != "loop.example/g00553/impl.errRange" && x.1 != "loop.example/g00553/impl.errFull")
  rwa [show List.filter (fun x => x.1 != "loop.example/g00553/impl.errState" && x.1 != "loop.example/g00553/impl.errRange" && x.1 != "loop.example/g00553/impl.errFull") [("loop.example/g00553/impl.errNone", Rows.laid_loop_example_g00553_impl_errNone), ("loop.example/g00553/impl.errState", Rows.laid_loop_example_g00553_impl_errState), ("loop.example/g00553/impl.errRange", Rows.laid_loop_example_g00553_impl_errRange), ("loop.example/g00553/impl.errFull", Rows.laid_loop_example_g00553_impl_errFull), ("loop.example/g00553/impl.errLast", Rows.laid_loop_example_g00553_impl_errLast)] = [("loop.example/g00553/impl.errNone", Rows.laid_loop_example_g00553_impl_errNone), ("loop.example/g00553/impl.errLast", Rows.laid_loop_example_g00553_impl_errLast)] from by kernel_rfl] at k
 have h24 : laidMet prog [("loop.example/g00553/impl.errState", Rows.laid_loop_example_g00553_impl_errState), ("loop.example/g00553/impl.errFull", Rows.laid_loop_example_g00553_impl_errFull)] W := by
  have k := h0.filter (fun x => x.1 != "loop.example/g00553/impl.errNone" && x.1 != "loop.example/g00553/impl.errRange" && x.1 != "loop.example/g00553/impl.errLast")
  rwa [show List.filter (fun x => x.1 != "loop.example/g00553/impl.errNone" && x.1 != "loop.example/g00553/impl.errRange" && x.1 != "loop.example/g00553/impl.errLast") [("loop.example/g00553/impl.errNone", Rows.laid_loop_example_g00553_impl_errNone), ("loop.example/g00553/impl.errState", Rows.laid_loop_example_g00553_impl_errState), ("loop.example/g00553/impl.errRange", Rows.laid_loop_example_g00553_impl_errRange), ("loop.example/g00553/impl.errFull", Rows.laid_loop_example_g00553_impl_errFull), ("loop.example/g00553/impl.errLast", Rows.laid_loop_example_g00553_impl_errLast)] = [("loop.example/g00553/impl.errState", Rows.laid_loop_example_g00553_impl_errState), ("loop.example/g00553/impl.errFull", Rows.laid_loop_example_g00553_impl_errFull)] from by kernel_rfl] at k
 have h25 : laidMet prog [("loop.example/g00553/impl.errState", Rows.laid_loop_example_g00553_impl_errState), ("loop.example/g00553/impl.errLast", Rows.laid_loop_example_g00553_impl_errLast)] W := by
  have k := h0.filter (fun x => x.1 != "loop.example/g00553/impl.errNone" && x.1 != "loop.example/g00553/impl.errRange" && x.1 != "loop.example/g00553/impl.errFull")
  rwa [show List.filter (fun x => x.1 != "loop.example/g00553/impl.errNone" && x.1 != "loop.example/g00553/impl.errRange" && x.1 != "loop.example/g00553/impl.errFull") [("loop.example/g00553/impl.errNone", Rows.laid_loop_example_g00553_impl_errNone), ("loop.example/g00553/impl.errState", Rows.laid_loop_example_g00553_impl_errState), ("loop.example/g00553/impl.errRange", Rows.laid_loop_example_g00553_impl_errRange), ("loop.example/g00553/impl.errFull", Rows.laid_loop_example_g00553_impl_errFull), ("loop.example/g00553/impl.errLast", Rows.laid_loop_example_g00553_impl_errLast)] = [("loop.example/g00553/impl.errState", Rows.laid_loop_example_g00553_impl_errState), ("loop.example/g00553/impl.errLast", Rows.laid_loop_example_g00553_impl_errLast)] from by kernel_rfl] at k
 have h35 : laidMet prog [("loop.example/g00553/impl.errRange", Rows.laid_loop_example_g00553_impl_errRange), ("loop.example/g00553/impl.errLast", Rows.laid_loop_example_g00553_impl_errLast)] W := by
  have k := h0.filter (fun x => x.1 != "loop.example/g00553/impl.errNone" && x.1 != "loop.example/g00553/impl.errState" && x.1 != "loop.example/g00553/impl.errFull")
  rwa [show List.filter (fun x => x.1 != "loop.example/g00553/impl.errNone" && x.1 != "loop.example/g00553/impl.errState" && x.1 != "loop.example/g00553/impl.errFull") [("loop.example/g00553/impl.errNone", Rows.laid_loop_example_g00553_impl_errNone), ("loop.example/g00553/impl.errState", Rows.laid_loop_example_g00553_impl_errState), ("loop.example/g00553/impl.errRange", Rows.laid_loop_example_g00553_impl_errRange), ("loop.example/g00553/impl.errFull", Rows.laid_loop_example_g00553_impl_errFull), ("loop.example/g00553/impl.errLast", Rows.laid_loop_example_g00553_impl_errLast)] = [("loop.example/g00553/impl.errRange", Rows.laid_loop_example_g00553_impl_errRange), ("loop.example/g00553/impl.errLast", Rows.laid_loop_example_g00553_impl_errLast)] from by kernel_rfl] at k
 obtain ⟨a1,v1,c1⟩:=Tp h0 Ux UK;obtain ⟨a2,v2,c2⟩:=Tp h0.tail Vi Vq;obtain ⟨a3,v3,c3⟩:=Tp h0.tail.tail Vh Vp;obtain ⟨a4,v4,c4⟩:=Tp h0.tail.tail.tail Uv UI;obtain ⟨a5,v5,c5⟩:=Tp h0.tail.tail.tail.tail Uw UJ;obtain ⟨n12,b12a,b12b⟩:=W6 h0 Ux UK Vi Vq v1 v2;obtain ⟨n13,b13a,b13b⟩:=W6 h13 Ux UK Vh Vp v1 v3;obtain ⟨n14,b14a,b14b⟩:=W6 h14 Ux UK Uv UI v1 v4;obtain ⟨n15,b15a,b15b⟩:=W6 h15 Ux UK Uw UJ v1 v5;obtain ⟨n23,b23a,b23b⟩:=W6 h0.tail Vi Vq Vh Vp v2 v3;obtain ⟨n24,b24a,b24b⟩:=W6 h24 Vi Vq Uv UI v2 v4;obtain ⟨n25,b25a,b25b⟩:=W6 h25 Vi Vq Uw UJ v2 v5;obtain ⟨n34,b34a,b34b⟩:=W6 h0.tail.tail Vh Vp Uv UI v3 v4;obtain ⟨n35,b35a,b35b⟩:=W6 h35 Vh Vp Uw UJ v3 v5;obtain ⟨n45,b45a,b45b⟩:=W6 h0.tail.tail.tail Uv UI Uw UJ v4 v5;exact ⟨fun i=>if i=1 then a1 else if i=2 then a2 else if i=3 then a3 else if i=4 then a4 else a5,c1,c2,c3,c4,c5,ct,b12a,b12b,b23b,b34b,b45b,n12,n13,n14,n15,n23,n24,n25,n34,n35,n45⟩
end Go.Proofs.YtgdpaigcmoifbaaGreatDoor
