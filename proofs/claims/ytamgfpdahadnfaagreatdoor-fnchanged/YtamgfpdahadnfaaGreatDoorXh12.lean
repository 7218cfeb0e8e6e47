/- Part 12 of what the proof rests on. No condition but those that a theorem names. -/
import Derived.Test.YtamgfpdahadnfaaGreatDoorXh11
set_option maxHeartbeats 8000000
set_option maxRecDepth 100000
namespace Go.Proofs.YtamgfpdahadnfaaGreatDoor
open Go.ChangeShapes Go.WideShapes Go.ChangeAt Go.RowKit Go.Sort Go.Shelf
set_option linter.unusedVariables false
set_option maxRecDepth 100000
attribute [local go_sem] Oper.semAt_some
theorem Pl {W X:World} (h:Below W.heap.size W X):KeepsOthers W X:=⟨h.size,fun k o hk _=>(h.block k (Array.getElem?_eq_some_iff.1 hk).1).trans hk⟩
theorem FE {W X:World} (h:Below W.heap.size W X) {B:Nat} {t:TypeId} : KeepsBox B t W X:=fun v hv=>(h.block B hv.lt).trans hv
theorem Wn {W X:World} (h:Below W.heap.size W X) {B:Nat} {t:TypeId} {v:Value} (hv:Boxed W B t v):Boxed X B t v:=(h.block B hv.lt).trans hv
def Rnd (w:World) (f:List Int->Int) (a0:Option Addr) (p0:Nat) (a1:Option Addr) (p1:Nat) (a2:Option Addr) (p2:Nat) (a3:Option Addr) (p3:Nat) (a4:Option Addr) (p4:Nat) (m:Z6) (pre:List Int) (W:World):Prop:=Boxed W (w.heap.size+1) 2 (.int .i64 (f pre))/\Bx w W w.heap.size a0 p0 a1 p1 a2 p2 a3 p3 a4 p4 m
theorem Ds (w:World) (f:List Int->Int) (a0:Option Addr) (p0:Nat) (a1:Option Addr) (p1:Nat) (a2:Option Addr) (p2:Nat) (a3:Option Addr) (p3:Nat) (a4:Option Addr) (p4:Nat) (m:Z6) (hs:Smy w (.slice a0 m.rm.length p0) (.slice a1 m.gd.length p1) (.slice a2 m.sm.length p2) (.slice a3 m.dk.length p3) (.slice a4 m.pc.length p4) m) {B:Nat} (hB:w.heap.size<=B):OwnFrom B (Rnd w f a0 p0 a1 p1 a2 p2 a3 p3 a4 p4 m):=by
 rintro pre W X row ⟨h1,h2⟩ hg hr;have h4:=h2.bb.grown hg h2.bb.size (fun k e=>XH hB (hr k e).1);refine ⟨h1.kept hg (fun e=> ?_),hs.below h4,(hg.block _ h2.blk.lt (fun e=> ?_)).trans h2.blk,h4⟩
 ·obtain ⟨_,o,ho,hc⟩:=hr _ e.symm
  rw [show W.heap[w.heap.size+1]?=_ from h1] at ho;cases ho;cases hc
 ·obtain ⟨_,o,ho,hc⟩:=hr _ e.symm
  rw [show W.heap[w.heap.size]?=_ from h2.blk] at ho;cases ho;cases hc
theorem Ia {w W W1 W2:World} {f:List Int->Int} {a0 a1 a2 a3 a4:Option Addr} {p0 p1 p2 p3 p4:Nat} {m:Z6} {pre:List Int} {x v nl:Int} {B S:Nat} (hs:Smy w (.slice a0 m.rm.length p0) (.slice a1 m.gd.length p1) (.slice a2 m.sm.length p2) (.slice a3 m.dk.length p3) (.slice a4 m.pc.length p4) m) (hko:KeepsOthers W W1) (hkb:KeepsBox S 2 W W1) (hb:Below W1.heap.size W1 W2) (hv:Boxed W1 (w.heap.size+1) 2 (.int .i64 nl)) (hK:Bx w W1 w.heap.size a0 p0 a1 p1 a2 p2 a3 p3 a4 p4 m) (hS:w.heap.size+1<S) (e:f (pre++[x])=v) :
  KeepsFrom B W (W2.setCell ⟨w.heap.size+1,0,none⟩ (.int .i64 v))/\KeepsBox S 2 W (W2.setCell ⟨w.heap.size+1,0,none⟩ (.int .i64 v))/\Rnd w f a0 p0 a1 p1 a2 p2 a3 p3 a4 p4 m (pre++[x]) (W2.setCell ⟨w.heap.size+1,0,none⟩ (.int .i64 v)):=by
 have hK2:=hK.next hb;have hbb:Below w.heap.size w (W2.setCell ⟨w.heap.size+1,0,none⟩ (.int .i64 v)):=hK2.bb.setCell (p:=⟨w.heap.size+1,0,none⟩) (Nat.le_succ _) _;refine ⟨((hko.trans (Pl hb)).trans (KeepsOthers.setCell _ _ _)).from _,fun u hu=>(Wn hb (hkb u hu)).other (by omega) _,?_,hs.below hbb,hK2.blk.other (a:=⟨w.heap.size+1,0,none⟩) (by show w.heap.size ≠ w.heap.size+1;omega) _,hbb⟩;rw [e];exact (Wn hb hv).set _
theorem Ce (n:Nat) (hn:3<=n) {w:World} {v0 v1 v2 v3 v4:Value} {m:Z6} {r:Nat} (h:Smy w v0 v1 v2 v3 v4 m) (hS:Sane m) (hW:Wants m) (hr:r<m.rm.length):CallsIn Fence.wide n Tryz.prog 296 #[.agg #[v0,v1,v2,v3,v4,.int .i64 m.now],.int .i64 (r:Int)] w fun e w'=>e= .returned (.int .i64 (U9 m (SF (Vd m.rm (r:Int)))))/\Below w.heap.size w w':=by
 have h1:1<=n:=by omega
 have hmo:Tryz.prog.follows .mixedOrders=true:=by kernel_rfl
 have hl:=hS.few;have HW:=Z9 hW;have Hs:=Z9 h;clear hS hW;obtain ⟨a0,p0,a1,p1,a2,p2,a3,p3,a4,p4,rfl,rfl,rfl,rfl,rfl,K⟩:=Bx.new h;clear h;obtain ⟨st,hst⟩:∃ st,Vd m.rm (r:Int)=st:=⟨_,rfl⟩
 rw [hst];have Hst:=Z9 hst;clear hst;refine callsIn_of_wp_marks Tryz.func296 rfl trivial ?_ rfl;simp only [Tryz.ntmps296,List.size_toArray,YT,YM,Nat.reduceAdd,Nat.reduceSub,Array.replicate_succ,Array.replicate_zero,List.push_toArray,List.append_toArray,List.nil_append,List.cons_append]
 gi_wp2_with fail
 have bN:=Boxed.new (w.alloc (.cells (S6 a0 p0 a1 p1 a2 p2 a3 p3 a4 p4 m) 32)) 2 (.int .i64 0);rw [ZB] at bN;replace K:=K.alloc (.cells #[.int .i64 0] 2);generalize (w.alloc (.cells (S6 a0 p0 a1 p1 a2 p2 a3 p3 a4 p4 m) 32)).alloc (.cells #[.int .i64 0] 2)=W0 at *;refine ⟨trivial,?_⟩;refine (callsIn_wide.2 (Tf (r:Int) K.smy.rm)).mono ?_;rw [uh Hst];rintro e w1 ⟨rfl,hb⟩;dsimp only;replace bN:=Wn hb bN;replace K:=K.next hb;clear hb Hst
 gi_wp2_with (refine ⟨trivial,?_⟩;gi_at_call 238;refine (SE (n-1) _ _).mono ?_;rintro e w' ⟨rfl,rfl⟩)
 have bS:=Boxed.new w1 2 (.int .i64 st);have hsz:=K.bb.size
 refine wpIn_rangeFunc_ownG rfl h1 (gf:=267) (lb:=#[.pointer (some ⟨w1.heap.size,0,none⟩)]) rfl trivial (enters_of Tryz.func267 (by kernel_rfl) rfl)
  (TG (n-1) (by omega) w1.heap.size st _ bS) (fun h k=>h.trans k) (KeepsBox.putObj (by simp)) (Z1 _ _) (fun _=>rfl)
  (Rnd w (U9 m) a0 p0 a1 p1 a2 p2 a3 p3 a4 p4 m) (fun _ _ _=>False)
  (Ds w (U9 m) a0 p0 a1 p1 a2 p2 a3 p3 a4 p4 m (uh Hs) (by simp;omega))
  (fun _ _ _ _ _ hs _ _=>hs)
  ⟨bN.alloc _,K.alloc _⟩
  (fun x=>{ tmps:=#[.agg (S6 a0 p0 a1 p1 a2 p2 a3 p3 a4 p4 m),.int .i64 (r:Int),.pointer (some ⟨w.heap.size,0,none⟩),undef,.int .i64 0,.pointer (some ⟨w.heap.size+1,0,none⟩),.int .i64 x,.pointer (some ⟨w.heap.size,0,none⟩),.agg #[.slice a0 m.rm.length p0],.int .i64 (r:Int),.int .i64 st,.func (.func 267) #[] #[.pointer (some ⟨w1.heap.size,0,none⟩)],.int .i64 x,undef,undef,undef,undef,undef,undef,undef,undef,undef],defers:=[] }) ?assign ?body ?done ?stop
 case assign=>
  intro l x W K hK
  gi_wp2
  exact hK
 case body=>
  rintro l pre x W ⟨hv,hK⟩ hlt;have hc:=hv.cell;have hf:=hv.frozen;obtain ⟨c0,c1,c2,c3,c4,c5⟩:=hK.cells;obtain ⟨us,hus⟩:∃ q,Zc m x (-1)=q:=⟨_,rfl⟩
  have hub:=Tx m x (-1);rw [hus] at hub;have Hus:=Z9 hus;obtain ⟨q,hq⟩:∃ q,Ur m x=q:=⟨_,rfl⟩
  have HN:=Z9 (Mh m pre x);have hnb:=AA m hl pre;rw [hq,hus] at HN;clear hus;generalize U9 m pre=nl at *
  gi_wp2_with fail
  refine ⟨trivial,fun _=>(by omega),?_⟩;refine (CallsIn.inRound l (callsIn_wide.2 (NW hq hK.smy))).mono ?_;rintro e W1 ⟨rfl,hb⟩;dsimp only;have hko:=Pl hb;have hkb:=FE hb (B:=w1.heap.size) (t:=2);replace hv:=Wn hb hv;replace hK:=hK.next hb;clear hb hc hf c0 c1 c2 c3 c4 c5;cases q
  ·gi_wp2_with fail
   exact ⟨hko.from _,hkb,by rw [show Rnd w (U9 m) a0 p0 a1 p1 a2 p2 a3 p3 a4 p4 m (pre++[x]) W1=(Boxed W1 (w.heap.size+1) 2 (.int .i64 (U9 m (pre++[x])))/\Bx w W1 w.heap.size a0 p0 a1 p1 a2 p2 a3 p3 a4 p4 m) from rfl,uh HN];exact ⟨hv,hK⟩⟩
  have hc:=hv.cell;have hf:=hv.frozen;obtain ⟨c0,c1,c2,c3,c4,c5⟩:=hK.cells
  gi_wp2_with fail
  gi_region_with_o (refine ⟨trivial,fun _=>(by omega),?_⟩;gi_at_call 292;refine (CallsIn.inRound l (callsIn_wide.2 (Qp (uh Hus) ?_ (uh HW) hl))).mono ?_;exact hK.smy.below (Z1 _ _).drew;rintro e W2 ⟨rfl,hb2⟩;have Hb2:Hid (Below W1.heap.size W1 W2):=Z9 ⟨hb2.os,hb2.tape,hb2.output,hb2.size,hb2.block⟩;have hv2:=Wn (uh Hb2) hv;have hc2:=hv2.cell;have hf2:=hv2.frozen;clear hb2)
  all_goals
   exact Ia (uh Hs) hko hkb (uh Hb2) hv hK bN.lt (by rw [uh HN];simp only [if_true];omega)
 case done=>
  rintro D ys W hD rfl ⟨hv,hK⟩ hDf;have hc:=hv.cell
  gi_wp2
  refine ⟨by simp,.inl ⟨_,_,rfl,run_takeDeferred hDf,?_⟩⟩;exact ⟨_,results_tmp rfl _ _ _,rfl,hK.bb.trans (belowK_b (w:=w) (Z2 _) W D _ _ (by simp at hD;omega) hDf rfl rfl)⟩
 case stop=>
  rintro D c pre W _ _ h _;exact h.elim
theorem ED {w:World} {v0 v1 v2 v3 v4:Value} {m:Z6} {r:Nat} (h:Smy w v0 v1 v2 v3 v4 m) (hS:Sane m) (hW:Wants m) (hr:r<m.rm.length):Calls Tryz.prog 296 #[.agg #[v0,v1,v2,v3,v4,.int .i64 m.now],.int .i64 (r:Int)] w fun e w'=>e= .returned (.int .i64 (U9 m (SF (Vd m.rm (r:Int)))))/\Below w.heap.size w w':=callsIn_wide.1 (Ce 3 (Z2 _) h hS hW hr)
theorem CS (n:Nat) (hn:3<=n) {w:World} {v0 v1 v2 v3 v4:Value} {m:Z6} {r:Nat} (h:Smy w v0 v1 v2 v3 v4 m) (hS:Sane m) (hW:Wants m) (hr:r<m.rm.length):CallsIn Fence.wide n Tryz.prog 297 #[.agg #[v0,v1,v2,v3,v4,.int .i64 m.now],.int .i64 (r:Int)] w fun e w'=>e= .returned (.int .i64 (UA m (SF (Vd m.rm (r:Int)))))/\Below w.heap.size w w':=by
 have h1:1<=n:=by omega
 have hmo:Tryz.prog.follows .mixedOrders=true:=by kernel_rfl
 have hl:=hS.few;have HW:=Z9 hW;have Hs:=Z9 h;clear hS hW;obtain ⟨a0,p0,a1,p1,a2,p2,a3,p3,a4,p4,rfl,rfl,rfl,rfl,rfl,K⟩:=Bx.new h;clear h;obtain ⟨st,hst⟩:∃ st,Vd m.rm (r:Int)=st:=⟨_,rfl⟩
 rw [hst];have Hst:=Z9 hst;clear hst;refine callsIn_of_wp_marks Tryz.func297 rfl trivial ?_ rfl;simp only [Tryz.ntmps297,List.size_toArray,YT,YM,Nat.reduceAdd,Nat.reduceSub,Array.replicate_succ,Array.replicate_zero,List.push_toArray,List.append_toArray,List.nil_append,List.cons_append]
 gi_wp2_with fail
 have bN:=Boxed.new (w.alloc (.cells (S6 a0 p0 a1 p1 a2 p2 a3 p3 a4 p4 m) 32)) 2 (.int .i64 0);rw [ZB] at bN;replace K:=K.alloc (.cells #[.int .i64 0] 2);generalize (w.alloc (.cells (S6 a0 p0 a1 p1 a2 p2 a3 p3 a4 p4 m) 32)).alloc (.cells #[.int .i64 0] 2)=W0 at *;refine ⟨trivial,?_⟩;refine (callsIn_wide.2 (Tf (r:Int) K.smy.rm)).mono ?_;rw [uh Hst];rintro e w1 ⟨rfl,hb⟩;dsimp only;replace bN:=Wn hb bN;replace K:=K.next hb;clear hb Hst
 gi_wp2_with (refine ⟨trivial,?_⟩;gi_at_call 238;refine (SE (n-1) _ _).mono ?_;rintro e w' ⟨rfl,rfl⟩)
 have bS:=Boxed.new w1 2 (.int .i64 st);have hsz:=K.bb.size
 refine wpIn_rangeFunc_ownG rfl h1 (gf:=267) (lb:=#[.pointer (some ⟨w1.heap.size,0,none⟩)]) rfl trivial (enters_of Tryz.func267 (by kernel_rfl) rfl)
  (TG (n-1) (by omega) w1.heap.size st _ bS) (fun h k=>h.trans k) (KeepsBox.putObj (by simp)) (Z1 _ _) (fun _=>rfl)
  (Rnd w (UA m) a0 p0 a1 p1 a2 p2 a3 p3 a4 p4 m) (fun _ _ _=>False)
  (Ds w (UA m) a0 p0 a1 p1 a2 p2 a3 p3 a4 p4 m (uh Hs) (by simp;omega))
  (fun _ _ _ _ _ hs _ _=>hs)
  ⟨bN.alloc _,K.alloc _⟩
  (fun x=>{ tmps:=#[.agg (S6 a0 p0 a1 p1 a2 p2 a3 p3 a4 p4 m),.int .i64 (r:Int),.pointer (some ⟨w.heap.size,0,none⟩),undef,.int .i64 0,.pointer (some ⟨w.heap.size+1,0,none⟩),.int .i64 x,.pointer (some ⟨w.heap.size,0,none⟩),.agg #[.slice a0 m.rm.length p0],.int .i64 (r:Int),.int .i64 st,.func (.func 267) #[] #[.pointer (some ⟨w1.heap.size,0,none⟩)],.int .i64 x,undef,undef,undef,undef,undef,undef],defers:=[] }) ?assign ?body ?done ?stop
 case assign=>
  intro l x W K hK
  gi_wp2
  exact hK
 case body=>
  rintro l pre x W ⟨hv,hK⟩ hlt;have hc:=hv.cell;have hf:=hv.frozen;obtain ⟨c0,c1,c2,c3,c4,c5⟩:=hK.cells;obtain ⟨us,hus⟩:∃ q,Zc m x (-1)=q:=⟨_,rfl⟩
  have hub:=Tx m x (-1);rw [hus] at hub;have Hus:=Z9 hus;have HN:=Z9 (MY m pre x);have hnb:=Br m hl pre;rw [hus] at HN;clear hus;generalize UA m pre=nl at *;obtain ⟨W1,hW1⟩:∃ X,X=W:=⟨_,rfl⟩
  subst hW1;have hwr:IntKind.i64.wrap (nl+us)=nl+us:=by rw [IntKind.wrap_i64];omega
  gi_wp2_with fail
  gi_region_with_o (refine ⟨trivial,fun _=>(by omega),?_⟩;gi_at_call 292;refine (CallsIn.inRound l (callsIn_wide.2 (Qp (uh Hus) ?_ (uh HW) hl))).mono ?_;exact hK.smy.below (Z1 _ _).drew;rintro e W2 ⟨rfl,hb2⟩;have Hb2:Hid (Below W1.heap.size W1 W2):=Z9 ⟨hb2.os,hb2.tape,hb2.output,hb2.size,hb2.block⟩;have hv2:=Wn (uh Hb2) hv;have hc2:=hv2.cell;have hf2:=hv2.frozen;clear hb2)
  all_goals
   exact Ia (uh Hs) (KeepsOthers.refl _) (fun _ h=>h) (uh Hb2) hv hK bN.lt (by rw [uh HN])
 case done=>
  rintro D ys W hD rfl ⟨hv,hK⟩ hDf;have hc:=hv.cell
  gi_wp2
  refine ⟨by simp,.inl ⟨_,_,rfl,run_takeDeferred hDf,?_⟩⟩;exact ⟨_,results_tmp rfl _ _ _,rfl,hK.bb.trans (belowK_b (w:=w) (Z2 _) W D _ _ (by simp at hD;omega) hDf rfl rfl)⟩
 case stop=>
  rintro D c pre W _ _ h _;exact h.elim
theorem Fu {w:World} {v0 v1 v2 v3 v4:Value} {m:Z6} {r:Nat} (h:Smy w v0 v1 v2 v3 v4 m) (hS:Sane m) (hW:Wants m) (hr:r<m.rm.length):Calls Tryz.prog 297 #[.agg #[v0,v1,v2,v3,v4,.int .i64 m.now],.int .i64 (r:Int)] w fun e w'=>e= .returned (.int .i64 (UA m (SF (Vd m.rm (r:Int)))))/\Below w.heap.size w w':=callsIn_wide.1 (CS 3 (Z2 _) h hS hW hr)
end Go.Proofs.YtamgfpdahadnfaaGreatDoor
namespace Go.Proofs.YtamgfpdahadnfaaGreatDoor
open Go.ChangeShapes Go.WideShapes Go.ChangeAt Go.RowKit Go.Sort Go.Shelf
set_option linter.unusedVariables false
set_option maxRecDepth 100000
theorem Bx.of {w:World} {a0 a1 a2 a3 a4:Option Addr} {p0 p1 p2 p3 p4:Nat} {m:Z6} (h:Smy w (.slice a0 m.rm.length p0) (.slice a1 m.gd.length p1) (.slice a2 m.sm.length p2) (.slice a3 m.dk.length p3) (.slice a4 m.pc.length p4) m):Bx w (w.alloc (.cells (S6 a0 p0 a1 p1 a2 p2 a3 p3 a4 p4 m) 32)) w.heap.size a0 p0 a1 p1 a2 p2 a3 p3 a4 p4 m:=⟨h.alloc _,Blk.new _ _ _,(ba _ _)⟩
theorem FV {w:World} {a0 a1 a2 a3 a4:Option Addr} {p0 p1 p2 p3 p4:Nat} {m:Z6} (h:Smy w (.slice a0 m.rm.length p0) (.slice a1 m.gd.length p1) (.slice a2 m.sm.length p2) (.slice a3 m.dk.length p3) (.slice a4 m.pc.length p4) m):Calls Tryz.prog 271 #[.agg (S6 a0 p0 a1 p1 a2 p2 a3 p3 a4 p4 m)] w fun e w'=>e= .returned (.func (Fn.func 294) #[] #[.pointer (some ⟨w.heap.size,0,none⟩)])/\Bx w w' w.heap.size a0 p0 a1 p1 a2 p2 a3 p3 a4 p4 m:=by
 have K:=Bx.of h;clear h;go_enter Tryz.func271,Tryz.ntmps271;go_wp2_with fail;go_ret;exact ⟨rfl,K⟩
theorem D3 {w0 w:World} {R r:Nat} {a0 a1 a2 a3 a4:Option Addr} {p0 p1 p2 p3 p4:Nat} {m:Z6} (K:Bx w0 w R a0 p0 a1 p1 a2 p2 a3 p3 a4 p4 m) (hS:Sane m) (hW:Wants m) (hr:r<m.rm.length):Calls Tryz.prog 294 #[.int .i64 (r:Int),.pointer (some ⟨R,0,none⟩)] w fun e w'=>e= .returned (.int .i64 (TC m r))/\Below w.heap.size w w':=by
 have hr1:(r:Int)<(m.rm.length:Int):=by omega
 have HM:=Z9 (Cr hS hr);have HN:=Z9 (fun (X:World) (hX:Below w.heap.size w X)=>ED (K.smy.below hX) hS hW hr);have HK:=Z9 (fun (X:World) (hX:Below w.heap.size w X)=>Fu (K.smy.below hX) hS hW hr);clear hS hW;have Hc:Hid (TC m r=OJ (ZR m.rm r) (U9 m (SF (Vd m.rm (r:Int)))) (UA m (SF (Vd m.rm (r:Int))))):=Z9 (by rw [(uh HM).1,(uh HM).2];rfl);rw [uh Hc];clear Hc HM;obtain ⟨_,_,hre,_,_,r0⟩:=K.smy.rm;cases hre
 rcases r0 with e0 | ⟨rb,off,rfl,hbw,hcl⟩
 ·rw [e0] at hr;simp at hr
 obtain ⟨d0,pv,d1,hpv⟩:=hcl r hr;clear hcl;generalize U9 m (SF (Vd m.rm (r:Int)))=ne at *;generalize UA m (SF (Vd m.rm (r:Int)))=wo at *;obtain ⟨⟨n,ps⟩,hrm⟩:∃ x,ZR m.rm r=x:=⟨_,rfl⟩
 rw [hrm] at d0 hpv ⊢;clear hrm;simp only at d0 hpv;have Hpv:=Z9 hpv;obtain ⟨pa,pc,rfl,_,_,_⟩:=hpv;obtain ⟨c0,c1,c2,c3,c4,c5⟩:=K.cells;have k0:=ZW c0;have k1:=ZW c1;have k2:=ZW c2;have k3:=ZW c3;have k4:=ZW c4;have k5:=ZW c5;have k6:=ZW d0;have k7:=ZW d1;go_enter Tryz.func294,Tryz.ntmps294;go_wp2_with fail;refine wq ?_
 repeat (go_big_quiet_step (first | exact ZY (uh HN _ (Z0 _ _ _)) | exact ZY (uh HK _ (Z0 _ _ _)) | exact ZY (Pt _ _ _ ((uh Hpv).below (Z0 _ _ _)))))
 refine wpQuiet_nil ?_;intro _ hw';obtain ⟨⟨dq,osq⟩,hw''⟩:=hw';subst hw'';go_wp2_with fail;go_ret;exact ⟨rfl,Z0 _ _ _⟩
theorem JD {w0 w:World} {R:Nat} {a0 a1 a2 a3 a4 b0:Option Addr} {p0 p1 p2 p3 p4 q0:Nat} {m:Z6} (K:Bx w0 w R a0 p0 a1 p1 a2 p2 a3 p3 a4 p4 m) (hS:Sane m) (hW:Wants m):Calls Tryz.prog 270 #[.slice b0 m.rm.length q0,.func (Fn.func 294) #[] #[.pointer (some ⟨R,0,none⟩)]] w fun e w'=>e= .returned (.int .i64 (Pp m))/\Below w.heap.size w w':=by
 have h3:=(Zo hS.hall).2.1;have Hbd:=Z9 (Oz m);have HC:=Z9 (fun (X:World) (hX:Below w.heap.size w X) (k:Nat) (hk:k<m.rm.length)=>D3 (K.next hX) hS hW hk);clear hS hW K;go_enter Tryz.func270,Tryz.ntmps270;go_wp2_with fail
 go_loopw [5,9] (fun n i wr=> ∃ k:Nat,k<=m.rm.length/\i= .int .i64 k/\n= .int .i64 (VC m k)/\Below w.heap.size w wr) (fun _ i _=>m.rm.length-(intOf i).toNat)
 case atStart=>exact ⟨0,ZA _,rfl,rfl,Z1 _ _⟩
 case round=>
  obtain ⟨k,hk,rfl,rfl,hb0⟩:=hrel;obtain ⟨u0,u1⟩:=uh Hbd k;obtain ⟨u2,u3⟩:=uh Hbd (k+1);have hst:VC m (k+1)=VC m k+TC m k:=rfl;rw [hst] at u2 u3;have Hst:=Z9 hst;have BB:=Z9 hb0;clear hb0 hst;by_cases hlt:k<m.rm.length
  ·have hlt1:(k:Int)<(m.rm.length:Int):=by omega
   have HD:=Z9 (uh HC wr (uh BB) k hlt);generalize TC m k=ci at *;generalize VC m k=ct at *;go_wp2_with fail;refine ck (uh HD) fun w1 hb=> ?_;replace BB:=bt BB hb;clear hb HD;go_wp2_with fail;go_roundw
   case rel=>exact ⟨k+1,by omega,by go_num,by rw [uh Hst],uh BB⟩
   case measure=>exact ms
  ·obtain rfl:k=m.rm.length:=by omega
   go_wp2_with fail;go_ret;exact ⟨rfl,uh BB⟩
open Go.ChangeShapes Go.WideShapes Go.ChangeAt Go.RowKit Go.Sort
theorem Ik {ss:List Z3} {k:Nat} (hk:k<ss.length):ss.set k (Z8 ss k)=ss:=by
 refine PI (by simp) fun i hi=> ?_;rw [ZJ hk]
 split
 ·rename_i e;rw [e]
 ·rfl
theorem SmithsAt.put {B n c g k i:Nat} {W:World} {ss:List Z3} {x:Z3} (h:SmithsAt B W (.slice (some ⟨g,0,none⟩) n c) (ss.set k x)) (hn:n=ss.length) (hk:k<ss.length) (hi:i<11) (u:Value) (y:Z3) (hy:ZU y=(ZU x).set i u):SmithsAt B (W.setCell ⟨g,k*11+i,none⟩ u) (.slice (some ⟨g,0,none⟩) n c) (ss.set k y):=by
 have h1:=(RecAt.put1 ZX (by omega) h (by simpa using hn) (j:=k) (i:=i) (by simpa using hk) hi u y (by rw [ZJ hk,if_pos rfl];exact hy)).1
 rwa [List.set_set] at h1
theorem Smy.other {w W:World} {v0 v1 v2 v3 v4 u:Value} {m:Z6} {B:Nat} {ss:List Z3} (h:Smy w v0 v1 v2 v3 v4 m) (hb:Below w.heap.size w W) (hs:SmithsAt B W u ss):Smy W v0 v1 u v3 v4 { m with sm:=ss }:=⟨h.rm.below hb,h.gd.below hb,hs.list,h.dk.below hb,h.pc.below hb⟩
theorem Below.put6 {n:Nat} {w W:World} {R:Nat} (v0 v1 v2 v3 v4 v5:Value) (h:Below n w W) (hR:n<=R):Below n w ((((((W.setCell ⟨R,0,none⟩ v0).setCell ⟨R,1,none⟩ v1).setCell ⟨R,2,none⟩ v2).setCell ⟨R,3,none⟩ v3).setCell ⟨R,4,none⟩ v4).setCell ⟨R,5,none⟩ v5):=by
 iterate 6 (refine YS ?_ hR _)
 exact h
theorem RecAt.off6 {α:Type} [Inhabited α] {t k B:Nat} {enc:α->List Value} {W:World} {R:Nat} {v:Value} {xs:List α} (v0 v1 v2 v3 v4 v5:Value) (h:RecAt t k enc B W v xs) (hR:∀ i,v.ownBlock=some i->i ≠ R):RecAt t k enc B ((((((W.setCell ⟨R,0,none⟩ v0).setCell ⟨R,1,none⟩ v1).setCell ⟨R,2,none⟩ v2).setCell ⟨R,3,none⟩ v3).setCell ⟨R,4,none⟩ v4).setCell ⟨R,5,none⟩ v5) v xs:=
 RecAt.same h fun i hi=>by rw [heap_setCell_other _ _ _ _ (hR i hi),heap_setCell_other _ _ _ _ (hR i hi),heap_setCell_other _ _ _ _ (hR i hi),heap_setCell_other _ _ _ _ (hR i hi),heap_setCell_other _ _ _ _ (hR i hi),heap_setCell_other _ _ _ _ (hR i hi)]
set_option linter.unusedSimpArgs false
set_option maxRecDepth 100000
theorem Lg {w:World} {a0 a1 a2 a3 a4:Option Addr} {p0 p1 p2 p3 p4:Nat} {m:Z6} {k:Nat} (b:Int) (h:Smy w (.slice a0 m.rm.length p0) (.slice a1 m.gd.length p1) (.slice a2 m.sm.length p2) (.slice a3 m.dk.length p3) (.slice a4 m.pc.length p4) m) (hl:m.sm.length<=1000) (hk:k<m.sm.length):Calls Tryz.prog 272 #[.agg (S6 a0 p0 a1 p1 a2 p2 a3 p3 a4 p4 m),.int .i64 (k:Int),.int .i64 b] w fun e w'=> ∃ g gc,e= .returned (.agg (S6 a0 p0 a1 p1 (some ⟨g,0,none⟩) gc a3 p3 a4 p4 m))/\Smy w' (.slice a0 m.rm.length p0) (.slice a1 m.gd.length p1) (.slice (some ⟨g,0,none⟩) m.sm.length gc) (.slice a3 m.dk.length p3) (.slice a4 m.pc.length p4) (WD m (k:Int) b)/\Below w.heap.size w w':=by
 have Hv0:=Z9 h;have hk1:(k:Int)<(m.sm.length:Int):=by omega
 clear h;go_enter Tryz.func272,Tryz.ntmps272;go_upto_region 1 with fail;obtain ⟨W,hW,kb,kr,BB⟩:=YG w 32 (S6 a0 p0 a1 p1 a2 p2 a3 p3 a4 p4 m) 32 E6;have Hv:=Z9 ((uh Hv0).below (uh BB));rw [hW];clear hW;obtain ⟨c0,c1,c2,c3,c4,c5⟩:=(uh kb).c6;go_wp2_with fail;refine ck (W7 _ _ _ _ _ _ _ _ _ _ _ _ _ _ _ _ _) fun w1 hb=> ?_;replace kb:=bl kb hb;replace kr:=bl kr hb;replace Hv:=Z9 ((uh Hv).below hb);replace BB:=bt BB hb;clear hb c0 c1 c2 c3 c4 c5;go_wp2_with fail;refine (UY (uh Hv).sm hl).mono ?_;rintro e w2 ⟨v2,rfl,hs,hb⟩;have hlb:=(uh kb).lt;have hlr:=(uh kr).lt;have hlo:=(uh BB).size;replace kb:=bl kb hb;replace kr:=bl kr hb;replace BB:=bt BB hb;clear hb Hv;obtain ⟨ga,gc,rfl⟩:=RecAt.shape hs;obtain ⟨g,rfl,hg1,hg2,hcl,hfr⟩:=RecAt.view ZX (by omega) hs rfl (by omega);have hgb:g ≠ w.heap.size:=by omega
 have hgr:g ≠ w.heap.size+1:=by omega
 have hbg:w.heap.size ≠ g:=by omega
 have hrg:w.heap.size+1 ≠ g:=by omega
 have hwg:w.heap.size<=g:=by omega
 have HS:Hid (SmithsAt (w.heap.size+1) w2 (.slice (some ⟨g,0,none⟩) m.sm.length gc) (m.sm.set k (Z8 m.sm k))):=Z9 (by rw [Ik hk];exact RecAt.mono hs (by omega));have s0:=hcl k hk 0 _ rfl;have s1:=hcl k hk 1 _ rfl;have f0:=hfr (k*11);have f1:=hfr (k*11+1);simp only [Nat.add_zero] at s0;clear hcl hfr hs hg1;obtain ⟨c0,c1,c2,c3,c4,c5⟩:=(uh kb).c6;obtain ⟨q0,q1,q2,q3,q4,q5⟩:=(uh kb).f6;obtain ⟨o0,o1,o2,o3,o4,o5⟩:=(uh kr).c6;obtain ⟨t0,t1,t2,t3,t4,t5⟩:=(uh kr).f6;go_wp2_with fail;refine ZS (v:= .agg (S6 a0 p0 a1 p1 (some ⟨g,0,none⟩) gc a3 p3 a4 p4 m)) (by simp [results,Tryz.results272,go_sem, *]) rfl ⟨g,gc,rfl,?_,?_⟩
 ·have h1:SmithsAt (w.heap.size+1) (w2.setCell ⟨w.heap.size,2,none⟩ (.slice (some ⟨g,0,none⟩) m.sm.length gc)) (.slice (some ⟨g,0,none⟩) m.sm.length gc) (m.sm.set k (Z8 m.sm k)):=RecAt.same (uh HS) (fun i e=>by cases e;exact heap_setCell_other _ _ _ _ hgb)
  have h2:=h1.put rfl hk (i:=0) (by omega) (.int .i64 2) (2,(Z8 m.sm k).2) rfl;have h3:=h2.put rfl hk (i:=1) (by omega) (.int .i64 b) (2,b,(Z8 m.sm k).2.2) rfl;exact (uh Hv0).other (Below.put6 _ _ _ _ _ _ ((((uh BB).setCell (Z2 _) _).setCell (by show w.heap.size<=g;omega) _).setCell (by show w.heap.size<=g;omega) _) (Nat.le_succ _)) (RecAt.off6 (.slice a0 m.rm.length p0) (.slice a1 m.gd.length p1) (.slice (some ⟨g,0,none⟩) m.sm.length gc) (.slice a3 m.dk.length p3) (.slice a4 m.pc.length p4) (.int .i64 m.now) h3 (fun i e=>by cases e;exact hgr))
 ·exact Below.put6 _ _ _ _ _ _ ((((uh BB).setCell (Z2 _) _).setCell (by show w.heap.size<=g;omega) _).setCell (by show w.heap.size<=g;omega) _) (Nat.le_succ _)
theorem DX {w:World} {v0 v1 v2 v3 v4:Value} {m:Z6} {k:Nat} {b q:Int} (hq2:Za m (k:Int) b=q) (h:Smy w v0 v1 v2 v3 v4 m) (hS:Sane m) (hT:Wants m) (hk:k<m.sm.length) (hs:(Z8 m.sm k).1 ≠ 0):Calls Tryz.prog 242 #[.agg #[v0,v1,v2,v3,v4,.int .i64 m.now],.int .i64 (k:Int),.int .i64 b] w fun e w'=>e= .returned (.int .i64 q)/\Below w.heap.size w w':=by
 replace hq2:Pp (WD m (k:Int) b)=q:=hq2;have HS:=Z9 (hS.with hk hs b);have HT:=Z9 (hT.with hk hs b);have hl:=hS.few;clear hS hT;obtain ⟨a0,p0,a1,p1,a2,p2,a3,p3,a4,p4,rfl,rfl,rfl,rfl,rfl,K⟩:=Bx.new h;clear h;go_enter Tryz.func242,Tryz.ntmps242;go_wp2_with fail;generalize w.alloc (.cells (S6 a0 p0 a1 p1 a2 p2 a3 p3 a4 p4 m) 32)=W at *;have HR:Hid (∀ {X:World} {R:Nat} {c0:Option Addr} {g gc r0:Nat} {W:World},Bx X W R a0 p0 a1 p1 (some ⟨g,0,none⟩) gc a3 p3 a4 p4 (WD m (k:Int) b)->Calls Tryz.prog 270 #[.slice c0 m.rm.length r0,.func (Fn.func 294) #[] #[.pointer (some ⟨R,0,none⟩)]] W fun e w'=>e= .returned (.int .i64 q)/\Below W.heap.size W w'):=Z9 (fun hK=>by rw [<-hq2];exact JD hK (uh HS) (uh HT))
 have HC:Hid (∀ (g gc:Nat) (W:World),Smy W (.slice a0 m.rm.length p0) (.slice a1 m.gd.length p1) (.slice (some ⟨g,0,none⟩) m.sm.length gc) (.slice a3 m.dk.length p3) (.slice a4 m.pc.length p4) (WD m (k:Int) b)->Calls Tryz.prog 271 #[.agg (S6 a0 p0 a1 p1 (some ⟨g,0,none⟩) gc a3 p3 a4 p4 m)] W fun e w'=>e= .returned (.func (Fn.func 294) #[] #[.pointer (some ⟨W.heap.size,0,none⟩)])/\Bx W w' W.heap.size a0 p0 a1 p1 (some ⟨g,0,none⟩) gc a3 p3 a4 p4 (WD m (k:Int) b)):=Z9 (fun g gc W hs=>by
  have hwl:(WD m (k:Int) b).sm.length=m.sm.length:=by unfold WD;simp
  have h9:=FV (w:=W) (m:=WD m (k:Int) b) (a0:=a0) (a1:=a1) (a2:=some ⟨g,0,none⟩) (a3:=a3) (a4:=a4) (p0:=p0) (p1:=p1) (p2:=gc) (p3:=p3) (p4:=p4) (by rw [hwl];exact hs);unfold S6 at h9;rw [hwl] at h9
  exact h9)
 clear HS HT hq2;have KD:=K.drew;obtain ⟨c0,c1,c2,c3,c4,c5⟩:=K.cells;go_wp2_with fail
 go_region_with (first
  | (go_at_call 272;refine (Lg b KD.smy (by omega) hk).mono ?_;rintro e w3 ⟨g,gc,rfl,hsm,hb3⟩;have K3:=KD.next hb3;have z0:=K3.blk.cell (i:=0) (v:= .slice a0 m.rm.length p0) rfl;have HS3:=Z9 hsm;clear hsm hb3)
  | (go_at_call 271;refine (uh HC _ _ _ (uh HS3)).mono ?_;rintro e w4 ⟨rfl,KX⟩;have K4:=K3.next KX.bb;have y0:=K4.blk.cell (i:=0) (v:= .slice a0 m.rm.length p0) rfl)
  | (go_at_call 270;refine (uh HR KX).mono ?_;rintro e w5 ⟨rfl,hb5⟩;have K5:=K4.next hb5;clear hb5))
 all_goals
  go_wp2_with fail;go_ret;exact ⟨rfl,K5.bb⟩
set_option maxRecDepth 100000
theorem Jn (x u f : Int) (w : World) : (method 428 273 (.agg #[.int .i64 x, .int .i64 u, .int .i64 f]) "loop.example/g00553/impl.place").run Tryz.prog w = .ok (368, .agg #[.int .i64 x, .int .i64 u, .int .i64 f]) w := by kernel_rfl
theorem QY (x u f:Int) (w:World):Calls Tryz.prog 368 #[.agg #[.int .i64 x,.int .i64 u,.int .i64 f]] w fun e w'=>e= .returned (.int .i64 x)/\Below w.heap.size w w':=by
 go_enter Tryz.func368,Tryz.ntmps368;go_wp2_with fail;go_ret;exact ⟨rfl,(ba _ _)⟩
theorem zg (x u f : Int) (w : World) : (method 428 273 (.agg #[.int .i64 x, .int .i64 u, .int .i64 f]) "loop.example/g00553/impl.takes").run Tryz.prog w = .ok (370, .agg #[.int .i64 x, .int .i64 u, .int .i64 f]) w := by kernel_rfl
theorem CD (n x u f:Int) (w:World):Calls Tryz.prog 370 #[.agg #[.int .i64 x,.int .i64 u,.int .i64 f],.int .i64 n] w fun e w'=>e= .returned (.bool (Ws n u f))/\Below w.heap.size w w':=by
 go_enter Tryz.func370,Tryz.ntmps370;go_wp2_with fail;have BB:Hid (Below w.heap.size w (w.alloc (.cells #[.int .i64 x,.int .i64 u,.int .i64 f] 273))):=Z9 ((ba _ _));refine ck (LQ _ _ _ _) fun w1 hb=> ?_;replace BB:=bt BB hb;clear hb;go_wp2_with fail;go_ret;exact ⟨rfl,uh BB⟩
theorem Jm (x u f : Int) (w : World) : (method 428 273 (.agg #[.int .i64 x, .int .i64 u, .int .i64 f]) "loop.example/g00553/impl.hasTooMuch").run Tryz.prog w = .ok (367, .agg #[.int .i64 x, .int .i64 u, .int .i64 f]) w := by kernel_rfl
theorem LK (x u f:Int) (w:World):Calls Tryz.prog 367 #[.agg #[.int .i64 x,.int .i64 u,.int .i64 f]] w fun e w'=>e= .returned (.bool (VK u f))/\Below w.heap.size w w':=by
 go_enter Tryz.func367,Tryz.ntmps367;go_wp2_with fail;have BB:Hid (Below w.heap.size w (w.alloc (.cells #[.int .i64 x,.int .i64 u,.int .i64 f] 273))):=Z9 ((ba _ _));refine ck (Nv _ _ _) fun w1 hb=> ?_;replace BB:=bt BB hb;clear hb;go_wp2_with fail;go_ret;exact ⟨rfl,uh BB⟩
theorem zf (x u f : Int) (w : World) : (method 428 273 (.agg #[.int .i64 x, .int .i64 u, .int .i64 f]) "loop.example/g00553/impl.spare").run Tryz.prog w = .ok (369, .agg #[.int .i64 x, .int .i64 u, .int .i64 f]) w := by kernel_rfl
theorem Kj (x u f:Int) (w:World):Calls Tryz.prog 369 #[.agg #[.int .i64 x,.int .i64 u,.int .i64 f]] w fun e w'=>e= .returned (.int .i64 (XM u f))/\Below w.heap.size w w':=by
 go_enter Tryz.func369,Tryz.ntmps369;go_wp2_with fail;have BB:Hid (Below w.heap.size w (w.alloc (.cells #[.int .i64 x,.int .i64 u,.int .i64 f] 273))):=Z9 ((ba _ _));refine ck (Nu _ _ _) fun w1 hb=> ?_;replace BB:=bt BB hb;clear hb;go_wp2_with fail;go_ret;exact ⟨rfl,uh BB⟩
theorem yV (v:Value) (w:World):(Instr.typeAssert (.iface 273 v) 249 227 true).run Tryz.prog w= .ok (.tuple #[.iface 273 v,.bool true]) w:=by kernel_rfl
theorem Md {l:List String} (h:l ≠ []):∃ s,Instr.least l=some s:=by
 cases l with
 | nil=>exact absurd rfl h
 | cons s r=>exact ⟨_,rfl⟩
theorem Ck (p:String->Bool) (f:String->String) {ms:List String} (h:ms ≠ []):∃ s,(match ms.partition p with | (u,e)=>Instr.least e <|> Instr.least (u.map f))=some s:=by
 rw [List.partition_eq_filter_filter];dsimp only;by_cases he:ms.filter (not ∘ p)=[]
 ·have hu:ms.filter p ≠ []:=by
   intro e;apply h;have h1:=List.filter_eq_nil_iff.1 he;have h2:=List.filter_eq_nil_iff.1 e;refine List.eq_nil_iff_forall_not_mem.2 (fun x hx=> ?_);have k1:=h1 x hx;have k2:=h2 x hx;simp only [Function.comp_apply] at k1;cases hp:p x
   ·rw [hp] at k1;exact k1 rfl
   ·exact k2 hp
  obtain ⟨s,hs⟩:=Md (l:=(ms.filter p).map f) (by simpa using hu);rw [he,hs];exact ⟨s,rfl⟩
 ·obtain ⟨s,hs⟩:=Md he
  rw [hs];exact ⟨s,rfl⟩
theorem Jq {want:Array (String × TypeId)} {got:Array Method} (h:(want.toList.filter fun x=> !got.any fun m=>m.name ==x.1 && m.sig ==x.2).isEmpty=false):∃ s,Instr.missingMethod want got=some s:=by
 refine Ck _ _ (ms:=(want.toList.filter fun x=> !got.any fun m=>m.name ==x.1 && m.sig ==x.2).map (·.1)) ?_;intro e;rw [List.map_eq_nil_iff] at e;rw [e] at h;cases h
theorem FB {P:Program} {w:World} {t xt asserted:TypeId} {v z:Value} {want:Array (String × TypeId)} {i j:TypeInfo} (hu:P.underlying asserted=some (.interface want)) (hi:P.info? t=some i) (hm:(want.toList.filter fun x=> !i.methods.any fun m=>m.name ==x.1 && m.sig ==x.2).isEmpty=false) (hj:P.info? asserted=some j) (hz:j.zero=some z):(Instr.typeAssert (.iface t v) xt asserted true).run P w= .ok (.tuple #[z,.bool false]) w:=by
 obtain ⟨s,hs⟩:=Jq hm;simp [Instr.typeAssert,run_underlying hu,typeInfo,hi,hs,zeroValue,hj,hz]
theorem BD:((Tryz.prog.info? 271).bind fun i=>(Tryz.prog.underlying 227).map fun d=>match d with | .interface want=>(want.toList.filter fun x=> !i.methods.any fun m=>m.name ==x.1 && m.sig ==x.2).isEmpty | _=>true)=some false:=by kernel_rfl
theorem Bt (v:Value) (w:World):(Instr.typeAssert (.iface 271 v) 249 227 true).run Tryz.prog w= .ok (.tuple #[.nilIface,.bool false]) w:=by
 obtain ⟨j,hj,hz,_,_⟩:=PF JN;have h:=BD;cases hi:Tryz.prog.info? 271 with
 | none=>rw [hi] at h;cases h
 | some i=>
  cases hu:Tryz.prog.underlying 227 with
  | none=>rw [hi,hu] at h;cases h
  | some d=>
   rw [hi,hu] at h;cases d with
   | interface want=>exact FB hu hi (by simpa using h) hj hz
   | _=>cases h
def IV (m:Z6) (b:Int):Value:=if Ur m b then .iface 273 (.agg #[.int .i64 b,.int .i64 (Zc m b (-1)),.int .i64 (Zd m.rm b)]) else .iface 271 (.agg #[.int .i64 b])
theorem FF {w:World} {v0 v1 v2 v3 v4:Value} {m:Z6} {b:Int} (h:Smy w v0 v1 v2 v3 v4 m) (hW:Wants m) (hl:m.sm.length<=12):Calls Tryz.prog 269 #[.agg #[v0,v1,v2,v3,v4,.int .i64 m.now],.int .i64 b] w fun e w'=>e= .returned (IV m b)/\Below w.heap.size w w':=by
 have HW:=Z9 hW;clear hW;obtain ⟨op,hop⟩:∃ q,Ur m b=q:=⟨_,rfl⟩
 have Hop:=Z9 hop;unfold IV;rw [hop];clear hop;obtain ⟨us,hus⟩:∃ q,Zc m b (-1)=q:=⟨_,rfl⟩
 have Hus:=Z9 hus;rw [hus];clear hus;obtain ⟨a0,p0,a1,p1,a2,p2,a3,p3,a4,p4,rfl,rfl,rfl,rfl,rfl,K⟩:=Bx.new h;clear h;go_enter Tryz.func269,Tryz.ntmps269;go_wp2_with fail;generalize w.alloc (.cells (S6 a0 p0 a1 p1 a2 p2 a3 p3 a4 p4 m) 32)=W at *;refine ck (NW (uh Hop) K.smy) fun w1 hb=> ?_;replace K:=K.next hb;clear hb;cases op
 ·go_wp2_with fail
  go_ret;exact ⟨rfl,K.bb⟩
 clear Hop;have HN:=Z9 (fun (X:World) (hX:Below w1.heap.size w1 X)=>Qp (uh Hus) (K.smy.below hX) (uh HW) hl);have HF:=Z9 (fun (X:World) (hX:Below w1.heap.size w1 X)=>Nr b (K.smy.below hX).rm);obtain ⟨c0,c1,c2,c3,c4,c5⟩:=K.cells;have k0:=ZW c0;have k1:=ZW c1;have k2:=ZW c2;have k3:=ZW c3;have k4:=ZW c4;have k5:=ZW c5;go_wp2_with fail;refine wq ?_
 repeat (go_big_quiet_step (first | exact ZY (uh HN _ (Z0 _ _ _)) | exact ZY (uh HF _ (Z0 _ _ _))))
 refine wpQuiet_nil ?_;intro _ hw';obtain ⟨⟨dq,osq⟩,hw''⟩:=hw';subst hw'';go_wp2_with fail;go_ret;exact ⟨rfl,K.bb.trans ((Z0 _ _ _).mono K.bb.size)⟩
theorem Bx.grown {w W X:World} {R:Nat} {a0 a1 a2 a3 a4:Option Addr} {p0 p1 p2 p3 p4:Nat} {m:Z6} {r:Option Nat} (h:Bx w W R a0 p0 a1 p1 a2 p2 a3 p3 a4 p4 m) (hs:Smy w (.slice a0 m.rm.length p0) (.slice a1 m.gd.length p1) (.slice a2 m.sm.length p2) (.slice a3 m.dk.length p3) (.slice a4 m.pc.length p4) m) (hg:W.grownBy X r) (hr:∀ k,r=some k->w.heap.size<=k/\k ≠ R):Bx w X R a0 p0 a1 p1 a2 p2 a3 p3 a4 p4 m:=by
 have hb:Below w.heap.size w X:=h.bb.grown hg h.bb.size (fun k e=>(hr k e).1);exact ⟨hs.below hb,(hg.block _ h.blk.lt (fun e=>(hr R e.symm).2 rfl)).trans h.blk,hb⟩
attribute [local go_sem] yV Bt
theorem PW {w:World} {v0 v1 v2 v3 v4:Value} {m:Z6} (h:Smy w v0 v1 v2 v3 v4 m) (hW:Wants m) (hl:m.sm.length<=12) (hd:m.dk.length<=1000):Calls Tryz.prog 240 #[.agg #[v0,v1,v2,v3,v4,.int .i64 m.now]] w fun e w'=> ∃ v',e= .returned v'/\Yp w.heap.size w' v' (XK m m.dk.length)/\Below w.heap.size w w':=by
 have HW:=Z9 hW;clear hW;have Hs:=Z9 h;obtain ⟨a0,p0,a1,p1,a2,p2,a3,p3,a4,p4,rfl,rfl,rfl,rfl,rfl,K⟩:=Bx.new h;clear h;go_enter Tryz.func240,Tryz.ntmps240;go_wp2_with fail
 go_loopw [3,11] (fun l i wr=> ∃ k:Nat,k<=m.dk.length/\i= .int .i64 k/\Yp (w.heap.size+1) wr l (XK m k)/\Bx w wr w.heap.size a0 p0 a1 p1 a2 p2 a3 p3 a4 p4 m) (fun _ i _=>m.dk.length-(intOf i).toNat)
 case atStart=>exact ⟨0,ZA _,rfl,Y8 (by simp) (Z2 _),K.alloc _⟩
 case round=>
  obtain ⟨k,hk,rfl,hln,hK⟩:=hrel;clear K;have K:=hK;clear hK;obtain ⟨la,lc,rfl⟩:=RecAt.shape hln;have HL:=Z9 hln;have hfl:=SH m k;clear hln;by_cases hlt:k<m.dk.length
  ·have hlt1:(k:Int)<(m.dk.length:Int):=by omega
   have HY:=Z9 (fun hh=>Qf (m:=m) (k:=k) hh);have HN:=Z9 (fun hh=>OP (m:=m) (k:=k) hh);have hop:=zl hlt;obtain ⟨op,hq⟩:∃ q,(Z8 m.dk k).1=q:=⟨_,rfl⟩
   rw [hq] at hop HY HN;obtain ⟨bv,hbv⟩:∃ v,IV m (k:Int)=v:=⟨_,rfl⟩
   have HB:=Z9 (fun (X:World) (hX:Smy X (.slice a0 m.rm.length p0) (.slice a1 m.gd.length p1) (.slice a2 m.sm.length p2) (.slice a3 m.dk.length p3) (.slice a4 m.pc.length p4) m)=>FF (b:=(k:Int)) hX (uh HW) hl);rw [hbv] at HB;unfold IV at hbv;rw [hop] at hbv;unfold Sk at HY;generalize Zc m (k:Int) (-1)=us at *;generalize Zd m.rm (k:Int)=fo at *;subst hbv;clear hq hop;obtain ⟨c0,c1,c2,c3,c4,c5⟩:=K.cells;go_wp2_with fail;refine ck (uh HB _ K.smy) fun w1 hb=> ?_;replace K:=K.next hb;replace HL:=Z9 (RecAt.later (uh HL) hb);clear hb c0 c1 c2 c3 c4 c5 HB;cases op
   ·rw [if_neg (by simp)]
    go_wp2_with fail;go_roundw
    case rel=>exact ⟨k+1,by omega,by go_num,by rw [uh HN (by trivial)];exact uh HL,K⟩
    case measure=>exact ms
   ·rw [if_pos rfl]
    have hsx:=K.blk.lt;go_wp2_with (at_builtin;refine UW rfl (.tmp 22) (.tmp 24) 177 Tryz.underlying177 rfl (w.heap.size+1) _ _ (XK m k) [((k:Int),us,fo)] rfl rfl (RecAt.later (uh HL) ((ba _ _))) (Wy ((k:Int),us,fo) rfl (Z2 _) (by omega)) (by simp;omega) (by simp;omega) ?_;intro u9 w9 hp9 hg9 hat9;have HP9:=Z9 hp9;have HG9:=Z9 hg9;clear hp9 hg9 hat9)
    have hgo:∀ i,(Value.slice la (XK m k).length lc).ownBlock=some i->w.heap.size<=i/\i ≠ w.heap.size:=fun i e=>by have:=(RecAt.lt (uh HL) e).1;omega
    replace K:=(K.alloc _).grown (uh Hs) (uh HG9) hgo;go_wp2_with fail;go_roundw
    case rel=>exact ⟨k+1,by omega,by go_num,by rw [uh HY (by trivial)];exact uh HP9,K⟩
    case measure=>exact ms
  ·obtain rfl:k=m.dk.length:=by omega
   go_wp2_with fail;go_ret;exact ⟨_,rfl,RecAt.mono (uh HL) (Nat.le_succ _),K.bb⟩
theorem MX {w:World} {a0 a1 a2 a3 a4:Option Addr} {p0 p1 p2 p3 p4:Nat} {m:Z6} {k:Nat} (h:Smy w (.slice a0 m.rm.length p0) (.slice a1 m.gd.length p1) (.slice a2 m.sm.length p2) (.slice a3 m.dk.length p3) (.slice a4 m.pc.length p4) m) (hl:m.sm.length<=1000) (hk:k<m.sm.length):Calls Tryz.prog 241 #[.agg (S6 a0 p0 a1 p1 a2 p2 a3 p3 a4 p4 m),.int .i64 (k:Int)] w fun e w'=> ∃ g gc,e= .returned (.agg (S6 a0 p0 a1 p1 (some ⟨g,0,none⟩) gc a3 p3 a4 p4 m))/\Smy w' (.slice a0 m.rm.length p0) (.slice a1 m.gd.length p1) (.slice (some ⟨g,0,none⟩) m.sm.length gc) (.slice a3 m.dk.length p3) (.slice a4 m.pc.length p4) (Xb m (k:Int))/\Below w.heap.size w w':=by
 have Hv0:=Z9 h;have hk1:(k:Int)<(m.sm.length:Int):=by omega
 clear h;go_enter Tryz.func241,Tryz.ntmps241;go_upto_region 1 with fail;obtain ⟨W,hW,kb,kr,BB⟩:=YG w 32 (S6 a0 p0 a1 p1 a2 p2 a3 p3 a4 p4 m) 32 E6;have Hv:=Z9 ((uh Hv0).below (uh BB));rw [hW];clear hW;obtain ⟨c0,c1,c2,c3,c4,c5⟩:=(uh kb).c6;go_wp2_with fail;refine ck (W7 _ _ _ _ _ _ _ _ _ _ _ _ _ _ _ _ _) fun w1 hb=> ?_;replace kb:=bl kb hb;replace kr:=bl kr hb;replace Hv:=Z9 ((uh Hv).below hb);replace BB:=bt BB hb;clear hb c0 c1 c2 c3 c4 c5;go_wp2_with fail;refine (UY (uh Hv).sm hl).mono ?_;rintro e w2 ⟨v2,rfl,hs,hb⟩;have hlb:=(uh kb).lt;have hlr:=(uh kr).lt;have hlo:=(uh BB).size;replace kb:=bl kb hb;replace kr:=bl kr hb;replace BB:=bt BB hb;clear hb Hv;obtain ⟨ga,gc,rfl⟩:=RecAt.shape hs;obtain ⟨g,rfl,hg1,hg2,hcl,hfr⟩:=RecAt.view ZX (by omega) hs rfl (by omega);have hgb:g ≠ w.heap.size:=by omega
 have hgr:g ≠ w.heap.size+1:=by omega
 have hbg:w.heap.size ≠ g:=by omega
 have hrg:w.heap.size+1 ≠ g:=by omega
 have hwg:w.heap.size<=g:=by omega
 have HS:Hid (SmithsAt (w.heap.size+1) w2 (.slice (some ⟨g,0,none⟩) m.sm.length gc) (m.sm.set k (Z8 m.sm k))):=Z9 (by rw [Ik hk];exact RecAt.mono hs (by omega));have s0:=hcl k hk 0 _ rfl;have f0:=hfr (k*11);simp only [Nat.add_zero] at s0;clear hcl hfr hs hg1;obtain ⟨c0,c1,c2,c3,c4,c5⟩:=(uh kb).c6;obtain ⟨q0,q1,q2,q3,q4,q5⟩:=(uh kb).f6;obtain ⟨o0,o1,o2,o3,o4,o5⟩:=(uh kr).c6;obtain ⟨t0,t1,t2,t3,t4,t5⟩:=(uh kr).f6;go_wp2_with fail;refine ZS (v:= .agg (S6 a0 p0 a1 p1 (some ⟨g,0,none⟩) gc a3 p3 a4 p4 m)) (by simp [results,Tryz.results241,go_sem, *]) rfl ⟨g,gc,rfl,?_,?_⟩
 ·have h1:SmithsAt (w.heap.size+1) (w2.setCell ⟨w.heap.size,2,none⟩ (.slice (some ⟨g,0,none⟩) m.sm.length gc)) (.slice (some ⟨g,0,none⟩) m.sm.length gc) (m.sm.set k (Z8 m.sm k)):=RecAt.same (uh HS) (fun i e=>by cases e;exact heap_setCell_other _ _ _ _ hgb)
  have h2:=h1.put rfl hk (i:=0) (by omega) (.int .i64 1) (1,(Z8 m.sm k).2) rfl;exact (uh Hv0).other (Below.put6 _ _ _ _ _ _ (((uh BB).setCell (Z2 _) _).setCell (by show w.heap.size<=g;omega) _) (Nat.le_succ _)) (RecAt.off6 (.slice a0 m.rm.length p0) (.slice a1 m.gd.length p1) (.slice (some ⟨g,0,none⟩) m.sm.length gc) (.slice a3 m.dk.length p3) (.slice a4 m.pc.length p4) (.int .i64 m.now) h2 (fun i e=>by cases e;exact hgr))
 ·exact Below.put6 _ _ _ _ _ _ (((uh BB).setCell (Z2 _) _).setCell (by show w.heap.size<=g;omega) _) (Nat.le_succ _)
structure Asks (m:Z6) (k:Nat):Prop where
 sane:Sane m
 wants:Wants m
 hk:k<m.sm.length
 hs:(Z8 m.sm k).1 ≠ 0
 may:0<=(Z8 m.sm k).2.2.2.1/\(Z8 m.sm k).2.2.2.1<=255
theorem Asks.mem {m:Z6} {k:Nat} (h:Asks m k) {x:Ym} (hx:x ∈ XK (Xb m (k:Int)) m.dk.length):Vt (Z8 m.sm k).2.2.2.1 x.1=TM m k x:=by
 obtain ⟨b,hb,_,rfl⟩:=(SI _ x _).1 hx;obtain ⟨y0,y1⟩:=h.may;have h8:=h.sane.eight;unfold Vt TM Sk;rw [Zn y0 y1,Zn (show (0:Int)<=(b:Int) by omega) (show (b:Int)<=7 by omega)];rfl
theorem Asks.few {m:Z6} {k:Nat} (h:Asks m k):(VJ m (k:Int) m.dk.length).length<=8:=by
 have:=h.sane.eight;have:=J4 m (k:Int) m.dk.length;omega
theorem DV (m:Z6) (who:Int):YQ m who=if WJ m || decide ((YN m who).length=0) then (RM (VJ m who m.dk.length)).1 else (UX m who (YN m who)).1:=by
 unfold YQ;rw [GH];cases hc:WJ m
 ·by_cases hl:(YN m who).length=0
  ·rw [if_neg (by simp [hl]),if_pos (by simp [hl])]
  ·rw [if_pos (by simp;omega),if_neg (by simp;intro e;rw [e] at hl;simp at hl)]
   rw [DT m who (by omega) (fun x hx=>by obtain ⟨b,_,rfl,_⟩:=zY hx;omega)]
 ·rfl
attribute [local go_sem] Jn
theorem IW {w:World} {v0 v1 v2 v3 v4:Value} {m:Z6} {k:Nat} {q:List Ym} (hq:(XK (Xb m (k:Int)) m.dk.length).filter (TM m k)=q) (h:Smy w v0 v1 v2 v3 v4 m) (hS:Sane m) (hT:Wants m) (hk:k<m.sm.length) (hs:(Z8 m.sm k).1 ≠ 0) (hM:∀ x:Ym,x ∈ XK (Xb m (k:Int)) m.dk.length->Vt (Z8 m.sm k).2.2.2.1 x.1=TM m k x):Calls Tryz.prog 199 #[.agg #[v0,v1,v2,v3,v4,.int .i64 m.now],.int .i64 (k:Int)] w fun e w'=> ∃ v',e= .returned v'/\Yp w.heap.size w' v' q/\Below w.heap.size w w':=by
 have HF:=Z9 hq;clear hq;have Hs:=Z9 h;obtain ⟨a0,p0,a1,p1,a2,p2,a3,p3,a4,p4,rfl,rfl,rfl,rfl,rfl,K⟩:=Bx.new h;clear h;have hl:=hS.few;have h8:=hS.eight;have HM:=Z9 hM;have HU:=Z9 (fun (g gc:Nat) (X:World) (hX:Smy X (.slice a0 m.rm.length p0) (.slice a1 m.gd.length p1) (.slice (some ⟨g,0,none⟩) m.sm.length gc) (.slice a3 m.dk.length p3) (.slice a4 m.pc.length p4) (Xb m (k:Int)))=>PW (m:=Xb m (k:Int)) hX (hT.away hk hs) (by rw [Lm];exact hl) (show m.dk.length<=1000 by omega));have hlen:=SH (Xb m (k:Int)) m.dk.length;clear hS hT hM hs;go_enter Tryz.func199,Tryz.ntmps199;go_upto_region 2 with fail;have HL:Hid (Yp (w.heap.size+1) ((w.alloc (.cells (S6 a0 p0 a1 p1 a2 p2 a3 p3 a4 p4 m) 32)).alloc (.cells #[] 227)) (.slice (some ⟨w.heap.size+1,0,none⟩) 0 0) []):=Z9 (Y8 (by simp) (Z2 _));replace K:=K.alloc (.cells #[] 227);generalize (w.alloc (.cells (S6 a0 p0 a1 p1 a2 p2 a3 p3 a4 p4 m) 32)).alloc (.cells #[] 227)=W at *;obtain ⟨c0,c1,c2,c3,c4,c5⟩:=K.cells;go_wp2_with fail;refine (MX K.smy (by omega) hk).mono ?_;rintro e w2 ⟨g,gc,rfl,hsm,hb⟩;replace K:=K.next hb;replace HL:=Z9 (RecAt.later (uh HL) hb);have HA:=Z9 hsm;clear hb c0 c1 c2 c3 c4 c5 hsm;go_wp2_with fail;refine (uh HU g gc _ (uh HA)).mono ?_;rintro e w3 ⟨v3,rfl,hu,hb⟩;have hu2:Yp w2.heap.size w3 v3 (XK (Xb m (k:Int)) m.dk.length):=hu;have hlo2:∀ i,v3.ownBlock=some i->w2.heap.size<=i:=fun i e=>(RecAt.lt hu2 e).1;have hsp:∀ i,v3.ownBlock=some i->(Value.slice (some ⟨w.heap.size+1,0,none⟩) 0 0).ownBlock ≠ some i:=fun i e e2=>by have:=hlo2 i e;have:=(RecAt.lt (uh HL) e2).2;omega
 replace K:=K.next hb;replace HL:=Z9 (RecAt.later (uh HL) hb);clear hb HU HA hu hlo2;generalize XK (Xb m (k:Int)) m.dk.length=us at *;obtain ⟨ua,uc,rfl⟩:=RecAt.shape hu2;have HU:=Z9 hu2;have Hsp:=Z9 hsp;clear hu2 hsp;have hus:us.length<=8:=by omega
 go_wp2_with fail
 go_loopw [5,14] (fun l i wr=> ∃ j:Nat,j<=us.length/\i= .int .i64 j/\Yp (w.heap.size+1) wr l ((us.take j).filter (TM m k))/\Yp w2.heap.size wr (.slice ua us.length uc) us/\(∀ i,(Value.slice ua us.length uc).ownBlock=some i->l.ownBlock ≠ some i)/\Bx w wr w.heap.size a0 p0 a1 p1 a2 p2 a3 p3 a4 p4 m) (fun _ i _=>us.length-(intOf i).toNat)
 case atStart=>exact ⟨0,ZA _,rfl,uh HL,uh HU,uh Hsp,K⟩
 case round=>
  obtain ⟨j,hj,rfl,hln,hun,hsp,hK⟩:=hrel;clear K HL HU Hsp;have K:=hK;clear hK;obtain ⟨la,lc,rfl⟩:=RecAt.shape hln;have HL:=Z9 hln;have HU:=Z9 hun;have Hsp:=Z9 hsp;have hfl:((us.take j).filter (TM m k)).length<=8:=by have e1:=List.length_filter_le (TM m k) (us.take j);have e2:(us.take j).length<=us.length:=(by simp;omega);omega
  clear hln hun hsp;by_cases hlt:j<us.length
  ·have hlt1:(j:Int)<(us.length:Int):=by omega
   have HY:=Z9 (fun hh=>LC (p:=TM m k) hlt hh);have HN:=Z9 (fun hh=>JK (p:=TM m k) hlt hh);obtain ⟨q,hq⟩:∃ q,TM m k (Z8 us j)=q:=⟨_,rfl⟩
   have hmm:=uh HM _ (Vu hlt);rw [hq] at HY HN hmm;generalize (us.take j).filter (TM m k)=ls at *;obtain ⟨g,rfl,hgl,hgw,hcl,_⟩:=RecAt.view Wh (by omega) (uh HU) rfl (by omega);have z0:=Sl hcl hlt;clear hcl hq;generalize hx:Z8 us j=x at *;clear hx;obtain ⟨bx,ux,fx⟩:=x;simp only at z0 hmm;obtain ⟨_,_,hse,_,_,r2⟩:=K.smy.sm;cases hse
   rcases r2 with e0 | ⟨sb,off,rfl,hbw,hcs⟩
   ·rw [e0] at hk;simp at hk
   obtain ⟨d0,d1,d2,d3,d4,d5,d6,d7,d8,d9,d10⟩:=Zw hcs hk;clear hcs d0 d1 d2 d4 d5 d6 d7 d8 d9 d10;have hk1:(k:Int)<(m.sm.length:Int):=by omega
   have HI:=Z9 (fun X=>Calls.bool_of (Calls.same_below' (Wb (Z8 m.sm k).2.2.2.1 bx X)) hmm);clear hmm;generalize hmy:(Z8 m.sm k).2.2.2.1=my at *;clear hmy;go_upto_region 5 with fail;have c2:=K.blk.cell (i:=2) (v:= .slice (some ⟨sb,off,none⟩) m.sm.length p2) rfl;have k2:=ZW c2;have k3:=ZW d3;refine wq ?_
   repeat (go_big_quiet_step (first | exact ZY (QY _ _ _ _) | exact ZY (uh HI _)))
   refine wqn fun wq hb=> ?_;replace K:=K.next hb;replace HL:=Z9 (RecAt.later (uh HL) hb);replace HU:=Z9 (RecAt.later (uh HU) hb);clear hb c2 k2 k3 d3 z0;cases q
   ·go_wp2_with fail
    go_roundw
    case rel=>exact ⟨j+1,by omega,by go_num,by rw [uh HN (by trivial)];exact uh HL,uh HU,uh Hsp,K⟩
    case measure=>exact ms
   ·have hsx:=K.blk.lt
    go_wp2_with (at_builtin;refine UW rfl (.tmp 27) (.tmp 29) 177 Tryz.underlying177 rfl (w.heap.size+1) _ _ ls [(bx,ux,fx)] rfl rfl (RecAt.later (uh HL) ((ba _ _))) (Wy (bx,ux,fx) rfl (Z2 _) (by omega)) (by simp;omega) (by simp;omega) ?_;intro u9 w9 hp9 hg9 hat9;have HP9:=Z9 hp9;have HG9:=Z9 hg9;have HA9:=Z9 hat9;clear hp9 hg9 hat9)
    have hgo:∀ i,(Value.slice la ls.length lc).ownBlock=some i->w.heap.size<=i/\i ≠ w.heap.size:=fun i e=>by have:=(RecAt.lt (uh HL) e).1;omega
    replace K:=(K.alloc _).grown (uh Hs) (uh HG9) hgo;have hul:=fun i e=>(RecAt.lt (uh HU) (i:=i) e).2
    have hsp9:∀ i,(Value.slice (some ⟨g,0,none⟩) us.length uc).ownBlock=some i->u9.ownBlock ≠ some i:=by
     intro i e e2
     rcases uh HA9 with h9 | h9
     ·rw [h9] at e2;exact uh Hsp i e e2
     ·rw [h9] at e2
      have:=hul i e;simp at e2;omega
    replace HU:=Z9 (RecAt.grown (RecAt.later (uh HU) ((ba _ _))) (uh HG9) (uh Hsp));go_wp2_with fail;go_roundw
    case rel=>exact ⟨j+1,by omega,by go_num,by rw [uh HY (by trivial)];exact uh HP9,uh HU,hsp9,K⟩
    case measure=>exact ms
  ·obtain rfl:j=us.length:=by omega
   have e9:(us.take us.length).filter (TM m k)=q:=by rw [List.take_length];exact uh HF
   have E9:=Z9 e9;clear e9;go_wp2_with fail;go_ret;exact ⟨_,rfl,by rw [<-uh E9];exact RecAt.mono (uh HL) (Nat.le_succ _),K.bb⟩
theorem Re {w:World} {v0 v1 v2 v3 v4:Value} {m:Z6} {k:Nat} (h:Smy w v0 v1 v2 v3 v4 m) (A:Asks m k):Calls Tryz.prog 199 #[.agg #[v0,v1,v2,v3,v4,.int .i64 m.now],.int .i64 (k:Int)] w fun e w'=> ∃ v',e= .returned v'/\Yp w.heap.size w' v' (VJ m (k:Int) m.dk.length)/\Below w.heap.size w w':=IW (GQ m A.hk _) h A.sane A.wants A.hk A.hs (fun x hx=>A.mem hx)
end Go.Proofs.YtamgfpdahadnfaaGreatDoor
namespace Go.Proofs.YtamgfpdahadnfaaGreatDoor
open Go.ChangeShapes Go.WideShapes Go.ChangeAt Go.RowKit Go.Sort Go.Shelf
set_option linter.unusedVariables false
set_option linter.unusedSimpArgs false
set_option maxRecDepth 100000
attribute [local go_sem] Jn zf
theorem Mz {w:World} {v:Value} {n0:Nat} {us:List Ym} (h:Yp n0 w v us) (hl:us.length<=1000):Calls Tryz.prog 198 #[v] w fun e w'=>e= .returned (.int .i64 (RM us).1)/\Below w.heap.size w w':=by
 obtain ⟨ua,uc,rfl⟩:=RecAt.shape h;have H0:=Z9 h;clear h;go_enter Tryz.func198,Tryz.ntmps198;go_wp2_with fail
 go_loopw [3,4,9] (fun c t i wr=> ∃ j:Nat,j<=us.length/\i= .int .i64 j/\c= .int .i64 (RM (us.take j)).1/\t= .int .i64 (RM (us.take j)).2/\Below w.heap.size w wr) (fun _ _ i _=>us.length-(intOf i).toNat)
 case atStart=>exact ⟨0,ZA _,rfl,rfl,rfl,Z1 _ _⟩
 case round=>
  obtain ⟨j,hj,rfl,rfl,rfl,hb⟩:=hrel;have HU:=Z9 (RecAt.later (uh H0) hb);have BB:=Z9 hb;clear hb;by_cases hlt:j<us.length
  ·have hlt1:(j:Int)<(us.length:Int):=by omega
   have HR:=Z9 (Cs hlt);generalize hcm:RM (us.take j)=cm at *;clear hcm;obtain ⟨ch,mo⟩:=cm;obtain ⟨g,rfl,hgl,hgw,hcl,_⟩:=RecAt.view Wh (by omega) (uh HU) rfl (by omega);have z0:=Sl hcl hlt;clear hcl;generalize hx:Z8 us j=x at *;clear hx;obtain ⟨bx,ux,fx⟩:=x;simp only at z0;unfold PJ at HR;simp only at HR ⊢;by_cases h1:ch= -1
   ·subst h1
    rw [if_pos (.inl rfl)] at HR;go_upto_region 6 with fail;go_wp2_with (first | (go_at_call 368;refine (QY _ _ _ _).mono ?_;rintro e w1 ⟨rfl,hb⟩;replace BB:=bt BB hb;clear hb) | (go_at_call 369;refine (Kj _ _ _ _).mono ?_;rintro e w2 ⟨rfl,hb⟩;replace BB:=bt BB hb;clear hb))
    go_roundw
    case rel=>exact ⟨j+1,by omega,by go_num,by rw [uh HR],by rw [uh HR],uh BB⟩
    case measure=>exact ms
   ·have h1b:(ch == -1)=false:=beq_eq_false_iff_ne.mpr h1
    obtain ⟨sp,hsp⟩:∃ x,XM ux fx=x:=⟨_,rfl⟩
    have HSP:=Z9 (fun X=>Calls.int_of (Kj bx ux fx X) hsp);rw [hsp] at HR;clear hsp;go_upto_region 5 with fail;go_wp2_with fail;refine ck (uh HSP _) fun w1 hb=> ?_;replace BB:=bt BB hb;clear hb;by_cases h2:mo<sp
    ·rw [if_pos (.inr h2)] at HR
     go_upto_region 6 with fail;go_wp2_with (first | (go_at_call 368;refine (QY _ _ _ _).mono ?_;rintro e w2 ⟨rfl,hb⟩;replace BB:=bt BB hb;clear hb) | (go_at_call 369;refine (uh HSP _).mono ?_;rintro e w3 ⟨rfl,hb⟩;replace BB:=bt BB hb;clear hb))
     go_roundw
     case rel=>exact ⟨j+1,by omega,by go_num,by rw [uh HR],by rw [uh HR],uh BB⟩
     case measure=>exact ms
    ·rw [if_neg (not_or.2 ⟨h1,h2⟩)] at HR
     go_wp2_with fail;go_roundw
     case rel=>exact ⟨j+1,by omega,by go_num,by rw [uh HR],by rw [uh HR],uh BB⟩
     case measure=>exact ms
  ·obtain rfl:j=us.length:=by omega
   rw [List.take_length];go_wp2_with fail;go_ret;exact ⟨rfl,uh BB⟩
theorem Ni {w:World} {v0 v1 v2 v3 v4:Value} {m:Z6} {k n0:Nat} {v:Value} {fs:List Int} (h:Smy w v0 v1 v2 v3 v4 m) (A:Asks m k) (hf:NumsAt n0 w v fs) (hl:fs.length<=1000):Calls Tryz.prog 200 #[.agg #[v0,v1,v2,v3,v4,.int .i64 m.now],.int .i64 (k:Int),v] w fun e w'=>e= .returned (.int .i64 (UX m (k:Int) fs).1)/\Below w.heap.size w w':=by
 obtain ⟨ua,uc,rfl⟩:=RecAt.shape hf;have HA:=Z9 A;have hk:=A.hk;clear A;have H0:=Z9 (RecAt.later hf ((Z1 _ _).alloc (Z2 _) (.cells #[v0,v1,v2,v3,v4,.int .i64 m.now] 32)));clear hf;obtain ⟨a0,p0,a1,p1,a2,p2,a3,p3,a4,p4,rfl,rfl,rfl,rfl,rfl,K⟩:=Bx.new h;clear h;go_enter Tryz.func200,Tryz.ntmps200;go_wp2_with fail;generalize w.alloc (.cells (S6 a0 p0 a1 p1 a2 p2 a3 p3 a4 p4 m) 32)=W at *
 go_loopw [7,8,14] (fun c t i wr=> ∃ j:Nat,j<=fs.length/\i= .int .i64 j/\c= .int .i64 (UX m (k:Int) (fs.take j)).1/\t= .int .i64 (UX m (k:Int) (fs.take j)).2/\Bx w wr w.heap.size a0 p0 a1 p1 a2 p2 a3 p3 a4 p4 m/\Below W.heap.size W wr) (fun _ _ i _=>fs.length-(intOf i).toNat)
 case atStart=>exact ⟨0,ZA _,rfl,rfl,rfl,K,Z1 _ _⟩
 case round=>
  obtain ⟨j,hj,rfl,rfl,rfl,hK,hb⟩:=hrel;clear K;have K:=hK;have HU:=Z9 (RecAt.later (uh H0) hb);have BB:=Z9 hb;clear hb hK;by_cases hlt:j<fs.length
  ·have hlt1:(j:Int)<(fs.length:Int):=by omega
   have HR:=Z9 (DU (m:=m) (who:=(k:Int)) hlt);obtain ⟨g,rfl,hgl,hgw,hcl,_⟩:=RecAt.view YH (by omega) (uh HU) rfl (by omega);have z0:=hcl j hlt 0 _ rfl;simp only [Nat.mul_one,Nat.add_zero] at z0;clear hcl;generalize hx:Z8 fs j=bx at *;clear hx;generalize hcm:UX m (k:Int) (fs.take j)=cm at *;clear hcm;obtain ⟨ch,mo⟩:=cm;unfold Xh at HR;rw [Zz] at HR;simp only at HR ⊢;obtain ⟨cw,hcw⟩:∃ x,Za m (k:Int) bx=x:=⟨_,rfl⟩
   rw [hcw] at HR;have Hcw:=Z9 hcw;clear hcw;obtain ⟨c0,c1,c2,c3,c4,c5⟩:=K.cells;go_wp2_with fail;refine ck (DX (uh Hcw) K.smy (uh HA).sane (uh HA).wants hk (uh HA).hs) fun w1 hb=> ?_;replace K:=K.next hb;replace BB:=bt BB hb;clear hb c0 c1 c2 c3 c4 c5 z0 HU Hcw;by_cases h1:ch= -1
   ·subst h1
    rw [if_pos (.inl rfl)] at HR;go_wp2_with fail;go_roundw
    case rel=>exact ⟨j+1,by omega,by go_num,by rw [uh HR],by rw [uh HR],K,uh BB⟩
    case measure=>exact ms
   have h1b:(ch == -1)=false:=beq_eq_false_iff_ne.mpr h1;by_cases h2:cw<mo
   ·rw [if_pos (.inr (.inl h2))] at HR
    go_wp2_with fail;go_roundw
    case rel=>exact ⟨j+1,by omega,by go_num,by rw [uh HR],by rw [uh HR],K,uh BB⟩
    case measure=>exact ms
   by_cases h3:cw=mo
   ·have h3b:(cw ==mo)=true:=beq_iff_eq.mpr h3
    have hk1:(k:Int)<(m.sm.length:Int):=by omega
    obtain ⟨_,_,hse,_,_,r2⟩:=K.smy.sm;cases hse
    rcases r2 with e0 | ⟨sb,off,rfl,hbw,hcs⟩
    ·rw [e0] at hk;simp at hk
    obtain ⟨d0,d1,d2,d3,d4,d5,d6,d7,d8,d9,d10⟩:=Zw hcs hk;have c2:=K.blk.cell (i:=2) (v:= .slice (some ⟨sb,off,none⟩) m.sm.length p2) rfl;clear hcs d0 d2 d3 d4 d5 d6 d7 d8 d9 d10;generalize (Z8 m.sm k).2.1=own at *;subst h3;clear h3b;by_cases h4:bx=own
    ·have h4b:(bx ==own)=true:=beq_iff_eq.mpr h4
     rw [if_pos (.inr (.inr ⟨rfl,h4⟩))] at HR;subst h4;go_wp2_with fail;go_roundw
     case rel=>exact ⟨j+1,by omega,by go_num,by rw [uh HR],by rw [uh HR],K,uh BB⟩
     case measure=>exact ms
    ·have h4b:(bx ==own)=false:=beq_eq_false_iff_ne.mpr h4
     rw [if_neg (not_or.2 ⟨h1,not_or.2 ⟨h2,fun e=>h4 e.2⟩⟩)] at HR;go_wp2_with fail;go_roundw
     case rel=>exact ⟨j+1,by omega,by go_num,by rw [uh HR],by rw [uh HR],K,uh BB⟩
     case measure=>exact ms
   ·have h3b:(cw ==mo)=false:=beq_eq_false_iff_ne.mpr h3
    rw [if_neg (not_or.2 ⟨h1,not_or.2 ⟨h2,fun e=>h3 e.1⟩⟩)] at HR;go_wp2_with fail;go_roundw
    case rel=>exact ⟨j+1,by omega,by go_num,by rw [uh HR],by rw [uh HR],K,uh BB⟩
    case measure=>exact ms
  ·obtain rfl:j=fs.length:=by omega
   rw [List.take_length];go_wp2_with fail;go_ret;exact ⟨rfl,K.bb⟩
attribute [local go_sem] Jm
theorem Gp {w:World} {v0 v1 v2 v3 v4:Value} {m:Z6} {q:Bool} (hq:WJ m=q) (h:Smy w v0 v1 v2 v3 v4 m) (hS:Sane m) (hT:Wants m):Calls Tryz.prog 197 #[.agg #[v0,v1,v2,v3,v4,.int .i64 m.now]] w fun e w'=>e= .returned (.bool q)/\Below w.heap.size w w':=by
 have Hq2:Hid ((XK m m.dk.length).any (fun x=>VK x.2.1 x.2.2)=q):=Z9 ((BE m).trans hq);clear hq;have hl:=hS.few;have h8:=hS.eight;have hfl:=SH m m.dk.length;have HT:=Z9 hT;clear hT hS;obtain ⟨a0,p0,a1,p1,a2,p2,a3,p3,a4,p4,rfl,rfl,rfl,rfl,rfl,K⟩:=Bx.new h;clear h;go_enter Tryz.func197,Tryz.ntmps197;go_wp2_with fail;generalize w.alloc (.cells (S6 a0 p0 a1 p1 a2 p2 a3 p3 a4 p4 m) 32)=W at *;refine (PW K.smy (uh HT) hl (by omega)).mono ?_;rintro e w2 ⟨v2,rfl,hu,hb⟩;replace K:=K.next hb;clear hb;generalize XK m m.dk.length=us at *;obtain ⟨ua,uc,rfl⟩:=RecAt.shape hu;have H0:=Z9 hu;clear hu;go_wp2_with fail
 go_loopw [8] (fun i wr=> ∃ j:Nat,j<=us.length/\i= .int .i64 j/\(∀ i,i<j->(fun x:Ym=>VK x.2.1 x.2.2) (Z8 us i)=false)/\Bx w wr w.heap.size a0 p0 a1 p1 a2 p2 a3 p3 a4 p4 m/\Below w2.heap.size w2 wr) (fun i _=>us.length-(intOf i).toNat)
 case atStart=>exact ⟨0,ZA _,rfl,fun i hi=>by omega,K,Z1 _ _⟩
 case round=>
  obtain ⟨j,hj,rfl,hno,hK,hb⟩:=hrel;clear K;have K:=hK;have HU:=Z9 (RecAt.later (uh H0) hb);have BB:=Z9 hb;have Hno:=Z9 hno;clear hb hK hno;by_cases hlt:j<us.length
  ·have hlt1:(j:Int)<(us.length:Int):=by omega
   obtain ⟨pq,hpq⟩:∃ q,(fun x:Ym=>VK x.2.1 x.2.2) (Z8 us j)=q:=⟨_,rfl⟩
   have HY:=Z9 (fun hh:pq=true=>yU hlt (p:=(fun x:Ym=>VK x.2.1 x.2.2)) (hpq.trans hh))
   have HX:Hid (pq=false-> ∀ i,i<j+1->(fun x:Ym=>VK x.2.1 x.2.2) (Z8 us i)=false):=Z9 (fun hh i hi=>by
    by_cases e:i=j
    ·rw [e,hpq,hh]
    ·exact uh Hno i (by omega))
   have Hpq:=Z9 hpq;clear hpq;obtain ⟨g,rfl,hgl,hgw,hcl,_⟩:=RecAt.view Wh (by omega) (uh HU) rfl (by omega);have z0:=Sl hcl hlt;clear hcl;generalize hx:Z8 us j=x at *;clear hx;obtain ⟨bx,ux,fx⟩:=x;simp only at z0;go_upto_region 4 with fail;go_wp2_with fail;refine ck (Calls.bool_of (LK _ _ _ _) (uh Hpq)) fun w3 hb=> ?_;replace K:=K.next hb;replace BB:=bt BB hb;clear hb z0;cases pq
   ·go_wp2_with fail
    go_roundw
    case rel=>exact ⟨j+1,by omega,by go_num,uh HX (by trivial),K,uh BB⟩
    case measure=>exact ms
   ·obtain rfl:q=true:=(uh Hq2).symm.trans (uh HY (by trivial))
    go_wp2_with fail;go_ret;exact ⟨rfl,K.bb⟩
  ·obtain rfl:j=us.length:=by omega
   obtain rfl:q=false:=(uh Hq2).symm.trans (xN (uh Hno));go_wp2_with fail;go_ret;exact ⟨rfl,K.bb⟩
attribute [local go_sem] Jn zg
theorem Aa {wn:Int} {us:List Ym} {j:Nat} (hj:j<us.length) (h:WL wn (Z8 us j)=true):((us.take (j+1)).filter (WL wn)).map (·.1)=((us.take j).filter (WL wn)).map (·.1)++[(Z8 us j).1]:=by rw [LC hj h,List.map_append];rfl
theorem Ab {wn:Int} {us:List Ym} {j:Nat} (hj:j<us.length) (h:WL wn (Z8 us j)=false):((us.take (j+1)).filter (WL wn)).map (·.1)=((us.take j).filter (WL wn)).map (·.1):=by rw [JK hj h]
theorem I9 {w:World} {v0 v1 v2 v3 v4:Value} {m:Z6} {k:Nat} {q:List Int} (hq:YN m (k:Int)=q) (h:Smy w v0 v1 v2 v3 v4 m) (A:Asks m k):Calls Tryz.prog 196 #[.agg #[v0,v1,v2,v3,v4,.int .i64 m.now],.int .i64 (k:Int)] w fun e w'=> ∃ v',e= .returned v'/\NumsAt w.heap.size w' v' q/\Below w.heap.size w w':=by
 have hq:((VJ m (k:Int) m.dk.length).filter (WL (Zs m (k:Int)))).map (·.1)=q:=(Jo m (k:Int) m.dk.length).trans hq;have hfl:=A.few;have HA:=Z9 A;have HW9:=Z9 (fun (X:World) (hX:Smy X v0 v1 v2 v3 v4 m)=>IE hX A.wants A.hk A.hs);clear A;obtain ⟨wn,hwn⟩:∃ x,Zs m (k:Int)=x:=⟨_,rfl⟩
 rw [hwn] at hq HW9;have Hq:=Z9 hq;clear hwn hq;have Hs:=Z9 h;obtain ⟨a0,p0,a1,p1,a2,p2,a3,p3,a4,p4,rfl,rfl,rfl,rfl,rfl,K⟩:=Bx.new h;clear h;go_enter Tryz.func196,Tryz.ntmps196;go_wp2_with fail;generalize w.alloc (.cells (S6 a0 p0 a1 p1 a2 p2 a3 p3 a4 p4 m) 32)=W at *;refine ck (uh HW9 _ K.smy) fun w1 hb=> ?_;replace K:=K.next hb;clear hb HW9;obtain ⟨c0,c1,c2,c3,c4,c5⟩:=K.cells;have hsz:=K.blk.lt;go_wp2_with fail;clear c0 c1 c2 c3 c4 c5;have HL:Hid (NumsAt (w.heap.size+1) (w1.alloc (.cells #[] 2)) (.slice (some ⟨w1.heap.size,0,none⟩) 0 0) []):=Z9 (Y8 rfl (by omega));replace K:=K.alloc (.cells #[] 2);generalize w1.alloc (.cells #[] 2)=W1 at *;generalize w1.heap.size=lb at *;refine (Re K.smy (uh HA)).mono ?_;rintro e w2 ⟨v2,rfl,hu,hb⟩;have hsp:∀ i,v2.ownBlock=some i->(Value.slice (some ⟨lb,0,none⟩) 0 0).ownBlock ≠ some i:=fun i e e2=>by have:=(RecAt.lt hu e).1;have:=(RecAt.lt (uh HL) e2).2;omega
 have hu2:Yp W1.heap.size w2 v2 (VJ m (k:Int) m.dk.length):=hu;replace K:=K.next hb;replace HL:=Z9 (RecAt.later (uh HL) hb);clear hb hu;generalize VJ m (k:Int) m.dk.length=us at *;obtain ⟨ua,uc,rfl⟩:=RecAt.shape hu2;have HU:=Z9 hu2;have Hsp:=Z9 hsp;clear hu2 hsp;go_wp2_with fail
 go_loopw [6,17] (fun l i wr=> ∃ j:Nat,j<=us.length/\i= .int .i64 j/\NumsAt (w.heap.size+1) wr l (((us.take j).filter (WL wn)).map (·.1))/\Yp W1.heap.size wr (.slice ua us.length uc) us/\(∀ i,(Value.slice ua us.length uc).ownBlock=some i->l.ownBlock ≠ some i)/\Bx w wr w.heap.size a0 p0 a1 p1 a2 p2 a3 p3 a4 p4 m) (fun _ i _=>us.length-(intOf i).toNat)
 case atStart=>exact ⟨0,ZA _,rfl,uh HL,uh HU,uh Hsp,K⟩
 case round=>
  obtain ⟨j,hj,rfl,hln,hun,hsp,hK⟩:=hrel;clear K HL HU Hsp;have K:=hK;clear hK;obtain ⟨la,lc,rfl⟩:=RecAt.shape hln;have HL:=Z9 hln;have HU:=Z9 hun;have Hsp:=Z9 hsp;have hgl9:(((us.take j).filter (WL wn)).map (·.1)).length<=8:=by have e1:=List.length_filter_le (WL wn) (us.take j);have e2:(us.take j).length<=us.length:=(by simp;omega);simp only [List.length_map];omega
  clear hln hun hsp;by_cases hlt:j<us.length
  ·have hlt1:(j:Int)<(us.length:Int):=by omega
   have HY:=Z9 (fun hh=>Aa (wn:=wn) hlt hh);have HN:=Z9 (fun hh=>Ab (wn:=wn) hlt hh);obtain ⟨tq,htq⟩:∃ q,WL wn (Z8 us j)=q:=⟨_,rfl⟩
   rw [htq] at HY HN;have Htq:=Z9 htq;clear htq;generalize ((us.take j).filter (WL wn)).map (·.1)=ls at *;obtain ⟨g,rfl,hgl,hgw,hcl,_⟩:=RecAt.view Wh (by omega) (uh HU) rfl (by omega);have z0:=Sl hcl hlt;clear hcl;generalize hx:Z8 us j=x at *;clear hx;obtain ⟨bx,ux,fx⟩:=x;simp only at z0;go_upto_region 6 with fail;go_wp2_with fail;refine ck (Calls.bool_of (CD wn bx ux fx _) (uh Htq)) fun w3 hb=> ?_;replace K:=K.next hb;replace HL:=Z9 (RecAt.later (uh HL) hb);replace HU:=Z9 (RecAt.later (uh HU) hb);clear hb z0;cases tq
   ·go_wp2_with fail
    go_roundw
    case rel=>exact ⟨j+1,by omega,by go_num,by rw [uh HN (by trivial)];exact uh HL,uh HU,uh Hsp,K⟩
    case measure=>exact ms
   ·go_wp2_with fail
    refine ck (QY _ _ _ _) fun w4 hb=> ?_;replace K:=K.next hb;replace HL:=Z9 (RecAt.later (uh HL) hb);replace HU:=Z9 (RecAt.later (uh HU) hb);clear hb;have hsx:=K.blk.lt;go_wp2_with (at_builtin;refine ZH tyN rfl (.tmp 24) (.tmp 27) 30 Tryz.underlying30 rfl (w.heap.size+1) _ _ ls [bx] rfl rfl (RecAt.later (uh HL) ((ba _ _))) (Wy bx rfl (Z2 _) (by omega)) (by simp;omega) (by simp;omega) ?_;intro u9 w9 hp9 hg9 hat9;have HP9:=Z9 hp9;have HG9:=Z9 hg9;have HA9:=Z9 hat9;clear hp9 hg9 hat9)
    have hgo:∀ i,(Value.slice la ls.length lc).ownBlock=some i->w.heap.size<=i/\i ≠ w.heap.size:=fun i e=>by have:=(RecAt.lt (uh HL) e).1;omega
    replace K:=(K.alloc _).grown (uh Hs) (uh HG9) hgo;have hul:=fun i e=>(RecAt.lt (uh HU) (i:=i) e).2
    have hsp9:∀ i,(Value.slice (some ⟨g,0,none⟩) us.length uc).ownBlock=some i->u9.ownBlock ≠ some i:=by
     intro i e e2
     rcases uh HA9 with h9 | h9
     ·rw [h9] at e2;exact uh Hsp i e e2
     ·rw [h9] at e2
      have:=hul i e;simp at e2;omega
    replace HU:=Z9 (RecAt.grown (RecAt.later (uh HU) ((ba _ _))) (uh HG9) (uh Hsp));go_wp2_with fail;go_roundw
    case rel=>exact ⟨j+1,by omega,by go_num,by rw [uh HY (by trivial)];exact uh HP9,uh HU,hsp9,K⟩
    case measure=>exact ms
  ·obtain rfl:j=us.length:=by omega
   have e9:((us.take us.length).filter (WL wn)).map (·.1)=q:=by rw [List.take_length];exact uh Hq
   have E9:=Z9 e9;clear e9;go_wp2_with fail;go_ret;exact ⟨_,rfl,by rw [<-uh E9];exact RecAt.mono (uh HL) (Nat.le_succ _),K.bb⟩
theorem FM {w:World} {v0 v1 v2 v3 v4:Value} {m:Z6} {k:Nat} {q:Int} (hq:YQ m (k:Int)=q) (h:Smy w v0 v1 v2 v3 v4 m) (A:Asks m k):Calls Tryz.prog 137 #[.agg #[v0,v1,v2,v3,v4,.int .i64 m.now],.int .i64 (k:Int)] w fun e w'=>e= .returned (.int .i64 q)/\Below w.heap.size w w':=by
 rw [DV] at hq;have Hq:=Z9 hq;clear hq;obtain ⟨fs,hfs⟩:∃ q,YN m (k:Int)=q:=⟨_,rfl⟩
 have Hfs:=Z9 hfs
 have hfl:fs.length<=1000:=by
  rw [<-hfs,show YN m (k:Int)=((VJ m (k:Int) m.dk.length).filter (WL (Zs m (k:Int)))).map (·.1) from (Jo m (k:Int) m.dk.length).symm,List.length_map];have:=List.length_filter_le (WL (Zs m (k:Int))) (VJ m (k:Int) m.dk.length);have:=A.few;omega
 rw [hfs] at Hq;obtain ⟨cr,hcr⟩:∃ q,WJ m=q:=⟨_,rfl⟩
 have Hcr:=Z9 hcr;rw [hcr] at Hq;clear hfs hcr;have hul:=A.few;have HA:=Z9 A;clear A;obtain ⟨a0,p0,a1,p1,a2,p2,a3,p3,a4,p4,rfl,rfl,rfl,rfl,rfl,K⟩:=Bx.new h;clear h;go_enter Tryz.func137,Tryz.ntmps137;go_wp2_with fail;generalize w.alloc (.cells (S6 a0 p0 a1 p1 a2 p2 a3 p3 a4 p4 m) 32)=W at *;refine (I9 (uh Hfs) K.smy (uh HA)).mono ?_;rintro e w1 ⟨v1,rfl,hn,hb⟩;replace K:=K.next hb;clear hb;obtain ⟨na,nc,rfl⟩:=RecAt.shape hn;have HN:=Z9 hn;clear hn;obtain ⟨c0,c1,c2,c3,c4,c5⟩:=K.cells;go_wp2_with fail;refine ck (Gp (uh Hcr) K.smy (uh HA).sane (uh HA).wants) fun w2 hb=> ?_;replace K:=K.next hb;replace HN:=Z9 (RecAt.later (uh HN) hb);clear hb c0 c1 c2 c3 c4 c5 Hcr;obtain ⟨c0,c1,c2,c3,c4,c5⟩:=K.cells;by_cases hcond:(cr || decide (fs.length=0))=true
 ·rw [hcond,if_pos rfl] at Hq
  obtain rfl:=(uh Hq).symm
  have hrun:cr=true\/(cr=false/\fs.length=0):=by
   cases cr
   ·right;exact ⟨rfl,by simpa using hcond⟩
   ·exact .inl rfl
  clear hcond Hq
  rcases hrun with rfl | ⟨rfl,h0⟩
  all_goals
   try (obtain rfl:=List.eq_nil_of_length_eq_zero h0;clear h0)
   go_wp2_with fail;refine (Re K.smy (uh HA)).mono ?_;rintro e w3 ⟨v3,rfl,hu,hb⟩;replace K:=K.next hb;have HU:=Z9 hu;clear hb hu c0 c1 c2 c3 c4 c5;go_wp2_with fail;refine ck (Mz (uh HU) (by omega)) fun w4 hb=> ?_;replace K:=K.next hb;clear hb;go_wp2_with fail;go_ret;exact ⟨rfl,K.bb⟩
 ·obtain rfl:cr=false:=(by cases cr<;>first | rfl | simp at hcond)
  have h0:¬ fs.length=0:=by simpa using hcond
  rw [Bool.false_or,decide_eq_false h0,if_neg (by simp)] at Hq;obtain rfl:=(uh Hq).symm;clear hcond Hq;have h0i:¬ ((fs.length:Int)=0):=by omega
  have h0b:((fs.length:Int) ==0)=false:=beq_eq_false_iff_ne.mpr h0i;clear h0;go_wp2_with fail;refine ck (Ni K.smy (uh HA) (uh HN) hfl) fun w3 hb=> ?_;replace K:=K.next hb;clear hb c0 c1 c2 c3 c4 c5;go_wp2_with fail;go_ret;exact ⟨rfl,K.bb⟩
end Go.Proofs.YtamgfpdahadnfaaGreatDoor
namespace Go.Proofs.YtamgfpdahadnfaaGreatDoor
open Go.ChangeShapes Go.WideShapes Go.ChangeAt Go.RowKit Go.Sort Go.Shelf
set_option linter.unusedVariables false
set_option linter.unusedSimpArgs false
set_option maxRecDepth 100000
theorem Aw {F:Nat->TypeId->Array Value->Prop} {w W:World} {R g n cap:Nat} {v0 v1 v3 v4:Value} {m:Z6} {qs:List (ZZ × Value)} (K:Ny F w W R v0 v1 (.slice (some ⟨g,0,none⟩) n cap) v3 v4 m qs) (hn:n=m.sm.length) {k:Nat} (hk:k<m.sm.length) (b had:Int) :
  Calls Tryz.prog 99 #[.pointer (some ⟨g,k*11,none⟩),.int .i64 b,.int .i64 had] W fun e W'=>e= .returned (.tuple #[])/\Ny F w W' R v0 v1 (.slice (some ⟨g,0,none⟩) n cap) v3 v4 (setS m k (Qk (Z8 m.sm k) b had)) qs:=by
 obtain ⟨⟨st,be,rk,my,gu,lo,hi,hd,ca,ut,wk⟩,hrk⟩:∃ d,Z8 m.sm k=d:=⟨_,rfl⟩
 have hl:∀ x:Z3,k<(setS m k x).sm.length:=fun x=>by unfold setS;simpa using hk
 have hlen:∀ x:Z3,n=(setS m k x).sm.length:=fun x=>by unfold setS;simpa using hn
 have hat:∀ x:Z3,Z8 (setS m k x).sm k=x:=fun x=>by unfold setS;rw [ZJ hk,if_pos rfl]
 obtain ⟨_,hga,_,_,hc,hz⟩:=RecAt.view ZX (by omega) K.full.sm hn (by omega);cases hga;have s0:=hc k hk 0 _ rfl;have f0:=hz (k*11);have K1:=K.putS hn hk (i:=0) (by omega) (.int .i64 2) (2,be,rk,my,gu,lo,hi,hd,ca,ut,wk) (by rw [hrk];rfl);obtain ⟨_,hga,_,_,hc1,hz1⟩:=RecAt.view ZX (by omega) K1.full.sm (hlen _) (by have:=hl (2,be,rk,my,gu,lo,hi,hd,ca,ut,wk);omega);cases hga;have s1:=hc1 k (hl _) 1 _ rfl;have f1:=hz1 (k*11+1);have K2:=K1.putS (hlen _) (hl _) (i:=1) (by omega) (.int .i64 b) (2,b,rk,my,gu,lo,hi,hd,ca,ut,wk) (by rw [hat];rfl);rw [O0] at K2;obtain ⟨_,hga,_,_,hc2,hz2⟩:=RecAt.view ZX (by omega) K2.full.sm (hlen _) (by have:=hl (2,b,rk,my,gu,lo,hi,hd,ca,ut,wk);omega);cases hga;have s7:=hc2 k (hl _) 7 _ rfl;have f7:=hz2 (k*11+7);have K3:=K2.putS (hlen _) (hl _) (i:=7) (by omega) (.int .i64 had) (2,b,rk,my,gu,lo,hi,had,ca,ut,wk) (by rw [hat];rfl);rw [O0] at K3;simp only [Nat.add_zero] at s0 s1 s7 K3;simp only [Nat.add_zero] at f1 f7;have HK:=Z9 K3;have hres:Qk (st,be,rk,my,gu,lo,hi,hd,ca,ut,wk) b had=(2,b,rk,my,gu,lo,hi,had,ca,ut,wk):=rfl;rw [hrk,hres];clear K K1 K2 K3 hc hz hc1 hz1 hc2 hz2 hat hl hlen hres hrk;go_enter Tryz.func99,Tryz.ntmps99;go_wp2_with fail
 go_end0
 exact ⟨rfl,uh HK⟩
theorem zn {F:Nat->TypeId->Array Value->Prop} {w W:World} {R g2 p2:Nat} {v0 v1 v3 v4:Value} {m:Z6} {qs:List (ZZ × Value)} (K:Ny F w W R v0 v1 (.slice (some ⟨g2,0,none⟩) m.sm.length p2) v3 v4 m qs) {k b bn:Nat} (hk:k<m.sm.length) (hb:b<m.dk.length) (hbn:(Z8 m.sm k).2.1=(bn:Int)) (hbl:bn<m.dk.length) :
  Calls Tryz.prog 138 #[.pointer (some ⟨R,0,none⟩),.int .i64 (k:Int),.int .i64 (b:Int)] W fun e W'=>e= .returned (.tuple #[])/\Ny F w W' R v0 v1 (.slice (some ⟨g2,0,none⟩) m.sm.length p2) v3 v4 (setS m k (putW m (Z8 m.sm k) (b:Int))) qs:=by
 have hk1:(k:Int)<(m.sm.length:Int):=by omega
 have hb1:(b:Int)<(m.dk.length:Int):=by omega
 have hbl1:(bn:Int)<(m.dk.length:Int):=by omega
 obtain ⟨a3,p3,rfl⟩:=RecAt.shape K.full.dk;obtain ⟨g3,hga,_,_,hc3,hz3⟩:=RecAt.view Zu (by omega) K.full.dk rfl (by omega);cases hga;obtain ⟨_,hga,_,_,hc2,hz2⟩:=RecAt.view ZX (by omega) K.full.sm rfl (by omega);cases hga;obtain ⟨mk,hmk⟩:∃ x,(Z8 m.dk b).2.2=x:=⟨_,rfl⟩
 obtain ⟨mf,hmf⟩:∃ x,(Z8 m.dk bn).2.2=x:=⟨_,rfl⟩
 obtain ⟨hd,hhd⟩:∃ x,Xq (Z8 m.sm k)=x:=⟨_,rfl⟩
 have d1:=hc3 b hb 2 (.int .i64 mk) (by rw [<-hmk];rfl);have d2:=hc3 bn hbl 2 (.int .i64 mf) (by rw [<-hmf];rfl);have s1:=hc2 k hk 1 (.int .i64 (bn:Int)) (by rw [<-hbn];rfl);have s7:=hc2 k hk 7 (.int .i64 hd) (by rw [<-hhd];rfl)
 have hpw:putW m (Z8 m.sm k) (b:Int)=Qk (Z8 m.sm k) (b:Int) (Zq hd mf mk):=by
  unfold putW Xy;rw [hhd,hbn,Zz,Zz,hmk,hmf]
 obtain ⟨hn,hhn⟩:∃ x,Zq hd mf mk=x:=⟨_,rfl⟩
 rw [hpw,hhn];have Hhn:=Z9 hhn;obtain ⟨_,_,c2,c3,_,_⟩:=K.cells;clear hc2 hz2 hc3 hz3 hmk hmf hhd hpw hhn;go_enter Tryz.func138,Tryz.ntmps138;go_wp2_with fail;have k1:=ZW c3;have k2:=ZW d1;have k3:=ZW d2;have k4:=ZW s1;refine wp_region_quiet_below (by kernel_rfl) (by kernel_rfl) ?_
 repeat (go_big_quiet_step (fail))
 refine wpQuiet_nil ?_;intro _ hw';obtain ⟨⟨dq,osq⟩,hw''⟩:=hw';subst hw'';have hbb:Below W.heap.size W (Go.Sort.grow (Go.redrawn W dq) osq):=Z0 W dq osq;generalize Go.Sort.grow (Go.redrawn W dq) osq=wq at *;replace K:=K.next hbb;replace s7:=(hbb.cell (World.block_lt_of_cell? _ _ s7)).trans s7;clear hbb c2 c3 d1 d2 s1 k1 k2 k3 k4;go_wp2_with fail;refine (Calls.int_of (KG hd mf mk _) (uh Hhn)).mono ?_;rintro e w1 ⟨rfl,hbb⟩;replace K:=K.next hbb;clear hbb s7;go_wp2_with fail;refine (Aw K rfl hk (b:Int) hn).mono ?_;rintro e w2 ⟨rfl,K2⟩;have HK:=Z9 K2;clear K2;go_wp2_with fail
 go_end0
 exact ⟨rfl,uh HK⟩
theorem zI {m:Z6} (h:Loose m) {k:Nat} (hk:k<m.sm.length) (hs:(Z8 m.sm k).1 ≠ 0) {may:Int} (m0:1<=may) (m1:may<=255):Asks (Y3 m k may) k:=by
 have hat:∀ i,Z8 (Y3 m k may).sm i=if i=k then Wk (Z8 m.sm k) may else Z8 m.sm i:=fun i=>ZJ hk i
 have hl:(Y3 m k may).sm.length=m.sm.length:=by unfold Y3 setS;simp
 obtain ⟨sg,sl,sh⟩:=h.sane.guilded;refine ⟨⟨h.sane.hall,h.sane.dk,⟨sg,fun i hi hne=> ?_,fun i hi hne=> ?_⟩,by rw [hl];exact h.sane.few⟩,⟨h.wants.gd,fun i hi hne=> ?_⟩,by rw [hl];exact hk,?_,?_⟩
 ·rw [hl] at hi
  rw [hat] at hne ⊢;by_cases e:i=k
  ·rw [if_pos e];exact sl k hk hs
  ·rw [if_neg e] at hne ⊢;exact sl i hi hne
 ·rw [hl] at hi
  rw [hat] at hne ⊢;by_cases e:i=k
  ·rw [if_pos e];exact sh k hk hs
  ·rw [if_neg e] at hne ⊢;exact sh i hi hne
 ·rw [hl] at hi
  rw [hat] at hne ⊢;by_cases e:i=k
  ·rw [if_pos e];exact h.wants.each k hk hs
  ·rw [if_neg e] at hne ⊢;exact h.wants.each i hi hne
 ·rw [hat,if_pos rfl];exact hs
 ·rw [hat,if_pos rfl];exact ⟨by show 0<=may;omega,m1⟩
theorem zL {m:Z6} (h:Loose m) {k:Nat} (hk:k<m.sm.length) (hs:(Z8 m.sm k).1 ≠ 0):∃ bn:Nat,(Z8 m.sm k).2.1=(bn:Int)/\bn<m.dk.length:=by
 obtain ⟨p,_,hb⟩:=h.limits hk hs;obtain ⟨⟨st,be,rk,my,gu,lo,hi,hd,ca,ut,wk⟩,hrk⟩:∃ d,Z8 m.sm k=d:=⟨_,rfl⟩
 rw [hrk] at p hb ⊢;obtain ⟨_,x1,_⟩:=Zi p;simp only at hb;exact ⟨be.toNat,by show be=_;omega,by omega⟩
theorem zi {may be:Int} (m0:1<=may) (m1:may<=255) (b0:0<=be) (b1:be<=7):Vt may be=WI may be:=by
 unfold Vt;rw [Zn (show (0:Int)<=may by omega) m1,Zn b0 b1];rfl
theorem DK {F:Nat->TypeId->Array Value->Prop} {w W:World} {R:Nat} {v0 v1 v2 v3 v4:Value} {m:Z6} {qs:List (ZZ × Value)} {q:Int->Addr} (K:Ny F w W R v0 v1 v2 v3 v4 m qs) (he:Errs w q) (hm:ZI m=true) (who may:Int):Calls Tryz.prog 72 #[.pointer (some ⟨R,0,none⟩),.int .i64 who,.int .i64 may] W fun e W'=>PChg F w R q (VB m who may) (XU m who may) e W':=by
 obtain ⟨a0,p0,a1,p1,a2,p2,a3,p3,a4,p4,rfl,rfl,rfl,rfl,rfl⟩:=WN K.full;have HE:=Z9 he;have HM:=Z9 hm;clear he hm;obtain ⟨wq,hwq⟩:∃ b,WU m who=b:=⟨_,rfl⟩
 have Hwq:=Z9 hwq;clear hwq;cases wq
 ·have hc0:XU m who may=1:=by unfold XU;rw [uh Hwq];rfl
  go_enter Tryz.func72,Tryz.ntmps72;go_wp2_with fail;refine (Ql K (uh HE) (uh Hwq)).mono ?_;rintro e w1 ⟨rfl,hb,hF⟩;go_wp2_with fail;exact ⟨rfl,PChg.no hb hF hc0 (by omega)⟩
 obtain ⟨k,rfl,hk,hs⟩:=Yl (uh Hwq);have hk1:(k:Int)<(m.sm.length:Int):=by omega
 obtain ⟨g2,hga,_,_,_,_⟩:=RecAt.view ZX (by omega) K.full.sm rfl (by omega);cases hga;go_enter Tryz.func72,Tryz.ntmps72;go_wp2_with fail;refine (RP K (uh HE) (uh Hwq) hk).mono ?_;rintro e w1 ⟨rfl,K1⟩;clear K;have K:=K1;clear K1;obtain ⟨mq,hmq⟩:∃ b,inB may 1 255=b:=⟨_,rfl⟩
 have Hmq:=Z9 hmq;clear hmq;have x1:=((uh HE).below K.bb).c3;go_wp2_with fail;refine ZP (S:=fun w'=>w'.cell? ⟨0,0,none⟩=some (YJ (q 3))) (by kernel_rfl) (Xs _ _) (by kernel_rfl) x1 (fun hHeld=> ?_);simp only [Xt,Xu,YT,YM,Nat.zero_add,Nat.reduceAdd];replace K:=K.next ((Z1 _ _).drew:Below w1.heap.size w1 w1.drew);clear x1;generalize w1.drew=W5 at *;have x1:=((uh HE).below K.bb).c3
 (refine tk 0 rfl (by assumption) ?_;(try simp only [Act.put,sA,sZ,sS]))
 (refine tk 2 rfl (by assumption) ?_;(try simp only [Act.put,sA,sZ,sS]))
 refine wpAnyH_ready (rs:=[1]) (by kernel_rfl) (by simp) ?_;refine AllReadyH.cons rfl (fun K0 hK=> ?_) AllReadyH.nil;go_simp;refine (Calls.bool_of (JS may _) (uh Hmq)).mono ?_;rintro e9 w9 ⟨rfl,hb⟩;replace K:=K.next hb;clear hb;clear x1;have x1:=((uh HE).below K.bb).c3;refine hK.out _ _ x1 (fun hHeld=> ?_);clear hK K0
 (try simp only [Act.put,sA,sZ,sS])
 refine wpAnyH_done (by kernel_rfl) ?_ _;refine ZF rfl rfl ?_;go_simp;clear hHeld;cases mq
 ·have hc0:XU m (k:Int) may=3:=by unfold XU;rw [uh Hwq,uh Hmq];rfl
  refine (Te (q 3) _).mono ?_;rintro e8 w8 ⟨rfl,h8⟩;subst w8;go_wp2_with fail;exact ⟨rfl,PChg.no K.bb K.fb hc0 (by omega)⟩
 refine (Ud _ _).mono ?_;rintro e8 w8 ⟨rfl,h8⟩;subst w8;obtain ⟨m0,m1⟩:=ZO (uh Hmq);have HLo:=Z9 (ZK (uh HM));have HA:=Z9 (zI (uh HLo) hk hs m0 m1);obtain ⟨⟨st,be,rk,my,gu,lo,hi,hd,ca,ut,wk⟩,hrk⟩:∃ d,Z8 m.sm k=d:=⟨_,rfl⟩
 have hpr:=A7 (uh HLo) hk hs;obtain ⟨bn,hbn,hbnl⟩:=zL (uh HLo) hk hs;have h8:=(uh HLo).sane.eight;rw [hrk] at hpr hbn;simp only at hpr hbn;subst hbn;obtain ⟨_,hga,_,_,hc,hz⟩:=RecAt.view ZX (by omega) K.full.sm rfl (by omega);cases hga;have s3:=hc k hk 3 _ rfl;have f3:=hz (k*11+3);have K1:=K.putS rfl hk (i:=3) (by omega) (.int .i64 may) (st,(bn:Int),rk,may,gu,lo,hi,hd,ca,ut,wk) (by rw [hrk];rfl);have hmx:Y3 m k may=setS m k (st,(bn:Int),rk,may,gu,lo,hi,hd,ca,ut,wk):=by unfold Y3;rw [hrk];rfl
 rw [<-hmx] at K1;have hlM:(Y3 m k may).sm.length=m.sm.length:=by unfold Y3 setS;simp
 have hatM:Z8 (Y3 m k may).sm k=(st,(bn:Int),rk,may,gu,lo,hi,hd,ca,ut,wk):=by rw [hmx];unfold setS;rw [ZJ hk,if_pos rfl]
 have HK:=Z9 K1;have Hrk:=Z9 hrk;have HmM:=Z9 (show RF m k may=(!decide (st=1) && !WI may (bn:Int)) by unfold RF;rw [hrk];rw [hpr]);clear K1 hc hz hrk hpr x1;go_upto_region 3 with fail;clear s3 f3 K;have K:=uh HK;clear HK;generalize W5.setCell ⟨g2,k*11+3,none⟩ (.int .i64 may)=W6 at *;obtain ⟨_,hga,_,_,hc,_⟩:=RecAt.view ZX (by omega) K.full.sm hlM.symm (by omega);cases hga;have s0:=hc k (by omega) 0 (.int .i64 st) (by rw [hatM];rfl);have s1:=hc k (by omega) 1 (.int .i64 (bn:Int)) (by rw [hatM];rfl);have s2:=hc k (by omega) 2 (.int .i64 rk) (by rw [hatM];rfl);have s3:=hc k (by omega) 3 (.int .i64 may) (by rw [hatM];rfl);have s4:=hc k (by omega) 4 (.int .i64 gu) (by rw [hatM];rfl);have s5:=hc k (by omega) 5 (.int .i64 lo) (by rw [hatM];rfl);have s6:=hc k (by omega) 6 (.int .i64 hi) (by rw [hatM];rfl);have s7:=hc k (by omega) 7 (.int .i64 hd) (by rw [hatM];rfl);have s8:=hc k (by omega) 8 (.int .i64 ca) (by rw [hatM];rfl);have s9:=hc k (by omega) 9 (.int .i64 ut) (by rw [hatM];rfl);have s10:=hc k (by omega) 10 (.int .i64 wk) (by rw [hatM];rfl);simp only [Nat.add_zero] at s0;have hbn7:(bn:Int)<=7:=by omega
 have hmb:=zi m0 m1 (show (0:Int)<=(bn:Int) by omega) hbn7
 have Hc3:Hid (RF m k may=false->XU m (k:Int) may=0/\VB m (k:Int) may=Y3 m k may):=Z9 (fun e=>by
  unfold XU VB;rw [uh Hwq,uh Hmq,Zz,e]
  exact ⟨rfl,rfl⟩)
 clear hc;go_wp2_with fail;refine (L6 st (bn:Int) rk may gu lo hi hd ca ut wk _).mono ?_;rintro e w6 ⟨rfl,hb⟩;replace K:=K.next hb;clear hb s0 s1 s2 s3 s4 s5 s6 s7 s8 s9 s10;by_cases hst:st=1
 ·have e1:(st ==1)=true:=by rw [hst];rfl
  have e2:=uh Hc3 (by rw [uh HmM,hst];rfl);have HK:=Z9 K;clear K;subst hst;go_wp2_with fail
  go_end0
  exact PChg.yes (uh HK) e2.1 e2.2
 have e1:(st ==1)=false:=by simp [hst]
 obtain ⟨_,hga,_,_,hc,_⟩:=RecAt.view ZX (by omega) K.full.sm hlM.symm (by omega);cases hga;have s1:=hc k (by omega) 1 (.int .i64 (bn:Int)) (by rw [hatM];rfl);clear hc;go_wp2_with fail;refine (Wb may (bn:Int) _).mono ?_;rw [hmb];rintro e w7 ⟨rfl,h7⟩;subst w7;clear s1;obtain ⟨bi,hbi⟩:∃ b,WI may (bn:Int)=b:=⟨_,rfl⟩
 rw [hbi];cases bi;rotate_left
 ·have e2:=uh Hc3 (by rw [uh HmM,hbi];simp)
  have HK:=Z9 K;clear K;go_wp2_with fail
  go_end0
  exact PChg.yes (uh HK) e2.1 e2.2
 have hmg:RF m k may=true:=by rw [uh HmM,hbi];simp [hst]
 have HmG:=Z9 hmg;clear hmg Hc3 hbi;obtain ⟨ch,hch⟩:∃ x,YQ (Y3 m k may) (k:Int)=x:=⟨_,rfl⟩
 have Hch:=Z9 hch;clear hch;obtain ⟨c0,c1,c2,c3,c4,c5⟩:=K.cells;go_wp2_with fail;clear c0 c1 c2 c3 c4 c5;refine (FM (uh Hch) K.full.smy (uh HA)).mono ?_;rintro e w8 ⟨rfl,hb⟩;replace K:=K.next hb;clear hb;have x1:=((uh HE).below K.bb).c2
 rcases VS (Y3 m k may) (k:Int) with ⟨ec,_⟩ | ⟨b,hbl,ec,_⟩
 ·rw [uh Hch] at ec
  subst ec;have hc0:XU m (k:Int) may=2:=by unfold XU;rw [uh Hwq,uh Hmq,Zz,uh HmG,uh Hch];rfl
  go_wp2_with fail;refine (Te (q 2) _).mono ?_;rintro e8 w9 ⟨rfl,h8⟩;subst w9;go_wp2_with fail;exact ⟨rfl,PChg.no K.bb K.fb hc0 (by omega)⟩
 ·rw [uh Hch] at ec
  subst ec;have hcn:¬ (b:Int)= -1:=by omega
  have hc0:XU m (k:Int) may=0:=by unfold XU;rw [uh Hwq,uh Hmq,Zz,uh HmG,uh Hch];simp only [if_true];rw [if_neg hcn]
  have hx0:VB m (k:Int) may=setS (Y3 m k may) k (putW (Y3 m k may) (Z8 (Y3 m k may).sm k) (b:Int)):=by
   unfold VB;rw [Zz,uh HmG,uh Hch,hatM,uh Hrk];rfl
  have hne:((b:Int) != -1)=true:=by simp
  have hbl':b<(Y3 m k may).dk.length:=hbl;have Hc0:=Z9 hc0;have Hx0:=Z9 hx0;clear hc0 hx0;go_wp2_with fail;refine (Ud _ _).mono ?_;rintro e8 w9 ⟨rfl,h8⟩;subst w9;clear x1;go_wp2_with fail;have K2:Ny F w w8 R (.slice a0 m.rm.length p0) (.slice a1 m.gd.length p1) (.slice (some ⟨g2,0,none⟩) (Y3 m k may).sm.length p2) (.slice a3 m.dk.length p3) (.slice a4 m.pc.length p4) (Y3 m k may) qs:=by rw [hlM];exact K
  refine (zn K2 (by omega) hbl' (by rw [hatM]) hbnl).mono ?_;rintro e9 w10 ⟨rfl,K3⟩;have HK:=Z9 K3;clear K3 K K2;go_wp2_with fail
  go_end0
  exact PChg.yes (uh HK) (uh Hc0) (uh Hx0)
open Go.ChangeShapes Go.WideShapes Go.ChangeAt Go.RowKit Go.Sort
theorem U8 {w:World} {v:Value} {rs:List ZZ} (n:Int) (h:IsRooms w v rs) (h1:Yt rs n=true) :
  Calls Tryz.prog 111 #[.agg #[v],.int .i64 n] w fun e w'=>e= .returned (.int .i64 (Vr (ZR rs (Xo rs n)).2))/\Below w.heap.size w w':=by
 have Hv:=Z9 h;obtain ⟨a,cap,rfl,hc,hm⟩:∃ a cap,v= .slice a rs.length cap/\rs.length<=cap/\cap<=9223372036854775807:=by obtain ⟨a,cap,rfl,hc,hm,_⟩:=h;exact ⟨a,cap,rfl,hc,hm⟩
 clear h;have hlt:=Qj h1;have Hh:=Z9 (WY h1).1;have H1:=Z9 h1;have hl3:rs.length<=3:=(Zo (WY h1).1).2.1;clear h1;have hw1:=(uh Hv).alloc (.cells #[.slice a rs.length cap] 26);have Hw1:=Z9 hw1;obtain ⟨b,off,a',cap',rfl,hbw,d1,p1,p4,sp,hbw',d2⟩:=Dx hw1 hlt (uh Hh);obtain ⟨b',off',sp'⟩:=a';simp only at sp hbw' d2;subst sp;clear hw1;have k0:=ZW (w:=w.alloc (.cells #[.slice (some ⟨b,off,none⟩) rs.length cap] 26)) (a:=⟨w.heap.size,0,none⟩) (v:= .slice (some ⟨b,off,none⟩) rs.length cap) (by simp);have k1:=ZW d1;have k2:=ZW d2;clear d1 d2;go_enter Tryz.func111,Tryz.ntmps111;go_wp2_with fail;refine wq ?_
 repeat (go_big_quiet_step (exact ZY (Qc n ((uh Hw1).below (Z0 _ _ _)) (uh H1))))
 refine wpQuiet_nil ?_;intro _ hw';obtain ⟨⟨dq,osq⟩,hw''⟩:=hw';subst hw'';generalize hr1:Xo rs n=r at *;generalize hr2:Vr (ZR rs r).2=fo at *;generalize (ZR rs r).2.length=m at *;have Hr1:=Z9 hr1;have Hr2:=Z9 hr2;clear hr1 hr2;go_wp2_with fail;go_ret;exact ⟨ZC (by rw [uh Hr1,uh Hr2]),((ba _ _)).trans ((Z0 _ _ _).mono (by simp))⟩
end Go.Proofs.YtamgfpdahadnfaaGreatDoor
