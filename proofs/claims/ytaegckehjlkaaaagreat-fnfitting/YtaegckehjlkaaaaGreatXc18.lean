/- Part 18 of what the proof rests on. No condition but those that a theorem names. -/
import Derived.Test.YtaegckehjlkaaaaGreatXc17
import Derived.Laws.CopyRow
set_option maxHeartbeats 8000000
set_option maxRecDepth 100000
namespace Go.Proofs.YtaegckehjlkaaaaGreat
open Go.ChangeShapes Go.WideShapes Go.ChangeAt Go.RowKit Go.Sort Go.Shelf
set_option linter.unusedVariables false
set_option maxRecDepth 100000
attribute [local go_sem] Oper.semAt_some
theorem Re {W X:World} (h:Below W.heap.size W X):KeepsOthers W X:=⟨h.size,fun k o hk _=>(h.block k (Array.getElem?_eq_some_iff.1 hk).1).trans hk⟩
theorem JM {W X:World} (h:Below W.heap.size W X) {B:Nat} {t:TypeId} : KeepsBox B t W X:=fun v hv=>(h.block B hv.lt).trans hv
theorem WW {W X:World} (h:Below W.heap.size W X) {B:Nat} {t:TypeId} {v:Value} (hv:Boxed W B t v):Boxed X B t v:=(h.block B hv.lt).trans hv
def Rnd (w:World) (f:List Int->Int) (a0:Option Addr) (p0:Nat) (a1:Option Addr) (p1:Nat) (a2:Option Addr) (p2:Nat) (a3:Option Addr) (p3:Nat) (a4:Option Addr) (p4:Nat) (m:Z6) (pre:List Int) (W:World):Prop:=Boxed W (w.heap.size+1) 2 (.int .i64 (f pre))/\Bx w W w.heap.size a0 p0 a1 p1 a2 p2 a3 p3 a4 p4 m
theorem GY (w:World) (f:List Int->Int) (a0:Option Addr) (p0:Nat) (a1:Option Addr) (p1:Nat) (a2:Option Addr) (p2:Nat) (a3:Option Addr) (p3:Nat) (a4:Option Addr) (p4:Nat) (m:Z6) (hs:Smy w (.slice a0 m.rooms.length p0) (.slice a1 m.guilds.length p1) (.slice a2 m.smiths.length p2) (.slice a3 m.desks.length p3) (.slice a4 m.paces.length p4) m) {B:Nat} (hB:w.heap.size<=B):OwnFrom B (Rnd w f a0 p0 a1 p1 a2 p2 a3 p3 a4 p4 m):=by
 rintro pre W X row ⟨h1,h2⟩ hg hr
 have h4:=h2.bb.grown hg h2.bb.size (fun k e=>Nat.le_trans hB (hr k e).1)
 refine ⟨h1.kept hg (fun e=> ?_),hs.below h4,(hg.block _ h2.blk.lt (fun e=> ?_)).trans h2.blk,h4⟩
 ·obtain ⟨_,o,ho,hc⟩:=hr _ e.symm
  rw [show W.heap[w.heap.size+1]?=_ from h1] at ho;cases ho;cases hc
 ·obtain ⟨_,o,ho,hc⟩:=hr _ e.symm
  rw [show W.heap[w.heap.size]?=_ from h2.blk] at ho;cases ho;cases hc
theorem Lg {w W W1 W2:World} {f:List Int->Int} {a0 a1 a2 a3 a4:Option Addr} {p0 p1 p2 p3 p4:Nat} {m:Z6} {pre:List Int} {x v nl:Int} {B S:Nat} (hs:Smy w (.slice a0 m.rooms.length p0) (.slice a1 m.guilds.length p1) (.slice a2 m.smiths.length p2) (.slice a3 m.desks.length p3) (.slice a4 m.paces.length p4) m) (hko:KeepsOthers W W1) (hkb:KeepsBox S 2 W W1) (hb:Below W1.heap.size W1 W2) (hv:Boxed W1 (w.heap.size+1) 2 (.int .i64 nl)) (hK:Bx w W1 w.heap.size a0 p0 a1 p1 a2 p2 a3 p3 a4 p4 m) (hS:w.heap.size+1<S) (e:f (pre++[x])=v) :
  KeepsFrom B W (W2.setCell ⟨w.heap.size+1,0,none⟩ (.int .i64 v))/\KeepsBox S 2 W (W2.setCell ⟨w.heap.size+1,0,none⟩ (.int .i64 v))/\Rnd w f a0 p0 a1 p1 a2 p2 a3 p3 a4 p4 m (pre++[x]) (W2.setCell ⟨w.heap.size+1,0,none⟩ (.int .i64 v)):=by
 have hK2:=hK.next hb
 have hbb:Below w.heap.size w (W2.setCell ⟨w.heap.size+1,0,none⟩ (.int .i64 v)):=hK2.bb.setCell (p:=⟨w.heap.size+1,0,none⟩) (Nat.le_succ _) _
 refine ⟨((hko.trans (Re hb)).trans (KeepsOthers.setCell _ _ _)).from _,fun u hu=>(WW hb (hkb u hu)).other (by omega) _,?_,hs.below hbb,hK2.blk.other (a:=⟨w.heap.size+1,0,none⟩) (by show w.heap.size ≠ w.heap.size+1;omega) _,hbb⟩
 rw [e]
 exact (WW hb hv).set _
theorem FM (n:Nat) (hn:3<=n) {w:World} {v0 v1 v2 v3 v4:Value} {m:Z6} {r:Nat} (h:Smy w v0 v1 v2 v3 v4 m) (hS:Sane m) (hW:Wants m) (hr:r<m.rooms.length):CallsIn Fence.wide n Tryz.prog 235 #[.agg #[v0,v1,v2,v3,v4,.int .i64 m.now],.int .i64 (r:Int)] w fun e w'=>e= .returned (.int .i64 (VK m (TF (VM m.rooms (r:Int)))))/\Below w.heap.size w w':=by
 have h1:1<=n:=by omega
 have hmo:Tryz.prog.follows .mixedOrders=true:=by kernel_rfl
 have hl:=hS.few
 have HW:=Z9 hW
 have Hs:=Z9 h
 clear hS hW
 obtain ⟨a0,p0,a1,p1,a2,p2,a3,p3,a4,p4,rfl,rfl,rfl,rfl,rfl,K⟩:=Bx.new h
 clear h
 obtain ⟨st,hst⟩:∃ st,VM m.rooms (r:Int)=st:=⟨_,rfl⟩
 rw [hst]
 have Hst:=Z9 hst
 clear hst
 refine callsIn_of_wp_marks Tryz.func235 rfl trivial ?_ rfl
 simp only [Tryz.ntmps235,List.size_toArray,List.length_cons,List.length_nil,Nat.reduceAdd,Nat.reduceSub,Array.replicate_succ,Array.replicate_zero,List.push_toArray,List.append_toArray,List.nil_append,List.cons_append]
 gi_wp2_with fail
 have bN:=Boxed.new (w.alloc (.cells #[.slice a0 m.rooms.length p0,.slice a1 m.guilds.length p1,.slice a2 m.smiths.length p2,.slice a3 m.desks.length p3,.slice a4 m.paces.length p4,.int .i64 m.now] 32)) 2 (.int .i64 0)
 rw [World.size_alloc] at bN
 replace K:=K.alloc (.cells #[.int .i64 0] 2)
 generalize (w.alloc (.cells #[.slice a0 m.rooms.length p0,.slice a1 m.guilds.length p1,.slice a2 m.smiths.length p2,.slice a3 m.desks.length p3,.slice a4 m.paces.length p4,.int .i64 m.now] 32)).alloc (.cells #[.int .i64 0] 2)=W0 at *
 refine ⟨trivial,?_⟩
 refine (callsIn_wide.2 (TZ (r:Int) K.smy.rooms)).mono ?_
 rw [uh Hst]
 rintro e w1 ⟨rfl,hb⟩
 dsimp only
 replace bN:=WW hb bN
 replace K:=K.next hb
 clear hb Hst
 gi_wp2_with (refine ⟨trivial,?_⟩;gi_at_call 272;refine (TE (n-1) _ _).mono ?_;rintro e w' ⟨rfl,rfl⟩)
 have bS:=Boxed.new w1 2 (.int .i64 st)
 have hsz:=K.bb.size
 refine wpIn_rangeFunc_ownG rfl h1 (gf:=295) (lb:=#[.pointer (some ⟨w1.heap.size,0,none⟩)]) rfl trivial (enters_of Tryz.func295 (by kernel_rfl) rfl)
  (Uv (n-1) (by omega) w1.heap.size st _ bS) (fun h k=>h.trans k) (KeepsBox.putObj (by simp)) (Below.refl _ _) (fun _=>rfl)
  (Rnd w (VK m) a0 p0 a1 p1 a2 p2 a3 p3 a4 p4 m) (fun _ _ _=>False)
  (GY w (VK m) a0 p0 a1 p1 a2 p2 a3 p3 a4 p4 m (uh Hs) (by simp;omega))
  (fun _ _ _ _ _ hs _ _=>hs)
  ⟨bN.alloc _,K.alloc _⟩
  (fun x=>{ tmps:=#[.agg #[.slice a0 m.rooms.length p0,.slice a1 m.guilds.length p1,.slice a2 m.smiths.length p2,.slice a3 m.desks.length p3,.slice a4 m.paces.length p4,.int .i64 m.now],.int .i64 (r:Int),.pointer (some ⟨w.heap.size,0,none⟩),undef,.int .i64 0,.pointer (some ⟨w.heap.size+1,0,none⟩),.int .i64 x,.pointer (some ⟨w.heap.size,0,none⟩),.agg #[.slice a0 m.rooms.length p0],.int .i64 (r:Int),.int .i64 st,.func (.func 295) #[] #[.pointer (some ⟨w1.heap.size,0,none⟩)],.int .i64 x,undef,undef,undef,undef,undef,undef,undef,undef,undef],defers:=[] }) ?assign ?body ?done ?stop
 case assign=>
  intro l x W K hK
  gi_wp2
  exact hK
 case body=>
  rintro l pre x W ⟨hv,hK⟩ hlt
  have hc:=hv.cell
  have hf:=hv.frozen
  obtain ⟨c0,c1,c2,c3,c4,c5⟩:=hK.cells
  obtain ⟨us,hus⟩:∃ q,ZA m x (-1)=q:=⟨_,rfl⟩
  have hub:=Va m x (-1)
  rw [hus] at hub
  have Hus:=Z9 hus
  obtain ⟨q,hq⟩:∃ q,Wi m x=q:=⟨_,rfl⟩
  have HN:=Z9 (OO m pre x)
  have hnb:=Eb m hl pre
  rw [hq,hus] at HN
  clear hus
  generalize VK m pre=nl at *
  gi_wp2_with fail
  refine ⟨trivial,fun _=>(by omega),?_⟩
  refine (CallsIn.inRound l (callsIn_wide.2 (SJ hq hK.smy))).mono ?_
  rintro e W1 ⟨rfl,hb⟩
  dsimp only
  have hko:=Re hb
  have hkb:=JM hb (B:=w1.heap.size) (t:=2)
  replace hv:=WW hb hv
  replace hK:=hK.next hb
  clear hb hc hf c0 c1 c2 c3 c4 c5
  cases q
  ·gi_wp2_with fail
   exact ⟨hko.from _,hkb,by rw [show Rnd w (VK m) a0 p0 a1 p1 a2 p2 a3 p3 a4 p4 m (pre++[x]) W1=(Boxed W1 (w.heap.size+1) 2 (.int .i64 (VK m (pre++[x])))/\Bx w W1 w.heap.size a0 p0 a1 p1 a2 p2 a3 p3 a4 p4 m) from rfl,uh HN];exact ⟨hv,hK⟩⟩
  have hc:=hv.cell
  have hf:=hv.frozen
  obtain ⟨c0,c1,c2,c3,c4,c5⟩:=hK.cells
  gi_wp2_with fail
  gi_region_with_o (refine ⟨trivial,fun _=>(by omega),?_⟩;gi_at_call 58;refine (CallsIn.inRound l (callsIn_wide.2 (R8 (uh Hus) ?_ (uh HW) hl))).mono ?_;exact hK.smy.below (Below.refl _ _).drew;rintro e W2 ⟨rfl,hb2⟩;have Hb2:Hid (Below W1.heap.size W1 W2):=Z9 ⟨hb2.os,hb2.tape,hb2.output,hb2.size,hb2.block⟩;have hv2:=WW (uh Hb2) hv;have hc2:=hv2.cell;have hf2:=hv2.frozen;clear hb2)
  all_goals
   exact Lg (uh Hs) hko hkb (uh Hb2) hv hK bN.lt (by rw [uh HN];simp only [if_true];omega)
 case done=>
  rintro D ys W hD rfl ⟨hv,hK⟩ hDf
  have hc:=hv.cell
  gi_wp2
  refine ⟨by simp,.inl ⟨_,_,rfl,run_takeDeferred hDf,?_⟩⟩
  exact ⟨_,results_tmp rfl _ _ _,rfl,hK.bb.trans (belowK_b (w:=w) (Nat.le_refl _) W D _ _ (by simp at hD;omega) hDf rfl rfl)⟩
 case stop=>
  rintro D c pre W _ _ h _
  exact h.elim
theorem I3 {w:World} {v0 v1 v2 v3 v4:Value} {m:Z6} {r:Nat} (h:Smy w v0 v1 v2 v3 v4 m) (hS:Sane m) (hW:Wants m) (hr:r<m.rooms.length):Calls Tryz.prog 235 #[.agg #[v0,v1,v2,v3,v4,.int .i64 m.now],.int .i64 (r:Int)] w fun e w'=>e= .returned (.int .i64 (VK m (TF (VM m.rooms (r:Int)))))/\Below w.heap.size w w':=callsIn_wide.1 (FM 3 (Nat.le_refl _) h hS hW hr)
theorem Gn (n:Nat) (hn:3<=n) {w:World} {v0 v1 v2 v3 v4:Value} {m:Z6} {r:Nat} (h:Smy w v0 v1 v2 v3 v4 m) (hS:Sane m) (hW:Wants m) (hr:r<m.rooms.length):CallsIn Fence.wide n Tryz.prog 236 #[.agg #[v0,v1,v2,v3,v4,.int .i64 m.now],.int .i64 (r:Int)] w fun e w'=>e= .returned (.int .i64 (Vb m (TF (VM m.rooms (r:Int)))))/\Below w.heap.size w w':=by
 have h1:1<=n:=by omega
 have hmo:Tryz.prog.follows .mixedOrders=true:=by kernel_rfl
 have hl:=hS.few
 have HW:=Z9 hW
 have Hs:=Z9 h
 clear hS hW
 obtain ⟨a0,p0,a1,p1,a2,p2,a3,p3,a4,p4,rfl,rfl,rfl,rfl,rfl,K⟩:=Bx.new h
 clear h
 obtain ⟨st,hst⟩:∃ st,VM m.rooms (r:Int)=st:=⟨_,rfl⟩
 rw [hst]
 have Hst:=Z9 hst
 clear hst
 refine callsIn_of_wp_marks Tryz.func236 rfl trivial ?_ rfl
 simp only [Tryz.ntmps236,List.size_toArray,List.length_cons,List.length_nil,Nat.reduceAdd,Nat.reduceSub,Array.replicate_succ,Array.replicate_zero,List.push_toArray,List.append_toArray,List.nil_append,List.cons_append]
 gi_wp2_with fail
 have bN:=Boxed.new (w.alloc (.cells #[.slice a0 m.rooms.length p0,.slice a1 m.guilds.length p1,.slice a2 m.smiths.length p2,.slice a3 m.desks.length p3,.slice a4 m.paces.length p4,.int .i64 m.now] 32)) 2 (.int .i64 0)
 rw [World.size_alloc] at bN
 replace K:=K.alloc (.cells #[.int .i64 0] 2)
 generalize (w.alloc (.cells #[.slice a0 m.rooms.length p0,.slice a1 m.guilds.length p1,.slice a2 m.smiths.length p2,.slice a3 m.desks.length p3,.slice a4 m.paces.length p4,.int .i64 m.now] 32)).alloc (.cells #[.int .i64 0] 2)=W0 at *
 refine ⟨trivial,?_⟩
 refine (callsIn_wide.2 (TZ (r:Int) K.smy.rooms)).mono ?_
 rw [uh Hst]
 rintro e w1 ⟨rfl,hb⟩
 dsimp only
 replace bN:=WW hb bN
 replace K:=K.next hb
 clear hb Hst
 gi_wp2_with (refine ⟨trivial,?_⟩;gi_at_call 272;refine (TE (n-1) _ _).mono ?_;rintro e w' ⟨rfl,rfl⟩)
 have bS:=Boxed.new w1 2 (.int .i64 st)
 have hsz:=K.bb.size
 refine wpIn_rangeFunc_ownG rfl h1 (gf:=295) (lb:=#[.pointer (some ⟨w1.heap.size,0,none⟩)]) rfl trivial (enters_of Tryz.func295 (by kernel_rfl) rfl)
  (Uv (n-1) (by omega) w1.heap.size st _ bS) (fun h k=>h.trans k) (KeepsBox.putObj (by simp)) (Below.refl _ _) (fun _=>rfl)
  (Rnd w (Vb m) a0 p0 a1 p1 a2 p2 a3 p3 a4 p4 m) (fun _ _ _=>False)
  (GY w (Vb m) a0 p0 a1 p1 a2 p2 a3 p3 a4 p4 m (uh Hs) (by simp;omega))
  (fun _ _ _ _ _ hs _ _=>hs)
  ⟨bN.alloc _,K.alloc _⟩
  (fun x=>{ tmps:=#[.agg #[.slice a0 m.rooms.length p0,.slice a1 m.guilds.length p1,.slice a2 m.smiths.length p2,.slice a3 m.desks.length p3,.slice a4 m.paces.length p4,.int .i64 m.now],.int .i64 (r:Int),.pointer (some ⟨w.heap.size,0,none⟩),undef,.int .i64 0,.pointer (some ⟨w.heap.size+1,0,none⟩),.int .i64 x,.pointer (some ⟨w.heap.size,0,none⟩),.agg #[.slice a0 m.rooms.length p0],.int .i64 (r:Int),.int .i64 st,.func (.func 295) #[] #[.pointer (some ⟨w1.heap.size,0,none⟩)],.int .i64 x,undef,undef,undef,undef,undef,undef],defers:=[] }) ?assign ?body ?done ?stop
 case assign=>
  intro l x W K hK
  gi_wp2
  exact hK
 case body=>
  rintro l pre x W ⟨hv,hK⟩ hlt
  have hc:=hv.cell
  have hf:=hv.frozen
  obtain ⟨c0,c1,c2,c3,c4,c5⟩:=hK.cells
  obtain ⟨us,hus⟩:∃ q,ZA m x (-1)=q:=⟨_,rfl⟩
  have hub:=Va m x (-1)
  rw [hus] at hub
  have Hus:=Z9 hus
  have HN:=Z9 (Pp m pre x)
  have hnb:=EU m hl pre
  rw [hus] at HN
  clear hus
  generalize Vb m pre=nl at *
  obtain ⟨W1,hW1⟩:∃ X,X=W:=⟨_,rfl⟩
  subst hW1
  have hwr:IntKind.i64.wrap (nl+us)=nl+us:=by rw [IntKind.wrap_i64];omega
  gi_wp2_with fail
  gi_region_with_o (refine ⟨trivial,fun _=>(by omega),?_⟩;gi_at_call 58;refine (CallsIn.inRound l (callsIn_wide.2 (R8 (uh Hus) ?_ (uh HW) hl))).mono ?_;exact hK.smy.below (Below.refl _ _).drew;rintro e W2 ⟨rfl,hb2⟩;have Hb2:Hid (Below W1.heap.size W1 W2):=Z9 ⟨hb2.os,hb2.tape,hb2.output,hb2.size,hb2.block⟩;have hv2:=WW (uh Hb2) hv;have hc2:=hv2.cell;have hf2:=hv2.frozen;clear hb2)
  all_goals
   exact Lg (uh Hs) (KeepsOthers.refl _) (fun _ h=>h) (uh Hb2) hv hK bN.lt (by rw [uh HN])
 case done=>
  rintro D ys W hD rfl ⟨hv,hK⟩ hDf
  have hc:=hv.cell
  gi_wp2
  refine ⟨by simp,.inl ⟨_,_,rfl,run_takeDeferred hDf,?_⟩⟩
  exact ⟨_,results_tmp rfl _ _ _,rfl,hK.bb.trans (belowK_b (w:=w) (Nat.le_refl _) W D _ _ (by simp at hD;omega) hDf rfl rfl)⟩
 case stop=>
  rintro D c pre W _ _ h _
  exact h.elim
theorem JF {w:World} {v0 v1 v2 v3 v4:Value} {m:Z6} {r:Nat} (h:Smy w v0 v1 v2 v3 v4 m) (hS:Sane m) (hW:Wants m) (hr:r<m.rooms.length):Calls Tryz.prog 236 #[.agg #[v0,v1,v2,v3,v4,.int .i64 m.now],.int .i64 (r:Int)] w fun e w'=>e= .returned (.int .i64 (Vb m (TF (VM m.rooms (r:Int)))))/\Below w.heap.size w w':=callsIn_wide.1 (Gn 3 (Nat.le_refl _) h hS hW hr)
end Go.Proofs.YtaegckehjlkaaaaGreat
namespace Go.Proofs.YtaegckehjlkaaaaGreat
open Go.ChangeShapes Go.WideShapes Go.ChangeAt Go.RowKit Go.Sort Go.Shelf
set_option linter.unusedVariables false
set_option maxRecDepth 100000
theorem Bx.of {w:World} {a0 a1 a2 a3 a4:Option Addr} {p0 p1 p2 p3 p4:Nat} {m:Z6} (h:Smy w (.slice a0 m.rooms.length p0) (.slice a1 m.guilds.length p1) (.slice a2 m.smiths.length p2) (.slice a3 m.desks.length p3) (.slice a4 m.paces.length p4) m):Bx w (w.alloc (.cells #[.slice a0 m.rooms.length p0,.slice a1 m.guilds.length p1,.slice a2 m.smiths.length p2,.slice a3 m.desks.length p3,.slice a4 m.paces.length p4,.int .i64 m.now] 32)) w.heap.size a0 p0 a1 p1 a2 p2 a3 p3 a4 p4 m:=⟨h.alloc _,Blk.new _ _ _,(Below.refl _ _).alloc (Nat.le_refl _) _⟩
theorem J0 {w:World} {a0 a1 a2 a3 a4:Option Addr} {p0 p1 p2 p3 p4:Nat} {m:Z6} (h:Smy w (.slice a0 m.rooms.length p0) (.slice a1 m.guilds.length p1) (.slice a2 m.smiths.length p2) (.slice a3 m.desks.length p3) (.slice a4 m.paces.length p4) m):Calls Tryz.prog 197 #[.agg #[.slice a0 m.rooms.length p0,.slice a1 m.guilds.length p1,.slice a2 m.smiths.length p2,.slice a3 m.desks.length p3,.slice a4 m.paces.length p4,.int .i64 m.now]] w fun e w'=>e= .returned (.func (Fn.func 233) #[] #[.pointer (some ⟨w.heap.size,0,none⟩)])/\Bx w w' w.heap.size a0 p0 a1 p1 a2 p2 a3 p3 a4 p4 m:=by
 have K:=Bx.of h
 clear h
 go_enter Tryz.func197,Tryz.ntmps197
 go_wp2_with fail
 go_ret
 exact ⟨rfl,K⟩
theorem Is {w0 w:World} {R r:Nat} {a0 a1 a2 a3 a4:Option Addr} {p0 p1 p2 p3 p4:Nat} {m:Z6} (K:Bx w0 w R a0 p0 a1 p1 a2 p2 a3 p3 a4 p4 m) (hS:Sane m) (hW:Wants m) (hr:r<m.rooms.length):Calls Tryz.prog 233 #[.int .i64 (r:Int),.pointer (some ⟨R,0,none⟩)] w fun e w'=>e= .returned (.int .i64 (Ur m r))/\Below w.heap.size w w':=by
 have hr1:(r:Int)<(m.rooms.length:Int):=by omega
 have HM:=Z9 (FZ hS hr)
 have HN:=Z9 (fun (X:World) (hX:Below w.heap.size w X)=>I3 (K.smy.below hX) hS hW hr)
 have HK:=Z9 (fun (X:World) (hX:Below w.heap.size w X)=>JF (K.smy.below hX) hS hW hr)
 clear hS hW
 have Hc:Hid (Ur m r=QC (ZU m.rooms r) (VK m (TF (VM m.rooms (r:Int)))) (Vb m (TF (VM m.rooms (r:Int))))):=Z9 (by rw [(uh HM).1,(uh HM).2];rfl)
 rw [uh Hc]
 clear Hc HM
 obtain ⟨_,_,hre,_,_,r0⟩:=K.smy.rooms
 cases hre
 rcases r0 with e0 | ⟨rb,off,rfl,hbw,hcl⟩
 ·rw [e0] at hr;simp at hr
 obtain ⟨d0,pv,d1,hpv⟩:=hcl r hr
 clear hcl
 generalize VK m (TF (VM m.rooms (r:Int)))=ne at *
 generalize Vb m (TF (VM m.rooms (r:Int)))=wo at *
 obtain ⟨⟨n,ps⟩,hrm⟩:∃ x,ZU m.rooms r=x:=⟨_,rfl⟩
 rw [hrm] at d0 hpv ⊢
 clear hrm
 simp only at d0 hpv
 have Hpv:=Z9 hpv
 obtain ⟨pa,pc,rfl,_,_,_⟩:=hpv
 obtain ⟨c0,c1,c2,c3,c4,c5⟩:=K.cells
 have k0:=cell_regrown c0
 have k1:=cell_regrown c1
 have k2:=cell_regrown c2
 have k3:=cell_regrown c3
 have k4:=cell_regrown c4
 have k5:=cell_regrown c5
 have k6:=cell_regrown d0
 have k7:=cell_regrown d1
 go_enter Tryz.func233,Tryz.ntmps233
 go_wp2_with fail
 refine wp_region_quiet_below (by kernel_rfl) (by kernel_rfl) ?_
 repeat (go_big_quiet_step (first | exact Calls.regrown_of (uh HN _ (below_regrown _ _ _)) | exact Calls.regrown_of (uh HK _ (below_regrown _ _ _)) | exact Calls.regrown_of (Rn _ _ _ ((uh Hpv).below (below_regrown _ _ _)))))
 refine wpQuiet_nil ?_
 intro _ hw'
 obtain ⟨⟨dq,osq⟩,hw''⟩:=hw'
 subst hw''
 go_wp2_with fail
 go_ret
 exact ⟨rfl,below_regrown _ _ _⟩
theorem ME {w0 w:World} {R:Nat} {a0 a1 a2 a3 a4 b0:Option Addr} {p0 p1 p2 p3 p4 q0:Nat} {m:Z6} (K:Bx w0 w R a0 p0 a1 p1 a2 p2 a3 p3 a4 p4 m) (hS:Sane m) (hW:Wants m):Calls Tryz.prog 196 #[.slice b0 m.rooms.length q0,.func (Fn.func 233) #[] #[.pointer (some ⟨R,0,none⟩)]] w fun e w'=>e= .returned (.int .i64 (Ri m))/\Below w.heap.size w w':=by
 have h3:=(Zs hS.hall).2.1
 have Hbd:=Z9 (Qp m)
 have HC:=Z9 (fun (X:World) (hX:Below w.heap.size w X) (k:Nat) (hk:k<m.rooms.length)=>Is (K.next hX) hS hW hk)
 clear hS hW K
 go_enter Tryz.func196,Tryz.ntmps196
 go_wp2_with fail
 go_loopw [5,9] (fun n i wr=> ∃ k:Nat,k<=m.rooms.length/\i= .int .i64 k/\n= .int .i64 (V9 m k)/\Below w.heap.size w wr) (fun _ i _=>m.rooms.length-(intOf i).toNat)
 case atStart=>exact ⟨0,Nat.zero_le _,rfl,rfl,Below.refl _ _⟩
 case round=>
  obtain ⟨k,hk,rfl,rfl,hb0⟩:=hrel
  obtain ⟨u0,u1⟩:=uh Hbd k
  obtain ⟨u2,u3⟩:=uh Hbd (k+1)
  have hst:V9 m (k+1)=V9 m k+Ur m k:=rfl
  rw [hst] at u2 u3
  have Hst:=Z9 hst
  have BB:=Z9 hb0
  clear hb0 hst
  by_cases hlt:k<m.rooms.length
  ·have hlt1:(k:Int)<(m.rooms.length:Int):=by omega
   have HD:=Z9 (uh HC wr (uh BB) k hlt)
   generalize Ur m k=ci at *
   generalize V9 m k=ct at *
   go_wp2_with fail
   refine (uh HD).mono ?_
   rintro e w1 ⟨rfl,hb⟩
   replace BB:=bt BB hb
   clear hb HD
   go_wp2_with fail
   go_roundw
   case rel=>exact ⟨k+1,by omega,by go_num,by rw [uh Hst],uh BB⟩
   case measure=>simp [intOf];omega
  ·obtain rfl:k=m.rooms.length:=by omega
   go_wp2_with fail
   go_ret
   exact ⟨rfl,uh BB⟩
open Go.ChangeShapes Go.WideShapes Go.ChangeAt Go.RowKit Go.Sort
set_option linter.unusedSimpArgs false
set_option maxRecDepth 100000
def UO (rs:List Z3):Z6:=⟨rs,[],[],List.replicate (Z4 rs).toNat (true,-1,0),List.replicate rs.length 0,0⟩
theorem Eo {α:Type} [Inhabited α] {xs ys:List α} (hl:xs.length=ys.length) (h:∀ i,i<xs.length->Z8 xs i=Z8 ys i):xs=ys:=by
 apply List.ext_getElem hl
 intro i h1 h2
 have:=h i h1
 unfold Z8 at this
 rwa [List.getD_eq_getElem?_getD,List.getD_eq_getElem?_getD,List.getElem?_eq_getElem h1,List.getElem?_eq_getElem h2] at this
set_option maxRecDepth 100000
theorem Tb {w:World} {v:Value} {ps:List Z5} (h:V8 w v ps) (hl:ps.length<=1000):Calls Tryz.prog 192 #[v] w fun e w'=> ∃ v',e= .returned v'/\SmithsAt w.heap.size w' v' ps/\Below w.heap.size w w':=by
 have HR:=Z9 (h.below ((Below.refl _ _).alloc (Nat.le_refl _) (.cells #[] 41)))
 obtain ⟨a,cap,rfl,hc,hm,hr⟩:=h
 clear hr
 go_enter Tryz.func192,Tryz.ntmps192
 go_wp2_with (at_builtin;refine ZH tyS rfl (.tmp 3) (.tmp 4) 85 Tryz.underlying85 rfl w.heap.size _ _ [] ps rfl rfl (YZ rfl (Nat.le_refl _)) (uh HR) (by simp;omega) (by simp) ?_;intro u9 w9 hp9 hg9 hat9;rw [List.nil_append] at hp9;have HP9:=Z9 hp9;have HG9:=Z9 hg9;clear hp9 hg9 hat9)
 have hb9:Below w.heap.size w w9:=((Below.refl _ _).alloc (Nat.le_refl _) _).trans ((Below.refl _ _).grown (uh HG9) (by simp) (fun i e=>by cases e;exact Nat.le_refl _))
 go_wp2_with fail
 go_ret
 exact ⟨_,rfl,uh HP9,hb9⟩
theorem Lm {ss:List Z5} {k:Nat} (hk:k<ss.length):ss.set k (Z8 ss k)=ss:=by
 refine Eo (by simp) fun i hi=> ?_
 rw [ZF hk]
 split
 ·rename_i e;rw [e]
 ·rfl
theorem SmithsAt.put {B n c g k i:Nat} {W:World} {ss:List Z5} {x:Z5} (h:SmithsAt B W (.slice (some ⟨g,0,none⟩) n c) (ss.set k x)) (hn:n=ss.length) (hk:k<ss.length) (hi:i<11) (u:Value) (y:Z5) (hy:ZR y=(ZR x).set i u):SmithsAt B (W.setCell ⟨g,k*11+i,none⟩ u) (.slice (some ⟨g,0,none⟩) n c) (ss.set k y):=by
 have h1:=(RecAt.put1 ZT (by omega) h (by simpa using hn) (j:=k) (i:=i) (by simpa using hk) hi u y (by rw [ZF hk,if_pos rfl];exact hy)).1
 rwa [List.set_set] at h1
theorem Smy.other {w W:World} {v0 v1 v2 v3 v4 u:Value} {m:Z6} {B:Nat} {ss:List Z5} (h:Smy w v0 v1 v2 v3 v4 m) (hb:Below w.heap.size w W) (hs:SmithsAt B W u ss):Smy W v0 v1 u v3 v4 { m with smiths:=ss }:=⟨h.rooms.below hb,h.guilds.below hb,hs.list,h.desks.below hb,h.paces.below hb⟩
theorem Below.put6 {n:Nat} {w W:World} {R:Nat} (v0 v1 v2 v3 v4 v5:Value) (h:Below n w W) (hR:n<=R):Below n w ((((((W.setCell ⟨R,0,none⟩ v0).setCell ⟨R,1,none⟩ v1).setCell ⟨R,2,none⟩ v2).setCell ⟨R,3,none⟩ v3).setCell ⟨R,4,none⟩ v4).setCell ⟨R,5,none⟩ v5):=by
 iterate 6 (refine Below.setCell ?_ hR _)
 exact h
theorem RecAt.off6 {α:Type} [Inhabited α] {t k B:Nat} {enc:α->List Value} {W:World} {R:Nat} {v:Value} {xs:List α} (v0 v1 v2 v3 v4 v5:Value) (h:RecAt t k enc B W v xs) (hR:∀ i,v.ownBlock=some i->i ≠ R):RecAt t k enc B ((((((W.setCell ⟨R,0,none⟩ v0).setCell ⟨R,1,none⟩ v1).setCell ⟨R,2,none⟩ v2).setCell ⟨R,3,none⟩ v3).setCell ⟨R,4,none⟩ v4).setCell ⟨R,5,none⟩ v5) v xs:=
 RecAt.same h fun i hi=>by rw [heap_setCell_other _ _ _ _ (hR i hi),heap_setCell_other _ _ _ _ (hR i hi),heap_setCell_other _ _ _ _ (hR i hi),heap_setCell_other _ _ _ _ (hR i hi),heap_setCell_other _ _ _ _ (hR i hi),heap_setCell_other _ _ _ _ (hR i hi)]
set_option maxRecDepth 100000
theorem N0 {w:World} {a0 a1 a2 a3 a4:Option Addr} {p0 p1 p2 p3 p4:Nat} {m:Z6} {k:Nat} (b:Int) (h:Smy w (.slice a0 m.rooms.length p0) (.slice a1 m.guilds.length p1) (.slice a2 m.smiths.length p2) (.slice a3 m.desks.length p3) (.slice a4 m.paces.length p4) m) (hl:m.smiths.length<=1000) (hk:k<m.smiths.length):Calls Tryz.prog 198 #[.agg #[.slice a0 m.rooms.length p0,.slice a1 m.guilds.length p1,.slice a2 m.smiths.length p2,.slice a3 m.desks.length p3,.slice a4 m.paces.length p4,.int .i64 m.now],.int .i64 (k:Int),.int .i64 b] w fun e w'=> ∃ g gc,e= .returned (.agg #[.slice a0 m.rooms.length p0,.slice a1 m.guilds.length p1,.slice (some ⟨g,0,none⟩) m.smiths.length gc,.slice a3 m.desks.length p3,.slice a4 m.paces.length p4,.int .i64 m.now])/\Smy w' (.slice a0 m.rooms.length p0) (.slice a1 m.guilds.length p1) (.slice (some ⟨g,0,none⟩) m.smiths.length gc) (.slice a3 m.desks.length p3) (.slice a4 m.paces.length p4) (Xi m (k:Int) b)/\Below w.heap.size w w':=by
 have Hv0:=Z9 h
 have hk1:(k:Int)<(m.smiths.length:Int):=by omega
 clear h
 go_enter Tryz.func198,Tryz.ntmps198
 go_upto_region 1 with fail
 obtain ⟨W,hW,kb,kr,BB⟩:=Yw w 32 (S6 a0 p0 a1 p1 a2 p2 a3 p3 a4 p4 m) 32 E6
 have Hv:=Z9 ((uh Hv0).below (uh BB))
 rw [hW]
 clear hW
 obtain ⟨c0,c1,c2,c3,c4,c5⟩:=(uh kb).c6
 go_wp2_with fail
 refine (WS _ _ _ _ _ _ _ _ _ _ _ _ _ _ _ _ _).mono ?_
 rintro e w1 ⟨rfl,hb⟩
 replace kb:=bl kb hb
 replace kr:=bl kr hb
 replace Hv:=Z9 ((uh Hv).below hb)
 replace BB:=bt BB hb
 clear hb c0 c1 c2 c3 c4 c5
 go_wp2_with fail
 refine (Tb (uh Hv).smiths hl).mono ?_
 rintro e w2 ⟨v2,rfl,hs,hb⟩
 have hlb:=(uh kb).lt
 have hlr:=(uh kr).lt
 have hlo:=(uh BB).size
 replace kb:=bl kb hb
 replace kr:=bl kr hb
 replace BB:=bt BB hb
 clear hb Hv
 obtain ⟨ga,gc,rfl⟩:=RecAt.shape hs
 obtain ⟨g,rfl,hg1,hg2,hcl,hfr⟩:=RecAt.view ZT (by omega) hs rfl (by omega)
 have hgb:g ≠ w.heap.size:=by omega
 have hgr:g ≠ w.heap.size+1:=by omega
 have hbg:w.heap.size ≠ g:=by omega
 have hrg:w.heap.size+1 ≠ g:=by omega
 have hwg:w.heap.size<=g:=by omega
 have HS:Hid (SmithsAt (w.heap.size+1) w2 (.slice (some ⟨g,0,none⟩) m.smiths.length gc) (m.smiths.set k (Z8 m.smiths k))):=Z9 (by rw [Lm hk];exact RecAt.mono hs (by omega))
 have s0:=hcl k hk 0 _ rfl
 have s1:=hcl k hk 1 _ rfl
 have f0:=hfr (k*11)
 have f1:=hfr (k*11+1)
 simp only [Nat.add_zero] at s0
 clear hcl hfr hs hg1
 obtain ⟨c0,c1,c2,c3,c4,c5⟩:=(uh kb).c6
 obtain ⟨q0,q1,q2,q3,q4,q5⟩:=(uh kb).f6
 obtain ⟨o0,o1,o2,o3,o4,o5⟩:=(uh kr).c6
 obtain ⟨t0,t1,t2,t3,t4,t5⟩:=(uh kr).f6
 go_wp2_with fail
 refine bodyPost_ret (v:= .agg #[.slice a0 m.rooms.length p0,.slice a1 m.guilds.length p1,.slice (some ⟨g,0,none⟩) m.smiths.length gc,.slice a3 m.desks.length p3,.slice a4 m.paces.length p4,.int .i64 m.now]) (by simp [results,Tryz.results198,go_sem, *]) rfl ⟨g,gc,rfl,?_,?_⟩
 ·have h1:SmithsAt (w.heap.size+1) (w2.setCell ⟨w.heap.size,2,none⟩ (.slice (some ⟨g,0,none⟩) m.smiths.length gc)) (.slice (some ⟨g,0,none⟩) m.smiths.length gc) (m.smiths.set k (Z8 m.smiths k)):=RecAt.same (uh HS) (fun i e=>by cases e;exact heap_setCell_other _ _ _ _ hgb)
  have h2:=h1.put rfl hk (i:=0) (by omega) (.int .i64 2) (2,(Z8 m.smiths k).2) rfl
  have h3:=h2.put rfl hk (i:=1) (by omega) (.int .i64 b) (2,b,(Z8 m.smiths k).2.2) rfl
  exact (uh Hv0).other (Below.put6 _ _ _ _ _ _ ((((uh BB).setCell (Nat.le_refl _) _).setCell (by show w.heap.size<=g;omega) _).setCell (by show w.heap.size<=g;omega) _) (Nat.le_succ _)) (RecAt.off6 (.slice a0 m.rooms.length p0) (.slice a1 m.guilds.length p1) (.slice (some ⟨g,0,none⟩) m.smiths.length gc) (.slice a3 m.desks.length p3) (.slice a4 m.paces.length p4) (.int .i64 m.now) h3 (fun i e=>by cases e;exact hgr))
 ·exact Below.put6 _ _ _ _ _ _ ((((uh BB).setCell (Nat.le_refl _) _).setCell (by show w.heap.size<=g;omega) _).setCell (by show w.heap.size<=g;omega) _) (Nat.le_succ _)
theorem Pk {m:Z6} {who q:Int} (h:YV m who=q):q= -1\/(0<=q/\ZS m=true/\Yg m who=true):=by
 subst h
 unfold YV
 by_cases hh:(ZS m && Yg m who)=true
 ·right
  rw [if_pos hh]
  simp only [Bool.and_eq_true] at hh
  exact ⟨(Wr m who).1,hh.1,hh.2⟩
 ·left;rw [if_neg hh]
theorem Gl {m:Z6} {who b:Int} (h:YV m who= -1):Zi m who b= -1:=by
 unfold Zi
 unfold YV at h
 have hb:=(Wr m who).1
 cases h1:ZS m
 ·rfl
 ·cases h2:Yg m who
  ·rfl
  ·have h9:ZI m who= -1:=by simpa [h1,h2] using h
   omega
theorem Qx {w:World} {v0 v1 v2 v3 v4:Value} {m:Z6} {who b q:Int} (hq:Zi m who b=q) (h:Smy w v0 v1 v2 v3 v4 m):Calls Tryz.prog 143 #[.agg #[v0,v1,v2,v3,v4,.int .i64 m.now],.int .i64 who,.int .i64 b] w fun e w'=>e= .returned (.int .i64 q)/\Below w.heap.size w w':=by
 have Hq:=Z9 hq
 clear hq
 obtain ⟨wn,hwn⟩:∃ x,YV m who=x:=⟨_,rfl⟩
 have Hwn:=Z9 hwn
 clear hwn
 obtain ⟨a0,p0,a1,p1,a2,p2,a3,p3,a4,p4,rfl,rfl,rfl,rfl,rfl,K⟩:=Bx.new h
 clear h
 go_enter Tryz.func143,Tryz.ntmps143
 go_wp2_with fail
 generalize w.alloc (.cells #[.slice a0 m.rooms.length p0,.slice a1 m.guilds.length p1,.slice a2 m.smiths.length p2,.slice a3 m.desks.length p3,.slice a4 m.paces.length p4,.int .i64 m.now] 32)=W at *
 refine (UR (uh Hwn) K.smy).mono ?_
 rintro e w1 ⟨rfl,hb⟩
 replace K:=K.next hb
 clear hb
 rcases Pk (uh Hwn) with rfl | ⟨hw0,hok,hwh⟩
 ·obtain rfl:q= -1:=(uh Hq).symm.trans (Gl (uh Hwn))
  go_wp2_with fail
  go_ret
  exact ⟨rfl,K.bb⟩
 have hwb:(wn == -1)=false:=beq_eq_false_iff_ne.mpr (by omega)
 have hwd:¬ wn= -1:=by omega
 obtain ⟨op,hop⟩:∃ x,Wi m b=x:=⟨_,rfl⟩
 have Hop:=Z9 hop
 clear hop
 obtain ⟨c0,c1,c2,c3,c4,c5⟩:=K.cells
 go_wp2_with fail
 refine (SJ (uh Hop) K.smy).mono ?_
 rintro e w2 ⟨rfl,hb⟩
 replace K:=K.next hb
 clear hb c0 c1 c2 c3 c4 c5
 cases op
 ·obtain rfl:q= -1:=by rw [<-uh Hq];unfold Zi;rw [uh Hop];simp
  go_wp2_with fail
  go_ret
  exact ⟨rfl,K.bb⟩
 obtain ⟨k,rfl,hk,hs⟩:=Yz hwh
 have hq2:Ri (Xi m (k:Int) b)=q:=by rw [<-uh Hq];unfold Zi;rw [hok,hwh,uh Hop];rfl
 have HL:=Z9 (ZZ hok)
 have HS:=Z9 ((uh HL).sane.with hk hs b)
 have HT:=Z9 ((uh HL).wants.with hk hs b)
 have hl:=RC hok
 have HR:Hid (∀ {X:World} {R:Nat} {c0:Option Addr} {g gc r0:Nat} {W:World},Bx X W R a0 p0 a1 p1 (some ⟨g,0,none⟩) gc a3 p3 a4 p4 (Xi m (k:Int) b)->Calls Tryz.prog 196 #[.slice c0 m.rooms.length r0,.func (Fn.func 233) #[] #[.pointer (some ⟨R,0,none⟩)]] W fun e w'=>e= .returned (.int .i64 q)/\Below W.heap.size W w'):=Z9 (fun hK=>by rw [<-hq2];exact ME hK (uh HS) (uh HT))
 have HC:Hid (∀ (g gc:Nat) (W:World),Smy W (.slice a0 m.rooms.length p0) (.slice a1 m.guilds.length p1) (.slice (some ⟨g,0,none⟩) m.smiths.length gc) (.slice a3 m.desks.length p3) (.slice a4 m.paces.length p4) (Xi m (k:Int) b)->Calls Tryz.prog 197 #[.agg #[.slice a0 m.rooms.length p0,.slice a1 m.guilds.length p1,.slice (some ⟨g,0,none⟩) m.smiths.length gc,.slice a3 m.desks.length p3,.slice a4 m.paces.length p4,.int .i64 m.now]] W fun e w'=>e= .returned (.func (Fn.func 233) #[] #[.pointer (some ⟨W.heap.size,0,none⟩)])/\Bx W w' W.heap.size a0 p0 a1 p1 (some ⟨g,0,none⟩) gc a3 p3 a4 p4 (Xi m (k:Int) b)):=Z9 (fun g gc W hs=>by
  have hwl:(Xi m (k:Int) b).smiths.length=m.smiths.length:=by unfold Xi;simp
  have h9:=J0 (w:=W) (m:=Xi m (k:Int) b) (a0:=a0) (a1:=a1) (a2:=some ⟨g,0,none⟩) (a3:=a3) (a4:=a4) (p0:=p0) (p1:=p1) (p2:=gc) (p3:=p3) (p4:=p4) (by rw [hwl];exact hs)
  rw [hwl] at h9
  exact h9)
 clear hwh Hq Hwn hok hwb hwd hw0 HS HT hq2
 have KD:=K.drew
 obtain ⟨c0,c1,c2,c3,c4,c5⟩:=K.cells
 go_wp2_with fail
 go_region_with (first
  | (go_at_call 198;refine (N0 b KD.smy (by omega) hk).mono ?_;rintro e w3 ⟨g,gc,rfl,hsm,hb3⟩;have K3:=KD.next hb3;have z0:=K3.blk.cell (i:=0) (v:= .slice a0 m.rooms.length p0) rfl;have HS3:=Z9 hsm;clear hsm hb3)
  | (go_at_call 197;refine (uh HC _ _ _ (uh HS3)).mono ?_;rintro e w4 ⟨rfl,KX⟩;have K4:=K3.next KX.bb;have y0:=K4.blk.cell (i:=0) (v:= .slice a0 m.rooms.length p0) rfl)
  | (go_at_call 196;refine (uh HR KX).mono ?_;rintro e w5 ⟨rfl,hb5⟩;have K5:=K4.next hb5;clear hb5))
 all_goals
  go_wp2_with fail
  go_ret
  exact ⟨rfl,K5.bb⟩
end Go.Proofs.YtaegckehjlkaaaaGreat
