/- Part 2 of what the proof rests on besides. No condition but those that a theorem names. -/
import Derived.Test.YtnponpamjddpjaaGreatXo01
set_option maxHeartbeats 8000000
set_option maxRecDepth 100000
namespace Go.Proofs.YtnponpamjddpjaaGreat
open Go.ChangeShapes Go.WideShapes Go.ChangeAt Go.RowKit Go.Sort
set_option linter.unusedVariables false
theorem Dt (f c need:Int) (w:World) (f0:1<=f) (f1:f<=1024) (n0:0<=need) (n1:need<=1000000) :
  Calls Tryz.prog 280 #[.int .i64 f,.int .i64 need] w fun e w'=>e= .returned (.bool (Tg need (f,c)))/\Below w.heap.size w w':=
 (DP f need w (by omega) (by omega) n0 (by omega)).mono fun _ _ ⟨he,hw⟩=>⟨he,hw ▸ Below.refl _ _⟩
theorem DL {w:World} {v:Value} {ps:List Z6} (b need:Int) (h:IsPaces w v ps) (hr:Zq (b,ps)=true) (hn:inB need 0 1000000=true) :
  Calls Tryz.prog 246 #[v,.int .i64 need] w fun e w'=>e= .returned (.int .i64 (Sp need ps))/\Below w.heap.size w w':=by
 obtain ⟨a,cap,rfl,hc,hm,hrow⟩:=h
 have hbd:=Ny hr
 simp only at hbd
 obtain ⟨_,_,hl1,hl4⟩:=hbd
 obtain ⟨n0,n1⟩:=ZS hn
 rcases hrow with h0 | ⟨bk,off,rfl,hbw,hcl⟩
 ·rw [h0] at hl1;simp at hl1
 have Hcl:=Z9 hcl
 have Hr:=Z9 hr
 clear hcl hr hn
 go_enter Tryz.func246,Tryz.ntmps246
 go_wp2_with fail
 go_step3
 go_wp2_with fail
 go_step3
 go_wp2_with fail
 go_loopw [5] (fun i wr=> ∃ k:Nat,k+1<=ps.length/\i= .int .i64 k/\(∀ j,j<k->Tg need (Z7 ps j)=false)/\Below w.heap.size w wr) (fun i _=>ps.length-(intOf i).toNat)
 case atStart=>exact ⟨0,by omega,rfl,fun j hj=>by omega,Below.refl _ _⟩
 case round=>
  obtain ⟨k,hk,rfl,hlo,hb⟩:=hrel
  have Hlo:=Z9 hlo
  have Hb:=Z9 hb
  clear hlo
  by_cases hlast:k+1=ps.length
  ·clear hb
   have he:(k:Int)=(ps.length:Int)-1:=by omega
   have Hp:=Z9 (PL need ps k hk (uh Hlo) (.inl hlast))
   go_wp2_with fail
   (try rw [Exit.noGoto_ret])
   go_ret
   exact ⟨Zv (by rw [uh Hp]),uh Hb⟩
  ·have hne:¬ (k:Int)=(ps.length:Int)-1:=by omega
   obtain ⟨c0,c1⟩:=uh Hcl k (by omega)
   rw [<-hb.cell (p:=⟨bk,off+k*2,none⟩) hbw] at c0
   rw [<-hb.cell (p:=⟨bk,off+k*2+1,none⟩) hbw] at c1
   have hpb:=Ok (uh Hr) (k:=k) (show k<ps.length by omega)
   simp only at hpb
   generalize hp:Z7 ps k=p at c0 c1 hpb
   have Hp:=Z9 hp
   clear hp hb
   obtain ⟨f,c⟩:=p
   simp only at c0 c1 hpb
   obtain ⟨f0,f1,_,_⟩:=hpb
   go_wp2_with fail
   refine (Dt f c need _ f0 f1 n0 n1).mono ?_
   rintro e w1 ⟨rfl,hb1⟩
   have Hb1:=Z9 hb1
   clear hb1
   cases hen:Tg need (f,c)
   ·go_wp2_with fail
    go_roundw
    case rel=>exact ⟨k+1,by omega,by go_num,Yn (uh Hlo) (by rw [uh Hp];exact hen),(uh Hb).trans ((uh Hb1).mono (uh Hb).size)⟩
    case measure=>simp [intOf];omega
   ·have Hq:=Z9 (PL need ps k hk (uh Hlo) (.inr (by rw [uh Hp];exact hen)))
    go_wp2_with fail
    (try rw [Exit.noGoto_ret])
    go_ret
    exact ⟨Zv (by rw [uh Hq]),(uh Hb).trans ((uh Hb1).mono (uh Hb).size)⟩
theorem Ep {w:World} {v:Value} {ps:List Z6} (b need:Int) (h:IsPaces w v ps) :
  Calls Tryz.prog 211 #[.agg #[.int .i64 b,v],.int .i64 need] w fun e w'=>e= .returned (.int .i64 (XM (b,ps) need))/\Below w.heap.size w w':=by
 have Hv:=Z9 h
 obtain ⟨a,cap,rfl,hc,hm,hrow⟩:=h
 clear hrow
 cases hr:Zq (b,ps)
 ·rw [Mh hr]
  go_enter Tryz.func211,Tryz.ntmps211
  go_wp2_with fail
  refine (TF b ((uh Hv).below ((Below.refl _ _).alloc (Nat.le_refl _) _))).mono ?_
  rintro e w1 ⟨rfl,hb⟩
  have B1:Hid (Below w.heap.size w w1):=Z9 (((Below.refl _ _).alloc (Nat.le_refl _) _).trans (hb.mono (by simp)))
  clear hb
  go_wp2_with fail
  go_ret
  exact ⟨rfl,uh B1⟩
 cases hn:inB need 0 1000000
 ·rw [Mi hn]
  go_enter Tryz.func211,Tryz.ntmps211
  go_wp2_with fail
  refine (TF b ((uh Hv).below ((Below.refl _ _).alloc (Nat.le_refl _) _))).mono ?_
  rintro e w1 ⟨rfl,hb⟩
  have B1:Hid (Below w.heap.size w w1):=Z9 (((Below.refl _ _).alloc (Nat.le_refl _) _).trans (hb.mono (by simp)))
  clear hb
  go_wp2_with (go_at_call 201;refine (ZX _ _ _ _).mono ?_;rintro e w' ⟨rfl,rfl⟩)
  go_ret
  exact ⟨rfl,uh B1⟩
 ·rw [Kj hr hn]
  have Hr:=Z9 hr
  go_enter Tryz.func211,Tryz.ntmps211
  go_wp2_with fail
  refine (TF b ((uh Hv).below ((Below.refl _ _).alloc (Nat.le_refl _) _))).mono ?_
  rintro e w1 ⟨rfl,hb⟩
  have x1:w1.cell? ⟨w.heap.size,1,none⟩=some (.slice a ps.length cap):=(hb.cell (p:=⟨w.heap.size,1,none⟩) (by simp)).trans (by simp)
  have B1:Hid (Below w.heap.size w w1):=Z9 (((Below.refl _ _).alloc (Nat.le_refl _) _).trans (hb.mono (by simp)))
  clear hb
  go_wp2_with (go_at_call 201;refine (ZX _ _ _ _).mono ?_;rintro e w' ⟨rfl,rfl⟩)
  refine (DL b need ((uh Hv).below (uh B1)) (uh Hr) hn).mono ?_
  rintro e w2 ⟨rfl,hb2⟩
  have Hb2:=Z9 hb2
  clear hb2
  go_wp2_with fail
  go_ret
  exact ⟨rfl,(uh B1).trans ((uh Hb2).mono (uh B1).size)⟩
theorem Eo {w:World} {v:Value} {ps:List Z6} (b pace work:Int) (h:IsPaces w v ps) :
  Calls Tryz.prog 210 #[.agg #[.int .i64 b,v],.int .i64 pace,.int .i64 work] w fun e w'=>e= .returned (.int .i64 (XK (b,ps) pace work))/\Below w.heap.size w w':=by
 have Hv:=Z9 h
 obtain ⟨a,cap,rfl,hc,hm,hrow⟩:=h
 clear hrow
 have hl:(ps.length:Int)<=9223372036854775807:=by omega
 cases hr:Zq (b,ps)
 ·rw [QX hr]
  go_enter Tryz.func210,Tryz.ntmps210
  go_wp2_with fail
  refine (TF b ((uh Hv).below ((Below.refl _ _).alloc (Nat.le_refl _) _))).mono ?_
  rintro e w1 ⟨rfl,hb⟩
  have B1:Hid (Below w.heap.size w w1):=Z9 (((Below.refl _ _).alloc (Nat.le_refl _) _).trans (hb.mono (by simp)))
  clear hb
  go_wp2_with fail
  go_ret
  exact ⟨rfl,uh B1⟩
 by_cases hp0:pace<0
 ·rw [QZ (Vd (by omega))]
  go_enter Tryz.func210,Tryz.ntmps210
  go_wp2_with fail
  refine (TF b ((uh Hv).below ((Below.refl _ _).alloc (Nat.le_refl _) _))).mono ?_
  rintro e w1 ⟨rfl,hb⟩
  have B1:Hid (Below w.heap.size w w1):=Z9 (((Below.refl _ _).alloc (Nat.le_refl _) _).trans (hb.mono (by simp)))
  clear hb
  go_wp2_with fail
  go_ret
  exact ⟨rfl,uh B1⟩
 by_cases hp1:(ps.length:Int)<=pace
 ·rw [QZ (Vd (by simp only;omega))]
  go_enter Tryz.func210,Tryz.ntmps210
  go_wp2_with fail
  refine (TF b ((uh Hv).below ((Below.refl _ _).alloc (Nat.le_refl _) _))).mono ?_
  rintro e w1 ⟨rfl,hb⟩
  have x1:w1.cell? ⟨w.heap.size,1,none⟩=some (.slice a ps.length cap):=(hb.cell (p:=⟨w.heap.size,1,none⟩) (by simp)).trans (by simp)
  have B1:Hid (Below w.heap.size w w1):=Z9 (((Below.refl _ _).alloc (Nat.le_refl _) _).trans (hb.mono (by simp)))
  clear hb
  go_wp2_with fail
  go_ret
  exact ⟨rfl,uh B1⟩
 cases hn:inB work 0 1000000
 ·rw [QY hn]
  go_enter Tryz.func210,Tryz.ntmps210
  go_wp2_with fail
  refine (TF b ((uh Hv).below ((Below.refl _ _).alloc (Nat.le_refl _) _))).mono ?_
  rintro e w1 ⟨rfl,hb⟩
  have x1:w1.cell? ⟨w.heap.size,1,none⟩=some (.slice a ps.length cap):=(hb.cell (p:=⟨w.heap.size,1,none⟩) (by simp)).trans (by simp)
  have B1:Hid (Below w.heap.size w w1):=Z9 (((Below.refl _ _).alloc (Nat.le_refl _) _).trans (hb.mono (by simp)))
  clear hb
  go_wp2_with (go_at_call 201;refine (ZX _ _ _ _).mono ?_;rintro e w' ⟨rfl,rfl⟩)
  go_ret
  exact ⟨rfl,uh B1⟩
 rw [Pb hr hn (Zj (by omega) (by simp only;omega))]
 obtain ⟨k,rfl⟩:=Int.eq_ofNat_of_zero_le (show 0<=pace by omega)
 have hk:k<ps.length:=by omega
 rw [Int.toNat_natCast]
 simp only
 generalize hpk:Z7 ps k=p
 have Hpk:=Z9 hpk
 clear hpk
 obtain ⟨f,c⟩:=p
 simp only
 have Hn:=Z9 hn
 go_enter Tryz.func210,Tryz.ntmps210
 go_wp2_with fail
 refine (TF b ((uh Hv).below ((Below.refl _ _).alloc (Nat.le_refl _) _))).mono ?_
 rintro e w1 ⟨rfl,hb⟩
 have x1:w1.cell? ⟨w.heap.size,1,none⟩=some (.slice a ps.length cap):=(hb.cell (p:=⟨w.heap.size,1,none⟩) (by simp)).trans (by simp)
 have B1:Hid (Below w.heap.size w w1):=Z9 (((Below.refl _ _).alloc (Nat.le_refl _) _).trans (hb.mono (by simp)))
 have hz1:w.heap.size+1<=w1.heap.size:=by have:=hb.size;simpa using this
 clear hb
 have hv1:=(uh Hv).below (uh B1)
 obtain ⟨a',cap',he,_,_,hrow⟩:=hv1
 cases he
 rcases hrow with h0 | ⟨bk,off,rfl,hbw,hcl⟩
 ·rw [h0] at hk;simp at hk
 obtain ⟨c0,c1⟩:=hcl k hk
 clear hcl
 rw [uh Hpk] at c0 c1
 simp only at c0 c1
 go_wp2_with (go_at_call 201;refine (ZX _ _ _ _).mono ?_;rintro e w' ⟨rfl,rfl⟩)
 refine (Eb c work f _).mono ?_
 rintro e w2 ⟨rfl,hb2⟩
 have Hb2:=Z9 hb2
 clear hb2
 go_wp2_with fail
 go_ret
 exact ⟨rfl,(uh B1).trans (((Below.refl _ _).alloc (uh B1).size _).trans ((uh Hb2).mono (by simp;omega)))⟩
theorem Ex {w:World} {v:Value} {ps:List Z6} (b need work:Int) (h:IsPaces w v ps) :
  Calls Tryz.prog 162 #[.agg #[.int .i64 b,v],.int .i64 need,.int .i64 work] w fun e w'=>e= .returned (.int .i64 (Np (b,ps) need work))/\Below w.heap.size w w':=by
 have Hv:=Z9 h
 obtain ⟨a,cap,rfl,hc,hm,hrow⟩:=h
 clear hrow
 have k0:=cell_regrown (w:=w.alloc (.cells #[.int .i64 b,.slice a ps.length cap] 61)) (a:=⟨w.heap.size,0,none⟩) (v:= .int .i64 b) (by simp)
 have k1:=cell_regrown (w:=w.alloc (.cells #[.int .i64 b,.slice a ps.length cap] 61)) (a:=⟨w.heap.size,1,none⟩) (v:= .slice a ps.length cap) (by simp)
 have Ha:Hid (IsPaces (w.alloc (.cells #[.int .i64 b,.slice a ps.length cap] 61)) (.slice a ps.length cap) ps):=Z9 ((uh Hv).below ((Below.refl _ _).alloc (Nat.le_refl _) _))
 go_enter Tryz.func162,Tryz.ntmps162
 go_wp2_with fail
 refine wp_region_quiet_below (by kernel_rfl) (by kernel_rfl) ?_
 repeat (go_big_quiet_step (first | exact Calls.regrown_of (Ep b need ((uh Ha).below (below_regrown _ _ _))) | exact Calls.regrown_of (Eo b _ work ((uh Ha).below (below_regrown _ _ _)))))
 refine wpQuiet_nil ?_
 intro _ hw'
 obtain ⟨⟨dq,osq⟩,hw''⟩:=hw'
 subst hw''
 go_wp2_with fail
 go_ret
 exact ⟨rfl,((Below.refl _ _).alloc (Nat.le_refl _) _).trans ((below_regrown _ _ _).mono (by simp))⟩
open Go.ChangeShapes Go.WideShapes Go.ChangeAt Go.RowKit Go.Sort Go.Shelf
set_option maxRecDepth 100000
attribute [local go_sem] Oper.semAt_some
theorem Ew {W X:World} (h:Below W.heap.size W X):KeepsOthers W X:=⟨h.size,fun k o hk _=>(h.block k (Array.getElem?_eq_some_iff.1 hk).1).trans hk⟩
theorem DA {W X:World} (h:Below W.heap.size W X) {B:Nat} {t:TypeId} : KeepsBox B t W X:=fun v hv=>(h.block B hv.lt).trans hv
theorem V5 {W X:World} (h:Below W.heap.size W X) {B:Nat} {t:TypeId} {v:Value} (hv:Boxed W B t v):Boxed X B t v:=(h.block B hv.lt).trans hv
def Rnd (w:World) (f:List Int->Int) (a0:Option Addr) (p0:Nat) (a1:Option Addr) (p1:Nat) (a2:Option Addr) (p2:Nat) (a3:Option Addr) (p3:Nat) (a4:Option Addr) (p4:Nat) (m:Z3) (pre:List Int) (W:World):Prop:=Boxed W (w.heap.size+1) 2 (.int .i64 (f pre))/\Bx w W w.heap.size a0 p0 a1 p1 a2 p2 a3 p3 a4 p4 m
theorem Dm (w:World) (f:List Int->Int) (a0:Option Addr) (p0:Nat) (a1:Option Addr) (p1:Nat) (a2:Option Addr) (p2:Nat) (a3:Option Addr) (p3:Nat) (a4:Option Addr) (p4:Nat) (m:Z3) (hs:Smy w (.slice a0 m.rooms.length p0) (.slice a1 m.guilds.length p1) (.slice a2 m.smiths.length p2) (.slice a3 m.desks.length p3) (.slice a4 m.paces.length p4) m) {B:Nat} (hB:w.heap.size<=B):OwnFrom B (Rnd w f a0 p0 a1 p1 a2 p2 a3 p3 a4 p4 m):=by
 rintro pre W X row ⟨h1,h2⟩ hg hr
 have h4:=h2.bb.grown hg h2.bb.size (fun k e=>Nat.le_trans hB (hr k e).1)
 refine ⟨h1.kept hg (fun e=> ?_),hs.below h4,(hg.block _ h2.blk.lt (fun e=> ?_)).trans h2.blk,h4⟩
 ·obtain ⟨_,o,ho,hc⟩:=hr _ e.symm
  rw [show W.heap[w.heap.size+1]?=_ from h1] at ho;cases ho;cases hc
 ·obtain ⟨_,o,ho,hc⟩:=hr _ e.symm
  rw [show W.heap[w.heap.size]?=_ from h2.blk] at ho;cases ho;cases hc
theorem DG {w W W1 W2:World} {f:List Int->Int} {a0 a1 a2 a3 a4:Option Addr} {p0 p1 p2 p3 p4:Nat} {m:Z3} {pre:List Int} {x v nl:Int} {B S:Nat} (hs:Smy w (.slice a0 m.rooms.length p0) (.slice a1 m.guilds.length p1) (.slice a2 m.smiths.length p2) (.slice a3 m.desks.length p3) (.slice a4 m.paces.length p4) m) (hko:KeepsOthers W W1) (hkb:KeepsBox S 2 W W1) (hb:Below W1.heap.size W1 W2) (hv:Boxed W1 (w.heap.size+1) 2 (.int .i64 nl)) (hK:Bx w W1 w.heap.size a0 p0 a1 p1 a2 p2 a3 p3 a4 p4 m) (hS:w.heap.size+1<S) (e:f (pre++[x])=v) :
  KeepsFrom B W (W2.setCell ⟨w.heap.size+1,0,none⟩ (.int .i64 v))/\KeepsBox S 2 W (W2.setCell ⟨w.heap.size+1,0,none⟩ (.int .i64 v))/\Rnd w f a0 p0 a1 p1 a2 p2 a3 p3 a4 p4 m (pre++[x]) (W2.setCell ⟨w.heap.size+1,0,none⟩ (.int .i64 v)):=by
 have hK2:=hK.next hb
 have hbb:Below w.heap.size w (W2.setCell ⟨w.heap.size+1,0,none⟩ (.int .i64 v)):=hK2.bb.setCell (p:=⟨w.heap.size+1,0,none⟩) (Nat.le_succ _) _
 refine ⟨((hko.trans (Ew hb)).trans (KeepsOthers.setCell _ _ _)).from _,fun u hu=>(V5 hb (hkb u hu)).other (by omega) _,?_,hs.below hbb,hK2.blk.other (a:=⟨w.heap.size+1,0,none⟩) (by show w.heap.size ≠ w.heap.size+1;omega) _,hbb⟩
 rw [e]
 exact (V5 hb hv).set _
theorem Df (n:Nat) (hn:3<=n) {w:World} {v0 v1 v2 v3 v4:Value} {m:Z3} {r:Nat} (h:Smy w v0 v1 v2 v3 v4 m) (hS:Sane m) (hW:Ev m) (hr:r<m.rooms.length):CallsIn Fence.wide n Tryz.prog 93 #[.agg #[v0,v1,v2,v3,v4,.int .i64 m.now],.int .i64 (r:Int)] w fun e w'=>e= .returned (.int .i64 (V3 m (L5 (V2 m.rooms (r:Int)))))/\Below w.heap.size w w':=by
 have h1:1<=n:=by omega
 have hmo:Tryz.prog.follows .mixedOrders=true:=by kernel_rfl
 have hl:=hS.few
 have HW:=Z9 hW
 have Hs:=Z9 h
 clear hS hW
 obtain ⟨a0,p0,a1,p1,a2,p2,a3,p3,a4,p4,rfl,rfl,rfl,rfl,rfl,K⟩:=Bx.new h
 clear h
 obtain ⟨st,hst⟩:∃ st,V2 m.rooms (r:Int)=st:=⟨_,rfl⟩
 rw [hst]
 have Hst:=Z9 hst
 clear hst
 refine callsIn_of_wp_marks Tryz.func93 rfl trivial ?_ rfl
 simp only [Tryz.ntmps93,List.size_toArray,List.length_cons,List.length_nil,Nat.reduceAdd,Nat.reduceSub,Array.replicate_succ,Array.replicate_zero,List.push_toArray,List.append_toArray,List.nil_append,List.cons_append]
 gi_wp2_with fail
 have bN:=Boxed.new (w.alloc (.cells #[.slice a0 m.rooms.length p0,.slice a1 m.guilds.length p1,.slice a2 m.smiths.length p2,.slice a3 m.desks.length p3,.slice a4 m.paces.length p4,.int .i64 m.now] 32)) 2 (.int .i64 0)
 rw [World.size_alloc] at bN
 replace K:=K.alloc (.cells #[.int .i64 0] 2)
 generalize (w.alloc (.cells #[.slice a0 m.rooms.length p0,.slice a1 m.guilds.length p1,.slice a2 m.smiths.length p2,.slice a3 m.desks.length p3,.slice a4 m.paces.length p4,.int .i64 m.now] 32)).alloc (.cells #[.int .i64 0] 2)=W0 at *
 refine ⟨trivial,?_⟩
 refine (callsIn_wide.2 (PY (r:Int) K.smy.rooms)).mono ?_
 rw [uh Hst]
 rintro e w1 ⟨rfl,hb⟩
 dsimp only
 replace bN:=V5 hb bN
 replace K:=K.next hb
 clear hb Hst
 gi_wp2_with (refine ⟨trivial,?_⟩;gi_at_call 164;refine (Nu (n-1) _ _).mono ?_;rintro e w' ⟨rfl,rfl⟩)
 have bS:=Boxed.new w1 2 (.int .i64 st)
 have hsz:=K.bb.size
 refine wpIn_rangeFunc_ownG rfl h1 (gf:=212) (lb:=#[.pointer (some ⟨w1.heap.size,0,none⟩)]) rfl trivial (enters_of Tryz.func212 (by kernel_rfl) rfl)
  (OI (n-1) (by omega) w1.heap.size st _ bS) (fun h k=>h.trans k) (KeepsBox.putObj (by simp)) (Below.refl _ _) (fun _=>rfl)
  (Rnd w (V3 m) a0 p0 a1 p1 a2 p2 a3 p3 a4 p4 m) (fun _ _ _=>False)
  (Dm w (V3 m) a0 p0 a1 p1 a2 p2 a3 p3 a4 p4 m (uh Hs) (by simp;omega))
  (fun _ _ _ _ _ hs _ _=>hs)
  ⟨bN.alloc _,K.alloc _⟩
  (fun x=>{ tmps:=#[.agg #[.slice a0 m.rooms.length p0,.slice a1 m.guilds.length p1,.slice a2 m.smiths.length p2,.slice a3 m.desks.length p3,.slice a4 m.paces.length p4,.int .i64 m.now],.int .i64 (r:Int),.pointer (some ⟨w.heap.size,0,none⟩),undef,.int .i64 0,.pointer (some ⟨w.heap.size+1,0,none⟩),.int .i64 x,.pointer (some ⟨w.heap.size,0,none⟩),.agg #[.slice a0 m.rooms.length p0],.int .i64 (r:Int),.int .i64 st,.func (.func 212) #[] #[.pointer (some ⟨w1.heap.size,0,none⟩)],.int .i64 x,undef,undef,undef,undef,undef,undef,undef,undef,undef],defers:=[] }) ?assign ?body ?done ?stop
 case assign=>
  intro l x W K hK
  gi_wp2
  exact hK
 case body=>
  rintro l pre x W ⟨hv,hK⟩ hlt
  have hc:=hv.cell
  have hf:=hv.frozen
  obtain ⟨c0,c1,c2,c3,c4,c5⟩:=hK.cells
  obtain ⟨us,hus⟩:∃ q,XD m x (-1)=q:=⟨_,rfl⟩
  have hub:=MO m x (-1)
  rw [hus] at hub
  have Hus:=Z9 hus
  obtain ⟨q,hq⟩:∃ q,NL m x=q:=⟨_,rfl⟩
  have HN:=Z9 (Ee m pre x)
  have hnb:=C7 m hl pre
  rw [hq,hus] at HN
  clear hus
  generalize V3 m pre=nl at *
  gi_wp2_with fail
  refine ⟨trivial,fun _=>(by omega),?_⟩
  refine (CallsIn.inRound l (callsIn_wide.2 (DD hq hK.smy))).mono ?_
  rintro e W1 ⟨rfl,hb⟩
  dsimp only
  have hko:=Ew hb
  have hkb:=DA hb (B:=w1.heap.size) (t:=2)
  replace hv:=V5 hb hv
  replace hK:=hK.next hb
  clear hb hc hf c0 c1 c2 c3 c4 c5
  cases q
  ·gi_wp2_with fail
   exact ⟨hko.from _,hkb,by rw [show Rnd w (V3 m) a0 p0 a1 p1 a2 p2 a3 p3 a4 p4 m (pre++[x]) W1=(Boxed W1 (w.heap.size+1) 2 (.int .i64 (V3 m (pre++[x])))/\Bx w W1 w.heap.size a0 p0 a1 p1 a2 p2 a3 p3 a4 p4 m) from rfl,uh HN];exact ⟨hv,hK⟩⟩
  have hc:=hv.cell
  have hf:=hv.frozen
  obtain ⟨c0,c1,c2,c3,c4,c5⟩:=hK.cells
  gi_wp2_with fail
  gi_region_with_o (refine ⟨trivial,fun _=>(by omega),?_⟩;gi_at_call 58;refine (CallsIn.inRound l (callsIn_wide.2 (El (uh Hus) ?_ (uh HW) hl))).mono ?_;exact hK.smy.below (Below.refl _ _).drew;rintro e W2 ⟨rfl,hb2⟩;have Hb2:Hid (Below W1.heap.size W1 W2):=Z9 ⟨hb2.os,hb2.tape,hb2.output,hb2.size,hb2.block⟩;have hv2:=V5 (uh Hb2) hv;have hc2:=hv2.cell;have hf2:=hv2.frozen;clear hb2)
  all_goals
   exact DG (uh Hs) hko hkb (uh Hb2) hv hK bN.lt (by rw [uh HN];simp only [if_true];omega)
 case done=>
  rintro D ys W hD rfl ⟨hv,hK⟩ hDf
  have hc:=hv.cell
  gi_wp2
  refine ⟨by simp,.inl ⟨_,_,rfl,run_takeDeferred hDf,?_⟩⟩
  exact ⟨_,results_tmp rfl _ _ _,rfl,hK.bb.trans (belowK_b (w:=w) (Nat.le_refl _) W D _ _ (by simp at hD;omega) hDf rfl rfl)⟩
 case stop=>
  rintro D c pre W _ _ h _
  exact h.elim
theorem Ed {w:World} {v0 v1 v2 v3 v4:Value} {m:Z3} {r:Nat} (h:Smy w v0 v1 v2 v3 v4 m) (hS:Sane m) (hW:Ev m) (hr:r<m.rooms.length):Calls Tryz.prog 93 #[.agg #[v0,v1,v2,v3,v4,.int .i64 m.now],.int .i64 (r:Int)] w fun e w'=>e= .returned (.int .i64 (V3 m (L5 (V2 m.rooms (r:Int)))))/\Below w.heap.size w w':=callsIn_wide.1 (Df 3 (Nat.le_refl _) h hS hW hr)
theorem Dk (n:Nat) (hn:3<=n) {w:World} {v0 v1 v2 v3 v4:Value} {m:Z3} {r:Nat} (h:Smy w v0 v1 v2 v3 v4 m) (hS:Sane m) (hW:Ev m) (hr:r<m.rooms.length):CallsIn Fence.wide n Tryz.prog 163 #[.agg #[v0,v1,v2,v3,v4,.int .i64 m.now],.int .i64 (r:Int)] w fun e w'=>e= .returned (.int .i64 (U1 m (L5 (V2 m.rooms (r:Int)))))/\Below w.heap.size w w':=by
 have h1:1<=n:=by omega
 have hmo:Tryz.prog.follows .mixedOrders=true:=by kernel_rfl
 have hl:=hS.few
 have HW:=Z9 hW
 have Hs:=Z9 h
 clear hS hW
 obtain ⟨a0,p0,a1,p1,a2,p2,a3,p3,a4,p4,rfl,rfl,rfl,rfl,rfl,K⟩:=Bx.new h
 clear h
 obtain ⟨st,hst⟩:∃ st,V2 m.rooms (r:Int)=st:=⟨_,rfl⟩
 rw [hst]
 have Hst:=Z9 hst
 clear hst
 refine callsIn_of_wp_marks Tryz.func163 rfl trivial ?_ rfl
 simp only [Tryz.ntmps163,List.size_toArray,List.length_cons,List.length_nil,Nat.reduceAdd,Nat.reduceSub,Array.replicate_succ,Array.replicate_zero,List.push_toArray,List.append_toArray,List.nil_append,List.cons_append]
 gi_wp2_with fail
 have bN:=Boxed.new (w.alloc (.cells #[.slice a0 m.rooms.length p0,.slice a1 m.guilds.length p1,.slice a2 m.smiths.length p2,.slice a3 m.desks.length p3,.slice a4 m.paces.length p4,.int .i64 m.now] 32)) 2 (.int .i64 0)
 rw [World.size_alloc] at bN
 replace K:=K.alloc (.cells #[.int .i64 0] 2)
 generalize (w.alloc (.cells #[.slice a0 m.rooms.length p0,.slice a1 m.guilds.length p1,.slice a2 m.smiths.length p2,.slice a3 m.desks.length p3,.slice a4 m.paces.length p4,.int .i64 m.now] 32)).alloc (.cells #[.int .i64 0] 2)=W0 at *
 refine ⟨trivial,?_⟩
 refine (callsIn_wide.2 (PY (r:Int) K.smy.rooms)).mono ?_
 rw [uh Hst]
 rintro e w1 ⟨rfl,hb⟩
 dsimp only
 replace bN:=V5 hb bN
 replace K:=K.next hb
 clear hb Hst
 gi_wp2_with (refine ⟨trivial,?_⟩;gi_at_call 164;refine (Nu (n-1) _ _).mono ?_;rintro e w' ⟨rfl,rfl⟩)
 have bS:=Boxed.new w1 2 (.int .i64 st)
 have hsz:=K.bb.size
 refine wpIn_rangeFunc_ownG rfl h1 (gf:=212) (lb:=#[.pointer (some ⟨w1.heap.size,0,none⟩)]) rfl trivial (enters_of Tryz.func212 (by kernel_rfl) rfl)
  (OI (n-1) (by omega) w1.heap.size st _ bS) (fun h k=>h.trans k) (KeepsBox.putObj (by simp)) (Below.refl _ _) (fun _=>rfl)
  (Rnd w (U1 m) a0 p0 a1 p1 a2 p2 a3 p3 a4 p4 m) (fun _ _ _=>False)
  (Dm w (U1 m) a0 p0 a1 p1 a2 p2 a3 p3 a4 p4 m (uh Hs) (by simp;omega))
  (fun _ _ _ _ _ hs _ _=>hs)
  ⟨bN.alloc _,K.alloc _⟩
  (fun x=>{ tmps:=#[.agg #[.slice a0 m.rooms.length p0,.slice a1 m.guilds.length p1,.slice a2 m.smiths.length p2,.slice a3 m.desks.length p3,.slice a4 m.paces.length p4,.int .i64 m.now],.int .i64 (r:Int),.pointer (some ⟨w.heap.size,0,none⟩),undef,.int .i64 0,.pointer (some ⟨w.heap.size+1,0,none⟩),.int .i64 x,.pointer (some ⟨w.heap.size,0,none⟩),.agg #[.slice a0 m.rooms.length p0],.int .i64 (r:Int),.int .i64 st,.func (.func 212) #[] #[.pointer (some ⟨w1.heap.size,0,none⟩)],.int .i64 x,undef,undef,undef,undef,undef,undef],defers:=[] }) ?assign ?body ?done ?stop
 case assign=>
  intro l x W K hK
  gi_wp2
  exact hK
 case body=>
  rintro l pre x W ⟨hv,hK⟩ hlt
  have hc:=hv.cell
  have hf:=hv.frozen
  obtain ⟨c0,c1,c2,c3,c4,c5⟩:=hK.cells
  obtain ⟨us,hus⟩:∃ q,XD m x (-1)=q:=⟨_,rfl⟩
  have hub:=MO m x (-1)
  rw [hus] at hub
  have Hus:=Z9 hus
  have HN:=Z9 (Em m pre x)
  have hnb:=Dc m hl pre
  rw [hus] at HN
  clear hus
  generalize U1 m pre=nl at *
  obtain ⟨W1,hW1⟩:∃ X,X=W:=⟨_,rfl⟩
  subst hW1
  have hwr:IntKind.i64.wrap (nl+us)=nl+us:=by rw [IntKind.wrap_i64];omega
  gi_wp2_with fail
  gi_region_with_o (refine ⟨trivial,fun _=>(by omega),?_⟩;gi_at_call 58;refine (CallsIn.inRound l (callsIn_wide.2 (El (uh Hus) ?_ (uh HW) hl))).mono ?_;exact hK.smy.below (Below.refl _ _).drew;rintro e W2 ⟨rfl,hb2⟩;have Hb2:Hid (Below W1.heap.size W1 W2):=Z9 ⟨hb2.os,hb2.tape,hb2.output,hb2.size,hb2.block⟩;have hv2:=V5 (uh Hb2) hv;have hc2:=hv2.cell;have hf2:=hv2.frozen;clear hb2)
  all_goals
   exact DG (uh Hs) (KeepsOthers.refl _) (fun _ h=>h) (uh Hb2) hv hK bN.lt (by rw [uh HN])
 case done=>
  rintro D ys W hD rfl ⟨hv,hK⟩ hDf
  have hc:=hv.cell
  gi_wp2
  refine ⟨by simp,.inl ⟨_,_,rfl,run_takeDeferred hDf,?_⟩⟩
  exact ⟨_,results_tmp rfl _ _ _,rfl,hK.bb.trans (belowK_b (w:=w) (Nat.le_refl _) W D _ _ (by simp at hD;omega) hDf rfl rfl)⟩
 case stop=>
  rintro D c pre W _ _ h _
  exact h.elim
theorem Dy {w:World} {v0 v1 v2 v3 v4:Value} {m:Z3} {r:Nat} (h:Smy w v0 v1 v2 v3 v4 m) (hS:Sane m) (hW:Ev m) (hr:r<m.rooms.length):Calls Tryz.prog 163 #[.agg #[v0,v1,v2,v3,v4,.int .i64 m.now],.int .i64 (r:Int)] w fun e w'=>e= .returned (.int .i64 (U1 m (L5 (V2 m.rooms (r:Int)))))/\Below w.heap.size w w':=callsIn_wide.1 (Dk 3 (Nat.le_refl _) h hS hW hr)
end Go.Proofs.YtnponpamjddpjaaGreat
namespace Go.Proofs.YtnponpamjddpjaaGreat
open Go.ChangeShapes Go.WideShapes Go.ChangeAt Go.RowKit Go.Sort Go.Shelf
set_option linter.unusedVariables false
set_option maxRecDepth 100000
theorem Bx.of {w:World} {a0 a1 a2 a3 a4:Option Addr} {p0 p1 p2 p3 p4:Nat} {m:Z3} (h:Smy w (.slice a0 m.rooms.length p0) (.slice a1 m.guilds.length p1) (.slice a2 m.smiths.length p2) (.slice a3 m.desks.length p3) (.slice a4 m.paces.length p4) m):Bx w (w.alloc (.cells #[.slice a0 m.rooms.length p0,.slice a1 m.guilds.length p1,.slice a2 m.smiths.length p2,.slice a3 m.desks.length p3,.slice a4 m.paces.length p4,.int .i64 m.now] 32)) w.heap.size a0 p0 a1 p1 a2 p2 a3 p3 a4 p4 m:=⟨h.alloc _,Blk.new _ _ _,(Below.refl _ _).alloc (Nat.le_refl _) _⟩
theorem Er {w:World} {a0 a1 a2 a3 a4:Option Addr} {p0 p1 p2 p3 p4:Nat} {m:Z3} (h:Smy w (.slice a0 m.rooms.length p0) (.slice a1 m.guilds.length p1) (.slice a2 m.smiths.length p2) (.slice a3 m.desks.length p3) (.slice a4 m.paces.length p4) m):Calls Tryz.prog 91 #[.agg #[.slice a0 m.rooms.length p0,.slice a1 m.guilds.length p1,.slice a2 m.smiths.length p2,.slice a3 m.desks.length p3,.slice a4 m.paces.length p4,.int .i64 m.now]] w fun e w'=>e= .returned (.func (Fn.func 161) #[] #[.pointer (some ⟨w.heap.size,0,none⟩)])/\Bx w w' w.heap.size a0 p0 a1 p1 a2 p2 a3 p3 a4 p4 m:=by
 have K:=Bx.of h
 clear h
 go_enter Tryz.func91,Tryz.ntmps91
 go_wp2_with fail
 go_ret
 exact ⟨rfl,K⟩
theorem D7 {w0 w:World} {R r:Nat} {a0 a1 a2 a3 a4:Option Addr} {p0 p1 p2 p3 p4:Nat} {m:Z3} (K:Bx w0 w R a0 p0 a1 p1 a2 p2 a3 p3 a4 p4 m) (hS:Sane m) (hW:Ev m) (hr:r<m.rooms.length):Calls Tryz.prog 161 #[.int .i64 (r:Int),.pointer (some ⟨R,0,none⟩)] w fun e w'=>e= .returned (.int .i64 (Rx m r))/\Below w.heap.size w w':=by
 have hr1:(r:Int)<(m.rooms.length:Int):=by omega
 have HM:=Z9 (DU hS hr)
 have HN:=Z9 (fun (X:World) (hX:Below w.heap.size w X)=>Ed (K.smy.below hX) hS hW hr)
 have HK:=Z9 (fun (X:World) (hX:Below w.heap.size w X)=>Dy (K.smy.below hX) hS hW hr)
 clear hS hW
 have Hc:Hid (Rx m r=Np (ZV m.rooms r) (V3 m (L5 (V2 m.rooms (r:Int)))) (U1 m (L5 (V2 m.rooms (r:Int))))):=Z9 (by rw [(uh HM).1,(uh HM).2];rfl)
 rw [uh Hc]
 clear Hc HM
 obtain ⟨_,_,hre,_,_,r0⟩:=K.smy.rooms
 cases hre
 rcases r0 with e0 | ⟨rb,off,rfl,hbw,hcl⟩
 ·rw [e0] at hr;simp at hr
 obtain ⟨d0,pv,d1,hpv⟩:=hcl r hr
 clear hcl
 generalize V3 m (L5 (V2 m.rooms (r:Int)))=ne at *
 generalize U1 m (L5 (V2 m.rooms (r:Int)))=wo at *
 obtain ⟨⟨n,ps⟩,hrm⟩:∃ x,ZV m.rooms r=x:=⟨_,rfl⟩
 rw [hrm] at d0 hpv ⊢
 clear hrm
 simp only at d0 hpv
 have Hpv:=Z9 hpv
 obtain ⟨pa,pc,rfl,_,_,_⟩:=hpv
 obtain ⟨c0,c1,c2,c3,c4,c5⟩:=K.cells
 have k0:=cell_regrown c0
 have k1:=cell_regrown c1
 have k2:=cell_regrown c2
 have k3:=cell_regrown c3
 have k4:=cell_regrown c4
 have k5:=cell_regrown c5
 have k6:=cell_regrown d0
 have k7:=cell_regrown d1
 go_enter Tryz.func161,Tryz.ntmps161
 go_wp2_with fail
 refine wp_region_quiet_below (by kernel_rfl) (by kernel_rfl) ?_
 repeat (go_big_quiet_step (first | exact Calls.regrown_of (uh HN _ (below_regrown _ _ _)) | exact Calls.regrown_of (uh HK _ (below_regrown _ _ _)) | exact Calls.regrown_of (Ex _ _ _ ((uh Hpv).below (below_regrown _ _ _)))))
 refine wpQuiet_nil ?_
 intro _ hw'
 obtain ⟨⟨dq,osq⟩,hw''⟩:=hw'
 subst hw''
 go_wp2_with fail
 go_ret
 exact ⟨rfl,below_regrown _ _ _⟩
theorem DR {w0 w:World} {R:Nat} {a0 a1 a2 a3 a4 b0:Option Addr} {p0 p1 p2 p3 p4 q0:Nat} {m:Z3} (K:Bx w0 w R a0 p0 a1 p1 a2 p2 a3 p3 a4 p4 m) (hS:Sane m) (hW:Ev m):Calls Tryz.prog 94 #[.slice b0 m.rooms.length q0,.func (Fn.func 161) #[] #[.pointer (some ⟨R,0,none⟩)]] w fun e w'=>e= .returned (.int .i64 (Ng m))/\Below w.heap.size w w':=by
 have h3:=(Ze hS.hall).2.1
 have Hbd:=Z9 (NU m)
 have HC:=Z9 (fun (X:World) (hX:Below w.heap.size w X) (k:Nat) (hk:k<m.rooms.length)=>D7 (K.next hX) hS hW hk)
 clear hS hW K
 go_enter Tryz.func94,Tryz.ntmps94
 go_wp2_with fail
 go_loopw [5,9] (fun n i wr=> ∃ k:Nat,k<=m.rooms.length/\i= .int .i64 k/\n= .int .i64 (UZ m k)/\Below w.heap.size w wr) (fun _ i _=>m.rooms.length-(intOf i).toNat)
 case atStart=>exact ⟨0,Nat.zero_le _,rfl,rfl,Below.refl _ _⟩
 case round=>
  obtain ⟨k,hk,rfl,rfl,hb0⟩:=hrel
  obtain ⟨u0,u1⟩:=uh Hbd k
  obtain ⟨u2,u3⟩:=uh Hbd (k+1)
  have hst:UZ m (k+1)=UZ m k+Rx m k:=rfl
  rw [hst] at u2 u3
  have Hst:=Z9 hst
  have BB:=Z9 hb0
  clear hb0 hst
  by_cases hlt:k<m.rooms.length
  ·have hlt1:(k:Int)<(m.rooms.length:Int):=by omega
   have HD:=Z9 (uh HC wr (uh BB) k hlt)
   generalize Rx m k=ci at *
   generalize UZ m k=ct at *
   go_wp2_with fail
   refine (uh HD).mono ?_
   rintro e w1 ⟨rfl,hb⟩
   replace BB:=bt BB hb
   clear hb HD
   go_wp2_with fail
   go_roundw
   case rel=>exact ⟨k+1,by omega,by go_num,by rw [uh Hst],uh BB⟩
   case measure=>simp [intOf];omega
  ·obtain rfl:k=m.rooms.length:=by omega
   go_wp2_with fail
   go_ret
   exact ⟨rfl,uh BB⟩
theorem Nr {w:World} {v0 v1 v2 v3 v4:Value} {m:Z3} {room q:Int} (hq:V4 m room=q) (h:Smy w v0 v1 v2 v3 v4 m):Calls Tryz.prog 38 #[.agg #[v0,v1,v2,v3,v4,.int .i64 m.now],.int .i64 room] w fun e w'=>e= .returned (.int .i64 q)/\Below w.heap.size w w':=by
 have Hq:=Z9 hq
 clear hq
 obtain ⟨ok,hok⟩:∃ q,ZK m=q:=⟨_,rfl⟩
 have Hok:=Z9 hok
 clear hok
 obtain ⟨a0,p0,a1,p1,a2,p2,a3,p3,a4,p4,rfl,rfl,rfl,rfl,rfl,K⟩:=Bx.new h
 clear h
 go_enter Tryz.func38,Tryz.ntmps38
 go_wp2_with fail
 generalize w.alloc (.cells #[.slice a0 m.rooms.length p0,.slice a1 m.guilds.length p1,.slice a2 m.smiths.length p2,.slice a3 m.desks.length p3,.slice a4 m.paces.length p4,.int .i64 m.now] 32)=W at *
 refine (Pw _ _ _ _ _ _ _ _ (uh Hok) K.smy).mono ?_
 rintro e w1 ⟨rfl,hb⟩
 replace K:=K.next hb
 clear hb
 cases ok
 ·obtain rfl:q= -1:=by rw [<-uh Hq];unfold V4;rw [uh Hok];simp
  go_wp2_with fail
  go_ret
  exact ⟨rfl,K.bb⟩
 obtain ⟨qr,hqr⟩:∃ q,Qp m room=q:=⟨_,rfl⟩
 have Hr:=Z9 hqr
 clear hqr
 obtain ⟨c0,c1,c2,c3,c4,c5⟩:=K.cells
 go_wp2_with fail
 refine (Es (uh Hr) K.smy).mono ?_
 rintro e w2 ⟨rfl,hb⟩
 replace K:=K.next hb
 clear hb c0 c1 c2 c3 c4 c5
 cases qr
 ·obtain rfl:q= -1:=by rw [<-uh Hq];unfold V4;rw [uh Hr];simp
  go_wp2_with fail
  go_ret
  exact ⟨rfl,K.bb⟩
 obtain ⟨r,rfl,hr⟩:=Jq (uh Hr)
 have HL:=Z9 (ZO (uh Hok))
 obtain rfl:q=V3 m (L5 (V2 m.rooms (r:Int))):=by rw [<-uh Hq,(DU (uh HL).sane hr).1];unfold V4;rw [uh Hr,uh Hok];rfl
 obtain ⟨c0,c1,c2,c3,c4,c5⟩:=K.cells
 go_wp2_with fail
 refine (Ed K.smy (uh HL).sane (uh HL).wants hr).mono ?_
 rintro e w3 ⟨rfl,hb⟩
 replace K:=K.next hb
 clear hb c0 c1 c2 c3 c4 c5
 go_wp2_with fail
 go_ret
 exact ⟨rfl,K.bb⟩
theorem Nq {w:World} {v0 v1 v2 v3 v4:Value} {m:Z3} {room q:Int} (hq:V6 m room=q) (h:Smy w v0 v1 v2 v3 v4 m):Calls Tryz.prog 36 #[.agg #[v0,v1,v2,v3,v4,.int .i64 m.now],.int .i64 room] w fun e w'=>e= .returned (.int .i64 q)/\Below w.heap.size w w':=by
 have Hq:=Z9 hq
 clear hq
 obtain ⟨ok,hok⟩:∃ q,ZK m=q:=⟨_,rfl⟩
 have Hok:=Z9 hok
 clear hok
 obtain ⟨a0,p0,a1,p1,a2,p2,a3,p3,a4,p4,rfl,rfl,rfl,rfl,rfl,K⟩:=Bx.new h
 clear h
 go_enter Tryz.func36,Tryz.ntmps36
 go_wp2_with fail
 generalize w.alloc (.cells #[.slice a0 m.rooms.length p0,.slice a1 m.guilds.length p1,.slice a2 m.smiths.length p2,.slice a3 m.desks.length p3,.slice a4 m.paces.length p4,.int .i64 m.now] 32)=W at *
 refine (Pw _ _ _ _ _ _ _ _ (uh Hok) K.smy).mono ?_
 rintro e w1 ⟨rfl,hb⟩
 replace K:=K.next hb
 clear hb
 cases ok
 ·obtain rfl:q= -1:=by rw [<-uh Hq];unfold V6;rw [uh Hok];simp
  go_wp2_with fail
  go_ret
  exact ⟨rfl,K.bb⟩
 obtain ⟨qr,hqr⟩:∃ q,Qp m room=q:=⟨_,rfl⟩
 have Hr:=Z9 hqr
 clear hqr
 obtain ⟨c0,c1,c2,c3,c4,c5⟩:=K.cells
 go_wp2_with fail
 refine (Es (uh Hr) K.smy).mono ?_
 rintro e w2 ⟨rfl,hb⟩
 replace K:=K.next hb
 clear hb c0 c1 c2 c3 c4 c5
 cases qr
 ·obtain rfl:q= -1:=by rw [<-uh Hq];unfold V6;rw [uh Hr];simp
  go_wp2_with fail
  go_ret
  exact ⟨rfl,K.bb⟩
 obtain ⟨r,rfl,hr⟩:=Jq (uh Hr)
 have HL:=Z9 (ZO (uh Hok))
 obtain rfl:q=Rx m r:=by rw [<-uh Hq];unfold V6;rw [uh Hr,uh Hok];rfl
 obtain ⟨c0,c1,c2,c3,c4,c5⟩:=K.cells
 go_wp2_with fail
 refine (Er K.smy).mono ?_
 rintro e w3 ⟨rfl,K3⟩
 replace K:=K.next K3.bb
 clear c0 c1 c2 c3 c4 c5
 go_wp2_with fail
 refine (D7 K3 (uh HL).sane (uh HL).wants hr).mono ?_
 rintro e w4 ⟨rfl,hb⟩
 replace K:=K.next hb
 clear hb
 go_wp2_with fail
 go_ret
 exact ⟨rfl,K.bb⟩
theorem Ea {w:World} {v0 v1 v2 v3 v4:Value} {m:Z3} {q:Int} (hq:U2 m=q) (h:Smy w v0 v1 v2 v3 v4 m):Calls Tryz.prog 40 #[.agg #[v0,v1,v2,v3,v4,.int .i64 m.now]] w fun e w'=>e= .returned (.int .i64 q)/\Below w.heap.size w w':=by
 have Hq:=Z9 hq
 clear hq
 obtain ⟨ok,hok⟩:∃ q,ZK m=q:=⟨_,rfl⟩
 have Hok:=Z9 hok
 clear hok
 obtain ⟨a0,p0,a1,p1,a2,p2,a3,p3,a4,p4,rfl,rfl,rfl,rfl,rfl,K⟩:=Bx.new h
 clear h
 go_enter Tryz.func40,Tryz.ntmps40
 go_wp2_with fail
 generalize w.alloc (.cells #[.slice a0 m.rooms.length p0,.slice a1 m.guilds.length p1,.slice a2 m.smiths.length p2,.slice a3 m.desks.length p3,.slice a4 m.paces.length p4,.int .i64 m.now] 32)=W at *
 refine (Pw _ _ _ _ _ _ _ _ (uh Hok) K.smy).mono ?_
 rintro e w1 ⟨rfl,hb⟩
 replace K:=K.next hb
 clear hb
 cases ok
 ·obtain rfl:q= -1:=by rw [<-uh Hq];unfold U2;rw [uh Hok];simp
  go_wp2_with fail
  go_ret
  exact ⟨rfl,K.bb⟩
 obtain rfl:q=Ng m:=by rw [<-uh Hq];unfold U2;rw [uh Hok];rfl
 have HL:=Z9 (ZO (uh Hok))
 have KD:=K.drew
 obtain ⟨c0,c1,c2,c3,c4,c5⟩:=K.cells
 go_wp2_with fail
 go_region_with (first
  | (go_at_call 91;refine (Er KD.smy).mono ?_;rintro e w3 ⟨rfl,K3⟩;have z0:=(KD.next K3.bb).blk.cell (i:=0) (v:= .slice a0 m.rooms.length p0) rfl)
  | (go_at_call 94;refine (DR K3 (uh HL).sane (uh HL).wants).mono ?_;rintro e w4 ⟨rfl,hb⟩;have HB4:=Z9 hb;clear hb))
 all_goals
  go_wp2_with fail
  go_ret
  exact ⟨rfl,((KD.next K3.bb).next (uh HB4)).bb⟩
open Go.ChangeShapes Go.WideShapes Go.ChangeAt Go.RowKit Go.Sort
set_option maxRecDepth 100000
theorem Eh {w:World} {v0 v1 v2 v3 v4:Value} {m:Z3} {room q:Int} (hq:V4 m room=q) (h:Smy w v0 v1 v2 v3 v4 m):Calls Tryz.prog 42 #[.agg #[v0,v1,v2,v3,v4,.int .i64 m.now],.int .i64 room] w fun e w'=>e= .returned (.int .i64 q)/\Below w.heap.size w w':=by
 have Hq:=Z9 hq
 clear hq
 obtain ⟨ok,hok⟩:∃ q,ZK m=q:=⟨_,rfl⟩
 have Hok:=Z9 hok
 clear hok
 obtain ⟨a0,p0,a1,p1,a2,p2,a3,p3,a4,p4,rfl,rfl,rfl,rfl,rfl,K⟩:=Bx.new h
 clear h
 go_enter Tryz.func42,Tryz.ntmps42
 go_wp2_with fail
 generalize w.alloc (.cells #[.slice a0 m.rooms.length p0,.slice a1 m.guilds.length p1,.slice a2 m.smiths.length p2,.slice a3 m.desks.length p3,.slice a4 m.paces.length p4,.int .i64 m.now] 32)=W at *
 refine (Zc (uh Hok) K.smy).mono ?_
 rintro e w1 ⟨rfl,hb⟩
 replace K:=K.next hb
 clear hb
 cases ok
 ·obtain rfl:q= -1:=by rw [<-uh Hq];unfold V4;rw [uh Hok];simp
  go_wp2_with fail
  go_ret
  exact ⟨rfl,K.bb⟩
 obtain ⟨qr,hqr⟩:∃ q,Qp m room=q:=⟨_,rfl⟩
 have Hr:=Z9 hqr
 clear hqr
 obtain ⟨c0,c1,c2,c3,c4,c5⟩:=K.cells
 go_wp2_with fail
 refine (Ik (uh Hr) K.smy).mono ?_
 rintro e w2 ⟨rfl,hb⟩
 replace K:=K.next hb
 clear hb c0 c1 c2 c3 c4 c5
 cases qr
 ·obtain rfl:q= -1:=by rw [<-uh Hq];unfold V4;rw [uh Hr];simp
  go_wp2_with fail
  go_ret
  exact ⟨rfl,K.bb⟩
 obtain rfl:q=(Y2 m room m.desks.length).1:=by rw [<-uh Hq];unfold V4;rw [uh Hr,uh Hok];rfl
 have HS:=Z9 (ZO (uh Hok)).sane
 obtain ⟨c0,c1,c2,c3,c4,c5⟩:=K.cells
 go_wp2_with fail
 refine (Rb room K.smy (uh HS)).mono ?_
 rintro e w3 ⟨rfl,hb⟩
 replace K:=K.next hb
 clear hb c0 c1 c2 c3 c4 c5
 go_wp2_with fail
 go_ret
 exact ⟨rfl,K.bb⟩
theorem Ef {w:World} {v0 v1 v2 v3 v4:Value} {m:Z3} {room q:Int} (hq:V6 m room=q) (h:Smy w v0 v1 v2 v3 v4 m):Calls Tryz.prog 41 #[.agg #[v0,v1,v2,v3,v4,.int .i64 m.now],.int .i64 room] w fun e w'=>e= .returned (.int .i64 q)/\Below w.heap.size w w':=by
 have Hq:=Z9 hq
 clear hq
 obtain ⟨ok,hok⟩:∃ q,ZK m=q:=⟨_,rfl⟩
 have Hok:=Z9 hok
 clear hok
 obtain ⟨a0,p0,a1,p1,a2,p2,a3,p3,a4,p4,rfl,rfl,rfl,rfl,rfl,K⟩:=Bx.new h
 clear h
 go_enter Tryz.func41,Tryz.ntmps41
 go_wp2_with fail
 generalize w.alloc (.cells #[.slice a0 m.rooms.length p0,.slice a1 m.guilds.length p1,.slice a2 m.smiths.length p2,.slice a3 m.desks.length p3,.slice a4 m.paces.length p4,.int .i64 m.now] 32)=W at *
 refine (Zc (uh Hok) K.smy).mono ?_
 rintro e w1 ⟨rfl,hb⟩
 replace K:=K.next hb
 clear hb
 cases ok
 ·obtain rfl:q= -1:=by rw [<-uh Hq];unfold V6;rw [uh Hok];simp
  go_wp2_with fail
  go_ret
  exact ⟨rfl,K.bb⟩
 obtain ⟨qr,hqr⟩:∃ q,Qp m room=q:=⟨_,rfl⟩
 have Hr:=Z9 hqr
 clear hqr
 obtain ⟨c0,c1,c2,c3,c4,c5⟩:=K.cells
 go_wp2_with fail
 refine (Ik (uh Hr) K.smy).mono ?_
 rintro e w2 ⟨rfl,hb⟩
 replace K:=K.next hb
 clear hb c0 c1 c2 c3 c4 c5
 cases qr
 ·obtain rfl:q= -1:=by rw [<-uh Hq];unfold V6;rw [uh Hr];simp
  go_wp2_with fail
  go_ret
  exact ⟨rfl,K.bb⟩
 obtain ⟨r,rfl,hr⟩:=Jq (uh Hr)
 obtain rfl:q=Rx m r:=by rw [<-uh Hq];unfold V6;rw [uh Hr,uh Hok];rfl
 have HS:=Z9 (ZO (uh Hok)).sane
 obtain ⟨c0,c1,c2,c3,c4,c5⟩:=K.cells
 go_wp2_with fail
 refine (LL K.smy (uh HS) hr).mono ?_
 rintro e w3 ⟨rfl,hb⟩
 replace K:=K.next hb
 clear hb c0 c1 c2 c3 c4 c5
 go_wp2_with fail
 go_ret
 exact ⟨rfl,K.bb⟩
theorem Eg {w:World} {v0 v1 v2 v3 v4:Value} {m:Z3} {q:Int} (hq:U2 m=q) (h:Smy w v0 v1 v2 v3 v4 m):Calls Tryz.prog 43 #[.agg #[v0,v1,v2,v3,v4,.int .i64 m.now]] w fun e w'=>e= .returned (.int .i64 q)/\Below w.heap.size w w':=by
 have Hq:=Z9 hq
 clear hq
 obtain ⟨ok,hok⟩:∃ q,ZK m=q:=⟨_,rfl⟩
 have Hok:=Z9 hok
 clear hok
 obtain ⟨a0,p0,a1,p1,a2,p2,a3,p3,a4,p4,rfl,rfl,rfl,rfl,rfl,K⟩:=Bx.new h
 clear h
 go_enter Tryz.func43,Tryz.ntmps43
 go_wp2_with fail
 generalize w.alloc (.cells #[.slice a0 m.rooms.length p0,.slice a1 m.guilds.length p1,.slice a2 m.smiths.length p2,.slice a3 m.desks.length p3,.slice a4 m.paces.length p4,.int .i64 m.now] 32)=W at *
 refine (Zc (uh Hok) K.smy).mono ?_
 rintro e w1 ⟨rfl,hb⟩
 replace K:=K.next hb
 clear hb
 cases ok
 ·obtain rfl:q= -1:=by rw [<-uh Hq];unfold U2;rw [uh Hok];simp
  go_wp2_with fail
  go_ret
  exact ⟨rfl,K.bb⟩
 obtain rfl:q=Ng m:=by rw [<-uh Hq];unfold U2;rw [uh Hok];rfl
 have HS:=Z9 (ZO (uh Hok)).sane
 obtain ⟨c0,c1,c2,c3,c4,c5⟩:=K.cells
 go_wp2_with fail
 refine (JX K.smy (uh HS)).mono ?_
 rintro e w2 ⟨rfl,hb⟩
 replace K:=K.next hb
 clear hb c0 c1 c2 c3 c4 c5
 go_wp2_with fail
 go_ret
 exact ⟨rfl,K.bb⟩
theorem DC {m:Z3} (h:Loose m) {b:Nat} (ho:(Z8 m.desks b).1=false):XD m (b:Int) (-1)=0:=by
 have hn:atV m.smiths (b:Int) m.smiths.length=[]:=by
  refine List.eq_nil_iff_forall_not_mem.2 fun e he=> ?_
  obtain ⟨i,hi,h1,h2,_⟩:=(Yd m.smiths (b:Int) e m.smiths.length).1 he
  have hx:=(h.at hi h2).2.2.1
  rw [h1,Int.toNat_natCast,ho] at hx
  cases hx
 unfold XD
 rw [hn];rfl
theorem Dj {m:Z3} (h:Loose m) {r:Int} {k:Nat} (hr:(WU m.rooms k:Int)=r):Y2 m r (k+1)=(max (Y2 m r k).1 (XD m k (-1)),(Y2 m r k).2+XD m k (-1)):=by
 have hb:=RZ m r h.sane.few k
 show (if _ then _ else _)=_
 rw [if_pos hr]
 cases ho:(Z8 m.desks k).1
 ·rw [DC h ho]
  have:max (Y2 m r k).1 0=(Y2 m r k).1:=by omega
  rw [this];rfl
 ·rfl
theorem Di {m:Z3} {r:Int} {k:Nat} (hr:¬ (WU m.rooms k:Int)=r):Y2 m r (k+1)=Y2 m r k:=by show (if _ then _ else _)=_;rw [if_neg hr]
theorem Dd (m:Z3) (r:Int) : -1<=V6 m r:=by
 unfold V6
 split
 ·unfold Rx Np
  have:=Li (ZV m.rooms r.toNat) (XM (ZV m.rooms r.toNat) (Y2 m r.toNat m.desks.length).1) (Y2 m r.toNat m.desks.length).2
  omega
 ·omega
theorem Dr {m:Z3} {r:Int} (h:0<=V6 m r):ZK m=true/\Qp m r=true:=by
 unfold V6 at h
 split at h
 ·rename_i hh
  simpa using hh
 ·omega
theorem Ds {m:Z3} (h:ZK m=true):U2 m=UZ m m.rooms.length:=by unfold U2;rw [h];rfl
theorem DS {m:Z3} (h:ZK m=true) {k:Nat} (hk:k<m.rooms.length):V6 m (k:Int)=Rx m k:=by
 unfold V6 Qp
 rw [h,Zj (by omega) (by omega)];rfl
theorem Ej {w:World} {v0 v1 v2 v3 v4:Value} {m:Z3} {q:Bool} (hq:ZK m=q) (h:Smy w v0 v1 v2 v3 v4 m):Calls Tryz.prog 20 #[.agg #[v0,v1,v2,v3,v4,.int .i64 m.now]] w fun e w'=>e= .returned (.bool q)/\Below w.heap.size w w':=by
 have:=RW h;rw [hq] at this;exact this
open Draw (St Off Row Cur)
set_option linter.unusedSimpArgs false
set_option maxRecDepth 100000
theorem Eu (a:Option Addr) (len cap:Nat) (w:World) (hr:Row w.heap.size w a len) :
  Calls Tryz.prog 86 #[.slice a len cap] w fun e w'=> ∃ M u0 u1 u2 u3 u4 rq,e= .returned (.agg #[u0,u1,u2,u3,u4,.int .i64 M.now])/\FullSmy (w.heap.size+1) w' u0 u1 u2 u3 u4 M rq/\Below w.heap.size w w':=by
 have Hr:=Z9 (Draw.row_later hr ((Below.refl _ _).alloc (Nat.le_refl _) (.cells #[.slice none 0 0,.slice none 0 0,.slice none 0 0,.slice none 0 0,.slice none 0 0,.int .i64 0] 32)))
 clear hr
 go_enter Tryz.func86,Tryz.ntmps86
 go_wp2_with fail
 have kr:Hid (Blk (w.alloc (.cells #[.slice none 0 0,.slice none 0 0,.slice none 0 0,.slice none 0 0,.slice none 0 0,.int .i64 0] 32)) w.heap.size 32 #[.slice none 0 0,.slice none 0 0,.slice none 0 0,.slice none 0 0,.slice none 0 0,.int .i64 0]):=Z9 (Blk.new _ _ _)
 have BB:Hid (Below w.heap.size w (w.alloc (.cells #[.slice none 0 0,.slice none 0 0,.slice none 0 0,.slice none 0 0,.slice none 0 0,.int .i64 0] 32))):=Z9 ((Below.refl _ _).alloc (Nat.le_refl _) _)
 have hzW:w.heap.size<(w.alloc (.cells #[.slice none 0 0,.slice none 0 0,.slice none 0 0,.slice none 0 0,.slice none 0 0,.int .i64 0] 32)).heap.size:=by simp
 generalize w.alloc (.cells #[.slice none 0 0,.slice none 0 0,.slice none 0 0,.slice none 0 0,.slice none 0 0,.int .i64 0] 32)=W at *
 refine (Draw.new_any a len cap _ (uh Hr)).mono ?_
 rintro e w1 ⟨rfl,s1,o1⟩
 have Hs:=Z9 s1
 replace kr:=Z9 ((uh kr).away o1 (by omega))
 replace BB:=Z9 ((uh BB).trans (o1.below (by omega) (uh BB).size))
 clear s1 o1 Hr
 generalize W.heap.size=cb at *
 go_wp2_with fail
 refine (PA a len cap cb _ (uh Hs)).mono ?_
 rintro e w2 ⟨M,u0,u1,u2,u3,u4,rq,rfl,hm2,hm3,hf,s2,o2⟩
 have hc1:=Xx (uh Hs)
 have k6:=hf.smy
 obtain ⟨b0,q0,b1,q1,b2,q2,b3,q3,b4,q4,rfl,rfl,rfl,rfl,rfl,_,_,_,_,_,_,_,_,_,_⟩:=k6.five
 have HF:=Z9 (hf.mono (n₁:=cb+1) (by omega))
 replace kr:=Z9 ((uh kr).away o2 (by omega))
 replace BB:=Z9 ((uh BB).trans (o2.below (by omega) (uh BB).size))
 clear hf s2 o2 k6 hm2 hm3
 obtain ⟨o0,o1,o2,o3,o4,o5⟩:=(uh kr).c6
 obtain ⟨f0,f1,f2,f3,f4,f5⟩:=(uh kr).f6
 go_wp2_with fail
 refine bodyPost_ret (v:= .agg #[.slice b0 M.rooms.length q0,.slice b1 M.guilds.length q1,.slice b2 M.smiths.length q2,.slice b3 M.desks.length q3,.slice b4 M.paces.length q4,.int .i64 M.now]) (by simp [results,Tryz.results86,go_sem, *]) rfl ⟨M,_,_,_,_,_,rq,rfl,?_,?_⟩
 ·refine FullSmy.mono (n₀:=cb+1) ?_ (by omega)
  iterate 6 (refine FullSmy.set ?_ _ _ _ (by omega))
  exact uh HF
 ·iterate 6 (refine Below.setCell ?_ (by show w.heap.size<=w.heap.size;omega) _)
  exact uh BB
set_option maxRecDepth 100000
theorem Mp (a:Option Addr) (len cap:Nat) (w:World) (hr:Row w.heap.size w a len) :
  Calls Tryz.prog 37 #[.slice a len cap] w fun e w'=> ∃ M u0 u1 u2 u3 u4 x rq,e= .returned (.tuple #[.agg #[u0,u1,u2,u3,u4,.int .i64 M.now],.int .i64 x])/\FullSmy (w.heap.size+1) w' u0 u1 u2 u3 u4 M rq/\Below w.heap.size w w':=by
 have Hr:=Z9 (Draw.row_later hr ((Below.refl _ _).alloc (Nat.le_refl _) (.cells #[.slice none 0 0,.slice none 0 0,.slice none 0 0,.slice none 0 0,.slice none 0 0,.int .i64 0] 32)))
 clear hr
 go_enter Tryz.func37,Tryz.ntmps37
 go_wp2_with fail
 have kr:Hid (Blk (w.alloc (.cells #[.slice none 0 0,.slice none 0 0,.slice none 0 0,.slice none 0 0,.slice none 0 0,.int .i64 0] 32)) w.heap.size 32 #[.slice none 0 0,.slice none 0 0,.slice none 0 0,.slice none 0 0,.slice none 0 0,.int .i64 0]):=Z9 (Blk.new _ _ _)
 have BB:Hid (Below w.heap.size w (w.alloc (.cells #[.slice none 0 0,.slice none 0 0,.slice none 0 0,.slice none 0 0,.slice none 0 0,.int .i64 0] 32))):=Z9 ((Below.refl _ _).alloc (Nat.le_refl _) _)
 have hzW:w.heap.size<(w.alloc (.cells #[.slice none 0 0,.slice none 0 0,.slice none 0 0,.slice none 0 0,.slice none 0 0,.int .i64 0] 32)).heap.size:=by simp
 generalize w.alloc (.cells #[.slice none 0 0,.slice none 0 0,.slice none 0 0,.slice none 0 0,.slice none 0 0,.int .i64 0] 32)=W at *
 refine (Draw.new_any a len cap _ (uh Hr)).mono ?_
 rintro e w1 ⟨rfl,s1,o1⟩
 have Hs:=Z9 s1
 replace kr:=Z9 ((uh kr).away o1 (by omega))
 replace BB:=Z9 ((uh BB).trans (o1.below (by omega) (uh BB).size))
 clear s1 o1 Hr
 generalize W.heap.size=cb at *
 go_wp2_with fail
 refine (PA a len cap cb _ (uh Hs)).mono ?_
 rintro e w2 ⟨M,u0,u1,u2,u3,u4,rq,rfl,hm2,hm3,hf,s2,o2⟩
 have Hm2:=Z9 hm2
 have Hm3:=Z9 hm3
 clear hm2 hm3
 have hc1:=Xx (uh Hs)
 have k6:=hf.smy
 obtain ⟨b0,q0,b1,q1,b2,q2,b3,q3,b4,q4,rfl,rfl,rfl,rfl,rfl,_,_,_,_,_,_,_,_,_,_⟩:=k6.five
 have HF:=Z9 (hf.mono (n₁:=cb+1) (by omega))
 replace Hs:=Z9 s2
 have Hs0:=Hs
 replace kr:=Z9 ((uh kr).away o2 (by omega))
 replace BB:=Z9 ((uh BB).trans (o2.below (by omega) (uh BB).size))
 clear hf s2 o2 k6
 go_upto_region 3 with fail
 obtain ⟨W2,hW2,hb,km⟩:=Zy w2 32 (S6 b0 q0 b1 q1 b2 q2 b3 q3 b4 q4 M)
 replace kr:=bl kr hb
 replace HF:=Z9 ((uh HF).below hb)
 replace Hs:=Z9 ((uh Hs).alloc (.cells #[.slice b0 M.rooms.length q0,.slice b1 M.guilds.length q1,.slice b2 M.smiths.length q2,.slice b3 M.desks.length q3,.slice b4 M.paces.length q4,.int .i64 M.now] 32))
 replace BB:=bt BB hb
 have hmb:cb+1<=w2.heap.size:=Xx (uh Hs0)
 have hown:Hid (∀ k,YC (.slice b0 M.rooms.length q0) (.slice b1 M.guilds.length q1) (.slice b2 M.smiths.length q2) (.slice b3 M.desks.length q3) (.slice b4 M.paces.length q4) rq k->k ≠ w.heap.size/\cb<k):=Z9 (fun k e=>by have:=((uh HF).own e).1;omega)
 clear hb Hs0
 rw [hW2]
 (try rw [hW2] at Hs);clear hW2
 generalize w2.heap.size=mb at *
 have hkl:(M.rooms.length:Int)<=1000:=by have:=uh Hm2;omega
 obtain ⟨x0,x1,x2,x3,x4,x5⟩:=(uh km).c6
 go_wp2_with fail
 refine ZP (S:=fun w'=>w'.cell? ⟨mb,0,none⟩=some (.slice b0 M.rooms.length q0)/\w'.cell? ⟨mb,1,none⟩=some (.slice b1 M.guilds.length q1)/\w'.cell? ⟨mb,2,none⟩=some (.slice b2 M.smiths.length q2)/\w'.cell? ⟨mb,3,none⟩=some (.slice b3 M.desks.length q3)/\w'.cell? ⟨mb,4,none⟩=some (.slice b4 M.paces.length q4)/\w'.cell? ⟨mb,5,none⟩=some (.int .i64 M.now)) (by kernel_rfl) (List.cons_ne_nil _ _) (by kernel_rfl) ⟨x0,x1,x2,x3,x4,x5⟩ (fun hHeld=> ?_)
 simp only [List.dropLast_cons_cons,List.dropLast_singleton,List.length_cons,List.length_nil,Nat.zero_add,Nat.reduceAdd]
 clear x0 x1 x2 x3 x4 x5
 (refine tk 0 rfl (by assumption) ?_;(try simp only [Act.put,sA,sZ,sS]))
 (refine tk 1 rfl (by assumption) ?_;(try simp only [Act.put,sA,sZ,sS]))
 (refine tk 2 rfl (by assumption) ?_;(try simp only [Act.put,sA,sZ,sS]))
 (refine tk 3 rfl (by assumption) ?_;(try simp only [Act.put,sA,sZ,sS]))
 (refine tk 4 rfl (by assumption) ?_;(try simp only [Act.put,sA,sZ,sS]))
 refine rd 5 rfl (fun K hK=> ?_)
 go_simp
 replace km:=Z9 ((uh km).below (Below.refl _ _).drew (uh km).lt)
 replace kr:=Z9 ((uh kr).below (Below.refl _ _).drew (uh kr).lt)
 replace HF:=Z9 ((uh HF).below (Below.refl _ _).drew)
 replace BB:=Z9 ((uh BB).trans ((Below.refl _ _).drew.mono (uh BB).size))
 replace Hs:=Z9 (UE (uh Hs))
 generalize W2.drew=X2 at *
 refine hK.out _ _ (uh km).c6 (fun hHeld=> ?_)
 clear hK K
 (try simp only [Act.put,sA,sZ,sS])
 refine rd 6 rfl (fun K hK=> ?_)
 go_simp
 refine (Draw.from_any a len cap cb (-1) (M.rooms.length:Int) (by omega) (by omega) (by omega) _ (uh Hs)).mono ?_
 rintro e9 w5 ⟨x,rfl,_,_,s9,p9⟩
 have ho:=p9
 replace km:=Z9 ((uh km).away ho (by omega))
 replace kr:=Z9 ((uh kr).away ho (by omega))
 replace HF:=Z9 ((uh HF).keep (fun k e=>ho.block k ((uh HF).own e).2 (by have:=(uh hown k e).2;omega)))
 replace BB:=Z9 ((uh BB).trans (ho.below (by omega) (uh BB).size))
 clear s9 p9 ho
 refine hK.out _ _ (uh km).c6 (fun hHeld=> ?_)
 clear hK K
 (try simp only [Act.put,sA,sZ,sS])
 obtain ⟨o0,o1,o2,o3,o4,o5⟩:=(uh kr).c6
 obtain ⟨f0,f1,f2,f3,f4,f5⟩:=(uh kr).f6
 have kmN:Blk ((((((w5.setCell ⟨w.heap.size,0,none⟩ (.slice b0 M.rooms.length q0)).setCell ⟨w.heap.size,1,none⟩ (.slice b1 M.guilds.length q1)).setCell ⟨w.heap.size,2,none⟩ (.slice b2 M.smiths.length q2)).setCell ⟨w.heap.size,3,none⟩ (.slice b3 M.desks.length q3)).setCell ⟨w.heap.size,4,none⟩ (.slice b4 M.paces.length q4)).setCell ⟨w.heap.size,5,none⟩ (.int .i64 M.now)) mb 32 #[.slice b0 M.rooms.length q0,.slice b1 M.guilds.length q1,.slice b2 M.smiths.length q2,.slice b3 M.desks.length q3,.slice b4 M.paces.length q4,.int .i64 M.now]:=(((((((uh km).other (a:=⟨w.heap.size,0,none⟩) (by show mb ≠ w.heap.size;omega) (.slice b0 M.rooms.length q0)).other (a:=⟨w.heap.size,1,none⟩) (by show mb ≠ w.heap.size;omega) (.slice b1 M.guilds.length q1)).other (a:=⟨w.heap.size,2,none⟩) (by show mb ≠ w.heap.size;omega) (.slice b2 M.smiths.length q2)).other (a:=⟨w.heap.size,3,none⟩) (by show mb ≠ w.heap.size;omega) (.slice b3 M.desks.length q3)).other (a:=⟨w.heap.size,4,none⟩) (by show mb ≠ w.heap.size;omega) (.slice b4 M.paces.length q4)).other (a:=⟨w.heap.size,5,none⟩) (by show mb ≠ w.heap.size;omega) (.int .i64 M.now))
 refine rd 7 rfl (fun K hK=> ?_)
 go_simp
 refine hK.out _ _ ⟨kmN.cell (i:=0) rfl,kmN.cell (i:=1) rfl,kmN.cell (i:=2) rfl,kmN.cell (i:=3) rfl,kmN.cell (i:=4) rfl,kmN.cell (i:=5) rfl⟩ (fun hHeld=> ?_)
 clear hK K
 (try simp only [Act.put,sA,sZ,sS])
 clear kmN
 refine wpAnyH_done (by kernel_rfl) ?_ _
 refine ZI rfl rfl ?_
 go_simp
 clear hHeld
 go_wp2_with fail
 refine bodyPost_ret (v:= .tuple #[.agg #[.slice b0 M.rooms.length q0,.slice b1 M.guilds.length q1,.slice b2 M.smiths.length q2,.slice b3 M.desks.length q3,.slice b4 M.paces.length q4,.int .i64 M.now],.int .i64 x]) (by simp [results,Tryz.results37,go_sem, *]) rfl ⟨M,_,_,_,_,_,x,rq,rfl,?_,?_⟩
 ·refine FullSmy.mono (n₀:=cb+1) ?_ (by omega)
  iterate 6 (refine FullSmy.set_off ?_ (fun k e=>(uh hown k e).1) _ _)
  exact uh HF
 ·iterate 6 (refine Below.setCell ?_ (by show w.heap.size<=w.heap.size;omega) _)
  exact uh BB
theorem D8 (a:Option Addr) (len cap:Nat) (w:World) (hr:Row w.heap.size w a len) :
  Calls Tryz.prog 35 #[.slice a len cap] w fun e w'=> ∃ M u0 u1 u2 u3 u4 x rq,e= .returned (.tuple #[.agg #[u0,u1,u2,u3,u4,.int .i64 M.now],.int .i64 x])/\FullSmy (w.heap.size+1) w' u0 u1 u2 u3 u4 M rq/\Below w.heap.size w w':=by
 have Hr:=Z9 (Draw.row_later hr ((Below.refl _ _).alloc (Nat.le_refl _) (.cells #[.slice none 0 0,.slice none 0 0,.slice none 0 0,.slice none 0 0,.slice none 0 0,.int .i64 0] 32)))
 clear hr
 go_enter Tryz.func35,Tryz.ntmps35
 go_wp2_with fail
 have kr:Hid (Blk (w.alloc (.cells #[.slice none 0 0,.slice none 0 0,.slice none 0 0,.slice none 0 0,.slice none 0 0,.int .i64 0] 32)) w.heap.size 32 #[.slice none 0 0,.slice none 0 0,.slice none 0 0,.slice none 0 0,.slice none 0 0,.int .i64 0]):=Z9 (Blk.new _ _ _)
 have BB:Hid (Below w.heap.size w (w.alloc (.cells #[.slice none 0 0,.slice none 0 0,.slice none 0 0,.slice none 0 0,.slice none 0 0,.int .i64 0] 32))):=Z9 ((Below.refl _ _).alloc (Nat.le_refl _) _)
 have hzW:w.heap.size<(w.alloc (.cells #[.slice none 0 0,.slice none 0 0,.slice none 0 0,.slice none 0 0,.slice none 0 0,.int .i64 0] 32)).heap.size:=by simp
 generalize w.alloc (.cells #[.slice none 0 0,.slice none 0 0,.slice none 0 0,.slice none 0 0,.slice none 0 0,.int .i64 0] 32)=W at *
 refine (Mp a len cap _ (uh Hr)).mono ?_
 rintro e w2 ⟨M,u0,u1,u2,u3,u4,x,rq,rfl,hm,hb⟩
 have HF:=Z9 hm
 have k6:=hm.smy
 obtain ⟨b0,q0,b1,q1,b2,q2,b3,q3,b4,q4,rfl,rfl,rfl,rfl,rfl,_,_,_,_,_,_,_,_,_,_⟩:=k6.five
 replace kr:=Z9 ((uh kr).below hb hzW)
 replace BB:=bt BB hb
 clear hm hb Hr k6
 generalize W.heap.size=cb at *
 obtain ⟨o0,o1,o2,o3,o4,o5⟩:=(uh kr).c6
 obtain ⟨f0,f1,f2,f3,f4,f5⟩:=(uh kr).f6
 go_wp2_with fail
 refine bodyPost_ret (v:= .tuple #[.agg #[.slice b0 M.rooms.length q0,.slice b1 M.guilds.length q1,.slice b2 M.smiths.length q2,.slice b3 M.desks.length q3,.slice b4 M.paces.length q4,.int .i64 M.now],.int .i64 x]) (by simp [results,Tryz.results35,go_sem, *]) rfl ⟨M,_,_,_,_,_,x,rq,rfl,?_,?_⟩
 ·refine FullSmy.mono (n₀:=cb+1) ?_ (by omega)
  iterate 6 (refine FullSmy.set ?_ _ _ _ (by omega))
  exact uh HF
 ·iterate 6 (refine Below.setCell ?_ (by show w.heap.size<=w.heap.size;omega) _)
  exact uh BB
theorem D9 (a:Option Addr) (len cap:Nat) (w:World) (hr:Row w.heap.size w a len) :
  Calls Tryz.prog 39 #[.slice a len cap] w fun e w'=> ∃ M u0 u1 u2 u3 u4 rq,e= .returned (.agg #[u0,u1,u2,u3,u4,.int .i64 M.now])/\FullSmy (w.heap.size+1) w' u0 u1 u2 u3 u4 M rq/\Below w.heap.size w w':=by
 have Hr:=Z9 (Draw.row_later hr ((Below.refl _ _).alloc (Nat.le_refl _) (.cells #[.slice none 0 0,.slice none 0 0,.slice none 0 0,.slice none 0 0,.slice none 0 0,.int .i64 0] 32)))
 clear hr
 go_enter Tryz.func39,Tryz.ntmps39
 go_wp2_with fail
 have kr:Hid (Blk (w.alloc (.cells #[.slice none 0 0,.slice none 0 0,.slice none 0 0,.slice none 0 0,.slice none 0 0,.int .i64 0] 32)) w.heap.size 32 #[.slice none 0 0,.slice none 0 0,.slice none 0 0,.slice none 0 0,.slice none 0 0,.int .i64 0]):=Z9 (Blk.new _ _ _)
 have BB:Hid (Below w.heap.size w (w.alloc (.cells #[.slice none 0 0,.slice none 0 0,.slice none 0 0,.slice none 0 0,.slice none 0 0,.int .i64 0] 32))):=Z9 ((Below.refl _ _).alloc (Nat.le_refl _) _)
 have hzW:w.heap.size<(w.alloc (.cells #[.slice none 0 0,.slice none 0 0,.slice none 0 0,.slice none 0 0,.slice none 0 0,.int .i64 0] 32)).heap.size:=by simp
 generalize w.alloc (.cells #[.slice none 0 0,.slice none 0 0,.slice none 0 0,.slice none 0 0,.slice none 0 0,.int .i64 0] 32)=W at *
 refine (Eu a len cap _ (uh Hr)).mono ?_
 rintro e w2 ⟨M,u0,u1,u2,u3,u4,rq,rfl,hm,hb⟩
 have HF:=Z9 hm
 have k6:=hm.smy
 obtain ⟨b0,q0,b1,q1,b2,q2,b3,q3,b4,q4,rfl,rfl,rfl,rfl,rfl,_,_,_,_,_,_,_,_,_,_⟩:=k6.five
 replace kr:=Z9 ((uh kr).below hb hzW)
 replace BB:=bt BB hb
 clear hm hb Hr k6
 generalize W.heap.size=cb at *
 obtain ⟨o0,o1,o2,o3,o4,o5⟩:=(uh kr).c6
 obtain ⟨f0,f1,f2,f3,f4,f5⟩:=(uh kr).f6
 go_wp2_with fail
 refine bodyPost_ret (v:= .agg #[.slice b0 M.rooms.length q0,.slice b1 M.guilds.length q1,.slice b2 M.smiths.length q2,.slice b3 M.desks.length q3,.slice b4 M.paces.length q4,.int .i64 M.now]) (by simp [results,Tryz.results39,go_sem, *]) rfl ⟨M,_,_,_,_,_,rq,rfl,?_,?_⟩
 ·refine FullSmy.mono (n₀:=cb+1) ?_ (by omega)
  iterate 6 (refine FullSmy.set ?_ _ _ _ (by omega))
  exact uh HF
 ·iterate 6 (refine Below.setCell ?_ (by show w.heap.size<=w.heap.size;omega) _)
  exact uh BB
end Go.Proofs.YtnponpamjddpjaaGreat
