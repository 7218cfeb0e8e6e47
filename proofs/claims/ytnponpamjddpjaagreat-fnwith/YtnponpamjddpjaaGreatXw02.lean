/- Part 2 of what the proof rests on besides. No condition but those that a theorem names. -/
import Derived.Test.YtnponpamjddpjaaGreatXw01
set_option maxHeartbeats 8000000
set_option maxRecDepth 100000
namespace Go.Proofs.YtnponpamjddpjaaGreat
open Go.ChangeShapes Go.WideShapes Go.ChangeAt Go.RowKit Go.Sort
set_option linter.unusedVariables false
theorem Ds (f c need:Int) (w:World) (f0:1<=f) (f1:f<=1024) (n0:0<=need) (n1:need<=1000000) :
  Calls Tryz.prog 280 #[.int .i64 f,.int .i64 need] w fun e w'=>e= .returned (.bool (Tg need (f,c)))/\Below w.heap.size w w':=
 (DQ f need w (by omega) (by omega) n0 (by omega)).mono fun _ _ ⟨he,hw⟩=>⟨he,hw ▸ Below.refl _ _⟩
theorem DJ {w:World} {v:Value} {ps:List Z6} (b need:Int) (h:IsPaces w v ps) (hr:Zq (b,ps)=true) (hn:inB need 0 1000000=true) :
  Calls Tryz.prog 246 #[v,.int .i64 need] w fun e w'=>e= .returned (.int .i64 (Sp need ps))/\Below w.heap.size w w':=by
 obtain ⟨a,cap,rfl,hc,hm,hrow⟩:=h;have hbd:=Ny hr;simp only at hbd;obtain ⟨_,_,hl1,hl4⟩:=hbd;obtain ⟨n0,n1⟩:=ZS hn
 rcases hrow with h0 | ⟨bk,off,rfl,hbw,hcl⟩
 ·rw [h0] at hl1;simp at hl1
 have Hcl:=Z9 hcl;have Hr:=Z9 hr;clear hcl hr hn
 go_enter Tryz.func246,Tryz.ntmps246
 go_wp2_with fail
 go_step3
 go_wp2_with fail
 go_step3
 go_wp2_with fail
 go_loopw [5] (fun i wr=> ∃ k:Nat,k+1<=ps.length/\i= .int .i64 k/\(∀ j,j<k->Tg need (Z7 ps j)=false)/\Below w.heap.size w wr) (fun i _=>ps.length-(intOf i).toNat)
 case atStart=>exact ⟨0,by omega,rfl,fun j hj=>by omega,Below.refl _ _⟩
 case round=>
  obtain ⟨k,hk,rfl,hlo,hb⟩:=hrel;have Hlo:=Z9 hlo;have Hb:=Z9 hb;clear hlo
  by_cases hlast:k+1=ps.length
  ·clear hb
   have he:(k:Int)=(ps.length:Int)-1:=by omega
   have Hp:=Z9 (PL need ps k hk (uh Hlo) (.inl hlast));go_wp2_with fail
   (try rw [Exit.noGoto_ret])
   go_ret;exact ⟨Zv (by rw [uh Hp]),uh Hb⟩
  ·have hne:¬ (k:Int)=(ps.length:Int)-1:=by omega
   obtain ⟨c0,c1⟩:=uh Hcl k (by omega);rw [<-hb.cell (p:=⟨bk,off+k*2,none⟩) hbw] at c0;rw [<-hb.cell (p:=⟨bk,off+k*2+1,none⟩) hbw] at c1;have hpb:=Ok (uh Hr) (k:=k) (show k<ps.length by omega);simp only at hpb;generalize hp:Z7 ps k=p at c0 c1 hpb;have Hp:=Z9 hp;clear hp hb;obtain ⟨f,c⟩:=p;simp only at c0 c1 hpb;obtain ⟨f0,f1,_,_⟩:=hpb;go_wp2_with fail;refine (Ds f c need _ f0 f1 n0 n1).mono ?_;rintro e w1 ⟨rfl,hb1⟩;have Hb1:=Z9 hb1;clear hb1;cases hen:Tg need (f,c)
   ·go_wp2_with fail
    go_roundw
    case rel=>exact ⟨k+1,by omega,by go_num,Yn (uh Hlo) (by rw [uh Hp];exact hen),(uh Hb).trans ((uh Hb1).mono (uh Hb).size)⟩
    case measure=>simp [intOf];omega
   ·have Hq:=Z9 (PL need ps k hk (uh Hlo) (.inr (by rw [uh Hp];exact hen)))
    go_wp2_with fail
    (try rw [Exit.noGoto_ret])
    go_ret;exact ⟨Zv (by rw [uh Hq]),(uh Hb).trans ((uh Hb1).mono (uh Hb).size)⟩
theorem En {w:World} {v:Value} {ps:List Z6} (b need:Int) (h:IsPaces w v ps) :
  Calls Tryz.prog 211 #[.agg #[.int .i64 b,v],.int .i64 need] w fun e w'=>e= .returned (.int .i64 (XM (b,ps) need))/\Below w.heap.size w w':=by
 have Hv:=Z9 h;obtain ⟨a,cap,rfl,hc,hm,hrow⟩:=h;clear hrow;cases hr:Zq (b,ps)
 ·rw [Mh hr]
  go_enter Tryz.func211,Tryz.ntmps211
  go_wp2_with fail;refine (TF b ((uh Hv).below ((Below.refl _ _).alloc (Nat.le_refl _) _))).mono ?_;rintro e w1 ⟨rfl,hb⟩;have B1:Hid (Below w.heap.size w w1):=Z9 (((Below.refl _ _).alloc (Nat.le_refl _) _).trans (hb.mono (by simp)));clear hb;go_wp2_with fail;go_ret;exact ⟨rfl,uh B1⟩
 cases hn:inB need 0 1000000
 ·rw [Mi hn]
  go_enter Tryz.func211,Tryz.ntmps211
  go_wp2_with fail;refine (TF b ((uh Hv).below ((Below.refl _ _).alloc (Nat.le_refl _) _))).mono ?_;rintro e w1 ⟨rfl,hb⟩;have B1:Hid (Below w.heap.size w w1):=Z9 (((Below.refl _ _).alloc (Nat.le_refl _) _).trans (hb.mono (by simp)));clear hb
  go_wp2_with (go_at_call 201;refine (ZX _ _ _ _).mono ?_;rintro e w' ⟨rfl,rfl⟩)
  go_ret;exact ⟨rfl,uh B1⟩
 ·rw [Kj hr hn]
  have Hr:=Z9 hr
  go_enter Tryz.func211,Tryz.ntmps211
  go_wp2_with fail;refine (TF b ((uh Hv).below ((Below.refl _ _).alloc (Nat.le_refl _) _))).mono ?_;rintro e w1 ⟨rfl,hb⟩;have x1:w1.cell? ⟨w.heap.size,1,none⟩=some (.slice a ps.length cap):=(hb.cell (p:=⟨w.heap.size,1,none⟩) (by simp)).trans (by simp);have B1:Hid (Below w.heap.size w w1):=Z9 (((Below.refl _ _).alloc (Nat.le_refl _) _).trans (hb.mono (by simp)));clear hb
  go_wp2_with (go_at_call 201;refine (ZX _ _ _ _).mono ?_;rintro e w' ⟨rfl,rfl⟩)
  refine (DJ b need ((uh Hv).below (uh B1)) (uh Hr) hn).mono ?_;rintro e w2 ⟨rfl,hb2⟩;have Hb2:=Z9 hb2;clear hb2;go_wp2_with fail;go_ret;exact ⟨rfl,(uh B1).trans ((uh Hb2).mono (uh B1).size)⟩
theorem Em {w:World} {v:Value} {ps:List Z6} (b pace work:Int) (h:IsPaces w v ps) :
  Calls Tryz.prog 210 #[.agg #[.int .i64 b,v],.int .i64 pace,.int .i64 work] w fun e w'=>e= .returned (.int .i64 (XK (b,ps) pace work))/\Below w.heap.size w w':=by
 have Hv:=Z9 h;obtain ⟨a,cap,rfl,hc,hm,hrow⟩:=h;clear hrow
 have hl:(ps.length:Int)<=9223372036854775807:=by omega
 cases hr:Zq (b,ps)
 ·rw [QX hr]
  go_enter Tryz.func210,Tryz.ntmps210
  go_wp2_with fail;refine (TF b ((uh Hv).below ((Below.refl _ _).alloc (Nat.le_refl _) _))).mono ?_;rintro e w1 ⟨rfl,hb⟩;have B1:Hid (Below w.heap.size w w1):=Z9 (((Below.refl _ _).alloc (Nat.le_refl _) _).trans (hb.mono (by simp)));clear hb;go_wp2_with fail;go_ret;exact ⟨rfl,uh B1⟩
 by_cases hp0:pace<0
 ·rw [QZ (Vd (by omega))]
  go_enter Tryz.func210,Tryz.ntmps210
  go_wp2_with fail;refine (TF b ((uh Hv).below ((Below.refl _ _).alloc (Nat.le_refl _) _))).mono ?_;rintro e w1 ⟨rfl,hb⟩;have B1:Hid (Below w.heap.size w w1):=Z9 (((Below.refl _ _).alloc (Nat.le_refl _) _).trans (hb.mono (by simp)));clear hb;go_wp2_with fail;go_ret;exact ⟨rfl,uh B1⟩
 by_cases hp1:(ps.length:Int)<=pace
 ·rw [QZ (Vd (by simp only;omega))]
  go_enter Tryz.func210,Tryz.ntmps210
  go_wp2_with fail;refine (TF b ((uh Hv).below ((Below.refl _ _).alloc (Nat.le_refl _) _))).mono ?_;rintro e w1 ⟨rfl,hb⟩;have x1:w1.cell? ⟨w.heap.size,1,none⟩=some (.slice a ps.length cap):=(hb.cell (p:=⟨w.heap.size,1,none⟩) (by simp)).trans (by simp);have B1:Hid (Below w.heap.size w w1):=Z9 (((Below.refl _ _).alloc (Nat.le_refl _) _).trans (hb.mono (by simp)));clear hb;go_wp2_with fail;go_ret;exact ⟨rfl,uh B1⟩
 cases hn:inB work 0 1000000
 ·rw [QY hn]
  go_enter Tryz.func210,Tryz.ntmps210
  go_wp2_with fail;refine (TF b ((uh Hv).below ((Below.refl _ _).alloc (Nat.le_refl _) _))).mono ?_;rintro e w1 ⟨rfl,hb⟩;have x1:w1.cell? ⟨w.heap.size,1,none⟩=some (.slice a ps.length cap):=(hb.cell (p:=⟨w.heap.size,1,none⟩) (by simp)).trans (by simp);have B1:Hid (Below w.heap.size w w1):=Z9 (((Below.refl _ _).alloc (Nat.le_refl _) _).trans (hb.mono (by simp)));clear hb
  go_wp2_with (go_at_call 201;refine (ZX _ _ _ _).mono ?_;rintro e w' ⟨rfl,rfl⟩)
  go_ret;exact ⟨rfl,uh B1⟩
 rw [Pb hr hn (Zj (by omega) (by simp only;omega))];obtain ⟨k,rfl⟩:=Int.eq_ofNat_of_zero_le (show 0<=pace by omega)
 have hk:k<ps.length:=by omega
 rw [Int.toNat_natCast];simp only;generalize hpk:Z7 ps k=p;have Hpk:=Z9 hpk;clear hpk;obtain ⟨f,c⟩:=p;simp only;have Hn:=Z9 hn
 go_enter Tryz.func210,Tryz.ntmps210
 go_wp2_with fail;refine (TF b ((uh Hv).below ((Below.refl _ _).alloc (Nat.le_refl _) _))).mono ?_;rintro e w1 ⟨rfl,hb⟩;have x1:w1.cell? ⟨w.heap.size,1,none⟩=some (.slice a ps.length cap):=(hb.cell (p:=⟨w.heap.size,1,none⟩) (by simp)).trans (by simp);have B1:Hid (Below w.heap.size w w1):=Z9 (((Below.refl _ _).alloc (Nat.le_refl _) _).trans (hb.mono (by simp)))
 have hz1:w.heap.size+1<=w1.heap.size:=by have:=hb.size;simpa using this
 clear hb;have hv1:=(uh Hv).below (uh B1);obtain ⟨a',cap',he,_,_,hrow⟩:=hv1;cases he
 rcases hrow with h0 | ⟨bk,off,rfl,hbw,hcl⟩
 ·rw [h0] at hk;simp at hk
 obtain ⟨c0,c1⟩:=hcl k hk;clear hcl;rw [uh Hpk] at c0 c1;simp only at c0 c1
 go_wp2_with (go_at_call 201;refine (ZX _ _ _ _).mono ?_;rintro e w' ⟨rfl,rfl⟩)
 refine (Eb c work f _).mono ?_;rintro e w2 ⟨rfl,hb2⟩;have Hb2:=Z9 hb2;clear hb2;go_wp2_with fail;go_ret;exact ⟨rfl,(uh B1).trans (((Below.refl _ _).alloc (uh B1).size _).trans ((uh Hb2).mono (by simp;omega)))⟩
theorem FH {w:World} {v:Value} {ps:List Z6} (b need work:Int) (h:IsPaces w v ps) :
  Calls Tryz.prog 162 #[.agg #[.int .i64 b,v],.int .i64 need,.int .i64 work] w fun e w'=>e= .returned (.int .i64 (Np (b,ps) need work))/\Below w.heap.size w w':=by
 have Hv:=Z9 h;obtain ⟨a,cap,rfl,hc,hm,hrow⟩:=h;clear hrow;have k0:=cell_regrown (w:=w.alloc (.cells #[.int .i64 b,.slice a ps.length cap] 61)) (a:=⟨w.heap.size,0,none⟩) (v:= .int .i64 b) (by simp);have k1:=cell_regrown (w:=w.alloc (.cells #[.int .i64 b,.slice a ps.length cap] 61)) (a:=⟨w.heap.size,1,none⟩) (v:= .slice a ps.length cap) (by simp);have Ha:Hid (IsPaces (w.alloc (.cells #[.int .i64 b,.slice a ps.length cap] 61)) (.slice a ps.length cap) ps):=Z9 ((uh Hv).below ((Below.refl _ _).alloc (Nat.le_refl _) _))
 go_enter Tryz.func162,Tryz.ntmps162
 go_wp2_with fail;refine wp_region_quiet_below (by kernel_rfl) (by kernel_rfl) ?_
 repeat (go_big_quiet_step (first | exact Calls.regrown_of (En b need ((uh Ha).below (below_regrown _ _ _))) | exact Calls.regrown_of (Em b _ work ((uh Ha).below (below_regrown _ _ _)))))
 refine wpQuiet_nil ?_
 intro _ hw'
 obtain ⟨⟨dq,osq⟩,hw''⟩:=hw';subst hw'';go_wp2_with fail;go_ret;exact ⟨rfl,((Below.refl _ _).alloc (Nat.le_refl _) _).trans ((below_regrown _ _ _).mono (by simp))⟩
open Go.ChangeShapes Go.WideShapes Go.ChangeAt Go.RowKit Go.Sort Go.Shelf
set_option maxRecDepth 100000
attribute [local go_sem] Oper.semAt_some
theorem Ex {W X:World} (h:Below W.heap.size W X):KeepsOthers W X:=⟨h.size,fun k o hk _=>(h.block k (Array.getElem?_eq_some_iff.1 hk).1).trans hk⟩
theorem Dz {W X:World} (h:Below W.heap.size W X) {B:Nat} {t:TypeId} : KeepsBox B t W X:=fun v hv=>(h.block B hv.lt).trans hv
theorem V5 {W X:World} (h:Below W.heap.size W X) {B:Nat} {t:TypeId} {v:Value} (hv:Boxed W B t v):Boxed X B t v:=(h.block B hv.lt).trans hv
def Rnd (w:World) (f:List Int->Int) (a0:Option Addr) (p0:Nat) (a1:Option Addr) (p1:Nat) (a2:Option Addr) (p2:Nat) (a3:Option Addr) (p3:Nat) (a4:Option Addr) (p4:Nat) (m:Z3) (pre:List Int) (W:World):Prop:=Boxed W (w.heap.size+1) 2 (.int .i64 (f pre))/\Bx w W w.heap.size a0 p0 a1 p1 a2 p2 a3 p3 a4 p4 m
theorem Dm (w:World) (f:List Int->Int) (a0:Option Addr) (p0:Nat) (a1:Option Addr) (p1:Nat) (a2:Option Addr) (p2:Nat) (a3:Option Addr) (p3:Nat) (a4:Option Addr) (p4:Nat) (m:Z3) (hs:Smy w (.slice a0 m.rooms.length p0) (.slice a1 m.guilds.length p1) (.slice a2 m.smiths.length p2) (.slice a3 m.desks.length p3) (.slice a4 m.paces.length p4) m) {B:Nat} (hB:w.heap.size<=B):OwnFrom B (Rnd w f a0 p0 a1 p1 a2 p2 a3 p3 a4 p4 m):=by
 rintro pre W X row ⟨h1,h2⟩ hg hr;have h4:=h2.bb.grown hg h2.bb.size (fun k e=>Nat.le_trans hB (hr k e).1);refine ⟨h1.kept hg (fun e=> ?_),hs.below h4,(hg.block _ h2.blk.lt (fun e=> ?_)).trans h2.blk,h4⟩
 ·obtain ⟨_,o,ho,hc⟩:=hr _ e.symm
  rw [show W.heap[w.heap.size+1]?=_ from h1] at ho;cases ho;cases hc
 ·obtain ⟨_,o,ho,hc⟩:=hr _ e.symm
  rw [show W.heap[w.heap.size]?=_ from h2.blk] at ho;cases ho;cases hc
theorem DE {w W W1 W2:World} {f:List Int->Int} {a0 a1 a2 a3 a4:Option Addr} {p0 p1 p2 p3 p4:Nat} {m:Z3} {pre:List Int} {x v nl:Int} {B S:Nat} (hs:Smy w (.slice a0 m.rooms.length p0) (.slice a1 m.guilds.length p1) (.slice a2 m.smiths.length p2) (.slice a3 m.desks.length p3) (.slice a4 m.paces.length p4) m) (hko:KeepsOthers W W1) (hkb:KeepsBox S 2 W W1) (hb:Below W1.heap.size W1 W2) (hv:Boxed W1 (w.heap.size+1) 2 (.int .i64 nl)) (hK:Bx w W1 w.heap.size a0 p0 a1 p1 a2 p2 a3 p3 a4 p4 m) (hS:w.heap.size+1<S) (e:f (pre++[x])=v) :
  KeepsFrom B W (W2.setCell ⟨w.heap.size+1,0,none⟩ (.int .i64 v))/\KeepsBox S 2 W (W2.setCell ⟨w.heap.size+1,0,none⟩ (.int .i64 v))/\Rnd w f a0 p0 a1 p1 a2 p2 a3 p3 a4 p4 m (pre++[x]) (W2.setCell ⟨w.heap.size+1,0,none⟩ (.int .i64 v)):=by
 have hK2:=hK.next hb;have hbb:Below w.heap.size w (W2.setCell ⟨w.heap.size+1,0,none⟩ (.int .i64 v)):=hK2.bb.setCell (p:=⟨w.heap.size+1,0,none⟩) (Nat.le_succ _) _;refine ⟨((hko.trans (Ex hb)).trans (KeepsOthers.setCell _ _ _)).from _,fun u hu=>(V5 hb (hkb u hu)).other (by omega) _,?_,hs.below hbb,hK2.blk.other (a:=⟨w.heap.size+1,0,none⟩) (by show w.heap.size ≠ w.heap.size+1;omega) _,hbb⟩;rw [e];exact (V5 hb hv).set _
theorem De (n:Nat) (hn:3<=n) {w:World} {v0 v1 v2 v3 v4:Value} {m:Z3} {r:Nat} (h:Smy w v0 v1 v2 v3 v4 m) (hS:Sane m) (hW:Wants m) (hr:r<m.rooms.length):CallsIn Fence.wide n Tryz.prog 93 #[.agg #[v0,v1,v2,v3,v4,.int .i64 m.now],.int .i64 (r:Int)] w fun e w'=>e= .returned (.int .i64 (U3 m (L5 (U4 m.rooms (r:Int)))))/\Below w.heap.size w w':=by
 have h1:1<=n:=by omega
 have hmo:Tryz.prog.follows .mixedOrders=true:=by kernel_rfl
 have hl:=hS.few;have HW:=Z9 hW;have Hs:=Z9 h;clear hS hW;obtain ⟨a0,p0,a1,p1,a2,p2,a3,p3,a4,p4,rfl,rfl,rfl,rfl,rfl,K⟩:=Bx.new h;clear h;obtain ⟨st,hst⟩:∃ st,U4 m.rooms (r:Int)=st:=⟨_,rfl⟩;rw [hst];have Hst:=Z9 hst;clear hst;refine callsIn_of_wp_marks Tryz.func93 rfl trivial ?_ rfl;simp only [Tryz.ntmps93,List.size_toArray,List.length_cons,List.length_nil,Nat.reduceAdd,Nat.reduceSub,Array.replicate_succ,Array.replicate_zero,List.push_toArray,List.append_toArray,List.nil_append,List.cons_append]
 gi_wp2_with fail
 have bN:=Boxed.new (w.alloc (.cells #[.slice a0 m.rooms.length p0,.slice a1 m.guilds.length p1,.slice a2 m.smiths.length p2,.slice a3 m.desks.length p3,.slice a4 m.paces.length p4,.int .i64 m.now] 32)) 2 (.int .i64 0);rw [World.size_alloc] at bN;replace K:=K.alloc (.cells #[.int .i64 0] 2);generalize (w.alloc (.cells #[.slice a0 m.rooms.length p0,.slice a1 m.guilds.length p1,.slice a2 m.smiths.length p2,.slice a3 m.desks.length p3,.slice a4 m.paces.length p4,.int .i64 m.now] 32)).alloc (.cells #[.int .i64 0] 2)=W0 at *;refine ⟨trivial,?_⟩;refine (callsIn_wide.2 (PY (r:Int) K.smy.rooms)).mono ?_;rw [uh Hst];rintro e w1 ⟨rfl,hb⟩
 dsimp only
 replace bN:=V5 hb bN;replace K:=K.next hb;clear hb Hst
 gi_wp2_with (refine ⟨trivial,?_⟩;gi_at_call 164;refine (Nu (n-1) _ _).mono ?_;rintro e w' ⟨rfl,rfl⟩)
 have bS:=Boxed.new w1 2 (.int .i64 st);have hsz:=K.bb.size;refine wpIn_rangeFunc_ownG rfl h1 (gf:=212) (lb:=#[.pointer (some ⟨w1.heap.size,0,none⟩)]) rfl trivial (enters_of Tryz.func212 (by kernel_rfl) rfl)
  (OI (n-1) (by omega) w1.heap.size st _ bS) (fun h k=>h.trans k) (KeepsBox.putObj (by simp)) (Below.refl _ _) (fun _=>rfl)
  (Rnd w (U3 m) a0 p0 a1 p1 a2 p2 a3 p3 a4 p4 m) (fun _ _ _=>False)
  (Dm w (U3 m) a0 p0 a1 p1 a2 p2 a3 p3 a4 p4 m (uh Hs) (by simp;omega))
  (fun _ _ _ _ _ hs _ _=>hs)
  ⟨bN.alloc _,K.alloc _⟩
  (fun x=>{ tmps:=#[.agg #[.slice a0 m.rooms.length p0,.slice a1 m.guilds.length p1,.slice a2 m.smiths.length p2,.slice a3 m.desks.length p3,.slice a4 m.paces.length p4,.int .i64 m.now],.int .i64 (r:Int),.pointer (some ⟨w.heap.size,0,none⟩),undef,.int .i64 0,.pointer (some ⟨w.heap.size+1,0,none⟩),.int .i64 x,.pointer (some ⟨w.heap.size,0,none⟩),.agg #[.slice a0 m.rooms.length p0],.int .i64 (r:Int),.int .i64 st,.func (.func 212) #[] #[.pointer (some ⟨w1.heap.size,0,none⟩)],.int .i64 x,undef,undef,undef,undef,undef,undef,undef,undef,undef],defers:=[] }) ?assign ?body ?done ?stop
 case assign=>
  intro l x W K hK
  gi_wp2
  exact hK
 case body=>
  rintro l pre x W ⟨hv,hK⟩ hlt;have hc:=hv.cell;have hf:=hv.frozen;obtain ⟨c0,c1,c2,c3,c4,c5⟩:=hK.cells;obtain ⟨us,hus⟩:∃ q,XD m x (-1)=q:=⟨_,rfl⟩;have hub:=MO m x (-1);rw [hus] at hub;have Hus:=Z9 hus;obtain ⟨q,hq⟩:∃ q,V4 m x=q:=⟨_,rfl⟩;have HN:=Z9 (Ef m pre x);have hnb:=C6 m hl pre;rw [hq,hus] at HN;clear hus;generalize U3 m pre=nl at *
  gi_wp2_with fail
  refine ⟨trivial,fun _=>(by omega),?_⟩;refine (CallsIn.inRound l (callsIn_wide.2 (Ep hq hK.smy))).mono ?_;rintro e W1 ⟨rfl,hb⟩
  dsimp only
  have hko:=Ex hb;have hkb:=Dz hb (B:=w1.heap.size) (t:=2);replace hv:=V5 hb hv;replace hK:=hK.next hb;clear hb hc hf c0 c1 c2 c3 c4 c5;cases q
  ·gi_wp2_with fail
   exact ⟨hko.from _,hkb,by rw [show Rnd w (U3 m) a0 p0 a1 p1 a2 p2 a3 p3 a4 p4 m (pre++[x]) W1=(Boxed W1 (w.heap.size+1) 2 (.int .i64 (U3 m (pre++[x])))/\Bx w W1 w.heap.size a0 p0 a1 p1 a2 p2 a3 p3 a4 p4 m) from rfl,uh HN];exact ⟨hv,hK⟩⟩
  have hc:=hv.cell;have hf:=hv.frozen;obtain ⟨c0,c1,c2,c3,c4,c5⟩:=hK.cells
  gi_wp2_with fail
  gi_region_with_o (refine ⟨trivial,fun _=>(by omega),?_⟩;gi_at_call 58;refine (CallsIn.inRound l (callsIn_wide.2 (Eh (uh Hus) ?_ (uh HW) hl))).mono ?_;exact hK.smy.below (Below.refl _ _).drew;rintro e W2 ⟨rfl,hb2⟩;have Hb2:Hid (Below W1.heap.size W1 W2):=Z9 ⟨hb2.os,hb2.tape,hb2.output,hb2.size,hb2.block⟩;have hv2:=V5 (uh Hb2) hv;have hc2:=hv2.cell;have hf2:=hv2.frozen;clear hb2)
  all_goals
   exact DE (uh Hs) hko hkb (uh Hb2) hv hK bN.lt (by rw [uh HN];simp only [if_true];omega)
 case done=>
  rintro D ys W hD rfl ⟨hv,hK⟩ hDf;have hc:=hv.cell
  gi_wp2
  refine ⟨by simp,.inl ⟨_,_,rfl,run_takeDeferred hDf,?_⟩⟩;exact ⟨_,results_tmp rfl _ _ _,rfl,hK.bb.trans (belowK_b (w:=w) (Nat.le_refl _) W D _ _ (by simp at hD;omega) hDf rfl rfl)⟩
 case stop=>
  rintro D c pre W _ _ h _;exact h.elim
theorem Dt {w:World} {v0 v1 v2 v3 v4:Value} {m:Z3} {r:Nat} (h:Smy w v0 v1 v2 v3 v4 m) (hS:Sane m) (hW:Wants m) (hr:r<m.rooms.length):Calls Tryz.prog 93 #[.agg #[v0,v1,v2,v3,v4,.int .i64 m.now],.int .i64 (r:Int)] w fun e w'=>e= .returned (.int .i64 (U3 m (L5 (U4 m.rooms (r:Int)))))/\Below w.heap.size w w':=callsIn_wide.1 (De 3 (Nat.le_refl _) h hS hW hr)
theorem Dj (n:Nat) (hn:3<=n) {w:World} {v0 v1 v2 v3 v4:Value} {m:Z3} {r:Nat} (h:Smy w v0 v1 v2 v3 v4 m) (hS:Sane m) (hW:Wants m) (hr:r<m.rooms.length):CallsIn Fence.wide n Tryz.prog 163 #[.agg #[v0,v1,v2,v3,v4,.int .i64 m.now],.int .i64 (r:Int)] w fun e w'=>e= .returned (.int .i64 (U1 m (L5 (U4 m.rooms (r:Int)))))/\Below w.heap.size w w':=by
 have h1:1<=n:=by omega
 have hmo:Tryz.prog.follows .mixedOrders=true:=by kernel_rfl
 have hl:=hS.few;have HW:=Z9 hW;have Hs:=Z9 h;clear hS hW;obtain ⟨a0,p0,a1,p1,a2,p2,a3,p3,a4,p4,rfl,rfl,rfl,rfl,rfl,K⟩:=Bx.new h;clear h;obtain ⟨st,hst⟩:∃ st,U4 m.rooms (r:Int)=st:=⟨_,rfl⟩;rw [hst];have Hst:=Z9 hst;clear hst;refine callsIn_of_wp_marks Tryz.func163 rfl trivial ?_ rfl;simp only [Tryz.ntmps163,List.size_toArray,List.length_cons,List.length_nil,Nat.reduceAdd,Nat.reduceSub,Array.replicate_succ,Array.replicate_zero,List.push_toArray,List.append_toArray,List.nil_append,List.cons_append]
 gi_wp2_with fail
 have bN:=Boxed.new (w.alloc (.cells #[.slice a0 m.rooms.length p0,.slice a1 m.guilds.length p1,.slice a2 m.smiths.length p2,.slice a3 m.desks.length p3,.slice a4 m.paces.length p4,.int .i64 m.now] 32)) 2 (.int .i64 0);rw [World.size_alloc] at bN;replace K:=K.alloc (.cells #[.int .i64 0] 2);generalize (w.alloc (.cells #[.slice a0 m.rooms.length p0,.slice a1 m.guilds.length p1,.slice a2 m.smiths.length p2,.slice a3 m.desks.length p3,.slice a4 m.paces.length p4,.int .i64 m.now] 32)).alloc (.cells #[.int .i64 0] 2)=W0 at *;refine ⟨trivial,?_⟩;refine (callsIn_wide.2 (PY (r:Int) K.smy.rooms)).mono ?_;rw [uh Hst];rintro e w1 ⟨rfl,hb⟩
 dsimp only
 replace bN:=V5 hb bN;replace K:=K.next hb;clear hb Hst
 gi_wp2_with (refine ⟨trivial,?_⟩;gi_at_call 164;refine (Nu (n-1) _ _).mono ?_;rintro e w' ⟨rfl,rfl⟩)
 have bS:=Boxed.new w1 2 (.int .i64 st);have hsz:=K.bb.size;refine wpIn_rangeFunc_ownG rfl h1 (gf:=212) (lb:=#[.pointer (some ⟨w1.heap.size,0,none⟩)]) rfl trivial (enters_of Tryz.func212 (by kernel_rfl) rfl)
  (OI (n-1) (by omega) w1.heap.size st _ bS) (fun h k=>h.trans k) (KeepsBox.putObj (by simp)) (Below.refl _ _) (fun _=>rfl)
  (Rnd w (U1 m) a0 p0 a1 p1 a2 p2 a3 p3 a4 p4 m) (fun _ _ _=>False)
  (Dm w (U1 m) a0 p0 a1 p1 a2 p2 a3 p3 a4 p4 m (uh Hs) (by simp;omega))
  (fun _ _ _ _ _ hs _ _=>hs)
  ⟨bN.alloc _,K.alloc _⟩
  (fun x=>{ tmps:=#[.agg #[.slice a0 m.rooms.length p0,.slice a1 m.guilds.length p1,.slice a2 m.smiths.length p2,.slice a3 m.desks.length p3,.slice a4 m.paces.length p4,.int .i64 m.now],.int .i64 (r:Int),.pointer (some ⟨w.heap.size,0,none⟩),undef,.int .i64 0,.pointer (some ⟨w.heap.size+1,0,none⟩),.int .i64 x,.pointer (some ⟨w.heap.size,0,none⟩),.agg #[.slice a0 m.rooms.length p0],.int .i64 (r:Int),.int .i64 st,.func (.func 212) #[] #[.pointer (some ⟨w1.heap.size,0,none⟩)],.int .i64 x,undef,undef,undef,undef,undef,undef],defers:=[] }) ?assign ?body ?done ?stop
 case assign=>
  intro l x W K hK
  gi_wp2
  exact hK
 case body=>
  rintro l pre x W ⟨hv,hK⟩ hlt;have hc:=hv.cell;have hf:=hv.frozen;obtain ⟨c0,c1,c2,c3,c4,c5⟩:=hK.cells;obtain ⟨us,hus⟩:∃ q,XD m x (-1)=q:=⟨_,rfl⟩;have hub:=MO m x (-1);rw [hus] at hub;have Hus:=Z9 hus;have HN:=Z9 (Ek m pre x);have hnb:=Db m hl pre;rw [hus] at HN;clear hus;generalize U1 m pre=nl at *;obtain ⟨W1,hW1⟩:∃ X,X=W:=⟨_,rfl⟩;subst hW1
  have hwr:IntKind.i64.wrap (nl+us)=nl+us:=by rw [IntKind.wrap_i64];omega
  gi_wp2_with fail
  gi_region_with_o (refine ⟨trivial,fun _=>(by omega),?_⟩;gi_at_call 58;refine (CallsIn.inRound l (callsIn_wide.2 (Eh (uh Hus) ?_ (uh HW) hl))).mono ?_;exact hK.smy.below (Below.refl _ _).drew;rintro e W2 ⟨rfl,hb2⟩;have Hb2:Hid (Below W1.heap.size W1 W2):=Z9 ⟨hb2.os,hb2.tape,hb2.output,hb2.size,hb2.block⟩;have hv2:=V5 (uh Hb2) hv;have hc2:=hv2.cell;have hf2:=hv2.frozen;clear hb2)
  all_goals
   exact DE (uh Hs) (KeepsOthers.refl _) (fun _ h=>h) (uh Hb2) hv hK bN.lt (by rw [uh HN])
 case done=>
  rintro D ys W hD rfl ⟨hv,hK⟩ hDf;have hc:=hv.cell
  gi_wp2
  refine ⟨by simp,.inl ⟨_,_,rfl,run_takeDeferred hDf,?_⟩⟩;exact ⟨_,results_tmp rfl _ _ _,rfl,hK.bb.trans (belowK_b (w:=w) (Nat.le_refl _) W D _ _ (by simp at hD;omega) hDf rfl rfl)⟩
 case stop=>
  rintro D c pre W _ _ h _;exact h.elim
theorem Dx {w:World} {v0 v1 v2 v3 v4:Value} {m:Z3} {r:Nat} (h:Smy w v0 v1 v2 v3 v4 m) (hS:Sane m) (hW:Wants m) (hr:r<m.rooms.length):Calls Tryz.prog 163 #[.agg #[v0,v1,v2,v3,v4,.int .i64 m.now],.int .i64 (r:Int)] w fun e w'=>e= .returned (.int .i64 (U1 m (L5 (U4 m.rooms (r:Int)))))/\Below w.heap.size w w':=callsIn_wide.1 (Dj 3 (Nat.le_refl _) h hS hW hr)
end Go.Proofs.YtnponpamjddpjaaGreat
namespace Go.Proofs.YtnponpamjddpjaaGreat
open Go.ChangeShapes Go.WideShapes Go.ChangeAt Go.RowKit Go.Sort Go.Shelf
set_option linter.unusedVariables false
set_option maxRecDepth 100000
theorem Bx.of {w:World} {a0 a1 a2 a3 a4:Option Addr} {p0 p1 p2 p3 p4:Nat} {m:Z3} (h:Smy w (.slice a0 m.rooms.length p0) (.slice a1 m.guilds.length p1) (.slice a2 m.smiths.length p2) (.slice a3 m.desks.length p3) (.slice a4 m.paces.length p4) m):Bx w (w.alloc (.cells #[.slice a0 m.rooms.length p0,.slice a1 m.guilds.length p1,.slice a2 m.smiths.length p2,.slice a3 m.desks.length p3,.slice a4 m.paces.length p4,.int .i64 m.now] 32)) w.heap.size a0 p0 a1 p1 a2 p2 a3 p3 a4 p4 m:=⟨h.alloc _,Blk.new _ _ _,(Below.refl _ _).alloc (Nat.le_refl _) _⟩
theorem DC {w:World} {a0 a1 a2 a3 a4:Option Addr} {p0 p1 p2 p3 p4:Nat} {m:Z3} (h:Smy w (.slice a0 m.rooms.length p0) (.slice a1 m.guilds.length p1) (.slice a2 m.smiths.length p2) (.slice a3 m.desks.length p3) (.slice a4 m.paces.length p4) m):Calls Tryz.prog 91 #[.agg #[.slice a0 m.rooms.length p0,.slice a1 m.guilds.length p1,.slice a2 m.smiths.length p2,.slice a3 m.desks.length p3,.slice a4 m.paces.length p4,.int .i64 m.now]] w fun e w'=>e= .returned (.func (Fn.func 161) #[] #[.pointer (some ⟨w.heap.size,0,none⟩)])/\Bx w w' w.heap.size a0 p0 a1 p1 a2 p2 a3 p3 a4 p4 m:=by
 have K:=Bx.of h;clear h
 go_enter Tryz.func91,Tryz.ntmps91
 go_wp2_with fail;go_ret;exact ⟨rfl,K⟩
theorem Dr {w0 w:World} {R r:Nat} {a0 a1 a2 a3 a4:Option Addr} {p0 p1 p2 p3 p4:Nat} {m:Z3} (K:Bx w0 w R a0 p0 a1 p1 a2 p2 a3 p3 a4 p4 m) (hS:Sane m) (hW:Wants m) (hr:r<m.rooms.length):Calls Tryz.prog 161 #[.int .i64 (r:Int),.pointer (some ⟨R,0,none⟩)] w fun e w'=>e= .returned (.int .i64 (Rx m r))/\Below w.heap.size w w':=by
 have hr1:(r:Int)<(m.rooms.length:Int):=by omega
 have HM:=Z9 (Df hS hr);have HN:=Z9 (fun (X:World) (hX:Below w.heap.size w X)=>Dt (K.smy.below hX) hS hW hr);have HK:=Z9 (fun (X:World) (hX:Below w.heap.size w X)=>Dx (K.smy.below hX) hS hW hr);clear hS hW;have Hc:Hid (Rx m r=Np (ZV m.rooms r) (U3 m (L5 (U4 m.rooms (r:Int)))) (U1 m (L5 (U4 m.rooms (r:Int))))):=Z9 (by rw [(uh HM).1,(uh HM).2];rfl);rw [uh Hc];clear Hc HM;obtain ⟨_,_,hre,_,_,r0⟩:=K.smy.rooms;cases hre
 rcases r0 with e0 | ⟨rb,off,rfl,hbw,hcl⟩
 ·rw [e0] at hr;simp at hr
 obtain ⟨d0,pv,d1,hpv⟩:=hcl r hr;clear hcl;generalize U3 m (L5 (U4 m.rooms (r:Int)))=ne at *;generalize U1 m (L5 (U4 m.rooms (r:Int)))=wo at *;obtain ⟨⟨n,ps⟩,hrm⟩:∃ x,ZV m.rooms r=x:=⟨_,rfl⟩;rw [hrm] at d0 hpv ⊢;clear hrm;simp only at d0 hpv;have Hpv:=Z9 hpv;obtain ⟨pa,pc,rfl,_,_,_⟩:=hpv;obtain ⟨c0,c1,c2,c3,c4,c5⟩:=K.cells;have k0:=cell_regrown c0;have k1:=cell_regrown c1;have k2:=cell_regrown c2;have k3:=cell_regrown c3;have k4:=cell_regrown c4;have k5:=cell_regrown c5;have k6:=cell_regrown d0;have k7:=cell_regrown d1
 go_enter Tryz.func161,Tryz.ntmps161
 go_wp2_with fail;refine wp_region_quiet_below (by kernel_rfl) (by kernel_rfl) ?_
 repeat (go_big_quiet_step (first | exact Calls.regrown_of (uh HN _ (below_regrown _ _ _)) | exact Calls.regrown_of (uh HK _ (below_regrown _ _ _)) | exact Calls.regrown_of (FH _ _ _ ((uh Hpv).below (below_regrown _ _ _)))))
 refine wpQuiet_nil ?_
 intro _ hw'
 obtain ⟨⟨dq,osq⟩,hw''⟩:=hw';subst hw'';go_wp2_with fail;go_ret;exact ⟨rfl,below_regrown _ _ _⟩
theorem DS {w0 w:World} {R:Nat} {a0 a1 a2 a3 a4 b0:Option Addr} {p0 p1 p2 p3 p4 q0:Nat} {m:Z3} (K:Bx w0 w R a0 p0 a1 p1 a2 p2 a3 p3 a4 p4 m) (hS:Sane m) (hW:Wants m):Calls Tryz.prog 94 #[.slice b0 m.rooms.length q0,.func (Fn.func 161) #[] #[.pointer (some ⟨R,0,none⟩)]] w fun e w'=>e= .returned (.int .i64 (Ng m))/\Below w.heap.size w w':=by
 have h3:=(Ze hS.hall).2.1;have Hbd:=Z9 (NU m);have HC:=Z9 (fun (X:World) (hX:Below w.heap.size w X) (k:Nat) (hk:k<m.rooms.length)=>Dr (K.next hX) hS hW hk);clear hS hW K
 go_enter Tryz.func94,Tryz.ntmps94
 go_wp2_with fail
 go_loopw [5,9] (fun n i wr=> ∃ k:Nat,k<=m.rooms.length/\i= .int .i64 k/\n= .int .i64 (UZ m k)/\Below w.heap.size w wr) (fun _ i _=>m.rooms.length-(intOf i).toNat)
 case atStart=>exact ⟨0,Nat.zero_le _,rfl,rfl,Below.refl _ _⟩
 case round=>
  obtain ⟨k,hk,rfl,rfl,hb0⟩:=hrel;obtain ⟨u0,u1⟩:=uh Hbd k;obtain ⟨u2,u3⟩:=uh Hbd (k+1);have hst:UZ m (k+1)=UZ m k+Rx m k:=rfl;rw [hst] at u2 u3;have Hst:=Z9 hst;have BB:=Z9 hb0;clear hb0 hst
  by_cases hlt:k<m.rooms.length
  ·have hlt1:(k:Int)<(m.rooms.length:Int):=by omega
   have HD:=Z9 (uh HC wr (uh BB) k hlt);generalize Rx m k=ci at *;generalize UZ m k=ct at *;go_wp2_with fail;refine (uh HD).mono ?_;rintro e w1 ⟨rfl,hb⟩;replace BB:=bt BB hb;clear hb HD;go_wp2_with fail
   go_roundw
   case rel=>exact ⟨k+1,by omega,by go_num,by rw [uh Hst],uh BB⟩
   case measure=>simp [intOf];omega
  ·obtain rfl:k=m.rooms.length:=by omega
   go_wp2_with fail;go_ret;exact ⟨rfl,uh BB⟩
open Go.ChangeShapes Go.WideShapes Go.ChangeAt Go.RowKit Go.Sort
theorem DH {ss:List Z4} {k:Nat} (hk:k<ss.length):ss.set k (Z8 ss k)=ss:=by
 refine PS (by simp) fun i hi=> ?_
 rw [ZH hk]
 split
 ·rename_i e;rw [e]
 ·rfl
theorem SmithsAt.put {B n c g k i:Nat} {W:World} {ss:List Z4} {x:Z4} (h:SmithsAt B W (.slice (some ⟨g,0,none⟩) n c) (ss.set k x)) (hn:n=ss.length) (hk:k<ss.length) (hi:i<11) (u:Value) (y:Z4) (hy:ZR y=(ZR x).set i u):SmithsAt B (W.setCell ⟨g,k*11+i,none⟩ u) (.slice (some ⟨g,0,none⟩) n c) (ss.set k y):=by
 have h1:=(RecAt.put1 ZW (by omega) h (by simpa using hn) (j:=k) (i:=i) (by simpa using hk) hi u y (by rw [ZH hk,if_pos rfl];exact hy)).1
 rwa [List.set_set] at h1
theorem Smy.other {w W:World} {v0 v1 v2 v3 v4 u:Value} {m:Z3} {B:Nat} {ss:List Z4} (h:Smy w v0 v1 v2 v3 v4 m) (hb:Below w.heap.size w W) (hs:SmithsAt B W u ss):Smy W v0 v1 u v3 v4 { m with smiths:=ss }:=⟨h.rooms.below hb,h.guilds.below hb,hs.list,h.desks.below hb,h.paces.below hb⟩
theorem Blk.put6 {w:World} {R:Nat} {t:TypeId} {u0 u1 u2 u3 u4 u5:Value} (v0 v1 v2 v3 v4 v5:Value) (h:Blk w R t #[u0,u1,u2,u3,u4,u5]):Blk ((((((w.setCell ⟨R,0,none⟩ v0).setCell ⟨R,1,none⟩ v1).setCell ⟨R,2,none⟩ v2).setCell ⟨R,3,none⟩ v3).setCell ⟨R,4,none⟩ v4).setCell ⟨R,5,none⟩ v5) R t #[v0,v1,v2,v3,v4,v5]:=by
 have h0:Blk _ R t #[v0,u1,u2,u3,u4,u5]:=h.set 0 v0;have h1:Blk _ R t #[v0,v1,u2,u3,u4,u5]:=h0.set 1 v1;have h2:Blk _ R t #[v0,v1,v2,u3,u4,u5]:=h1.set 2 v2;have h3:Blk _ R t #[v0,v1,v2,v3,u4,u5]:=h2.set 3 v3;have h4:Blk _ R t #[v0,v1,v2,v3,v4,u5]:=h3.set 4 v4;exact h4.set 5 v5
theorem Below.put6 {n:Nat} {w W:World} {R:Nat} (v0 v1 v2 v3 v4 v5:Value) (h:Below n w W) (hR:n<=R):Below n w ((((((W.setCell ⟨R,0,none⟩ v0).setCell ⟨R,1,none⟩ v1).setCell ⟨R,2,none⟩ v2).setCell ⟨R,3,none⟩ v3).setCell ⟨R,4,none⟩ v4).setCell ⟨R,5,none⟩ v5):=by
 iterate 6 (refine Below.setCell ?_ hR _)
 exact h
theorem RecAt.off6 {α:Type} [Inhabited α] {t k B:Nat} {enc:α->List Value} {W:World} {R:Nat} {v:Value} {xs:List α} (v0 v1 v2 v3 v4 v5:Value) (h:RecAt t k enc B W v xs) (hR:∀ i,v.ownBlock=some i->i ≠ R):RecAt t k enc B ((((((W.setCell ⟨R,0,none⟩ v0).setCell ⟨R,1,none⟩ v1).setCell ⟨R,2,none⟩ v2).setCell ⟨R,3,none⟩ v3).setCell ⟨R,4,none⟩ v4).setCell ⟨R,5,none⟩ v5) v xs:=
 RecAt.same h fun i hi=>by rw [heap_setCell_other _ _ _ _ (hR i hi),heap_setCell_other _ _ _ _ (hR i hi),heap_setCell_other _ _ _ _ (hR i hi),heap_setCell_other _ _ _ _ (hR i hi),heap_setCell_other _ _ _ _ (hR i hi),heap_setCell_other _ _ _ _ (hR i hi)]
set_option linter.unusedSimpArgs false
set_option maxRecDepth 100000
theorem D5 {w:World} {a0 a1 a2 a3 a4:Option Addr} {p0 p1 p2 p3 p4:Nat} {m:Z3} {k:Nat} (b:Int) (h:Smy w (.slice a0 m.rooms.length p0) (.slice a1 m.guilds.length p1) (.slice a2 m.smiths.length p2) (.slice a3 m.desks.length p3) (.slice a4 m.paces.length p4) m) (hl:m.smiths.length<=1000) (hk:k<m.smiths.length):Calls Tryz.prog 104 #[.agg #[.slice a0 m.rooms.length p0,.slice a1 m.guilds.length p1,.slice a2 m.smiths.length p2,.slice a3 m.desks.length p3,.slice a4 m.paces.length p4,.int .i64 m.now],.int .i64 (k:Int),.int .i64 b] w fun e w'=> ∃ g gc,e= .returned (.agg #[.slice a0 m.rooms.length p0,.slice a1 m.guilds.length p1,.slice (some ⟨g,0,none⟩) m.smiths.length gc,.slice a3 m.desks.length p3,.slice a4 m.paces.length p4,.int .i64 m.now])/\Smy w' (.slice a0 m.rooms.length p0) (.slice a1 m.guilds.length p1) (.slice (some ⟨g,0,none⟩) m.smiths.length gc) (.slice a3 m.desks.length p3) (.slice a4 m.paces.length p4) (T6 m (k:Int) b)/\Below w.heap.size w w':=by
 have Hv0:=Z9 h
 have hk1:(k:Int)<(m.smiths.length:Int):=by omega
 clear h
 go_enter Tryz.func104,Tryz.ntmps104
 go_upto_region 1 with fail
 obtain ⟨W,hW,kb,kr,BB⟩:=YP w 32 (S6 a0 p0 a1 p1 a2 p2 a3 p3 a4 p4 m) 32 E6;have Hv:=Z9 ((uh Hv0).below (uh BB));rw [hW];clear hW;obtain ⟨c0,c1,c2,c3,c4,c5⟩:=(uh kb).c6;go_wp2_with fail;refine (VS _ _ _ _ _ _ _ _ _ _ _ _ _ _ _ _ _).mono ?_;rintro e w1 ⟨rfl,hb⟩;replace kb:=bl kb hb;replace kr:=bl kr hb;replace Hv:=Z9 ((uh Hv).below hb);replace BB:=bt BB hb;clear hb c0 c1 c2 c3 c4 c5;go_wp2_with fail;refine (Qw (uh Hv).smiths hl).mono ?_;rintro e w2 ⟨v2,rfl,hs,hb⟩;have hlb:=(uh kb).lt;have hlr:=(uh kr).lt;have hlo:=(uh BB).size;replace kb:=bl kb hb;replace kr:=bl kr hb;replace BB:=bt BB hb;clear hb Hv;obtain ⟨ga,gc,rfl⟩:=RecAt.shape hs;obtain ⟨g,rfl,hg1,hg2,hcl,hfr⟩:=RecAt.view ZW (by omega) hs rfl (by omega)
 have hgb:g ≠ w.heap.size:=by omega
 have hgr:g ≠ w.heap.size+1:=by omega
 have hbg:w.heap.size ≠ g:=by omega
 have hrg:w.heap.size+1 ≠ g:=by omega
 have hwg:w.heap.size<=g:=by omega
 have HS:Hid (SmithsAt (w.heap.size+1) w2 (.slice (some ⟨g,0,none⟩) m.smiths.length gc) (m.smiths.set k (Z8 m.smiths k))):=Z9 (by rw [DH hk];exact RecAt.mono hs (by omega));have s0:=hcl k hk 0 _ rfl;have s1:=hcl k hk 1 _ rfl;have f0:=hfr (k*11);have f1:=hfr (k*11+1);simp only [Nat.add_zero] at s0;clear hcl hfr hs hg1;obtain ⟨c0,c1,c2,c3,c4,c5⟩:=(uh kb).c6;obtain ⟨q0,q1,q2,q3,q4,q5⟩:=(uh kb).f6;obtain ⟨o0,o1,o2,o3,o4,o5⟩:=(uh kr).c6;obtain ⟨t0,t1,t2,t3,t4,t5⟩:=(uh kr).f6;go_wp2_with fail;refine bodyPost_ret (v:= .agg #[.slice a0 m.rooms.length p0,.slice a1 m.guilds.length p1,.slice (some ⟨g,0,none⟩) m.smiths.length gc,.slice a3 m.desks.length p3,.slice a4 m.paces.length p4,.int .i64 m.now]) (by simp [results,Tryz.results104,go_sem, *]) rfl ⟨g,gc,rfl,?_,?_⟩
 ·have h1:SmithsAt (w.heap.size+1) (w2.setCell ⟨w.heap.size,2,none⟩ (.slice (some ⟨g,0,none⟩) m.smiths.length gc)) (.slice (some ⟨g,0,none⟩) m.smiths.length gc) (m.smiths.set k (Z8 m.smiths k)):=RecAt.same (uh HS) (fun i e=>by cases e;exact heap_setCell_other _ _ _ _ hgb)
  have h2:=h1.put rfl hk (i:=0) (by omega) (.int .i64 2) (2,(Z8 m.smiths k).2) rfl;have h3:=h2.put rfl hk (i:=1) (by omega) (.int .i64 b) (2,b,(Z8 m.smiths k).2.2) rfl;exact (uh Hv0).other (Below.put6 _ _ _ _ _ _ ((((uh BB).setCell (Nat.le_refl _) _).setCell (by show w.heap.size<=g;omega) _).setCell (by show w.heap.size<=g;omega) _) (Nat.le_succ _)) (RecAt.off6 (.slice a0 m.rooms.length p0) (.slice a1 m.guilds.length p1) (.slice (some ⟨g,0,none⟩) m.smiths.length gc) (.slice a3 m.desks.length p3) (.slice a4 m.paces.length p4) (.int .i64 m.now) h3 (fun i e=>by cases e;exact hgr))
 ·exact Below.put6 _ _ _ _ _ _ ((((uh BB).setCell (Nat.le_refl _) _).setCell (by show w.heap.size<=g;omega) _).setCell (by show w.heap.size<=g;omega) _) (Nat.le_succ _)
theorem Da {m:Z3} {who q:Int} (h:V2 m who=q):q= -1\/(0<=q/\ZK m=true/\Vb m who=true):=by
 subst h
 unfold V2
 by_cases hh:(ZK m && Vb m who)=true
 ·right
  rw [if_pos hh];simp only [Bool.and_eq_true] at hh;exact ⟨(MP m who).1,hh.1,hh.2⟩
 ·left;rw [if_neg hh]
theorem Di {m:Z3} {who b:Int} (h:V2 m who= -1):V6 m who b= -1:=by
 unfold V6
 unfold V2 at h
 have hb:=(MP m who).1;cases h1:ZK m
 ·rfl
 ·cases h2:Vb m who
  ·rfl
  ·have h9:Ym m who= -1:=by simpa [h1,h2] using h
   omega
theorem Eu {w:World} {v0 v1 v2 v3 v4:Value} {m:Z3} {who b q:Int} (hq:V6 m who b=q) (h:Smy w v0 v1 v2 v3 v4 m):Calls Tryz.prog 47 #[.agg #[v0,v1,v2,v3,v4,.int .i64 m.now],.int .i64 who,.int .i64 b] w fun e w'=>e= .returned (.int .i64 q)/\Below w.heap.size w w':=by
 have Hq:=Z9 hq;clear hq;obtain ⟨wn,hwn⟩:∃ x,V2 m who=x:=⟨_,rfl⟩;have Hwn:=Z9 hwn;clear hwn;obtain ⟨a0,p0,a1,p1,a2,p2,a3,p3,a4,p4,rfl,rfl,rfl,rfl,rfl,K⟩:=Bx.new h;clear h
 go_enter Tryz.func47,Tryz.ntmps47
 go_wp2_with fail;generalize w.alloc (.cells #[.slice a0 m.rooms.length p0,.slice a1 m.guilds.length p1,.slice a2 m.smiths.length p2,.slice a3 m.desks.length p3,.slice a4 m.paces.length p4,.int .i64 m.now] 32)=W at *;refine (Ec (uh Hwn) K.smy).mono ?_;rintro e w1 ⟨rfl,hb⟩;replace K:=K.next hb;clear hb
 rcases Da (uh Hwn) with rfl | ⟨hw0,hok,hwh⟩
 ·obtain rfl:q= -1:=(uh Hq).symm.trans (Di (uh Hwn))
  go_wp2_with fail;go_ret;exact ⟨rfl,K.bb⟩
 have hwb:(wn == -1)=false:=beq_eq_false_iff_ne.mpr (by omega)
 have hwd:¬ wn= -1:=by omega
 obtain ⟨op,hop⟩:∃ x,V4 m b=x:=⟨_,rfl⟩;have Hop:=Z9 hop;clear hop;obtain ⟨c0,c1,c2,c3,c4,c5⟩:=K.cells;go_wp2_with fail;refine (Ep (uh Hop) K.smy).mono ?_;rintro e w2 ⟨rfl,hb⟩;replace K:=K.next hb;clear hb c0 c1 c2 c3 c4 c5;cases op
 ·obtain rfl:q= -1:=by rw [<-uh Hq];unfold V6;rw [uh Hop];simp
  go_wp2_with fail;go_ret;exact ⟨rfl,K.bb⟩
 obtain ⟨k,rfl,hk,hs⟩:=Xp hwh
 have hq2:Ng (T6 m (k:Int) b)=q:=by rw [<-uh Hq];unfold V6;rw [hok,hwh,uh Hop];rfl
 have HL:=Z9 (ZO hok);have HS:=Z9 ((uh HL).sane.with hk hs b);have HT:=Z9 ((uh HL).wants.with hk hs b);have hl:=DK hok;have HR:Hid (∀ {X:World} {R:Nat} {c0:Option Addr} {g gc r0:Nat} {W:World},Bx X W R a0 p0 a1 p1 (some ⟨g,0,none⟩) gc a3 p3 a4 p4 (T6 m (k:Int) b)->Calls Tryz.prog 94 #[.slice c0 m.rooms.length r0,.func (Fn.func 161) #[] #[.pointer (some ⟨R,0,none⟩)]] W fun e w'=>e= .returned (.int .i64 q)/\Below W.heap.size W w'):=Z9 (fun hK=>by rw [<-hq2];exact DS hK (uh HS) (uh HT))
 have HC:Hid (∀ (g gc:Nat) (W:World),Smy W (.slice a0 m.rooms.length p0) (.slice a1 m.guilds.length p1) (.slice (some ⟨g,0,none⟩) m.smiths.length gc) (.slice a3 m.desks.length p3) (.slice a4 m.paces.length p4) (T6 m (k:Int) b)->Calls Tryz.prog 91 #[.agg #[.slice a0 m.rooms.length p0,.slice a1 m.guilds.length p1,.slice (some ⟨g,0,none⟩) m.smiths.length gc,.slice a3 m.desks.length p3,.slice a4 m.paces.length p4,.int .i64 m.now]] W fun e w'=>e= .returned (.func (Fn.func 161) #[] #[.pointer (some ⟨W.heap.size,0,none⟩)])/\Bx W w' W.heap.size a0 p0 a1 p1 (some ⟨g,0,none⟩) gc a3 p3 a4 p4 (T6 m (k:Int) b)):=Z9 (fun g gc W hs=>by
  have hwl:(T6 m (k:Int) b).smiths.length=m.smiths.length:=by unfold T6;simp
  have h9:=DC (w:=W) (m:=T6 m (k:Int) b) (a0:=a0) (a1:=a1) (a2:=some ⟨g,0,none⟩) (a3:=a3) (a4:=a4) (p0:=p0) (p1:=p1) (p2:=gc) (p3:=p3) (p4:=p4) (by rw [hwl];exact hs);rw [hwl] at h9;exact h9)
 clear hwh Hq Hwn hok hwb hwd hw0 HS HT hq2;have KD:=K.drew;obtain ⟨c0,c1,c2,c3,c4,c5⟩:=K.cells;go_wp2_with fail
 go_region_with (first
  | (go_at_call 104;refine (D5 b KD.smy (by omega) hk).mono ?_;rintro e w3 ⟨g,gc,rfl,hsm,hb3⟩;have K3:=KD.next hb3;have z0:=K3.blk.cell (i:=0) (v:= .slice a0 m.rooms.length p0) rfl;have HS3:=Z9 hsm;clear hsm hb3)
  | (go_at_call 91;refine (uh HC _ _ _ (uh HS3)).mono ?_;rintro e w4 ⟨rfl,KX⟩;have K4:=K3.next KX.bb;have y0:=K4.blk.cell (i:=0) (v:= .slice a0 m.rooms.length p0) rfl)
  | (go_at_call 94;refine (uh HR KX).mono ?_;rintro e w5 ⟨rfl,hb5⟩;have K5:=K4.next hb5;clear hb5))
 all_goals
  go_wp2_with fail;go_ret;exact ⟨rfl,K5.bb⟩
set_option maxRecDepth 100000
theorem Eg {w:World} {v0 v1 v2 v3 v4:Value} {m:Z3} {q:Int} (hq:NL m=q) (h:Smy w v0 v1 v2 v3 v4 m):Calls Tryz.prog 43 #[.agg #[v0,v1,v2,v3,v4,.int .i64 m.now]] w fun e w'=>e= .returned (.int .i64 q)/\Below w.heap.size w w':=by
 have Hq:=Z9 hq;clear hq;obtain ⟨ok,hok⟩:∃ q,ZK m=q:=⟨_,rfl⟩;have Hok:=Z9 hok;clear hok;obtain ⟨a0,p0,a1,p1,a2,p2,a3,p3,a4,p4,rfl,rfl,rfl,rfl,rfl,K⟩:=Bx.new h;clear h
 go_enter Tryz.func43,Tryz.ntmps43
 go_wp2_with fail;generalize w.alloc (.cells #[.slice a0 m.rooms.length p0,.slice a1 m.guilds.length p1,.slice a2 m.smiths.length p2,.slice a3 m.desks.length p3,.slice a4 m.paces.length p4,.int .i64 m.now] 32)=W at *;refine (Zc (uh Hok) K.smy).mono ?_;rintro e w1 ⟨rfl,hb⟩;replace K:=K.next hb;clear hb;cases ok
 ·obtain rfl:q= -1:=by rw [<-uh Hq];unfold NL;rw [uh Hok];simp
  go_wp2_with fail;go_ret;exact ⟨rfl,K.bb⟩
 obtain rfl:q=Ng m:=by rw [<-uh Hq];unfold NL;rw [uh Hok];rfl
 have HS:=Z9 (ZO (uh Hok)).sane;obtain ⟨c0,c1,c2,c3,c4,c5⟩:=K.cells;go_wp2_with fail;refine (JX K.smy (uh HS)).mono ?_;rintro e w2 ⟨rfl,hb⟩;replace K:=K.next hb;clear hb c0 c1 c2 c3 c4 c5;go_wp2_with fail;go_ret;exact ⟨rfl,K.bb⟩
theorem Ew {w:World} {v0 v1 v2 v3 v4:Value} {m:Z3} {who b q:Int} (hq:V6 m who b=q) (h:Smy w v0 v1 v2 v3 v4 m):Calls Tryz.prog 48 #[.agg #[v0,v1,v2,v3,v4,.int .i64 m.now],.int .i64 who,.int .i64 b] w fun e w'=>e= .returned (.int .i64 q)/\Below w.heap.size w w':=by
 have Hq:=Z9 hq;clear hq;obtain ⟨ok,hok⟩:∃ q,ZK m=q:=⟨_,rfl⟩;have Hok:=Z9 hok;clear hok;obtain ⟨a0,p0,a1,p1,a2,p2,a3,p3,a4,p4,rfl,rfl,rfl,rfl,rfl,K⟩:=Bx.new h;clear h
 go_enter Tryz.func48,Tryz.ntmps48
 go_wp2_with fail;generalize w.alloc (.cells #[.slice a0 m.rooms.length p0,.slice a1 m.guilds.length p1,.slice a2 m.smiths.length p2,.slice a3 m.desks.length p3,.slice a4 m.paces.length p4,.int .i64 m.now] 32)=W at *;refine (Zc (uh Hok) K.smy).mono ?_;rintro e w1 ⟨rfl,hb⟩;replace K:=K.next hb;clear hb;cases ok
 ·obtain rfl:q= -1:=by rw [<-uh Hq];unfold V6;rw [uh Hok];simp
  go_wp2_with fail;go_ret;exact ⟨rfl,K.bb⟩
 obtain ⟨qw,hqw⟩:∃ q,Vb m who=q:=⟨_,rfl⟩;have Hw:=Z9 hqw;clear hqw;obtain ⟨c0,c1,c2,c3,c4,c5⟩:=K.cells;go_wp2_with fail;refine (Vw (uh Hw) K.smy).mono ?_;rintro e w2 ⟨rfl,hb⟩;replace K:=K.next hb;clear hb c0 c1 c2 c3 c4 c5;cases qw
 ·obtain rfl:q= -1:=by rw [<-uh Hq];unfold V6;rw [uh Hw];simp
  go_wp2_with fail;go_ret;exact ⟨rfl,K.bb⟩
 obtain ⟨qb,hqb⟩:∃ q,Vu m b=q:=⟨_,rfl⟩;have Hb:=Z9 hqb;clear hqb;obtain ⟨c0,c1,c2,c3,c4,c5⟩:=K.cells;go_wp2_with fail;refine (Pz (uh Hb) K.smy).mono ?_;rintro e w3 ⟨rfl,hb⟩;replace K:=K.next hb;clear hb c0 c1 c2 c3 c4 c5;have HO:Hid (V4 m b=(Vu m b && (Z8 m.desks b.toNat).1)):=Z9 (by unfold V4 Vu;rw [EF]);cases qb
 ·obtain rfl:q= -1:=by rw [<-uh Hq];unfold V6;rw [uh HO,uh Hb];simp
  go_wp2_with fail;go_ret;exact ⟨rfl,K.bb⟩
 obtain ⟨k,rfl,hk,hs⟩:=Xp (uh Hw)
 have hbb:0<=b/\b<(m.desks.length:Int):=by have:=ZS (show inB b 0 ((m.desks.length:Int)-1)=true from uh Hb);omega
 obtain ⟨bn,rfl⟩:∃ bn:Nat,b=bn:=⟨b.toNat,by omega⟩
 have hlt:bn<m.desks.length:=by omega
 have hlt1:(bn:Int)<(m.desks.length:Int):=by omega
 obtain ⟨_,_,hde,_,_,r3⟩:=K.smy.desks;cases hde
 rcases r3 with e0 | ⟨db,off,rfl,hbw,hcl⟩
 ·rw [e0] at hlt;simp at hlt
 obtain ⟨d0,_,_⟩:=Zk hcl hlt;clear hcl;obtain ⟨op,hop⟩:∃ o,(Z8 m.desks bn).1=o:=⟨_,rfl⟩;have Hop:=Z9 hop;rw [hop] at d0;clear hop;obtain ⟨c0,c1,c2,c3,c4,c5⟩:=K.cells;cases op
 ·obtain rfl:q= -1:=by rw [<-uh Hq];unfold V6;rw [uh HO,Int.toNat_natCast,uh Hop];simp
  go_wp2_with fail;go_ret;exact ⟨rfl,K.bb⟩
 obtain rfl:q=Yp m (k:Int) (bn:Int):=by rw [<-uh Hq];unfold V6;rw [uh Hok,uh Hw,uh HO,uh Hb,Int.toNat_natCast,uh Hop];rfl
 have HS:=Z9 (ZO (uh Hok)).sane;have hp:=(XF (ZO (uh Hok))).nums;go_wp2_with fail;refine (Rc (bn:Int) K.smy (uh HS) hp hk hs).mono ?_;rintro e w4 ⟨rfl,hb⟩;replace K:=K.next hb;clear hb c0 c1 c2 c3 c4 c5;go_wp2_with fail;go_ret;exact ⟨rfl,K.bb⟩
theorem Er {m x:Z3} (b:Int) (hg:x.guilds=m.guilds) (hs:∀ i,i<m.smiths.length->atB b (Z8 x.smiths i)=atB b (Z8 m.smiths i)/\Qi m.guilds (Z8 x.smiths i)=Qi m.guilds (Z8 m.smiths i)) :
  ∀ k,k<=m.smiths.length->V3 x (ZU (atB b) x.smiths k)=V3 m (ZU (atB b) m.smiths k)
 | 0,_=>rfl
 | k+1,hk=>by
  have ih:=Er b hg hs k (by omega);obtain ⟨e1,e2⟩:=hs k (by omega);cases ha:atB b (Z8 m.smiths k)
  ·rw [Yc ha,Yc (e1.trans ha),ih]
  ·rw [YH ha,YH (e1.trans ha),Nr,Nr,ih]
   have:Ym x (k:Int)=Ym m (k:Int):=by unfold Ym;rw [hg,Int.toNat_natCast];exact e2
   rw [this]
theorem Ei {m x:Z3} (b:Int) (hl:x.smiths.length=m.smiths.length) (hg:x.guilds=m.guilds) (hs:∀ i,i<m.smiths.length->atB b (Z8 x.smiths i)=atB b (Z8 m.smiths i)/\Qi m.guilds (Z8 x.smiths i)=Qi m.guilds (Z8 m.smiths i)):XD x b (-1)=XD m b (-1):=by
 rw [<-Mp,<-Mp,hl];exact Er b hg hs m.smiths.length (Nat.le_refl _)
theorem JF {m x:Z3} (r:Int) (hr:x.rooms=m.rooms) (hu:∀ b:Nat,XD x b (-1)=XD m b (-1)):∀ k,(∀ b,b<k->(Z8 x.desks b).1=(Z8 m.desks b).1)->Y2 x r k=Y2 m r k
 | 0,_=>rfl
 | k+1,ho=>by
  have ih:=JF r hr hu k (fun b hb=>ho b (by omega))
  show (if _ then _ else _)=(if _ then _ else _)
  rw [hr,ih,hu k,ho k (by omega)]
theorem Ea {m x:Z3} (hr:x.rooms=m.rooms) (hd:x.desks.length=m.desks.length) (ho:∀ b,b<m.desks.length->(Z8 x.desks b).1=(Z8 m.desks b).1) (hu:∀ b:Nat,XD x b (-1)=XD m b (-1)):Ng x=Ng m:=by
 have key:∀ k,UZ x k=UZ m k:=by
  intro k
  induction k with
  | zero=>rfl
  | succ k ih=>
   show UZ x k+Rx x k=UZ m k+Rx m k
   have e:Rx x k=Rx m k:=by
    unfold Rx
    rw [hr,hd,JF (k:Int) hr hu m.desks.length ho]
   rw [ih,e]
 unfold Ng
 rw [hr];exact key _
theorem DT (ss:List Z4) (b:Int) (d:Ys):(XC ss b d).1=d.1:=by
 unfold XC
 cases atV ss b ss.length<;>rfl
theorem DA (m:Z3):Ng (Z1 m)=Ng m:=by
 obtain ⟨e0,e1,_,_,e4,e5⟩:=ZQ m m.desks.length;refine Ea e0 e5 (fun b hb=> ?_) (fun b=>Ei _ e4 e1 fun i hi=> ?_)
 ·have:=Xd m b m.desks.length (Nat.le_refl _)
  rw [if_pos hb] at this
  show (Z8 (Zs m m.desks.length).desks b).1=_
  rw [this,DT]
 ·obtain ⟨t1,t2⟩:=NK (m:=m) hi
  refine ⟨?_,?_⟩
  ·rw [Dk,Dk,t1,t2]
  ·unfold Qi;rw [t2]
def CY (m:Z3) (k b:Nat):Z4:=(2,(b:Int),(Z8 m.smiths k).2.2.1,255,(Z8 m.smiths k).2.2.2.2.1,(Z8 m.smiths k).2.2.2.2.2.1,(Z8 m.smiths k).2.2.2.2.2.2.1,(Z8 m.desks b).2.2,(Z8 m.smiths k).2.2.2.2.2.2.2.2)
def D3 (m:Z3) (k b:Nat):Z3:=setS m k (CY m k b)
theorem CZ {b:Nat} (h:b<8):Wu 255 (b:Int)=true:=by
 have key:∀ k:Fin 8,Wu 255 (k.val:Int)=true:=by decide
 exact key ⟨b,h⟩
theorem Dd {m:Z3} (h:Loose m) {k b:Nat} (hk:k<m.smiths.length) (hs:(Z8 m.smiths k).1 ≠ 0) (hb:b<m.desks.length) (ho:(Z8 m.desks b).1=true):Loose (D3 m k b):=by
 obtain ⟨p,g1,b1⟩:=h.limits hk hs;have h8:=WZ h;have hmk:=UH (h.desk b hb)
 have hp:Zf (Us (Z8 m.smiths k) 255)=true:=by
  generalize Z8 m.smiths k=s at *;obtain ⟨st,be,rk,my,gu,lo',hi',hd,ca,ut,wk⟩:=s;obtain ⟨x0,x1,x2,x3,x4,x5,x6,x7,x8,x9⟩:=Zg p;exact UT x0 x1 x2 ⟨by omega,by omega⟩ x4 x5 x6 x7 x8 x9
 obtain ⟨k1,k2⟩:=FY (s:=Us (Z8 m.smiths k) 255) (had:=(Z8 m.desks b).2.2) h hp g1 hb ho (CZ (by omega)) (Qo (by omega) (by omega) (by omega) (by omega) (by omega) (by omega));exact h.setS hk k1 k2
theorem C4 {m:Z3} {k b:Nat} (hk:k<m.smiths.length):Ng (D3 m k b)=Ng (T6 m (k:Int) (b:Int)):=by
 have e1:∀ i,Z8 (D3 m k b).smiths i=if i=k then CY m k b else Z8 m.smiths i:=fun i=>ZH hk i
 refine Ea rfl rfl (fun _ _=>rfl) (fun c=>Ei _ ?_ rfl fun i hi=> ?_)
 ·unfold D3 setS T6;simp
 ·rw [e1,DN m hk]
  by_cases e:i=k
  ·rw [if_pos e,if_pos e];exact ⟨rfl,rfl⟩
  ·rw [if_neg e,if_neg e];exact ⟨rfl,rfl⟩
theorem C5 {m:Z3} (h:ZK m=true) {k b:Nat} (hk:k<m.smiths.length) (hs:(Z8 m.smiths k).1 ≠ 0) (hb:b<m.desks.length) (ho:(Z8 m.desks b).1=true):NL (XZ (D3 m k b))=Yp m (k:Int) (b:Int):=by
 have hl:=Dd (ZO h) hk hs hb ho
 unfold XZ
 rw [hl.mk']
 show NL (Z1 (D3 m k b))=_
 unfold NL
 rw [Zd hl]
 show Ng (Z1 (D3 m k b))=_
 rw [DA,C4 hk];rfl
theorem Dq {m:Z3} (h:Sane m) {r:Nat} (hr:r<m.rooms.length):0<=Rx m r:=by
 have hb:=RZ m (r:Int) h.few m.desks.length;have h8:=h.eight;have ha:=(Ze h.hall).2.2.1;have hro:Zq (ZV m.rooms r)=true:=QV ha hr
 unfold Rx Np
 generalize (Y2 m (r:Int) m.desks.length).1=mo at *;generalize (Y2 m (r:Int) m.desks.length).2=al at *;have h1:inB mo 0 1000000=true:=Zj (by omega) (by omega);have h2:inB al 0 1000000=true:=Zj (by omega) (by omega);have hbd:=Ny hro;have hp:=Mj mo (ZV m.rooms r).2 (by omega);rw [Kj hro h1];have h3:inB ((Sp mo (ZV m.rooms r).2:Nat):Int) 0 ((ZV m.rooms r).2.length-1)=true:=Zj (by omega) (by omega);rw [Pb hro h2 h3];have hr2:=Ok hro (k:=(((Sp mo (ZV m.rooms r).2:Nat):Int)).toNat) (by omega);generalize Z7 (ZV m.rooms r).2 (((Sp mo (ZV m.rooms r).2:Nat):Int)).toNat=p at *;rw [Ir (by omega) (by omega) (by omega) (by omega) (by omega) (by omega)];exact Int.ediv_nonneg (Int.mul_nonneg (by omega) (by omega)) (by omega)
theorem D8 {m:Z3} (h:Sane m):∀ k,k<=m.rooms.length->0<=UZ m k
 | 0,_=>by show (0:Int)<=0;omega
 | k+1,hk=>by
  have ih:=D8 h k (by omega);have:=Dq h (r:=k) (by omega)
  show 0<=UZ m k+Rx m k
  omega
theorem D9 (m:Z3) (who b:Int):V6 m who b= -1\/(0<=V6 m who b/\ZK m=true/\Vb m who=true/\V4 m b=true/\V6 m who b=Yp m who b):=by
 unfold V6
 by_cases h:(ZK m && (Vb m who && V4 m b))=true
 ·right
  rw [if_pos h];simp only [Bool.and_eq_true] at h;obtain ⟨h1,h2,h3⟩:=h;obtain ⟨k,rfl,hk,hs⟩:=Xp h2;exact ⟨D8 ((ZO h1).sane.with hk hs b) _ (Nat.le_refl _),h1,h2,h3,rfl⟩
 ·left;rw [if_neg h]
end Go.Proofs.YtnponpamjddpjaaGreat
