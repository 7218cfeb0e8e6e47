/- Part 29 of what the proof rests on. No condition but those that a theorem names. -/
import Derived.Test.YtffcgajndmhpkaaGreatDoorXw26
set_option maxHeartbeats 8000000
set_option maxRecDepth 100000
namespace Go.Proofs.YtffcgajndmhpkaaGreatDoor
open Go.ChangeShapes Go.WideShapes Go.ChangeAt Go.RowKit Go.Sort Go.Shelf
set_option linter.unusedVariables false
set_option maxRecDepth 100000
attribute [local go_sem] Oper.semAt_some
theorem Q8 {W X:World} (h:Below W.heap.size W X):KeepsOthers W X:=⟨h.size,fun k o hk _=>(h.block k (Array.getElem?_eq_some_iff.1 hk).1).trans hk⟩
theorem I4 {W X:World} (h:Below W.heap.size W X) {B:Nat} {t:TypeId} : KeepsBox B t W X:=fun v hv=>(h.block B hv.lt).trans hv
theorem VV {W X:World} (h:Below W.heap.size W X) {B:Nat} {t:TypeId} {v:Value} (hv:Boxed W B t v):Boxed X B t v:=(h.block B hv.lt).trans hv
def Rnd (w:World) (f:List Int->Int) (a0:Option Addr) (p0:Nat) (a1:Option Addr) (p1:Nat) (a2:Option Addr) (p2:Nat) (a3:Option Addr) (p3:Nat) (a4:Option Addr) (p4:Nat) (m:Z4) (pre:List Int) (W:World):Prop:=Boxed W (w.heap.size+1) 2 (.int .i64 (f pre))/\Bx w W w.heap.size a0 p0 a1 p1 a2 p2 a3 p3 a4 p4 m
theorem CB (w:World) (f:List Int->Int) (a0:Option Addr) (p0:Nat) (a1:Option Addr) (p1:Nat) (a2:Option Addr) (p2:Nat) (a3:Option Addr) (p3:Nat) (a4:Option Addr) (p4:Nat) (m:Z4) (hs:Smy w (.slice a0 m.rooms.length p0) (.slice a1 m.guilds.length p1) (.slice a2 m.smiths.length p2) (.slice a3 m.desks.length p3) (.slice a4 m.paces.length p4) m) {B:Nat} (hB:w.heap.size<=B):OwnFrom B (Rnd w f a0 p0 a1 p1 a2 p2 a3 p3 a4 p4 m):=by
 rintro pre W X row ⟨h1,h2⟩ hg hr
 have h4:=h2.bb.grown hg h2.bb.size (fun k e=>Nat.le_trans hB (hr k e).1)
 refine ⟨h1.kept hg (fun e=> ?_),hs.below h4,(hg.block _ h2.blk.lt (fun e=> ?_)).trans h2.blk,h4⟩
 ·obtain ⟨_,o,ho,hc⟩:=hr _ e.symm
  rw [show W.heap[w.heap.size+1]?=_ from h1] at ho;cases ho;cases hc
 ·obtain ⟨_,o,ho,hc⟩:=hr _ e.symm
  rw [show W.heap[w.heap.size]?=_ from h2.blk] at ho;cases ho;cases hc
theorem DQ {w W W1 W2:World} {f:List Int->Int} {a0 a1 a2 a3 a4:Option Addr} {p0 p1 p2 p3 p4:Nat} {m:Z4} {pre:List Int} {x v nl:Int} {B S:Nat} (hs:Smy w (.slice a0 m.rooms.length p0) (.slice a1 m.guilds.length p1) (.slice a2 m.smiths.length p2) (.slice a3 m.desks.length p3) (.slice a4 m.paces.length p4) m) (hko:KeepsOthers W W1) (hkb:KeepsBox S 2 W W1) (hb:Below W1.heap.size W1 W2) (hv:Boxed W1 (w.heap.size+1) 2 (.int .i64 nl)) (hK:Bx w W1 w.heap.size a0 p0 a1 p1 a2 p2 a3 p3 a4 p4 m) (hS:w.heap.size+1<S) (e:f (pre++[x])=v) :
  KeepsFrom B W (W2.setCell ⟨w.heap.size+1,0,none⟩ (.int .i64 v))/\KeepsBox S 2 W (W2.setCell ⟨w.heap.size+1,0,none⟩ (.int .i64 v))/\Rnd w f a0 p0 a1 p1 a2 p2 a3 p3 a4 p4 m (pre++[x]) (W2.setCell ⟨w.heap.size+1,0,none⟩ (.int .i64 v)):=by
 have hK2:=hK.next hb
 have hbb:Below w.heap.size w (W2.setCell ⟨w.heap.size+1,0,none⟩ (.int .i64 v)):=hK2.bb.setCell (p:=⟨w.heap.size+1,0,none⟩) (Nat.le_succ _) _
 refine ⟨((hko.trans (Q8 hb)).trans (KeepsOthers.setCell _ _ _)).from _,fun u hu=>(VV hb (hkb u hu)).other (by omega) _,?_,hs.below hbb,hK2.blk.other (a:=⟨w.heap.size+1,0,none⟩) (by show w.heap.size ≠ w.heap.size+1;omega) _,hbb⟩
 rw [e]
 exact (VV hb hv).set _
theorem EV (n:Nat) (hn:3<=n) {w:World} {v0 v1 v2 v3 v4:Value} {m:Z4} {r:Nat} (h:Smy w v0 v1 v2 v3 v4 m) (hS:Sane m) (hW:IW m) (hr:r<m.rooms.length):CallsIn Fence.wide n Tryz.prog 115 #[.agg #[v0,v1,v2,v3,v4,.int .i64 m.now],.int .i64 (r:Int)] w fun e w'=>e= .returned (.int .i64 (VN m (Rm (Ux m.rooms (r:Int)))))/\Below w.heap.size w w':=by
 have h1:1<=n:=by omega
 have hmo:Tryz.prog.follows .mixedOrders=true:=by kernel_rfl
 have hl:=hS.few
 have HW:=Z9 hW
 have Hs:=Z9 h
 clear hS hW
 obtain ⟨a0,p0,a1,p1,a2,p2,a3,p3,a4,p4,rfl,rfl,rfl,rfl,rfl,K⟩:=Bx.new h
 clear h
 obtain ⟨st,hst⟩:∃ st,Ux m.rooms (r:Int)=st:=⟨_,rfl⟩
 rw [hst]
 have Hst:=Z9 hst
 clear hst
 refine callsIn_of_wp_marks Tryz.func115 rfl trivial ?_ rfl
 simp only [Tryz.ntmps115,List.size_toArray,List.length_cons,List.length_nil,Nat.reduceAdd,Nat.reduceSub,Array.replicate_succ,Array.replicate_zero,List.push_toArray,List.append_toArray,List.nil_append,List.cons_append]
 gi_wp2_with fail
 have bN:=Boxed.new (w.alloc (.cells (S6 a0 p0 a1 p1 a2 p2 a3 p3 a4 p4 m) 32)) 2 (.int .i64 0)
 rw [World.size_alloc] at bN
 replace K:=K.alloc (.cells #[.int .i64 0] 2)
 generalize (w.alloc (.cells (S6 a0 p0 a1 p1 a2 p2 a3 p3 a4 p4 m) 32)).alloc (.cells #[.int .i64 0] 2)=W0 at *
 refine ⟨trivial,?_⟩
 refine (callsIn_wide.2 (Qt (r:Int) K.smy.rooms)).mono ?_
 rw [uh Hst]
 rintro e w1 ⟨rfl,hb⟩
 dsimp only
 replace bN:=VV hb bN
 replace K:=K.next hb
 clear hb Hst
 gi_wp2_with (refine ⟨trivial,?_⟩;gi_at_call 179;refine (Rl (n-1) _ _).mono ?_;rintro e w' ⟨rfl,rfl⟩)
 have bS:=Boxed.new w1 2 (.int .i64 st)
 have hsz:=K.bb.size
 refine wpIn_rangeFunc_ownG rfl h1 (gf:=230) (lb:=#[.pointer (some ⟨w1.heap.size,0,none⟩)]) rfl trivial (enters_of Tryz.func230 (by kernel_rfl) rfl)
  (Sc (n-1) (by omega) w1.heap.size st _ bS) (fun h k=>h.trans k) (KeepsBox.putObj (by simp)) (Below.refl _ _) (fun _=>rfl)
  (Rnd w (VN m) a0 p0 a1 p1 a2 p2 a3 p3 a4 p4 m) (fun _ _ _=>False)
  (CB w (VN m) a0 p0 a1 p1 a2 p2 a3 p3 a4 p4 m (uh Hs) (by simp;omega))
  (fun _ _ _ _ _ hs _ _=>hs)
  ⟨bN.alloc _,K.alloc _⟩
  (fun x=>{ tmps:=#[.agg (S6 a0 p0 a1 p1 a2 p2 a3 p3 a4 p4 m),.int .i64 (r:Int),.pointer (some ⟨w.heap.size,0,none⟩),undef,.int .i64 0,.pointer (some ⟨w.heap.size+1,0,none⟩),.int .i64 x,.pointer (some ⟨w.heap.size,0,none⟩),.agg #[.slice a0 m.rooms.length p0],.int .i64 (r:Int),.int .i64 st,.func (.func 230) #[] #[.pointer (some ⟨w1.heap.size,0,none⟩)],.int .i64 x,undef,undef,undef,undef,undef,undef,undef,undef,undef],defers:=[] }) ?assign ?body ?done ?stop
 case assign=>
  intro l x W K hK
  gi_wp2
  exact hK
 case body=>
  rintro l pre x W ⟨hv,hK⟩ hlt
  have hc:=hv.cell
  have hf:=hv.frozen
  obtain ⟨c0,c1,c2,c3,c4,c5⟩:=hK.cells
  obtain ⟨us,hus⟩:∃ q,Ze m x (-1)=q:=⟨_,rfl⟩
  have hub:=Tn m x (-1)
  rw [hus] at hub
  have Hus:=Z9 hus
  obtain ⟨q,hq⟩:∃ q,Tc m x=q:=⟨_,rfl⟩
  have HN:=Z9 (Ov m pre x)
  have hnb:=Dy m hl pre
  rw [hq,hus] at HN
  clear hus
  generalize VN m pre=nl at *
  gi_wp2_with fail
  refine ⟨trivial,fun _=>(by omega),?_⟩
  refine (CallsIn.inRound l (callsIn_wide.2 (JD hq hK.smy))).mono ?_
  rintro e W1 ⟨rfl,hb⟩
  dsimp only
  have hko:=Q8 hb
  have hkb:=I4 hb (B:=w1.heap.size) (t:=2)
  replace hv:=VV hb hv
  replace hK:=hK.next hb
  clear hb hc hf c0 c1 c2 c3 c4 c5
  cases q
  ·gi_wp2_with fail
   exact ⟨hko.from _,hkb,by rw [show Rnd w (VN m) a0 p0 a1 p1 a2 p2 a3 p3 a4 p4 m (pre++[x]) W1=(Boxed W1 (w.heap.size+1) 2 (.int .i64 (VN m (pre++[x])))/\Bx w W1 w.heap.size a0 p0 a1 p1 a2 p2 a3 p3 a4 p4 m) from rfl,uh HN];exact ⟨hv,hK⟩⟩
  have hc:=hv.cell
  have hf:=hv.frozen
  obtain ⟨c0,c1,c2,c3,c4,c5⟩:=hK.cells
  gi_wp2_with fail
  gi_region_with_o (refine ⟨trivial,fun _=>(by omega),?_⟩;gi_at_call 182;refine (CallsIn.inRound l (callsIn_wide.2 (IK (uh Hus) ?_ (uh HW) hl))).mono ?_;exact hK.smy.below (Below.refl _ _).drew;rintro e W2 ⟨rfl,hb2⟩;have Hb2:Hid (Below W1.heap.size W1 W2):=Z9 ⟨hb2.os,hb2.tape,hb2.output,hb2.size,hb2.block⟩;have hv2:=VV (uh Hb2) hv;have hc2:=hv2.cell;have hf2:=hv2.frozen;clear hb2)
  all_goals
   exact DQ (uh Hs) hko hkb (uh Hb2) hv hK bN.lt (by rw [uh HN];simp only [if_true];omega)
 case done=>
  rintro D ys W hD rfl ⟨hv,hK⟩ hDf
  have hc:=hv.cell
  gi_wp2
  refine ⟨by simp,.inl ⟨_,_,rfl,run_takeDeferred hDf,?_⟩⟩
  exact ⟨_,results_tmp rfl _ _ _,rfl,hK.bb.trans (belowK_b (w:=w) (Nat.le_refl _) W D _ _ (by simp at hD;omega) hDf rfl rfl)⟩
 case stop=>
  rintro D c pre W _ _ h _
  exact h.elim
theorem Ia {w:World} {v0 v1 v2 v3 v4:Value} {m:Z4} {r:Nat} (h:Smy w v0 v1 v2 v3 v4 m) (hS:Sane m) (hW:IW m) (hr:r<m.rooms.length):Calls Tryz.prog 115 #[.agg #[v0,v1,v2,v3,v4,.int .i64 m.now],.int .i64 (r:Int)] w fun e w'=>e= .returned (.int .i64 (VN m (Rm (Ux m.rooms (r:Int)))))/\Below w.heap.size w w':=callsIn_wide.1 (EV 3 (Nat.le_refl _) h hS hW hr)
end Go.Proofs.YtffcgajndmhpkaaGreatDoor
namespace Go.Proofs.YtffcgajndmhpkaaGreatDoor
open Go.ChangeShapes Go.WideShapes Go.ChangeAt Go.RowKit Go.Sort Go.Shelf
set_option linter.unusedVariables false
set_option maxRecDepth 100000
theorem Od {w:World} {v0 v1 v2 v3 v4:Value} {m:Z4} {room q:Int} (hq:XU m room=q) (h:Smy w v0 v1 v2 v3 v4 m):Calls Tryz.prog 53 #[.agg #[v0,v1,v2,v3,v4,.int .i64 m.now],.int .i64 room] w fun e w'=>e= .returned (.int .i64 q)/\Below w.heap.size w w':=by
 have Hq:=Z9 hq
 clear hq
 obtain ⟨ok,hok⟩:∃ q,ZP m=q:=⟨_,rfl⟩
 have Hok:=Z9 hok
 clear hok
 obtain ⟨a0,p0,a1,p1,a2,p2,a3,p3,a4,p4,rfl,rfl,rfl,rfl,rfl,K⟩:=Bx.new h
 clear h
 go_enter Tryz.func53,Tryz.ntmps53
 go_wp2_with fail
 generalize w.alloc (.cells (S6 a0 p0 a1 p1 a2 p2 a3 p3 a4 p4 m) 32)=W at *
 refine ck (SP _ _ _ _ _ _ _ _ (uh Hok) K.smy) fun w1 hb=> ?_
 replace K:=K.next hb
 clear hb
 cases ok
 ·obtain rfl:q= -1:=by rw [<-uh Hq];unfold XU;rw [uh Hok];simp
  go_wp2_with fail
  go_ret
  exact ⟨rfl,K.bb⟩
 obtain ⟨qr,hqr⟩:∃ q,Yu m room=q:=⟨_,rfl⟩
 have Hr:=Z9 hqr
 clear hqr
 obtain ⟨c0,c1,c2,c3,c4,c5⟩:=K.cells
 go_wp2_with fail
 refine ck (PW (uh Hr) K.smy) fun w2 hb=> ?_
 replace K:=K.next hb
 clear hb c0 c1 c2 c3 c4 c5
 cases qr
 ·obtain rfl:q= -1:=by rw [<-uh Hq];unfold XU;rw [uh Hr];simp
  go_wp2_with fail
  go_ret
  exact ⟨rfl,K.bb⟩
 obtain ⟨r,rfl,hr⟩:=VG (uh Hr)
 have HL:=Z9 (ZY (uh Hok))
 obtain rfl:q=VN m (Rm (Ux m.rooms (r:Int))):=by rw [<-uh Hq,(Fe (uh HL).sane hr).1];unfold XU;rw [uh Hr,uh Hok];rfl
 obtain ⟨c0,c1,c2,c3,c4,c5⟩:=K.cells
 go_wp2_with fail
 refine ck (Ia K.smy (uh HL).sane (uh HL).wants hr) fun w3 hb=> ?_
 replace K:=K.next hb
 clear hb c0 c1 c2 c3 c4 c5
 go_wp2_with fail
 go_ret
 exact ⟨rfl,K.bb⟩
open Go.ChangeShapes Go.WideShapes Go.ChangeAt Go.RowKit Go.Sort
set_option maxRecDepth 100000
theorem OW {w:World} {v0 v1 v2 v3 v4:Value} {m:Z4} {room q:Int} (hq:XU m room=q) (h:Smy w v0 v1 v2 v3 v4 m):Calls Tryz.prog 24 #[.agg #[v0,v1,v2,v3,v4,.int .i64 m.now],.int .i64 room] w fun e w'=>e= .returned (.int .i64 q)/\Below w.heap.size w w':=by
 have Hq:=Z9 hq
 clear hq
 obtain ⟨ok,hok⟩:∃ q,ZP m=q:=⟨_,rfl⟩
 have Hok:=Z9 hok
 clear hok
 obtain ⟨a0,p0,a1,p1,a2,p2,a3,p3,a4,p4,rfl,rfl,rfl,rfl,rfl,K⟩:=Bx.new h
 clear h
 go_enter Tryz.func24,Tryz.ntmps24
 go_wp2_with fail
 generalize w.alloc (.cells (S6 a0 p0 a1 p1 a2 p2 a3 p3 a4 p4 m) 32)=W at *
 refine ck (XX (uh Hok) K.smy) fun w1 hb=> ?_
 replace K:=K.next hb
 clear hb
 cases ok
 ·obtain rfl:q= -1:=by rw [<-uh Hq];unfold XU;rw [uh Hok];simp
  go_wp2_with fail
  go_ret
  exact ⟨rfl,K.bb⟩
 obtain ⟨qr,hqr⟩:∃ q,Yu m room=q:=⟨_,rfl⟩
 have Hr:=Z9 hqr
 clear hqr
 obtain ⟨c0,c1,c2,c3,c4,c5⟩:=K.cells
 go_wp2_with fail
 refine ck (Qx (uh Hr) K.smy) fun w2 hb=> ?_
 replace K:=K.next hb
 clear hb c0 c1 c2 c3 c4 c5
 cases qr
 ·obtain rfl:q= -1:=by rw [<-uh Hq];unfold XU;rw [uh Hr];simp
  go_wp2_with fail
  go_ret
  exact ⟨rfl,K.bb⟩
 obtain rfl:q=(ZJ m room m.desks.length).1:=by rw [<-uh Hq];unfold XU;rw [uh Hr,uh Hok];rfl
 have HS:=Z9 (ZY (uh Hok)).sane
 obtain ⟨c0,c1,c2,c3,c4,c5⟩:=K.cells
 go_wp2_with fail
 refine ck (SV room K.smy (uh HS)) fun w3 hb=> ?_
 replace K:=K.next hb
 clear hb c0 c1 c2 c3 c4 c5
 go_wp2_with fail
 go_ret
 exact ⟨rfl,K.bb⟩
def cnt (p:Nat->Bool):Nat->Nat
 | 0=>0
 | n+1=>cnt p n+(if p n then 1 else 0)
theorem CY (p:Nat->Bool):∀ n,cnt p n<=n
 | 0=>Nat.le_refl _
 | n+1=>by
  have:=CY p n
  unfold cnt
  split<;>omega
theorem NL {p q:Nat->Bool} : ∀ n,(∀ i,i<n->p i=true->q i=true)->cnt p n<=cnt q n
 | 0,_=>Nat.le_refl _
 | n+1,h=>by
  have ih:=NL n (fun i hi=>h i (by omega))
  have hn:=h n (by omega)
  unfold cnt
  cases hp:p n
  ·simp;omega
  ·rw [hn hp];simp;exact ih
theorem Rb {p q:Nat->Bool} {x:Nat} (hp:p x=true) (hq:q x=false):∀ n,x<n->(∀ i,i<n->q i=true->p i=true)->cnt q n+1<=cnt p n
 | 0,hx,_=>by omega
 | n+1,hx,h=>by
  unfold cnt
  by_cases e:x=n
  ·subst e
   have:=NL (p:=q) (q:=p) x (fun i hi=>h i (by omega))
   rw [hp,hq];simp;exact this
  ·have ih:=Rb hp hq n (by omega) (fun i hi=>h i (by omega))
   have hn:=h n (by omega)
   cases hqn:q n
   ·simp;omega
   ·rw [hn hqn];simp;exact ih
theorem FI (q:Nat->Bool) (y:Nat):∀ n,cnt q n<=cnt (fun i=>q i && !(i ==y)) n+1
 | 0=>by simp [cnt]
 | n+1=>by
  unfold cnt
  by_cases e:n=y
  ·subst e
   have:=NL (p:=q) (q:=fun i=>q i && !(i ==n)) n (fun i hi hqi=>by
    simp only [hqi,Bool.true_and,Bool.not_eq_true',beq_eq_false_iff_ne];omega)
   simp only [beq_self_eq_true,Bool.not_true,Bool.and_false]
   split<;>simp<;>omega
  ·have ih:=FI q y n
   have he:(n ==y)=false:=by simpa using e
   simp only [he,Bool.not_false,Bool.and_true]
   omega
theorem CZ {p q:Nat->Bool} {x y n:Nat} (hx:x<n) (hp:p x=true) (hq:q x=false) (h:∀ i,i<n->i ≠ y->q i=true->p i=true):cnt q n<=cnt p n:=by
 have h1:=FI q y n
 have h2:=Rb (p:=p) (q:=fun i=>q i && !(i ==y)) hp (by simp [hq]) n hx (fun i hi hqi=>by
  simp only [Bool.and_eq_true,Bool.not_eq_true',beq_eq_false_iff_ne] at hqi
  exact h i hi hqi.2 hqi.1)
 omega
def WA (m:Z4) (b:Nat):Bool:=(Z8 m.desks b).1 && decide ((atV m.smiths b m.smiths.length).length=0)
def Sg (m:Z4) (i:Nat):Bool:=ZR (Z8 m.smiths i) && !VM (Zo m (i:Int)) 0 (YU m.rooms (Z8 m.smiths i).2.1)
def NZ (m:Z4) (w b:Nat):Bool:=WA m b && (Yb m (w:Int) b && VM (Zo m (w:Int)) 0 (YU m.rooms (b:Int)))
def Wi (m:Z4) (w:Nat):Nat->Option Nat
 | 0=>none
 | k+1=>match Wi m w k with
  | some b=>some b
  | none=>if NZ m w k then some k else none
def Rn (m:Z4) (w:Nat):Option Nat:=if Sg m w then Wi m w m.desks.length else none
def Un (m:Z4):Nat->Option (Nat × Nat)
 | 0=>none
 | k+1=>match Un m k with
  | some r=>some r
  | none=>(Rn m k).map fun b=>(k,b)
def VD (m:Z4):Option (Nat × Nat):=if ZP m then Un m m.smiths.length else none
def Qd (m:Z4) (w b:Nat):Bool:=(Z8 m.smiths w).1 ==2 && Yb m (w:Int) b
def VU (m:Z4) (b:Nat):Nat->Option Nat
 | 0=>none
 | k+1=>match VU m b k with
  | some w=>some w
  | none=>if Qd m k b then some k else none
def QY (m:Z4) (b:Nat):Option Nat:=if WA m b then VU m b m.smiths.length else none
def Xi (m:Z4):Nat->Option (Nat × Nat)
 | 0=>none
 | k+1=>match Xi m k with
  | some r=>some r
  | none=>(QY m k).map fun w=>(w,k)
def V7 (m:Z4):Option (Nat × Nat):=if ZP m then Xi m m.desks.length else none
def Vg (m:Z4):Option (Nat × Nat):=match VD m with
 | some r=>some r
 | none=>V7 m
theorem Mj {m:Z4} {w b:Nat} : ∀ {k},Wi m w k=some b->b<k/\NZ m w b=true
 | 0,h=>by cases h
 | k+1,h=>by
  unfold Wi at h
  cases hg:Wi m w k with
  | some b'=>
   rw [hg] at h
   cases h
   have:=Mj hg
   exact ⟨by omega,this.2⟩
  | none=>
   rw [hg] at h
   simp only at h
   split at h
   ·rename_i hh
    cases h
    exact ⟨by omega,hh⟩
   ·cases h
theorem JY {m:Z4} {w b:Nat} : ∀ {k},Un m k=some (w,b)->w<k/\Sg m w=true/\b<m.desks.length/\NZ m w b=true
 | 0,h=>by cases h
 | k+1,h=>by
  unfold Un at h
  cases hg:Un m k with
  | some r=>
   rw [hg] at h
   cases h
   have:=JY hg
   exact ⟨by omega,this.2⟩
  | none=>
   rw [hg] at h
   simp only [Option.map_eq_some_iff,Prod.mk.injEq] at h
   obtain ⟨b',hb',rfl,rfl⟩:=h
   unfold Rn at hb'
   split at hb'
   ·rename_i hh
    have:=Mj hb'
    exact ⟨by omega,hh,this⟩
   ·cases hb'
theorem MV {m:Z4} {w b:Nat} : ∀ {k},VU m b k=some w->w<k/\Qd m w b=true
 | 0,h=>by cases h
 | k+1,h=>by
  unfold VU at h
  cases hg:VU m b k with
  | some w'=>
   rw [hg] at h
   cases h
   have:=MV hg
   exact ⟨by omega,this.2⟩
  | none=>
   rw [hg] at h
   simp only at h
   split at h
   ·rename_i hh
    cases h
    exact ⟨by omega,hh⟩
   ·cases h
theorem Pc {m:Z4} {w b:Nat} : ∀ {k},Xi m k=some (w,b)->b<k/\WA m b=true/\w<m.smiths.length/\Qd m w b=true
 | 0,h=>by cases h
 | k+1,h=>by
  unfold Xi at h
  cases hg:Xi m k with
  | some r=>
   rw [hg] at h
   cases h
   have:=Pc hg
   exact ⟨by omega,this.2⟩
  | none=>
   rw [hg] at h
   simp only [Option.map_eq_some_iff,Prod.mk.injEq] at h
   obtain ⟨b',hb',rfl,rfl⟩:=h
   unfold QY at hb'
   split at hb'
   ·rename_i hh
    have:=MV hb'
    exact ⟨by omega,hh,this⟩
   ·cases hb'
def UM (m:Z4) (w b:Nat):Z4:=setS m w (putS m (Z8 m.smiths w) (b:Int))
def Vh (m:Z4) (w b:Nat):Z4:=ZX (UM m w b)
structure Moves (m:Z4) (w b:Nat):Prop where
 right:ZP m=true
 who:w<m.smiths.length
 bench:b<m.desks.length
 pres:ZR (Z8 m.smiths w)=true
 may:Yb m (w:Int) b=true
 idle:WA m b=true
 why:(Sg m w=true/\VM (Zo m (w:Int)) 0 (YU m.rooms (b:Int))=true)\/(Z8 m.smiths w).1=2
theorem ET {m:Z4} {w b:Nat} (h:VD m=some (w,b)):Moves m w b:=by
 unfold VD at h
 split at h
 ·rename_i hr
  obtain ⟨h1,h2,h3,h4⟩:=JY h
  unfold NZ at h4
  simp only [Bool.and_eq_true] at h4
  have h2':=h2
  unfold Sg at h2'
  simp only [Bool.and_eq_true] at h2'
  exact ⟨hr,h1,h3,h2'.1,h4.2.1,h4.1,.inl ⟨h2,h4.2.2⟩⟩
 ·cases h
theorem H8 {m:Z4} {w b:Nat} (h:V7 m=some (w,b)):Moves m w b:=by
 unfold V7 at h
 split at h
 ·rename_i hr
  obtain ⟨h1,h2,h3,h4⟩:=Pc h
  unfold Qd at h4
  simp only [Bool.and_eq_true,beq_iff_eq] at h4
  exact ⟨hr,h3,h1,by unfold ZR;rw [h4.1];rfl,h4.2,h2,.inr h4.1⟩
 ·cases h
theorem S9 {m:Z4} {w b:Nat} (h:Vg m=some (w,b)):Moves m w b:=by
 unfold Vg at h
 cases hm:VD m with
 | some r=>rw [hm] at h;cases h;exact ET hm
 | none=>rw [hm] at h;exact H8 h
theorem Moves.loose {m:Z4} {w b:Nat} (h:Moves m w b):Loose (UM m w b):=by
 have hlo:=ZY h.right
 obtain ⟨p,g1,b1⟩:=hlo.limits h.who (by intro e;have:=h.pres;unfold ZR at this;rw [e] at this;cases this)
 obtain ⟨a0,a1,a2,a3,a4⟩:=hlo.at h.who h.pres
 have hm:=h.may
 unfold Yb at hm
 simp only [Bool.and_eq_true,Int.toNat_natCast] at hm
 have:=Oj (m:=m) hlo (s:=Z8 m.smiths w) (b:=b) p h.pres g1 a0 a1 a4 h.bench hm.1 hm.2
 exact hlo.setS h.who this.1 this.2
theorem Moves.keeps {m:Z4} {w b:Nat} (h:Moves m w b):ZP (Vh m w b)=true:=Y4 h.loose
theorem Lk {ss:List Z3} {b:Int} {n:Nat} : (atV ss b n).length=0 ↔ ∀ i,i<n-> ¬ ((Z8 ss i).2.1=b/\ZR (Z8 ss i)=true):=by
 constructor
 ·intro h i hi hp
  have hm:(XG (Z8 ss i),(i:Int)) ∈ atV ss b n:=(Yt ss b _ n).2 ⟨i,hi,hp.1,hp.2,rfl⟩
  rw [List.length_eq_zero_iff.1 h] at hm
  cases hm
 ·intro h
  rw [List.length_eq_zero_iff]
  refine List.eq_nil_iff_forall_not_mem.2 fun e he=> ?_
  obtain ⟨i,hi,h1,h2,_⟩:=(Yt ss b e n).1 he
  exact h i hi ⟨h1,h2⟩
theorem Rs {m:Z4} {w b:Nat} (hw:w<m.smiths.length) (i:Nat):Z8 (UM m w b).smiths i=if i=w then putS m (Z8 m.smiths w) (b:Int) else Z8 m.smiths i:=ZK hw i
theorem Vj (m:Z4) (w b:Nat):(UM m w b).smiths.length=m.smiths.length:=by unfold UM setS;simp
theorem MQ {m:Z4} {i:Nat} (hi:i<m.smiths.length):(Z8 (ZX m).smiths i).2=(Z8 m.smiths i).2:=by
 unfold ZX
 rw [Xt m hi]
 split<;>rfl
theorem Fw {m:Z4} {i:Nat} (hi:i<m.smiths.length):ZR (Z8 (ZX m).smiths i)=ZR (Z8 m.smiths i):=(Xs m m.desks.length i hi).2.1
theorem Fu (m:Z4) {b:Nat} (hb:b<m.desks.length):WA (ZX m) b=WA m b:=by
 unfold WA ZX
 rw [QX,Vr m b _ (Nat.le_refl _),if_pos hb]
 congr 1
 unfold Xh
 split<;>rfl
theorem Eg (m:Z4) {i:Nat} (hi:i<m.smiths.length):Sg (ZX m) i=Sg m i:=by
 have h1:Zo (ZX m) (i:Int)=Zo m (i:Int):=by
  unfold Zo RH
  rw [Int.toNat_natCast,MQ hi,show (ZX m).guilds=m.guilds from (ZQ m m.desks.length).2.1]
 unfold Sg
 rw [Fw hi,h1,MQ hi,show (ZX m).rooms=m.rooms from (ZQ m m.desks.length).1]
def PX (m:Z4):Nat:=cnt (WA m) m.desks.length
def LP (m:Z4):Nat:=cnt (Sg m) m.smiths.length
def Tt (m:Z4):Nat:=13*PX m+LP m
theorem Je {p q:Nat->Bool} (n:Nat) (h:∀ i,i<n->p i=q i):cnt p n=cnt q n:=
 Nat.le_antisymm (NL n fun i hi hp=>by rw [<-h i hi];exact hp) (NL n fun i hi hp=>by rw [h i hi];exact hp)
theorem II (m:Z4):PX (ZX m)=PX m:=by
 unfold PX
 rw [show (ZX m).desks.length=m.desks.length from (ZQ m m.desks.length).2.2.2.2.2]
 exact Je _ fun i hi=>Fu m hi
theorem Fv (m:Z4):LP (ZX m)=LP m:=by
 unfold LP
 rw [show (ZX m).smiths.length=m.smiths.length from (ZQ m m.desks.length).2.2.2.2.1]
 exact Je _ fun i hi=>Eg m hi
theorem DI {m:Z4} {w b:Nat} (hw:w<m.smiths.length) (hp:ZR (Z8 m.smiths w)=true):WA (UM m w b) b=false:=by
 unfold WA
 rw [decide_eq_false,Bool.and_false]
 intro h
 refine Lk.1 h w (by rw [Vj];exact hw) ?_
 rw [Rs hw,if_pos rfl]
 exact ⟨rfl,hp⟩
theorem Kl {m:Z4} {w b j:Nat} (hw:w<m.smiths.length) (hj:(Z8 m.smiths w).2.1 ≠ (j:Int)) (h:WA (UM m w b) j=true):WA m j=true:=by
 unfold WA at h ⊢
 simp only [Bool.and_eq_true,decide_eq_true_eq] at h ⊢
 refine ⟨h.1,Lk.2 fun i hi hp=> ?_⟩
 have:=Lk.1 h.2 i (by rw [Vj];exact hi)
 rw [Rs hw] at this
 by_cases e:i=w
 ·subst e;exact hj hp.1
 ·rw [if_neg e] at this;exact this hp
theorem CA {m:Z4} {w b i:Nat} (hw:w<m.smiths.length) (hi:i ≠ w):Sg (UM m w b) i=Sg m i:=by
 unfold Sg Zo
 rw [Int.toNat_natCast,Rs hw,if_neg hi]
 rfl
theorem DJ {m:Z4} {w b:Nat} (hw:w<m.smiths.length) (h:VM (Zo m (w:Int)) 0 (YU m.rooms (b:Int))=true):Sg (UM m w b) w=false:=by
 unfold Sg Zo
 rw [Int.toNat_natCast,Rs hw,if_pos rfl]
 have e:RH (UM m w b).guilds (putS m (Z8 m.smiths w) (b:Int))=Zo m (w:Int):=by
  unfold Zo
  rw [Int.toNat_natCast]
  rfl
 rw [e]
 show (_ && !VM _ 0 (YU m.rooms (b:Int)))=false
 rw [h];simp
theorem IQ {m:Z4} (h:ZP m=true) {w:Nat} (hw:w<m.smiths.length) (h2:(Z8 m.smiths w).1=2):∃ i,i<m.smiths.length/\i ≠ w/\(Z8 m.smiths i).2.1=(Z8 m.smiths w).2.1/\ZR (Z8 m.smiths i)=true:=by
 have hlo:=ZY h
 have hp:ZR (Z8 m.smiths w)=true:=by unfold ZR;rw [h2];rfl
 obtain ⟨a0,a1,_⟩:=hlo.at hw hp
 obtain ⟨b,hb⟩:∃ b:Nat,(Z8 m.smiths w).2.1=(b:Int):=⟨(Z8 m.smiths w).2.1.toNat,by omega⟩
 have hbl:b<m.desks.length:=by omega
 have hok:YC m b=true:=by
  unfold ZP at h
  simp only [Bool.and_eq_true] at h
  exact Lg h.2 hbl
 rw [<-MP] at hok
 unfold VT at hok
 split at hok
 ·simp only [decide_eq_true_eq,List.length_eq_zero_iff] at hok
  have:(w:Int) ∈ ZW (atB (b:Int)) m.smiths m.smiths.length:=(Xu _ _ _ _).2 ⟨w,hw,rfl,by unfold atB;rw [h2,hb];simp⟩
  rw [hok] at this
  cases this
 ·simp only [Bool.and_eq_true,decide_eq_true_eq] at hok
  have hx:Z8 (ZW (Zm (b:Int)) m.smiths m.smiths.length) 0 ∈ ZW (Zm (b:Int)) m.smiths m.smiths.length:=Uu (by omega)
  obtain ⟨i,hi,_,hwk⟩:=(Xu _ _ _ _).1 hx
  unfold Zm at hwk
  simp only [Bool.and_eq_true,beq_iff_eq] at hwk
  exact ⟨i,hi,fun e=>by subst e;omega,by rw [hb];exact hwk.2,by unfold ZR;rw [hwk.1];rfl⟩
theorem Moves.falls {m:Z4} {w b:Nat} (h:Moves m w b):Tt (Vh m w b)<Tt m:=by
 unfold Tt Vh
 rw [II,Fv]
 have hlo:=ZY h.right
 have h12:=Zk hlo
 obtain ⟨a0,a1,_⟩:=hlo.at h.who h.pres
 have hmb:=CY (Sg (UM m w b)) m.smiths.length
 have hbusy:=DI (b:=b) h.who h.pres
 rcases h.why with ⟨hmis,hfit⟩ | hwait
 ·have e1:PX (UM m w b)<=PX m:=CZ (y:=(Z8 m.smiths w).2.1.toNat) h.bench h.idle hbusy fun i hi hne hq=>Kl h.who (by omega) hq
  have e2:LP (UM m w b)+1<=LP m:=by
   unfold LP
   rw [Vj]
   refine Rb hmis (DJ h.who hfit) _ h.who fun i hi hq=> ?_
   by_cases e:i=w
   ·subst e;exact hmis
   ·rw [CA h.who e] at hq;exact hq
  omega
 ·have e1:PX (UM m w b)+1<=PX m:=by
   refine Rb h.idle hbusy _ h.bench fun j hj hq=> ?_
   by_cases e:(Z8 m.smiths w).2.1=(j:Int)
   ·exfalso
    obtain ⟨i,hi,hiw,hbe,hpr⟩:=IQ h.right h.who hwait
    unfold WA at hq
    simp only [Bool.and_eq_true,decide_eq_true_eq] at hq
    have:=Lk.1 hq.2 i (by rw [Vj];exact hi)
    rw [Rs h.who,if_neg hiw] at this
    exact this ⟨by rw [hbe,e],hpr⟩
   ·exact Kl h.who e hq
  have e2:LP (UM m w b)<=12:=by
   unfold LP
   rw [Vj]
   omega
  omega
def Vd:Nat->Z4->Z4
 | 0,m=>m
 | k+1,m=>match Vg m with
  | none=>m
  | some (w,b)=>Vd k (Vh m w b)
def UL (m:Z4):Z4:=Vd (Tt m+1) m
theorem P2:∀ (j k:Nat) (m:Z4),Tt m<j->Tt m<k->Vd j m=Vd k m
 | 0,_,_,h,_=>by omega
 | _+1,0,_,_,h=>by omega
 | j+1,k+1,m,hj,hk=>by
  show (match Vg m with | none=>m | some (w,b)=>Vd j (Vh m w b))=(match Vg m with | none=>m | some (w,b)=>Vd k (Vh m w b))
  cases hm:Vg m with
  | none=>rfl
  | some r=>
   obtain ⟨w,b⟩:=r
   have hf:=(S9 hm).falls
   exact P2 j k (Vh m w b) (by omega) (by omega)
theorem JQ {m:Z4} (h:Vg m=none):UL m=m:=by
 unfold UL Vd
 rw [h]
theorem Ms {m:Z4} {w b:Nat} (h:Vg m=some (w,b)):UL m=UL (Vh m w b):=by
 have hf:=(S9 h).falls
 have:UL m=Vd (Tt m) (Vh m w b):=by
  show (match Vg m with | none=>m | some (w,b)=>Vd (Tt m) (Vh m w b))=_
  rw [h]
 rw [this]
 exact P2 _ _ _ (by omega) (by omega)
theorem Rj:∀ (k:Nat) (m:Z4),ZP m=true->ZP (Vd k m)=true
 | 0,m,h=>h
 | k+1,m,h=>by
  unfold Vd
  cases hm:Vg m with
  | none=>exact h
  | some r=>
   obtain ⟨w,b⟩:=r
   exact Rj k (Vh m w b) (S9 hm).keeps
theorem JR {m:Z4} (h:ZP m=true):ZP (UL m)=true:=Rj _ m h
def WJ (m:Z4):Z4:=if ZP m then UL m else YJ
set_option maxRecDepth 100000
theorem Sb {w:World} {v0 v1 v2 v3 v4:Value} {m:Z4} {r:Nat} (h:Smy w v0 v1 v2 v3 v4 m) (hS:Sane m) (hr:r<m.rooms.length) :
  Calls Tryz.prog 59 #[.agg #[v0,v1,v2,v3,v4,.int .i64 m.now],.int .i64 (r:Int)] w fun e w'=>e= .returned (.int .i64 (WV m r))/\Below w.heap.size w w':=by
 have Hv:=Z9 (h.alloc (.cells #[v0,v1,v2,v3,v4,.int .i64 m.now] 32))
 obtain ⟨a0,p0,a1,p1,a2,p2,a3,p3,a4,p4,rfl,rfl,rfl,rfl,rfl,_,_,_,_,_,_,_,_,_,_⟩:=h.five
 clear h
 have kb:Hid (Blk (w.alloc (.cells (S6 a0 p0 a1 p1 a2 p2 a3 p3 a4 p4 m) 32)) w.heap.size 32 (S6 a0 p0 a1 p1 a2 p2 a3 p3 a4 p4 m)):=Z9 (Blk.new w _ _)
 have BB:Hid (Below w.heap.size w (w.alloc (.cells (S6 a0 p0 a1 p1 a2 p2 a3 p3 a4 p4 m) 32))):=Z9 ((ba _ _))
 obtain ⟨x,hx⟩:∃ x,WV m r=x:=⟨_,rfl⟩
 rw [hx]
 obtain ⟨ms,hms⟩:∃ q,ZJ m (r:Int) m.desks.length=q:=⟨_,rfl⟩
 have Hx:Hid (Yi (Z0 m.rooms r) ms.1=x):=Z9 (by rw [<-hx,<-hms];rfl)
 have Hms:=Z9 hms
 have HS:=Z9 hS
 have hr1:(r:Int)<(m.rooms.length:Int):=by omega
 clear hx hms hS
 obtain ⟨mo,al⟩:=ms
 go_enter Tryz.func59,Tryz.ntmps59
 go_wp2_with fail
 generalize w.alloc (.cells (S6 a0 p0 a1 p1 a2 p2 a3 p3 a4 p4 m) 32)=W at *
 refine (SV (r:Int) (uh Hv) (uh HS)).mono ?_
 rw [uh Hms]
 rintro e w1 ⟨rfl,hb⟩
 replace Hv:=Z9 ((uh Hv).below hb)
 replace kb:=bl kb hb
 replace BB:=bt BB hb
 clear hb
 obtain ⟨_,_,hre,_,_,r0⟩:=(uh Hv).rooms
 cases hre
 rcases r0 with e0 | ⟨rb,off,rfl,hbw,hcl⟩
 ·rw [e0] at hr;simp at hr
 obtain ⟨d0,pv,d1,hpv⟩:=hcl r hr
 have Hpv:=Z9 hpv
 obtain ⟨pa,pc,rfl,_,_,_⟩:=hpv
 obtain ⟨⟨bn,ps⟩,hrm⟩:∃ q,Z0 m.rooms r=q:=⟨_,rfl⟩
 rw [hrm] at d0 d1 Hpv Hx
 simp only at d0 d1
 clear hcl hrm
 have c0:=(uh kb).cell (i:=0) (v:= .slice (some ⟨rb,off,none⟩) m.rooms.length p0) rfl
 go_wp2_with fail
 refine ck (Tz bn mo (uh Hpv)) fun w2 hb=> ?_
 replace BB:=bt BB hb
 clear hb
 go_wp2_with fail
 go_ret
 exact ⟨ZI (uh Hx),uh BB⟩
theorem PY {w:World} {v0 v1 v2 v3 v4:Value} {m:Z4} {b:Nat} (h:Smy w v0 v1 v2 v3 v4 m) (hb0:b<m.desks.length) (hl:m.smiths.length<=800) :
  Calls Tryz.prog 306 #[.agg #[v0,v1,v2,v3,v4,.int .i64 m.now],.int .i64 (b:Int)] w fun e w'=>e= .returned (.bool (WA m b))/\Below w.heap.size w w':=by
 have Hv:=Z9 (h.alloc (.cells #[v0,v1,v2,v3,v4,.int .i64 m.now] 32))
 obtain ⟨a0,p0,a1,p1,a2,p2,a3,p3,a4,p4,rfl,rfl,rfl,rfl,rfl,_,_,_,_,_,_,_,_,_,_⟩:=h.five
 clear h
 have kb:Hid (Blk (w.alloc (.cells (S6 a0 p0 a1 p1 a2 p2 a3 p3 a4 p4 m) 32)) w.heap.size 32 (S6 a0 p0 a1 p1 a2 p2 a3 p3 a4 p4 m)):=Z9 (Blk.new w _ _)
 have BB:Hid (Below w.heap.size w (w.alloc (.cells (S6 a0 p0 a1 p1 a2 p2 a3 p3 a4 p4 m) 32))):=Z9 ((ba _ _))
 have hb1:(b:Int)<(m.desks.length:Int):=by omega
 obtain ⟨qs,hqs⟩:∃ q,atV m.smiths (b:Int) m.smiths.length=q:=⟨_,rfl⟩
 obtain ⟨op,hop⟩:∃ q,(Z8 m.desks b).1=q:=⟨_,rfl⟩
 have hI:WA m b=(op && decide (qs.length=0)):=by unfold WA;rw [hqs,hop]
 rw [hI]
 have Hqs:=Z9 hqs
 have Hop:=Z9 hop
 clear hI hqs hop
 go_enter Tryz.func306,Tryz.ntmps306
 go_upto_region 1 with fail
 generalize w.alloc (.cells (S6 a0 p0 a1 p1 a2 p2 a3 p3 a4 p4 m) 32)=W at *
 obtain ⟨_,_,hde,_,_,r3⟩:=(uh Hv).desks
 cases hde
 rcases r3 with e0 | ⟨db,off,rfl,hbw,hcl⟩
 ·rw [e0] at hb0;simp at hb0
 obtain ⟨d0,_,_⟩:=Zp hcl hb0
 rw [uh Hop] at d0
 clear hcl Hop
 obtain ⟨c0,c1,c2,c3,c4,c5⟩:=(uh kb).c6
 cases op
 ·go_wp2_with fail
  go_ret
  exact ⟨rfl,uh BB⟩
 go_wp2_with fail
 refine (Sr (b:Int) (uh Hv) (by omega)).mono ?_
 rw [uh Hqs]
 rintro e w2 ⟨v',rfl,he,hb⟩
 obtain ⟨ua,uc,rfl⟩:=EntsAt.shape he
 replace BB:=bt BB hb
 clear hb he c0 c1 c2 c3 c4 c5
 go_wp2_with fail
 go_ret
 exact ⟨Z5 (by rw [Bool.true_and,Bool.eq_iff_iff];simp only [beq_iff_eq,decide_eq_true_eq];omega),uh BB⟩
set_option maxRecDepth 100000
def Yp (m:Z4) (r:Int):Int:=if ZP m && Yu m r then WV m r.toNat else -1
theorem Ou {m:Z4} {r:Int} (h:ZP m=true) (hr:Yu m r=true):XU m r=(ZJ m r m.desks.length).1:=by unfold XU;rw [h,hr];rfl
theorem J0 {m:Z4} {r:Int} : XU m r= -1 ↔ (ZP m && Yu m r)=false:=by
 unfold XU
 constructor
 ·intro h
  cases hb:(ZP m && Yu m r)
  ·rfl
  ·rw [hb,if_pos rfl] at h
   simp only [Bool.and_eq_true] at hb
   have:=Wo m r (Zk (ZY hb.1)) m.desks.length
   omega
 ·intro h
  rw [h]
  simp
theorem O7 {w:World} {v0 v1 v2 v3 v4:Value} {m:Z4} {room q:Int} (hq:Yp m room=q) (h:Smy w v0 v1 v2 v3 v4 m):Calls Tryz.prog 20 #[.agg #[v0,v1,v2,v3,v4,.int .i64 m.now],.int .i64 room] w fun e w'=>e= .returned (.int .i64 q)/\Below w.heap.size w w':=by
 have Hq:=Z9 hq
 clear hq
 obtain ⟨ok,hok⟩:∃ q,ZP m=q:=⟨_,rfl⟩
 have Hok:=Z9 hok
 clear hok
 obtain ⟨a0,p0,a1,p1,a2,p2,a3,p3,a4,p4,rfl,rfl,rfl,rfl,rfl,K⟩:=Bx.new h
 clear h
 go_enter Tryz.func20,Tryz.ntmps20
 go_wp2_with fail
 generalize w.alloc (.cells (S6 a0 p0 a1 p1 a2 p2 a3 p3 a4 p4 m) 32)=W at *
 refine ck (XX (uh Hok) K.smy) fun w1 hb=> ?_
 replace K:=K.next hb
 clear hb
 cases ok
 ·obtain rfl:q= -1:=by rw [<-uh Hq];unfold Yp;rw [uh Hok];simp
  go_wp2_with fail
  go_ret
  exact ⟨rfl,K.bb⟩
 obtain ⟨qr,hqr⟩:∃ q,Yu m room=q:=⟨_,rfl⟩
 have Hr:=Z9 hqr
 clear hqr
 obtain ⟨c0,c1,c2,c3,c4,c5⟩:=K.cells
 go_wp2_with fail
 refine ck (Qx (uh Hr) K.smy) fun w2 hb=> ?_
 replace K:=K.next hb
 clear hb c0 c1 c2 c3 c4 c5
 cases qr
 ·obtain rfl:q= -1:=by rw [<-uh Hq];unfold Yp;rw [uh Hr];simp
  go_wp2_with fail
  go_ret
  exact ⟨rfl,K.bb⟩
 obtain ⟨r,rfl,hr⟩:=VG (uh Hr)
 obtain rfl:q=WV m r:=by rw [<-uh Hq];unfold Yp;rw [uh Hr,uh Hok];rfl
 have HS:=Z9 (ZY (uh Hok)).sane
 obtain ⟨c0,c1,c2,c3,c4,c5⟩:=K.cells
 go_wp2_with fail
 refine ck (Sb K.smy (uh HS) hr) fun w3 hb=> ?_
 replace K:=K.next hb
 clear hb c0 c1 c2 c3 c4 c5
 go_wp2_with fail
 go_ret
 exact ⟨rfl,K.bb⟩
theorem Og {w:World} {v0 v1 v2 v3 v4:Value} {m:Z4} {room q:Int} (hq:Yp m room=q) (h:Smy w v0 v1 v2 v3 v4 m):Calls Tryz.prog 17 #[.agg #[v0,v1,v2,v3,v4,.int .i64 m.now],.int .i64 room] w fun e w'=>e= .returned (.int .i64 q)/\Below w.heap.size w w':=by
 have Hq:=Z9 hq
 clear hq
 obtain ⟨nd,hnd⟩:∃ q,XU m room=q:=⟨_,rfl⟩
 have Hn:=Z9 hnd
 clear hnd
 obtain ⟨a0,p0,a1,p1,a2,p2,a3,p3,a4,p4,rfl,rfl,rfl,rfl,rfl,K⟩:=Bx.new h
 clear h
 go_enter Tryz.func17,Tryz.ntmps17
 go_wp2_with fail
 generalize w.alloc (.cells (S6 a0 p0 a1 p1 a2 p2 a3 p3 a4 p4 m) 32)=W at *
 obtain ⟨c0,c1,c2,c3,c4,c5⟩:=K.cells
 refine ck (Od (uh Hn) K.smy) fun w1 hb=> ?_
 replace K:=K.next hb
 clear hb c0 c1 c2 c3 c4 c5
 cases hx:(ZP m && Yu m room)
 ·obtain rfl:nd= -1:=by rw [<-uh Hn];exact J0.2 hx
  obtain rfl:q= -1:=by rw [<-uh Hq];unfold Yp;rw [hx];simp
  clear hx
  go_wp2_with fail
  go_ret
  exact ⟨rfl,K.bb⟩
 have hne:nd ≠ -1:=by
  intro e
  rw [<-uh Hn,J0,hx] at e
  cases e
 have n0:(nd == -1)=false:=by simpa using hne
 simp only [Bool.and_eq_true] at hx
 have Hr:=Z9 hx.2
 have Hok:=Z9 hx.1
 clear hx hne
 obtain ⟨r,rfl,hr⟩:=VG (uh Hr)
 have Hqr:Hid (Yi (Z0 m.rooms r) nd=q):=Z9 (by rw [<-uh Hn,<-uh Hq,Ou (uh Hok) (uh Hr)];unfold Yp;rw [uh Hr,uh Hok];rfl)
 clear Hq Hn Hok Hr
 have hr1:(r:Int)<(m.rooms.length:Int):=by omega
 obtain ⟨_,_,hre,_,_,r0⟩:=K.smy.rooms
 cases hre
 rcases r0 with e0 | ⟨rb,off,rfl,hbw,hcl⟩
 ·rw [e0] at hr;simp at hr
 obtain ⟨d0,pv,d1,hpv⟩:=hcl r hr
 have Hpv:=Z9 hpv
 obtain ⟨pa,pc,rfl,_,_,_⟩:=hpv
 obtain ⟨⟨bn,ps⟩,hrm⟩:∃ q,Z0 m.rooms r=q:=⟨_,rfl⟩
 have Hrm:=Z9 hrm
 rw [hrm] at d0 d1 Hpv
 simp only at d0 d1
 clear hcl hrm
 rw [uh Hrm] at Hqr
 obtain ⟨c0,c1,c2,c3,c4,c5⟩:=K.cells
 go_wp2_with fail
 refine ck (Pv bn nd (uh Hpv)) fun w2 hb=> ?_
 replace K:=K.next hb
 clear hb c0 c1 c2 c3 c4 c5
 go_wp2_with fail
 go_ret
 exact ⟨by rw [<-uh Hqr];rfl,K.bb⟩
theorem Jd {m:Z4} (h:Loose m) {b:Nat} (ho:(Z8 m.desks b).1=false):Ze m (b:Int) (-1)=0:=by
 have hn:atV m.smiths (b:Int) m.smiths.length=[]:=by
  refine List.eq_nil_iff_forall_not_mem.2 fun e he=> ?_
  obtain ⟨i,hi,h1,h2,_⟩:=(Yt m.smiths (b:Int) e m.smiths.length).1 he
  have hx:=(h.at hi h2).2.2.1
  rw [h1,Int.toNat_natCast,ho] at hx
  cases hx
 unfold Ze
 rw [hn];rfl
theorem MU {m:Z4} (h:Loose m) {r:Int} {k:Nat} (hr:(Yw m.rooms k:Int)=r):ZJ m r (k+1)=(max (ZJ m r k).1 (Ze m k (-1)),(ZJ m r k).2+Ze m k (-1)):=by
 have hb:=Wo m r h.sane.few k
 show (if _ then _ else _)=_
 rw [if_pos hr]
 cases ho:(Z8 m.desks k).1
 ·rw [Jd h ho]
  have:max (ZJ m r k).1 0=(ZJ m r k).1:=by omega
  rw [this];rfl
 ·rfl
end Go.Proofs.YtffcgajndmhpkaaGreatDoor
