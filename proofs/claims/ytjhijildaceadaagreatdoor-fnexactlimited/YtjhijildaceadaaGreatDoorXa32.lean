/- Part 32 of what the proof rests on. No condition but those that a theorem names. -/
import Derived.Test.YtjhijildaceadaaGreatDoorXa28
import Derived.Test.YtjhijildaceadaaGreatDoorXa31
set_option maxHeartbeats 8000000
set_option maxRecDepth 100000
namespace Go.Proofs.YtjhijildaceadaaGreatDoor
open Go.ChangeShapes Go.WideShapes Go.ChangeAt Go.RowKit Go.Sort Go.Shelf
set_option linter.unusedVariables false
set_option maxRecDepth 100000
variable {w w' w0 w1 w2 w3 w₀ wr W W' X A B C : World} {v v0 v1 v2 v3 v4 u u0 u1 u2 u3 u4 : Value} {m : Z4}
theorem Bx.of {a0 a1 a2 a3 a4:Option Addr} {p0 p1 p2 p3 p4:Nat} (h:Smy w (.slice a0 m.rooms.length p0) (.slice a1 m.guilds.length p1) (.slice a2 m.smiths.length p2) (.slice a3 m.desks.length p3) (.slice a4 m.paces.length p4) m):Bx w (w.alloc (.cells #[.slice a0 m.rooms.length p0,.slice a1 m.guilds.length p1,.slice a2 m.smiths.length p2,.slice a3 m.desks.length p3,.slice a4 m.paces.length p4,.int .i64 m.now] 32)) w.heap.size a0 p0 a1 p1 a2 p2 a3 p3 a4 p4 m:=⟨h.alloc _,Blk.new _ _ _,(Below.refl _ _).alloc (Nat.le_refl _) _⟩
theorem IM {a0 a1 a2 a3 a4:Option Addr} {p0 p1 p2 p3 p4:Nat} (h:Smy w (.slice a0 m.rooms.length p0) (.slice a1 m.guilds.length p1) (.slice a2 m.smiths.length p2) (.slice a3 m.desks.length p3) (.slice a4 m.paces.length p4) m):Calls Tryz.prog 328 #[.agg #[.slice a0 m.rooms.length p0,.slice a1 m.guilds.length p1,.slice a2 m.smiths.length p2,.slice a3 m.desks.length p3,.slice a4 m.paces.length p4,.int .i64 m.now]] w fun e w'=>e= .returned (.func (Fn.func 357) #[] #[.pointer (some ⟨w.heap.size,0,none⟩)])/\Bx w w' w.heap.size a0 p0 a1 p1 a2 p2 a3 p3 a4 p4 m:=by
 have K:=Bx.of h
 clear h
 go_enter Tryz.func328,Tryz.ntmps328
 go_wp2_with fail
 go_ret
 exact ⟨rfl,K⟩
theorem F7 {R r:Nat} {a0 a1 a2 a3 a4:Option Addr} {p0 p1 p2 p3 p4:Nat} (K:Bx w0 w R a0 p0 a1 p1 a2 p2 a3 p3 a4 p4 m) (hS:Sane m) (hW:Wants m) (hr:r<m.rooms.length):Calls Tryz.prog 357 #[.int .i64 (r:Int),.pointer (some ⟨R,0,none⟩)] w fun e w'=>e= .returned (.int .i64 (coalIn m r))/\Below w.heap.size w w':=by
 have hr1:(r:Int)<(m.rooms.length:Int):=by omega
 have HM:=Z9 (EM hS hr)
 have HN:=Z9 (fun (X:World) (hX:Below w.heap.size w X)=>GB (K.smy.below hX) hS hW hr)
 have HK:=Z9 (fun (X:World) (hX:Below w.heap.size w X)=>In (K.smy.below hX) hS hW hr)
 clear hS hW
 have Hc:Hid (coalIn m r=Qc (ZY m.rooms r) (VC m (TS (V2 m.rooms (r:Int)))) (U5 m (TS (V2 m.rooms (r:Int))))):=Z9 (by rw [(uh HM).1,(uh HM).2];rfl)
 rw [uh Hc]
 clear Hc HM
 obtain ⟨_,_,hre,_,_,r0⟩:=K.smy.rooms
 cases hre
 rcases r0 with e0 | ⟨rb,off,rfl,hbw,hcl⟩
 ·rw [e0] at hr;simp at hr
 obtain ⟨d0,pv,d1,hpv⟩:=hcl r hr
 clear hcl
 generalize VC m (TS (V2 m.rooms (r:Int)))=ne at *
 generalize U5 m (TS (V2 m.rooms (r:Int)))=wo at *
 obtain ⟨⟨n,ps⟩,hrm⟩:∃ x,ZY m.rooms r=x:=⟨_,rfl⟩
 rw [hrm] at d0 hpv ⊢
 clear hrm
 simp only at d0 hpv
 have Hpv:=Z9 hpv
 obtain ⟨pa,pc,rfl,_,_,_⟩:=hpv
 obtain ⟨c0,c1,c2,c3,c4,c5⟩:=K.cells
 have k0:=cell_regrown c0
 have k1:=cell_regrown c1
 have k2:=cell_regrown c2
 have k3:=cell_regrown c3
 have k4:=cell_regrown c4
 have k5:=cell_regrown c5
 have k6:=cell_regrown d0
 have k7:=cell_regrown d1
 go_enter Tryz.func357,Tryz.ntmps357
 go_wp2_with fail
 refine wp_region_quiet_below (by kernel_rfl) (by kernel_rfl) ?_
 repeat (go_big_quiet_step (first | exact Calls.regrown_of (uh HN _ (below_regrown _ _ _)) | exact Calls.regrown_of (uh HK _ (below_regrown _ _ _)) | exact Calls.regrown_of (QT _ _ _ ((uh Hpv).below (below_regrown _ _ _)))))
 refine wpQuiet_nil ?_
 intro _ hw'
 obtain ⟨⟨dq,osq⟩,hw''⟩:=hw'
 subst hw''
 go_wp2_with fail
 go_ret
 exact ⟨rfl,below_regrown _ _ _⟩
theorem LH {R:Nat} {a0 a1 a2 a3 a4 b0:Option Addr} {p0 p1 p2 p3 p4 q0:Nat} (K:Bx w0 w R a0 p0 a1 p1 a2 p2 a3 p3 a4 p4 m) (hS:Sane m) (hW:Wants m):Calls Tryz.prog 327 #[.slice b0 m.rooms.length q0,.func (Fn.func 357) #[] #[.pointer (some ⟨R,0,none⟩)]] w fun e w'=>e= .returned (.int .i64 (Sg m))/\Below w.heap.size w w':=by
 have h3:=(Zi hS.hall).2.1
 have Hbd:=Z9 (PZ m)
 have HC:=Z9 (fun (X:World) (hX:Below w.heap.size w X) (k:Nat) (hk:k<m.rooms.length)=>F7 (K.next hX) hS hW hk)
 clear hS hW K
 go_enter Tryz.func327,Tryz.ntmps327
 go_wp2_with fail
 go_loopw [5,9] (fun n i wr=> ∃ k:Nat,k<=m.rooms.length/\i= .int .i64 k/\n= .int .i64 (coalTo m k)/\Below w.heap.size w wr) (fun _ i _=>m.rooms.length-(intOf i).toNat)
 case atStart=>exact ⟨0,Nat.zero_le _,rfl,rfl,Below.refl _ _⟩
 case round=>
  obtain ⟨k,hk,rfl,rfl,hb0⟩:=hrel
  obtain ⟨u0,u1⟩:=uh Hbd k
  obtain ⟨u2,u3⟩:=uh Hbd (k+1)
  have hst:coalTo m (k+1)=coalTo m k+coalIn m k:=rfl
  rw [hst] at u2 u3
  have Hst:=Z9 hst
  have BB:=Z9 hb0
  clear hb0 hst
  by_cases hlt:k<m.rooms.length
  ·have hlt1:(k:Int)<(m.rooms.length:Int):=by omega
   have HD:=Z9 (uh HC wr (uh BB) k hlt)
   generalize coalIn m k=ci at *
   generalize coalTo m k=ct at *
   go_wp2_with fail
   refine (uh HD).mono ?_
   rintro e w1 ⟨rfl,hb⟩
   replace BB:=bt BB hb
   clear hb HD
   go_wp2_with fail
   go_roundw
   case rel=>exact ⟨k+1,by omega,by go_num,by rw [uh Hst],uh BB⟩
   case measure=>simp [intOf];omega
  ·obtain rfl:k=m.rooms.length:=by omega
   go_wp2_with fail
   go_ret
   exact ⟨rfl,uh BB⟩
open Go.ChangeShapes Go.WideShapes Go.ChangeAt Go.RowKit Go.Sort
theorem JX {ss:List Z2} {k:Nat} (hk:k<ss.length):ss.set k (Z8 ss k)=ss:=by
 refine S9 (by simp) fun i hi=> ?_
 rw [ZV hk]
 split
 ·rename_i e;rw [e]
 ·rfl
theorem SmithsAt.put {B n c g k i:Nat} {ss:List Z2} {x:Z2} (h:SmithsAt B W (.slice (some ⟨g,0,none⟩) n c) (ss.set k x)) (hn:n=ss.length) (hk:k<ss.length) (hi:i<11) (u:Value) (y:Z2) (hy:ZR y=(ZR x).set i u):SmithsAt B (W.setCell ⟨g,k*11+i,none⟩ u) (.slice (some ⟨g,0,none⟩) n c) (ss.set k y):=by
 have h1:=(RecAt.put1 Z1 (by omega) h (by simpa using hn) (j:=k) (i:=i) (by simpa using hk) hi u y (by rw [ZV hk,if_pos rfl];exact hy)).1
 rwa [List.set_set] at h1
theorem Smy.other  {B:Nat} {ss:List Z2} (h:Smy w v0 v1 v2 v3 v4 m) (hb:Below w.heap.size w W) (hs:SmithsAt B W u ss):Smy W v0 v1 u v3 v4 { m with smiths:=ss }:=⟨h.rooms.below hb,h.guilds.below hb,hs.list,h.desks.below hb,h.paces.below hb⟩
theorem Below.put6 {n:Nat} {R:Nat} (v0 v1 v2 v3 v4 v5:Value) (h:Below n w W) (hR:n<=R):Below n w ((((((W.setCell ⟨R,0,none⟩ v0).setCell ⟨R,1,none⟩ v1).setCell ⟨R,2,none⟩ v2).setCell ⟨R,3,none⟩ v3).setCell ⟨R,4,none⟩ v4).setCell ⟨R,5,none⟩ v5):=by
 iterate 6 (refine Below.setCell ?_ hR _)
 exact h
theorem RecAt.off6 {α:Type} [Inhabited α] {t k B:Nat} {enc:α->List Value} {R:Nat} {xs:List α} (v0 v1 v2 v3 v4 v5:Value) (h:RecAt t k enc B W v xs) (hR:∀ i,v.ownBlock=some i->i ≠ R):RecAt t k enc B ((((((W.setCell ⟨R,0,none⟩ v0).setCell ⟨R,1,none⟩ v1).setCell ⟨R,2,none⟩ v2).setCell ⟨R,3,none⟩ v3).setCell ⟨R,4,none⟩ v4).setCell ⟨R,5,none⟩ v5) v xs:=
 RecAt.same h fun i hi=>by rw [heap_setCell_other _ _ _ _ (hR i hi),heap_setCell_other _ _ _ _ (hR i hi),heap_setCell_other _ _ _ _ (hR i hi),heap_setCell_other _ _ _ _ (hR i hi),heap_setCell_other _ _ _ _ (hR i hi),heap_setCell_other _ _ _ _ (hR i hi)]
set_option linter.unusedSimpArgs false
set_option maxRecDepth 100000
theorem M7 {a0 a1 a2 a3 a4:Option Addr} {p0 p1 p2 p3 p4:Nat} {k:Nat} (b:Int) (h:Smy w (.slice a0 m.rooms.length p0) (.slice a1 m.guilds.length p1) (.slice a2 m.smiths.length p2) (.slice a3 m.desks.length p3) (.slice a4 m.paces.length p4) m) (hl:m.smiths.length<=1000) (hk:k<m.smiths.length):Calls Tryz.prog 329 #[.agg #[.slice a0 m.rooms.length p0,.slice a1 m.guilds.length p1,.slice a2 m.smiths.length p2,.slice a3 m.desks.length p3,.slice a4 m.paces.length p4,.int .i64 m.now],.int .i64 (k:Int),.int .i64 b] w fun e w'=> ∃ g gc,e= .returned (.agg #[.slice a0 m.rooms.length p0,.slice a1 m.guilds.length p1,.slice (some ⟨g,0,none⟩) m.smiths.length gc,.slice a3 m.desks.length p3,.slice a4 m.paces.length p4,.int .i64 m.now])/\Smy w' (.slice a0 m.rooms.length p0) (.slice a1 m.guilds.length p1) (.slice (some ⟨g,0,none⟩) m.smiths.length gc) (.slice a3 m.desks.length p3) (.slice a4 m.paces.length p4) (Yg m (k:Int) b)/\Below w.heap.size w w':=by
 have Hv0:=Z9 h
 have hk1:(k:Int)<(m.smiths.length:Int):=by omega
 clear h
 go_enter Tryz.func329,Tryz.ntmps329
 go_upto_region 1 with fail
 obtain ⟨W,hW,kb,kr,BB⟩:=Xu w 32 (S6 a0 p0 a1 p1 a2 p2 a3 p3 a4 p4 m) 32 E6
 have Hv:=Z9 ((uh Hv0).below (uh BB))
 rw [hW]
 clear hW
 obtain ⟨c0,c1,c2,c3,c4,c5⟩:=(uh kb).c6
 go_wp2_with fail
 refine (XF _ _ _ _ _ _ _ _ _ _ _ _ _ _ _ _ _).mono ?_
 rintro e w1 ⟨rfl,hb⟩
 replace kb:=bl kb hb
 replace kr:=bl kr hb
 replace Hv:=Z9 ((uh Hv).below hb)
 replace BB:=bt BB hb
 clear hb c0 c1 c2 c3 c4 c5
 go_wp2_with fail
 refine (Vp (uh Hv).smiths hl).mono ?_
 rintro e w2 ⟨v2,rfl,hs,hb⟩
 have hlb:=(uh kb).lt
 have hlr:=(uh kr).lt
 have hlo:=(uh BB).size
 replace kb:=bl kb hb
 replace kr:=bl kr hb
 replace BB:=bt BB hb
 clear hb Hv
 obtain ⟨ga,gc,rfl⟩:=RecAt.shape hs
 obtain ⟨g,rfl,hg1,hg2,hcl,hfr⟩:=RecAt.view Z1 (by omega) hs rfl (by omega)
 have hgb:g ≠ w.heap.size:=by omega
 have hgr:g ≠ w.heap.size+1:=by omega
 have hbg:w.heap.size ≠ g:=by omega
 have hrg:w.heap.size+1 ≠ g:=by omega
 have hwg:w.heap.size<=g:=by omega
 have HS:Hid (SmithsAt (w.heap.size+1) w2 (.slice (some ⟨g,0,none⟩) m.smiths.length gc) (m.smiths.set k (Z8 m.smiths k))):=Z9 (by rw [JX hk];exact RecAt.mono hs (by omega))
 have s0:=hcl k hk 0 _ rfl
 have s1:=hcl k hk 1 _ rfl
 have f0:=hfr (k*11)
 have f1:=hfr (k*11+1)
 simp only [Nat.add_zero] at s0
 clear hcl hfr hs hg1
 obtain ⟨c0,c1,c2,c3,c4,c5⟩:=(uh kb).c6
 obtain ⟨q0,q1,q2,q3,q4,q5⟩:=(uh kb).f6
 obtain ⟨o0,o1,o2,o3,o4,o5⟩:=(uh kr).c6
 obtain ⟨t0,t1,t2,t3,t4,t5⟩:=(uh kr).f6
 go_wp2_with fail
 refine bodyPost_ret (v:= .agg #[.slice a0 m.rooms.length p0,.slice a1 m.guilds.length p1,.slice (some ⟨g,0,none⟩) m.smiths.length gc,.slice a3 m.desks.length p3,.slice a4 m.paces.length p4,.int .i64 m.now]) (by simp [results,Tryz.results329,go_sem, *]) rfl ⟨g,gc,rfl,?_,?_⟩
 ·have h1:SmithsAt (w.heap.size+1) (w2.setCell ⟨w.heap.size,2,none⟩ (.slice (some ⟨g,0,none⟩) m.smiths.length gc)) (.slice (some ⟨g,0,none⟩) m.smiths.length gc) (m.smiths.set k (Z8 m.smiths k)):=RecAt.same (uh HS) (fun i e=>by cases e;exact heap_setCell_other _ _ _ _ hgb)
  have h2:=h1.put rfl hk (i:=0) (by omega) (.int .i64 2) (2,(Z8 m.smiths k).2) rfl
  have h3:=h2.put rfl hk (i:=1) (by omega) (.int .i64 b) (2,b,(Z8 m.smiths k).2.2) rfl
  exact (uh Hv0).other (Below.put6 _ _ _ _ _ _ ((((uh BB).setCell (Nat.le_refl _) _).setCell (by show w.heap.size<=g;omega) _).setCell (by show w.heap.size<=g;omega) _) (Nat.le_succ _)) (RecAt.off6 (.slice a0 m.rooms.length p0) (.slice a1 m.guilds.length p1) (.slice (some ⟨g,0,none⟩) m.smiths.length gc) (.slice a3 m.desks.length p3) (.slice a4 m.paces.length p4) (.int .i64 m.now) h3 (fun i e=>by cases e;exact hgr))
 ·exact Below.put6 _ _ _ _ _ _ ((((uh BB).setCell (Nat.le_refl _) _).setCell (by show w.heap.size<=g;omega) _).setCell (by show w.heap.size<=g;omega) _) (Nat.le_succ _)
theorem F4  {k:Nat} {b q:Int} (hq2:ZD m (k:Int) b=q) (h:Smy w v0 v1 v2 v3 v4 m) (hS:Sane m) (hT:Wants m) (hk:k<m.smiths.length) (hs:(Z8 m.smiths k).1 ≠ 0):Calls Tryz.prog 278 #[.agg #[v0,v1,v2,v3,v4,.int .i64 m.now],.int .i64 (k:Int),.int .i64 b] w fun e w'=>e= .returned (.int .i64 q)/\Below w.heap.size w w':=by
 replace hq2:Sg (Yg m (k:Int) b)=q:=hq2
 have HS:=Z9 (hS.with hk hs b)
 have HT:=Z9 (hT.with hk hs b)
 have hl:=hS.few
 clear hS hT
 obtain ⟨a0,p0,a1,p1,a2,p2,a3,p3,a4,p4,rfl,rfl,rfl,rfl,rfl,K⟩:=Bx.new h
 clear h
 go_enter Tryz.func278,Tryz.ntmps278
 go_wp2_with fail
 generalize w.alloc (.cells #[.slice a0 m.rooms.length p0,.slice a1 m.guilds.length p1,.slice a2 m.smiths.length p2,.slice a3 m.desks.length p3,.slice a4 m.paces.length p4,.int .i64 m.now] 32)=W at *
 have HR:Hid (∀ {X:World} {R:Nat} {c0:Option Addr} {g gc r0:Nat} {W:World},Bx X W R a0 p0 a1 p1 (some ⟨g,0,none⟩) gc a3 p3 a4 p4 (Yg m (k:Int) b)->Calls Tryz.prog 327 #[.slice c0 m.rooms.length r0,.func (Fn.func 357) #[] #[.pointer (some ⟨R,0,none⟩)]] W fun e w'=>e= .returned (.int .i64 q)/\Below W.heap.size W w'):=Z9 (fun hK=>by rw [<-hq2];exact LH hK (uh HS) (uh HT))
 have HC:Hid (∀ (g gc:Nat) (W:World),Smy W (.slice a0 m.rooms.length p0) (.slice a1 m.guilds.length p1) (.slice (some ⟨g,0,none⟩) m.smiths.length gc) (.slice a3 m.desks.length p3) (.slice a4 m.paces.length p4) (Yg m (k:Int) b)->Calls Tryz.prog 328 #[.agg #[.slice a0 m.rooms.length p0,.slice a1 m.guilds.length p1,.slice (some ⟨g,0,none⟩) m.smiths.length gc,.slice a3 m.desks.length p3,.slice a4 m.paces.length p4,.int .i64 m.now]] W fun e w'=>e= .returned (.func (Fn.func 357) #[] #[.pointer (some ⟨W.heap.size,0,none⟩)])/\Bx W w' W.heap.size a0 p0 a1 p1 (some ⟨g,0,none⟩) gc a3 p3 a4 p4 (Yg m (k:Int) b)):=Z9 (fun g gc W hs=>by
  have hwl:(Yg m (k:Int) b).smiths.length=m.smiths.length:=by unfold Yg;simp
  have h9:=IM (w:=W) (m:=Yg m (k:Int) b) (a0:=a0) (a1:=a1) (a2:=some ⟨g,0,none⟩) (a3:=a3) (a4:=a4) (p0:=p0) (p1:=p1) (p2:=gc) (p3:=p3) (p4:=p4) (by rw [hwl];exact hs)
  rw [hwl] at h9
  exact h9)
 clear HS HT hq2
 have KD:=K.drew
 obtain ⟨c0,c1,c2,c3,c4,c5⟩:=K.cells
 go_wp2_with fail
 go_region_with (first
  | (go_at_call 329;refine (M7 b KD.smy (by omega) hk).mono ?_;rintro e w3 ⟨g,gc,rfl,hsm,hb3⟩;have K3:=KD.next hb3;have z0:=K3.blk.cell (i:=0) (v:= .slice a0 m.rooms.length p0) rfl;have HS3:=Z9 hsm;clear hsm hb3)
  | (go_at_call 328;refine (uh HC _ _ _ (uh HS3)).mono ?_;rintro e w4 ⟨rfl,KX⟩;have K4:=K3.next KX.bb;have y0:=K4.blk.cell (i:=0) (v:= .slice a0 m.rooms.length p0) rfl)
  | (go_at_call 327;refine (uh HR KX).mono ?_;rintro e w5 ⟨rfl,hb5⟩;have K5:=K4.next hb5;clear hb5))
 all_goals
  go_wp2_with fail
  go_ret
  exact ⟨rfl,K5.bb⟩
set_option maxRecDepth 100000
theorem Ll (x u f : Int) (w : World) : (method 484 328 (.agg #[.int .i64 x, .int .i64 u, .int .i64 f]) "loop.example/g00553/impl.place").run Tryz.prog w = .ok (434, .agg #[.int .i64 x, .int .i64 u, .int .i64 f]) w := by kernel_rfl
theorem Su (x u f:Int) (w:World):Calls Tryz.prog 434 #[.agg #[.int .i64 x,.int .i64 u,.int .i64 f]] w fun e w'=>e= .returned (.int .i64 x)/\Below w.heap.size w w':=by
 go_enter Tryz.func434,Tryz.ntmps434
 go_wp2_with fail
 go_ret
 exact ⟨rfl,(Below.refl _ _).alloc (Nat.le_refl _) _⟩
theorem B8 (x u f : Int) (w : World) : (method 484 328 (.agg #[.int .i64 x, .int .i64 u, .int .i64 f]) "loop.example/g00553/impl.takes").run Tryz.prog w = .ok (436, .agg #[.int .i64 x, .int .i64 u, .int .i64 f]) w := by kernel_rfl
theorem EX (n x u f:Int) (w:World):Calls Tryz.prog 436 #[.agg #[.int .i64 x,.int .i64 u,.int .i64 f],.int .i64 n] w fun e w'=>e= .returned (.bool (UR n u f))/\Below w.heap.size w w':=by
 go_enter Tryz.func436,Tryz.ntmps436
 go_wp2_with fail
 have BB:Hid (Below w.heap.size w (w.alloc (.cells #[.int .i64 x,.int .i64 u,.int .i64 f] 328))):=Z9 ((Below.refl _ _).alloc (Nat.le_refl _) _)
 refine (NC _ _ _ _).mono ?_
 rintro e w1 ⟨rfl,hb⟩
 replace BB:=bt BB hb
 clear hb
 go_wp2_with fail
 go_ret
 exact ⟨rfl,uh BB⟩
theorem Lj (x u f : Int) (w : World) : (method 484 328 (.agg #[.int .i64 x, .int .i64 u, .int .i64 f]) "loop.example/g00553/impl.hasTooMuch").run Tryz.prog w = .ok (433, .agg #[.int .i64 x, .int .i64 u, .int .i64 f]) w := by kernel_rfl
theorem Nu (x u f:Int) (w:World):Calls Tryz.prog 433 #[.agg #[.int .i64 x,.int .i64 u,.int .i64 f]] w fun e w'=>e= .returned (.bool (Wk u f))/\Below w.heap.size w w':=by
 go_enter Tryz.func433,Tryz.ntmps433
 go_wp2_with fail
 have BB:Hid (Below w.heap.size w (w.alloc (.cells #[.int .i64 x,.int .i64 u,.int .i64 f] 328))):=Z9 ((Below.refl _ _).alloc (Nat.le_refl _) _)
 refine (Pe _ _ _).mono ?_
 rintro e w1 ⟨rfl,hb⟩
 replace BB:=bt BB hb
 clear hb
 go_wp2_with fail
 go_ret
 exact ⟨rfl,uh BB⟩
theorem B7 (x u f : Int) (w : World) : (method 484 328 (.agg #[.int .i64 x, .int .i64 u, .int .i64 f]) "loop.example/g00553/impl.spare").run Tryz.prog w = .ok (435, .agg #[.int .i64 x, .int .i64 u, .int .i64 f]) w := by kernel_rfl
theorem Mp (x u f:Int) (w:World):Calls Tryz.prog 435 #[.agg #[.int .i64 x,.int .i64 u,.int .i64 f]] w fun e w'=>e= .returned (.int .i64 (Yt u f))/\Below w.heap.size w w':=by
 go_enter Tryz.func435,Tryz.ntmps435
 go_wp2_with fail
 have BB:Hid (Below w.heap.size w (w.alloc (.cells #[.int .i64 x,.int .i64 u,.int .i64 f] 328))):=Z9 ((Below.refl _ _).alloc (Nat.le_refl _) _)
 refine (Pd _ _ _).mono ?_
 rintro e w1 ⟨rfl,hb⟩
 replace BB:=bt BB hb
 clear hb
 go_wp2_with fail
 go_ret
 exact ⟨rfl,uh BB⟩
theorem BW (v:Value) (w:World):(Instr.typeAssert (.iface 328 v) 296 251 true).run Tryz.prog w= .ok (.tuple #[.iface 328 v,.bool true]) w:=by kernel_rfl
theorem N5 {l:List String} (h:l ≠ []):∃ s,Instr.least l=some s:=by
 cases l with
 | nil=>exact absurd rfl h
 | cons s r=>exact ⟨_,rfl⟩
theorem EF (p:String->Bool) (f:String->String) {ms:List String} (h:ms ≠ []):∃ s,(match ms.partition p with | (u,e)=>Instr.least e <|> Instr.least (u.map f))=some s:=by
 rw [List.partition_eq_filter_filter]
 dsimp only
 by_cases he:ms.filter (not ∘ p)=[]
 ·have hu:ms.filter p ≠ []:=by
   intro e
   apply h
   have h1:=List.filter_eq_nil_iff.1 he
   have h2:=List.filter_eq_nil_iff.1 e
   refine List.eq_nil_iff_forall_not_mem.2 (fun x hx=> ?_)
   have k1:=h1 x hx
   have k2:=h2 x hx
   simp only [Function.comp_apply] at k1
   cases hp:p x
   ·rw [hp] at k1;exact k1 rfl
   ·exact k2 hp
  obtain ⟨s,hs⟩:=N5 (l:=(ms.filter p).map f) (by simpa using hu)
  rw [he,hs]
  exact ⟨s,rfl⟩
 ·obtain ⟨s,hs⟩:=N5 he
  rw [hs]
  exact ⟨s,rfl⟩
theorem Lu {want:Array (String × TypeId)} {got:Array Method} (h:(want.toList.filter fun x=> !got.any fun m=>m.name ==x.1 && m.sig ==x.2).isEmpty=false):∃ s,Instr.missingMethod want got=some s:=by
 refine EF _ _ (ms:=(want.toList.filter fun x=> !got.any fun m=>m.name ==x.1 && m.sig ==x.2).map (·.1)) ?_
 intro e
 rw [List.map_eq_nil_iff] at e
 rw [e] at h
 cases h
theorem Iv {P:Program} {t xt asserted:TypeId} {v z:Value} {want:Array (String × TypeId)} {i j:TypeInfo} (hu:P.underlying asserted=some (.interface want)) (hi:P.info? t=some i) (hm:(want.toList.filter fun x=> !i.methods.any fun m=>m.name ==x.1 && m.sig ==x.2).isEmpty=false) (hj:P.info? asserted=some j) (hz:j.zero=some z):(Instr.typeAssert (.iface t v) xt asserted true).run P w= .ok (.tuple #[z,.bool false]) w:=by
 obtain ⟨s,hs⟩:=Lu hm
 simp [Instr.typeAssert,run_underlying hu,typeInfo,hi,hs,zeroValue,hj,hz]
theorem Eg:((Tryz.prog.info? 326).bind fun i=>(Tryz.prog.underlying 251).map fun d=>match d with | .interface want=>(want.toList.filter fun x=> !i.methods.any fun m=>m.name ==x.1 && m.sig ==x.2).isEmpty | _=>true)=some false:=by kernel_rfl
theorem D5 (v:Value) (w:World):(Instr.typeAssert (.iface 326 v) 296 251 true).run Tryz.prog w= .ok (.tuple #[.nilIface,.bool false]) w:=by
 obtain ⟨j,hj,hz,_,_⟩:=Ra LS
 have h:=Eg
 cases hi:Tryz.prog.info? 326 with
 | none=>rw [hi] at h;cases h
 | some i=>
  cases hu:Tryz.prog.underlying 251 with
  | none=>rw [hi,hu] at h;cases h
  | some d=>
   rw [hi,hu] at h
   cases d with
   | interface want=>exact Iv hu hi (by simpa using h) hj hz
   | _=>cases h
def KI (m:Z4) (b:Int):Value:=if U0 m b then .iface 328 (.agg #[.int .i64 b,.int .i64 (ZB m b (-1)),.int .i64 (YP m.rooms b)]) else .iface 326 (.agg #[.int .i64 b])
theorem Iz  {b:Int} (h:Smy w v0 v1 v2 v3 v4 m) (hW:Wants m) (hl:m.smiths.length<=12):Calls Tryz.prog 326 #[.agg #[v0,v1,v2,v3,v4,.int .i64 m.now],.int .i64 b] w fun e w'=>e= .returned (KI m b)/\Below w.heap.size w w':=by
 have HW:=Z9 hW
 clear hW
 obtain ⟨op,hop⟩:∃ q,U0 m b=q:=⟨_,rfl⟩
 have Hop:=Z9 hop
 unfold KI
 rw [hop]
 clear hop
 obtain ⟨us,hus⟩:∃ q,ZB m b (-1)=q:=⟨_,rfl⟩
 have Hus:=Z9 hus
 rw [hus]
 clear hus
 obtain ⟨a0,p0,a1,p1,a2,p2,a3,p3,a4,p4,rfl,rfl,rfl,rfl,rfl,K⟩:=Bx.new h
 clear h
 go_enter Tryz.func326,Tryz.ntmps326
 go_wp2_with fail
 generalize w.alloc (.cells #[.slice a0 m.rooms.length p0,.slice a1 m.guilds.length p1,.slice a2 m.smiths.length p2,.slice a3 m.desks.length p3,.slice a4 m.paces.length p4,.int .i64 m.now] 32)=W at *
 refine (Py (uh Hop) K.smy).mono ?_
 rintro e w1 ⟨rfl,hb⟩
 replace K:=K.next hb
 clear hb
 cases op
 ·go_wp2_with fail
  go_ret
  exact ⟨rfl,K.bb⟩
 clear Hop
 have HN:=Z9 (fun (X:World) (hX:Below w1.heap.size w1 X)=>RR (uh Hus) (K.smy.below hX) (uh HW) hl)
 have HF:=Z9 (fun (X:World) (hX:Below w1.heap.size w1 X)=>Pa b (K.smy.below hX).rooms)
 obtain ⟨c0,c1,c2,c3,c4,c5⟩:=K.cells
 have k0:=cell_regrown c0
 have k1:=cell_regrown c1
 have k2:=cell_regrown c2
 have k3:=cell_regrown c3
 have k4:=cell_regrown c4
 have k5:=cell_regrown c5
 go_wp2_with fail
 refine wp_region_quiet_below (by kernel_rfl) (by kernel_rfl) ?_
 repeat (go_big_quiet_step (first | exact Calls.regrown_of (uh HN _ (below_regrown _ _ _)) | exact Calls.regrown_of (uh HF _ (below_regrown _ _ _))))
 refine wpQuiet_nil ?_
 intro _ hw'
 obtain ⟨⟨dq,osq⟩,hw''⟩:=hw'
 subst hw''
 go_wp2_with fail
 go_ret
 exact ⟨rfl,K.bb.trans ((below_regrown _ _ _).mono K.bb.size)⟩
theorem Bx.grown {R:Nat} {a0 a1 a2 a3 a4:Option Addr} {p0 p1 p2 p3 p4:Nat} {r:Option Nat} (h:Bx w W R a0 p0 a1 p1 a2 p2 a3 p3 a4 p4 m) (hs:Smy w (.slice a0 m.rooms.length p0) (.slice a1 m.guilds.length p1) (.slice a2 m.smiths.length p2) (.slice a3 m.desks.length p3) (.slice a4 m.paces.length p4) m) (hg:W.grownBy X r) (hr:∀ k,r=some k->w.heap.size<=k/\k ≠ R):Bx w X R a0 p0 a1 p1 a2 p2 a3 p3 a4 p4 m:=by
 have hb:Below w.heap.size w X:=h.bb.grown hg h.bb.size (fun k e=>(hr k e).1)
 exact ⟨hs.below hb,(hg.block _ h.blk.lt (fun e=>(hr R e.symm).2 rfl)).trans h.blk,hb⟩
attribute [local go_sem] BW D5
theorem Ro  (h:Smy w v0 v1 v2 v3 v4 m) (hW:Wants m) (hl:m.smiths.length<=12) (hd:m.desks.length<=1000):Calls Tryz.prog 276 #[.agg #[v0,v1,v2,v3,v4,.int .i64 m.now]] w fun e w'=> ∃ v',e= .returned v'/\YZ w.heap.size w' v' (Yr m m.desks.length)/\Below w.heap.size w w':=by
 have HW:=Z9 hW
 clear hW
 have Hs:=Z9 h
 obtain ⟨a0,p0,a1,p1,a2,p2,a3,p3,a4,p4,rfl,rfl,rfl,rfl,rfl,K⟩:=Bx.new h
 clear h
 go_enter Tryz.func276,Tryz.ntmps276
 go_wp2_with fail
 go_loopw [3,11] (fun l i wr=> ∃ k:Nat,k<=m.desks.length/\i= .int .i64 k/\YZ (w.heap.size+1) wr l (Yr m k)/\Bx w wr w.heap.size a0 p0 a1 p1 a2 p2 a3 p3 a4 p4 m) (fun _ i _=>m.desks.length-(intOf i).toNat)
 case atStart=>exact ⟨0,Nat.zero_le _,rfl,Zl (by simp) (Nat.le_refl _),K.alloc _⟩
 case round=>
  obtain ⟨k,hk,rfl,hln,hK⟩:=hrel
  clear K
  have K:=hK
  clear hK
  obtain ⟨la,lc,rfl⟩:=RecAt.shape hln
  have HL:=Z9 hln
  have hfl:=TU m k
  clear hln
  by_cases hlt:k<m.desks.length
  ·have hlt1:(k:Int)<(m.desks.length:Int):=by omega
   have HY:=Z9 (fun hh=>RJ (m:=m) (k:=k) hh)
   have HN:=Z9 (fun hh=>Qi (m:=m) (k:=k) hh)
   have hop:=Cd hlt
   obtain ⟨op,hq⟩:∃ q,(Z8 m.desks k).1=q:=⟨_,rfl⟩
   rw [hq] at hop HY HN
   obtain ⟨bv,hbv⟩:∃ v,KI m (k:Int)=v:=⟨_,rfl⟩
   have HB:=Z9 (fun (X:World) (hX:Smy X (.slice a0 m.rooms.length p0) (.slice a1 m.guilds.length p1) (.slice a2 m.smiths.length p2) (.slice a3 m.desks.length p3) (.slice a4 m.paces.length p4) m)=>Iz (b:=(k:Int)) hX (uh HW) hl)
   rw [hbv] at HB
   unfold KI at hbv
   rw [hop] at hbv
   unfold TD at HY
   generalize ZB m (k:Int) (-1)=us at *
   generalize YP m.rooms (k:Int)=fo at *
   subst hbv
   clear hq hop
   obtain ⟨c0,c1,c2,c3,c4,c5⟩:=K.cells
   go_wp2_with fail
   refine (uh HB _ K.smy).mono ?_
   rintro e w1 ⟨rfl,hb⟩
   replace K:=K.next hb
   replace HL:=Z9 (RecAt.later (uh HL) hb)
   clear hb c0 c1 c2 c3 c4 c5 HB
   cases op
   ·rw [if_neg (by simp)]
    go_wp2_with fail
    go_roundw
    case rel=>exact ⟨k+1,by omega,by go_num,by rw [uh HN (by trivial)];exact uh HL,K⟩
    case measure=>simp [intOf];omega
   ·rw [if_pos rfl]
    have hsx:=K.blk.lt
    go_wp2_with (at_builtin;refine Vn rfl (.tmp 22) (.tmp 24) 188 Tryz.underlying188 rfl (w.heap.size+1) _ _ (Yr m k) [((k:Int),us,fo)] rfl rfl (RecAt.later (uh HL) ((Below.refl _ _).alloc (Nat.le_refl _) _)) (U1 ((k:Int),us,fo) rfl (Nat.le_refl _) (by omega)) (by simp;omega) (by simp;omega) ?_;intro u9 w9 hp9 hg9 hat9;have HP9:=Z9 hp9;have HG9:=Z9 hg9;clear hp9 hg9 hat9)
    have hgo:∀ i,(Value.slice la (Yr m k).length lc).ownBlock=some i->w.heap.size<=i/\i ≠ w.heap.size:=fun i e=>by have:=(RecAt.lt (uh HL) e).1;omega
    replace K:=(K.alloc _).grown (uh Hs) (uh HG9) hgo
    go_wp2_with fail
    go_roundw
    case rel=>exact ⟨k+1,by omega,by go_num,by rw [uh HY (by trivial)];exact uh HP9,K⟩
    case measure=>simp [intOf];omega
  ·obtain rfl:k=m.desks.length:=by omega
   go_wp2_with fail
   go_ret
   exact ⟨_,rfl,RecAt.mono (uh HL) (Nat.le_succ _),K.bb⟩
theorem OU {a0 a1 a2 a3 a4:Option Addr} {p0 p1 p2 p3 p4:Nat} {k:Nat} (h:Smy w (.slice a0 m.rooms.length p0) (.slice a1 m.guilds.length p1) (.slice a2 m.smiths.length p2) (.slice a3 m.desks.length p3) (.slice a4 m.paces.length p4) m) (hl:m.smiths.length<=1000) (hk:k<m.smiths.length):Calls Tryz.prog 277 #[.agg #[.slice a0 m.rooms.length p0,.slice a1 m.guilds.length p1,.slice a2 m.smiths.length p2,.slice a3 m.desks.length p3,.slice a4 m.paces.length p4,.int .i64 m.now],.int .i64 (k:Int)] w fun e w'=> ∃ g gc,e= .returned (.agg #[.slice a0 m.rooms.length p0,.slice a1 m.guilds.length p1,.slice (some ⟨g,0,none⟩) m.smiths.length gc,.slice a3 m.desks.length p3,.slice a4 m.paces.length p4,.int .i64 m.now])/\Smy w' (.slice a0 m.rooms.length p0) (.slice a1 m.guilds.length p1) (.slice (some ⟨g,0,none⟩) m.smiths.length gc) (.slice a3 m.desks.length p3) (.slice a4 m.paces.length p4) (XH m (k:Int))/\Below w.heap.size w w':=by
 have Hv0:=Z9 h
 have hk1:(k:Int)<(m.smiths.length:Int):=by omega
 clear h
 go_enter Tryz.func277,Tryz.ntmps277
 go_upto_region 1 with fail
 obtain ⟨W,hW,kb,kr,BB⟩:=Xu w 32 (S6 a0 p0 a1 p1 a2 p2 a3 p3 a4 p4 m) 32 E6
 have Hv:=Z9 ((uh Hv0).below (uh BB))
 rw [hW]
 clear hW
 obtain ⟨c0,c1,c2,c3,c4,c5⟩:=(uh kb).c6
 go_wp2_with fail
 refine (XF _ _ _ _ _ _ _ _ _ _ _ _ _ _ _ _ _).mono ?_
 rintro e w1 ⟨rfl,hb⟩
 replace kb:=bl kb hb
 replace kr:=bl kr hb
 replace Hv:=Z9 ((uh Hv).below hb)
 replace BB:=bt BB hb
 clear hb c0 c1 c2 c3 c4 c5
 go_wp2_with fail
 refine (Vp (uh Hv).smiths hl).mono ?_
 rintro e w2 ⟨v2,rfl,hs,hb⟩
 have hlb:=(uh kb).lt
 have hlr:=(uh kr).lt
 have hlo:=(uh BB).size
 replace kb:=bl kb hb
 replace kr:=bl kr hb
 replace BB:=bt BB hb
 clear hb Hv
 obtain ⟨ga,gc,rfl⟩:=RecAt.shape hs
 obtain ⟨g,rfl,hg1,hg2,hcl,hfr⟩:=RecAt.view Z1 (by omega) hs rfl (by omega)
 have hgb:g ≠ w.heap.size:=by omega
 have hgr:g ≠ w.heap.size+1:=by omega
 have hbg:w.heap.size ≠ g:=by omega
 have hrg:w.heap.size+1 ≠ g:=by omega
 have hwg:w.heap.size<=g:=by omega
 have HS:Hid (SmithsAt (w.heap.size+1) w2 (.slice (some ⟨g,0,none⟩) m.smiths.length gc) (m.smiths.set k (Z8 m.smiths k))):=Z9 (by rw [JX hk];exact RecAt.mono hs (by omega))
 have s0:=hcl k hk 0 _ rfl
 have f0:=hfr (k*11)
 simp only [Nat.add_zero] at s0
 clear hcl hfr hs hg1
 obtain ⟨c0,c1,c2,c3,c4,c5⟩:=(uh kb).c6
 obtain ⟨q0,q1,q2,q3,q4,q5⟩:=(uh kb).f6
 obtain ⟨o0,o1,o2,o3,o4,o5⟩:=(uh kr).c6
 obtain ⟨t0,t1,t2,t3,t4,t5⟩:=(uh kr).f6
 go_wp2_with fail
 refine bodyPost_ret (v:= .agg #[.slice a0 m.rooms.length p0,.slice a1 m.guilds.length p1,.slice (some ⟨g,0,none⟩) m.smiths.length gc,.slice a3 m.desks.length p3,.slice a4 m.paces.length p4,.int .i64 m.now]) (by simp [results,Tryz.results277,go_sem, *]) rfl ⟨g,gc,rfl,?_,?_⟩
 ·have h1:SmithsAt (w.heap.size+1) (w2.setCell ⟨w.heap.size,2,none⟩ (.slice (some ⟨g,0,none⟩) m.smiths.length gc)) (.slice (some ⟨g,0,none⟩) m.smiths.length gc) (m.smiths.set k (Z8 m.smiths k)):=RecAt.same (uh HS) (fun i e=>by cases e;exact heap_setCell_other _ _ _ _ hgb)
  have h2:=h1.put rfl hk (i:=0) (by omega) (.int .i64 1) (1,(Z8 m.smiths k).2) rfl
  exact (uh Hv0).other (Below.put6 _ _ _ _ _ _ (((uh BB).setCell (Nat.le_refl _) _).setCell (by show w.heap.size<=g;omega) _) (Nat.le_succ _)) (RecAt.off6 (.slice a0 m.rooms.length p0) (.slice a1 m.guilds.length p1) (.slice (some ⟨g,0,none⟩) m.smiths.length gc) (.slice a3 m.desks.length p3) (.slice a4 m.paces.length p4) (.int .i64 m.now) h2 (fun i e=>by cases e;exact hgr))
 ·exact Below.put6 _ _ _ _ _ _ (((uh BB).setCell (Nat.le_refl _) _).setCell (by show w.heap.size<=g;omega) _) (Nat.le_succ _)
structure Asks (m:Z4) (k:Nat):Prop where
 sane:Sane m
 wants:Wants m
 hk:k<m.smiths.length
 hs:(Z8 m.smiths k).1 ≠ 0
 may:0<=(Z8 m.smiths k).2.2.2.1/\(Z8 m.smiths k).2.2.2.1<=255
theorem Asks.mem {k:Nat} (h:Asks m k) {x:YX} (hx:x ∈ Yr (XH m (k:Int)) m.desks.length):VY (Z8 m.smiths k).2.2.2.1 x.1=UI m k x:=by
 obtain ⟨b,hb,_,rfl⟩:=(TV _ x _).1 hx
 obtain ⟨y0,y1⟩:=h.may
 have h8:=h.sane.eight
 unfold VY UI TD
 rw [Zj y0 y1,Zj (show (0:Int)<=(b:Int) by omega) (show (b:Int)<=7 by omega)]
 rfl
theorem Asks.few {k:Nat} (h:Asks m k):(Wj m (k:Int) m.desks.length).length<=8:=by
 have:=h.sane.eight
 have:=Me m (k:Int) m.desks.length
 omega
theorem FY (m:Z4) (who:Int):Zn m who=if XZ m || decide ((Zp m who).length=0) then (Ta (Wj m who m.desks.length)).1 else (Vo m who (Zp m who)).1:=by
 unfold Zn
 rw [Jv]
 cases hc:XZ m
 ·by_cases hl:(Zp m who).length=0
  ·rw [if_neg (by simp [hl]),if_pos (by simp [hl])]
  ·rw [if_pos (by simp;omega),if_neg (by simp;intro e;rw [e] at hl;simp at hl)]
   rw [FW m who (by omega) (fun x hx=>by obtain ⟨b,_,rfl,_⟩:=CN hx;omega)]
 ·rfl
attribute [local go_sem] Ll
theorem KJ  {k:Nat} {q:List YX} (hq:(Yr (XH m (k:Int)) m.desks.length).filter (UI m k)=q) (h:Smy w v0 v1 v2 v3 v4 m) (hS:Sane m) (hT:Wants m) (hk:k<m.smiths.length) (hs:(Z8 m.smiths k).1 ≠ 0) (hM:∀ x:YX,x ∈ Yr (XH m (k:Int)) m.desks.length->VY (Z8 m.smiths k).2.2.2.1 x.1=UI m k x):Calls Tryz.prog 219 #[.agg #[v0,v1,v2,v3,v4,.int .i64 m.now],.int .i64 (k:Int)] w fun e w'=> ∃ v',e= .returned v'/\YZ w.heap.size w' v' q/\Below w.heap.size w w':=by
 have HF:=Z9 hq
 clear hq
 have Hs:=Z9 h
 obtain ⟨a0,p0,a1,p1,a2,p2,a3,p3,a4,p4,rfl,rfl,rfl,rfl,rfl,K⟩:=Bx.new h
 clear h
 have hl:=hS.few
 have h8:=hS.eight
 have HM:=Z9 hM
 have HU:=Z9 (fun (g gc:Nat) (X:World) (hX:Smy X (.slice a0 m.rooms.length p0) (.slice a1 m.guilds.length p1) (.slice (some ⟨g,0,none⟩) m.smiths.length gc) (.slice a3 m.desks.length p3) (.slice a4 m.paces.length p4) (XH m (k:Int)))=>Ro (m:=XH m (k:Int)) hX (hT.away hk hs) (by rw [Nf];exact hl) (show m.desks.length<=1000 by omega))
 have hlen:=TU (XH m (k:Int)) m.desks.length
 clear hS hT hM hs
 go_enter Tryz.func219,Tryz.ntmps219
 go_upto_region 2 with fail
 have HL:Hid (YZ (w.heap.size+1) ((w.alloc (.cells #[.slice a0 m.rooms.length p0,.slice a1 m.guilds.length p1,.slice a2 m.smiths.length p2,.slice a3 m.desks.length p3,.slice a4 m.paces.length p4,.int .i64 m.now] 32)).alloc (.cells #[] 251)) (.slice (some ⟨w.heap.size+1,0,none⟩) 0 0) []):=Z9 (Zl (by simp) (Nat.le_refl _))
 replace K:=K.alloc (.cells #[] 251)
 generalize (w.alloc (.cells #[.slice a0 m.rooms.length p0,.slice a1 m.guilds.length p1,.slice a2 m.smiths.length p2,.slice a3 m.desks.length p3,.slice a4 m.paces.length p4,.int .i64 m.now] 32)).alloc (.cells #[] 251)=W at *
 obtain ⟨c0,c1,c2,c3,c4,c5⟩:=K.cells
 go_wp2_with fail
 refine (OU K.smy (by omega) hk).mono ?_
 rintro e w2 ⟨g,gc,rfl,hsm,hb⟩
 replace K:=K.next hb
 replace HL:=Z9 (RecAt.later (uh HL) hb)
 have HA:=Z9 hsm
 clear hb c0 c1 c2 c3 c4 c5 hsm
 go_wp2_with fail
 refine (uh HU g gc _ (uh HA)).mono ?_
 rintro e w3 ⟨v3,rfl,hu,hb⟩
 have hu2:YZ w2.heap.size w3 v3 (Yr (XH m (k:Int)) m.desks.length):=hu
 have hlo2:∀ i,v3.ownBlock=some i->w2.heap.size<=i:=fun i e=>(RecAt.lt hu2 e).1
 have hsp:∀ i,v3.ownBlock=some i->(Value.slice (some ⟨w.heap.size+1,0,none⟩) 0 0).ownBlock ≠ some i:=fun i e e2=>by have:=hlo2 i e;have:=(RecAt.lt (uh HL) e2).2;omega
 replace K:=K.next hb
 replace HL:=Z9 (RecAt.later (uh HL) hb)
 clear hb HU HA hu hlo2
 generalize Yr (XH m (k:Int)) m.desks.length=us at *
 obtain ⟨ua,uc,rfl⟩:=RecAt.shape hu2
 have HU:=Z9 hu2
 have Hsp:=Z9 hsp
 clear hu2 hsp
 have hus:us.length<=8:=by omega
 go_wp2_with fail
 go_loopw [5,14] (fun l i wr=> ∃ j:Nat,j<=us.length/\i= .int .i64 j/\YZ (w.heap.size+1) wr l ((us.take j).filter (UI m k))/\YZ w2.heap.size wr (.slice ua us.length uc) us/\(∀ i,(Value.slice ua us.length uc).ownBlock=some i->l.ownBlock ≠ some i)/\Bx w wr w.heap.size a0 p0 a1 p1 a2 p2 a3 p3 a4 p4 m) (fun _ i _=>us.length-(intOf i).toNat)
 case atStart=>exact ⟨0,Nat.zero_le _,rfl,uh HL,uh HU,uh Hsp,K⟩
 case round=>
  obtain ⟨j,hj,rfl,hln,hun,hsp,hK⟩:=hrel
  clear K HL HU Hsp
  have K:=hK
  clear hK
  obtain ⟨la,lc,rfl⟩:=RecAt.shape hln
  have HL:=Z9 hln
  have HU:=Z9 hun
  have Hsp:=Z9 hsp
  have hfl:((us.take j).filter (UI m k)).length<=8:=by have e1:=List.length_filter_le (UI m k) (us.take j);have e2:(us.take j).length<=us.length:=(by simp;omega);omega
  clear hln hun hsp
  by_cases hlt:j<us.length
  ·have hlt1:(j:Int)<(us.length:Int):=by omega
   have HY:=Z9 (fun hh=>Np (p:=UI m k) hlt hh)
   have HN:=Z9 (fun hh=>LP (p:=UI m k) hlt hh)
   obtain ⟨q,hq⟩:∃ q,UI m k (Z8 us j)=q:=⟨_,rfl⟩
   have hmm:=uh HM _ (U9 hlt)
   rw [hq] at HY HN hmm
   generalize (us.take j).filter (UI m k)=ls at *
   obtain ⟨g,rfl,hgl,hgw,hcl,_⟩:=RecAt.view WY (by omega) (uh HU) rfl (by omega)
   have z0:=TE hcl hlt
   clear hcl hq
   generalize hx:Z8 us j=x at *
   clear hx
   obtain ⟨bx,ux,fx⟩:=x
   simp only at z0 hmm
   obtain ⟨_,_,hse,_,_,r2⟩:=K.smy.smiths
   cases hse
   rcases r2 with e0 | ⟨sb,off,rfl,hbw,hcs⟩
   ·rw [e0] at hk;simp at hk
   obtain ⟨d0,d1,d2,d3,d4,d5,d6,d7,d8,d9,d10⟩:=ZI hcs hk
   clear hcs d0 d1 d2 d4 d5 d6 d7 d8 d9 d10
   have hk1:(k:Int)<(m.smiths.length:Int):=by omega
   have HI:=Z9 (fun X=>Calls.bool_of (Calls.same_below' (WL (Z8 m.smiths k).2.2.2.1 bx X)) hmm)
   clear hmm
   generalize hmy:(Z8 m.smiths k).2.2.2.1=my at *
   clear hmy
   go_upto_region 5 with fail
   have c2:=K.blk.cell (i:=2) (v:= .slice (some ⟨sb,off,none⟩) m.smiths.length p2) rfl
   have k2:=cell_regrown c2
   have k3:=cell_regrown d3
   refine wp_region_quiet_below (by kernel_rfl) (by kernel_rfl) ?_
   repeat (go_big_quiet_step (first | exact Calls.regrown_of (Su _ _ _ _) | exact Calls.regrown_of (uh HI _)))
   refine wpQuiet_nil ?_
   intro _ hw'
   obtain ⟨⟨dq,osq⟩,hw''⟩:=hw'
   subst hw''
   have hb:Below wr.heap.size wr (Go.Sort.grow (Go.redrawn wr dq) osq):=below_regrown wr dq osq
   generalize Go.Sort.grow (Go.redrawn wr dq) osq=wq at *
   replace K:=K.next hb
   replace HL:=Z9 (RecAt.later (uh HL) hb)
   replace HU:=Z9 (RecAt.later (uh HU) hb)
   clear hb c2 k2 k3 d3 z0
   cases q
   ·go_wp2_with fail
    go_roundw
    case rel=>exact ⟨j+1,by omega,by go_num,by rw [uh HN (by trivial)];exact uh HL,uh HU,uh Hsp,K⟩
    case measure=>simp [intOf];omega
   ·have hsx:=K.blk.lt
    go_wp2_with (at_builtin;refine Vn rfl (.tmp 27) (.tmp 29) 188 Tryz.underlying188 rfl (w.heap.size+1) _ _ ls [(bx,ux,fx)] rfl rfl (RecAt.later (uh HL) ((Below.refl _ _).alloc (Nat.le_refl _) _)) (U1 (bx,ux,fx) rfl (Nat.le_refl _) (by omega)) (by simp;omega) (by simp;omega) ?_;intro u9 w9 hp9 hg9 hat9;have HP9:=Z9 hp9;have HG9:=Z9 hg9;have HA9:=Z9 hat9;clear hp9 hg9 hat9)
    have hgo:∀ i,(Value.slice la ls.length lc).ownBlock=some i->w.heap.size<=i/\i ≠ w.heap.size:=fun i e=>by have:=(RecAt.lt (uh HL) e).1;omega
    replace K:=(K.alloc _).grown (uh Hs) (uh HG9) hgo
    have hul:=fun i e=>(RecAt.lt (uh HU) (i:=i) e).2
    have hsp9:∀ i,(Value.slice (some ⟨g,0,none⟩) us.length uc).ownBlock=some i->u9.ownBlock ≠ some i:=by
     intro i e e2
     rcases uh HA9 with h9 | h9
     ·rw [h9] at e2;exact uh Hsp i e e2
     ·rw [h9] at e2
      have:=hul i e
      simp at e2
      omega
    replace HU:=Z9 (RecAt.grown (RecAt.later (uh HU) ((Below.refl _ _).alloc (Nat.le_refl _) _)) (uh HG9) (uh Hsp))
    go_wp2_with fail
    go_roundw
    case rel=>exact ⟨j+1,by omega,by go_num,by rw [uh HY (by trivial)];exact uh HP9,uh HU,hsp9,K⟩
    case measure=>simp [intOf];omega
  ·obtain rfl:j=us.length:=by omega
   have e9:(us.take us.length).filter (UI m k)=q:=by rw [List.take_length];exact uh HF
   have E9:=Z9 e9
   clear e9
   go_wp2_with fail
   go_ret
   exact ⟨_,rfl,by rw [<-uh E9];exact RecAt.mono (uh HL) (Nat.le_succ _),K.bb⟩
theorem SD  {k:Nat} (h:Smy w v0 v1 v2 v3 v4 m) (A:Asks m k):Calls Tryz.prog 219 #[.agg #[v0,v1,v2,v3,v4,.int .i64 m.now],.int .i64 (k:Int)] w fun e w'=> ∃ v',e= .returned v'/\YZ w.heap.size w' v' (Wj m (k:Int) m.desks.length)/\Below w.heap.size w w':=KJ (JA m A.hk _) h A.sane A.wants A.hk A.hs (fun x hx=>A.mem hx)
end Go.Proofs.YtjhijildaceadaaGreatDoor
