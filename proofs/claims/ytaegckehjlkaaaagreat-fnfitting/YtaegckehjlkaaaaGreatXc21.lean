/- Part 21 of what the proof rests on. No condition but those that a theorem names. -/
import Derived.Test.YtaegckehjlkaaaaGreatXc20
set_option maxHeartbeats 8000000
set_option maxRecDepth 100000
namespace Go.Proofs.YtaegckehjlkaaaaGreat
open Go.ChangeShapes Go.WideShapes Go.ChangeAt Go.RowKit Go.Sort
set_option linter.unusedVariables false
def Ye (v0 v1 v2 v3 v4:Value) (qs:List (Z3 × Value)) (k:Nat):Prop:=v0.ownBlock=some k\/(∃ q ∈ qs,q.2.ownBlock=some k)\/v1.ownBlock=some k\/v2.ownBlock=some k\/v3.ownBlock=some k\/v4.ownBlock=some k
section
variable {n₀ : Nat} {w w' : World} {v0 v1 v2 v3 v4 : Value} {m : Z6} {qs : List (Z3 × Value)}
theorem FullSmy.own (h:FullSmy n₀ w v0 v1 v2 v3 v4 m qs) {k:Nat} (e:Ye v0 v1 v2 v3 v4 qs k):n₀<=k/\k<w.heap.size:=by
 rcases e with e | e | e | e | e | e
 ·exact h.hall.lt (.inl e)
 ·exact h.hall.lt (.inr e)
 ·exact RecAt.lt h.guilds e
 ·exact RecAt.lt h.smiths e
 ·exact RecAt.lt h.desks e
 ·exact RecAt.lt h.paces e
theorem FullSmy.keep (h:FullSmy n₀ w v0 v1 v2 v3 v4 m qs) (hs:∀ k,Ye v0 v1 v2 v3 v4 qs k->w'.heap[k]?=w.heap[k]?):FullSmy n₀ w' v0 v1 v2 v3 v4 m qs:=
 ⟨⟨XH h.hall.row (fun k e=>hs k (.inl e)),fun q hq=>XH (h.hall.paces q hq) (fun k e=>hs k (.inr (.inl ⟨q,hq,e⟩))),h.hall.off,h.hall.apart⟩,h.rooms,RecAt.same h.guilds fun k e=>hs k (.inr (.inr (.inl e))),RecAt.same h.smiths fun k e=>hs k (.inr (.inr (.inr (.inl e)))),RecAt.same h.desks fun k e=>hs k (.inr (.inr (.inr (.inr (.inl e))))),RecAt.same h.paces fun k e=>hs k (.inr (.inr (.inr (.inr (.inr e))))),h.h1,h.h2,h.h3,h.h4,h.a12,h.a13,h.a14,h.a23,h.a24,h.a34⟩
end
end Go.Proofs.YtaegckehjlkaaaaGreat
namespace Go.Proofs.YtaegckehjlkaaaaGreat
open Go.ChangeShapes Go.WideShapes Go.ChangeAt Go.RowKit Go.Sort
set_option linter.unusedVariables false
set_option linter.unusedSimpArgs false
theorem SQ {w:World} {v0 v1 v2 v3 v4:Value} {m:Z6} {k:Nat} (b:Int) (h:Smy w v0 v1 v2 v3 v4 m) (hS:Sane m) (hp:m.paces.length<=1000) (hk:k<m.smiths.length) (hs:(Z8 m.smiths k).1 ≠ 0) :
  Calls Tryz.prog 92 #[.agg #[v0,v1,v2,v3,v4,.int .i64 m.now],.int .i64 (k:Int),.int .i64 b] w fun e w'=>e= .returned (.int .i64 (ZX m (k:Int) b))/\Below w.heap.size w w':=by
 have Hv:=Z9 (h.alloc (.cells #[v0,v1,v2,v3,v4,.int .i64 m.now] 32))
 obtain ⟨a0,p0,a1,p1,a2,p2,a3,p3,a4,p4,rfl,rfl,rfl,rfl,rfl,_,_,_,_,_,_,_,_,_,_⟩:=h.five
 clear h
 have HF:=Z9 (hS.few' hp)
 have HSW:=Z9 (hS.with hk hs b)
 have Hc:Hid (ZX m (k:Int) b=Ri (Xi m (k:Int) b)):=Z9 rfl
 rw [uh Hc]
 have hk1:(k:Int)<(m.smiths.length:Int):=by omega
 clear hS hp hs Hc
 have BB0:Hid (Below w.heap.size w (w.alloc (.cells #[.slice a0 m.rooms.length p0,.slice a1 m.guilds.length p1,.slice a2 m.smiths.length p2,.slice a3 m.desks.length p3,.slice a4 m.paces.length p4,.int .i64 m.now] 32))):=Z9 ((Below.refl _ _).alloc (Nat.le_refl _) _)
 go_enter Tryz.func92,Tryz.ntmps92
 go_wp2_with fail
 refine (Zy (uh Hv) (uh HF)).mono ?_
 rintro e w1 ⟨y0,y1,y2,y3,y4,oq,rfl,ho,hb⟩
 have k9:=ho.smy
 obtain ⟨b0,q0,b1,q1,b2,q2,b3,q3,b4,q4,rfl,rfl,rfl,rfl,rfl,_,_,_,_,_,_,_,_,_,_⟩:=k9.five
 have HO:=Z9 (ho.mono (n₁:=w.heap.size) (by simp))
 have BB:=Z9 ((uh BB0).trans (hb.mono (uh BB0).size))
 clear k9 ho hb BB0 Hv
 go_upto_region 2 with fail
 obtain ⟨W,hW,hba,ko⟩:=Zo w1 32 (S6 b0 q0 b1 q1 b2 q2 b3 q3 b4 q4 m)
 have LO:Hid (∀ i,Ye (.slice b0 m.rooms.length q0) (.slice b1 m.guilds.length q1) (.slice b2 m.smiths.length q2) (.slice b3 m.desks.length q3) (.slice b4 m.paces.length q4) oq i->w.heap.size<=i/\i<w1.heap.size):=Z9 (fun i e=>(uh HO).own e)
 replace HO:=Z9 ((uh HO).below hba)
 replace BB:=bt BB hba
 clear hba
 rw [hW]
 clear hW
 generalize w1.heap.size=ob at *
 obtain ⟨g2,hga,_,_,hc2,hz2⟩:=RecAt.view ZT (by omega) (uh HO).smiths rfl (by omega)
 cases hga
 have hg2o:=(uh LO g2 (.inr (.inr (.inr (.inl rfl)))))
 have s1:=hc2 k hk 1 _ rfl
 have f1:=hz2 (k*11+1)
 have hp1:=(uh HO).putS rfl (j:=k) (i:=1) hk (by omega) (.int .i64 b) (((Z8 m.smiths k).1,b,(Z8 m.smiths k).2.2)) rfl
 have hlen:(m.smiths.set k (((Z8 m.smiths k).1,b,(Z8 m.smiths k).2.2))).length=m.smiths.length:=by simp
 have hs1:Z8 (m.smiths.set k (((Z8 m.smiths k).1,b,(Z8 m.smiths k).2.2))) k=(((Z8 m.smiths k).1,b,(Z8 m.smiths k).2.2)):=by rw [ZF hk,if_pos rfl]
 have hp2:=hp1.putS hlen.symm (j:=k) (i:=0) (by show k<(m.smiths.set k _).length;omega) (by omega) (.int .i64 2) (Sk (Z8 m.smiths k) b) (by show ZR (Sk (Z8 m.smiths k) b)=(ZR (Z8 (m.smiths.set k (((Z8 m.smiths k).1,b,(Z8 m.smiths k).2.2))) k)).set 0 _;rw [hs1];rfl)
 obtain ⟨_,hga,_,_,hc3,hz3⟩:=RecAt.view ZT (by omega) hp1.smiths hlen.symm (by show 0<(m.smiths.set k _).length;omega)
 cases hga
 have s2:=hc3 k (by show k<(m.smiths.set k _).length;omega) 0 _ rfl
 have f2:=hz3 (k*11)
 have x2:=(uh ko).cell (i:=2) (v:= .slice (some ⟨g2,0,none⟩) m.smiths.length q2) rfl
 have x3:=((uh ko).other (a:=⟨g2,k*11+1,none⟩) (by show ob ≠ g2;omega) (.int .i64 b)).cell (i:=2) (v:= .slice (some ⟨g2,0,none⟩) m.smiths.length q2) rfl
 simp only [Nat.add_zero,List.set_set] at hp2 s2 f2
 have hwm:({ m with smiths:=m.smiths.set k (Sk (Z8 m.smiths k) b) } : Z6)=Xi m (k:Int) b:=by unfold Xi;simp
 rw [hwm] at hp2
 have HP:=Z9 hp2.smy
 clear hc2 hz2 hc3 hz3 hp1 hp2 hwm hs1 hlen HO
 go_upto_region 4 with fail
 clear s1 f1 s2 f2 x2 x3
 replace ko:Hid (Blk ((W.setCell ⟨g2,k*11+1,none⟩ (.int .i64 b)).setCell ⟨g2,k*11,none⟩ (.int .i64 2)) ob 32 #[.slice b0 m.rooms.length q0,.slice b1 m.guilds.length q1,.slice (some ⟨g2,0,none⟩) m.smiths.length q2,.slice b3 m.desks.length q3,.slice b4 m.paces.length q4,.int .i64 m.now]):=Z9 (((uh ko).other (a:=⟨g2,k*11+1,none⟩) (by show ob ≠ g2;omega) _).other (a:=⟨g2,k*11,none⟩) (by show ob ≠ g2;omega) _)
 replace BB:Hid (Below w.heap.size w ((W.setCell ⟨g2,k*11+1,none⟩ (.int .i64 b)).setCell ⟨g2,k*11,none⟩ (.int .i64 2))):=Z9 (((uh BB).setCell (p:=⟨g2,k*11+1,none⟩) (by show w.heap.size<=g2;omega) _).setCell (p:=⟨g2,k*11,none⟩) (by show w.heap.size<=g2;omega) _)
 generalize (W.setCell ⟨g2,k*11+1,none⟩ (.int .i64 b)).setCell ⟨g2,k*11,none⟩ (.int .i64 2)=W3 at *
 obtain ⟨c0,c1,c2,c3,c4,c5⟩:=(uh ko).c6
 go_wp2_with fail
 refine (IK (m:=Xi m (k:Int) b) (uh HP) (uh HSW)).mono ?_
 rintro e w5 ⟨rfl,hb⟩
 replace BB:=bt BB hb
 clear hb
 go_wp2_with fail
 go_ret
 exact ⟨rfl,uh BB⟩
theorem Calls.same_below {P:Program} {f:FuncId} {args:Array Value} {w:World} {v:Value} (h:Calls P f args w fun e w'=>e= .returned v/\w'=w):Calls P f args w fun e w'=>e= .returned v/\Below w.heap.size w w':=
 h.mono fun e w' ⟨he,hw⟩=>⟨he,by rw [hw];exact Below.refl _ _⟩
theorem UY {w:World} {v0 v1 v2 v3 v4:Value} {m:Z6} {k b:Nat} (h:Smy w v0 v1 v2 v3 v4 m) (hk:k<m.smiths.length) (hb:b<m.desks.length) (h7:b<=7) (y0:0<=(Z8 m.smiths k).2.2.2.1) (y1:(Z8 m.smiths k).2.2.2.1<=255) :
  Calls Tryz.prog 82 #[.agg #[v0,v1,v2,v3,v4,.int .i64 m.now],.int .i64 (k:Int),.int .i64 (b:Int)] w fun e w'=>e= .returned (.bool (Zw m (k:Int) b))/\Below w.heap.size w w':=by
 have hm:Zw m (k:Int) b=((Z8 m.desks b).1 && Wu (Z8 m.smiths k).2.2.2.1 b):=rfl
 rw [hm]
 clear hm
 obtain ⟨a0,p0,rfl,_,_⟩:=IsRooms.shape h.rooms
 obtain ⟨a1,p1,rfl,_,_⟩:=IsRec.shape h.guilds
 obtain ⟨a4,p4,rfl,_,_⟩:=IsRec.shape h.paces
 obtain ⟨a2,p2,rfl,_,_,r2⟩:=h.smiths
 obtain ⟨a3,p3,rfl,_,_,r3⟩:=h.desks
 clear h
 rcases r2 with e0 | ⟨sb,so,rfl,hbs,hcs⟩
 ·rw [e0] at hk;simp at hk
 rcases r3 with e0 | ⟨db,dof,rfl,hbd,hcd⟩
 ·rw [e0] at hb;simp at hb
 obtain ⟨_,_,_,s3,_⟩:=ZE hcs hk
 obtain ⟨d0,_,_⟩:=Zf hcd hb
 have hk1:(k:Int)<(m.smiths.length:Int):=by omega
 have hb1:(b:Int)<(m.desks.length:Int):=by omega
 clear hcs hcd
 generalize (Z8 m.smiths k).2.2.2.1=my at *
 generalize (Z8 m.desks b).1=op at *
 cases op
 all_goals
  go_enter Tryz.func82,Tryz.ntmps82
  go_wp2_with (go_at_call 135;refine (M5 my (b:Int) _ y0 y1 (by omega) (by omega)).mono ?_;rintro e w' ⟨rfl,h9⟩;subst w')
  go_ret
  exact ⟨rfl,(Below.refl _ _).alloc (Nat.le_refl _) _⟩
theorem UW {w:World} {v0 v1 v2 v3 v4:Value} {m:Z6} (h:Smy w v0 v1 v2 v3 v4 m) (hS:Sane m) :
  Calls Tryz.prog 91 #[.agg #[v0,v1,v2,v3,v4,.int .i64 m.now]] w fun e w'=>e= .returned (.bool (XV m))/\Below w.heap.size w w':=by
 have Hv:=Z9 (h.alloc (.cells #[v0,v1,v2,v3,v4,.int .i64 m.now] 32))
 obtain ⟨a0,p0,a1,p1,a2,p2,a3,p3,a4,p4,rfl,rfl,rfl,rfl,rfl,_,_,_,_,_,_,_,_,_,_⟩:=h.five
 clear h
 obtain ⟨BB0,kb0⟩:=WL w 32 (S6 a0 p0 a1 p1 a2 p2 a3 p3 a4 p4 m)
 have HS:=Z9 hS
 have h8:=hS.eight
 clear hS
 have hyes:∀ k,k<m.desks.length->Wa m k=true->XV m=true:=fun k hk hc=>List.any_eq_true.2 ⟨k,List.mem_range.2 hk,hc⟩
 have hno:(∀ k,k<m.desks.length->Wa m k=false)->XV m=false:=fun hn=>by
  unfold XV
  rw [List.any_eq_false]
  intro k hk
  rw [hn k (List.mem_range.1 hk)]
  simp
 have Hyes:=Z9 hyes
 have Hno:=Z9 hno
 clear hyes hno
 go_enter Tryz.func91,Tryz.ntmps91
 go_wp2_with fail
 go_loopw [3] (fun i wr=> ∃ k:Nat,k<=m.desks.length/\i= .int .i64 k/\(∀ j,j<k->Wa m j=false)/\Blk wr w.heap.size 32 #[.slice a0 m.rooms.length p0,.slice a1 m.guilds.length p1,.slice a2 m.smiths.length p2,.slice a3 m.desks.length p3,.slice a4 m.paces.length p4,.int .i64 m.now]/\Smy wr (.slice a0 m.rooms.length p0) (.slice a1 m.guilds.length p1) (.slice a2 m.smiths.length p2) (.slice a3 m.desks.length p3) (.slice a4 m.paces.length p4) m/\Below w.heap.size w wr) (fun i _=>m.desks.length-(intOf i).toNat)
 case atStart=>exact ⟨0,Nat.zero_le _,rfl,fun j hj=>by omega,uh kb0,uh Hv,uh BB0⟩
 case round=>
  obtain ⟨k,hk,rfl,hn,hkb,hv,hb0⟩:=hrel
  have Hn:=Z9 hn
  have kb:=Z9 hkb
  have Hv1:=Z9 hv
  have BB:=Z9 hb0
  clear hkb hv hb0 kb0 BB0 Hv hn
  obtain ⟨c0,c1,c2,c3,c4,c5⟩:=(uh kb).c6
  by_cases hlt:k<m.desks.length
  ·have hlt1:(k:Int)<(m.desks.length:Int):=by omega
   have Hc:Hid (Wa m k=((Z8 m.desks k).1 && WK (ZA m (k:Int) (-1)) (Zx m.rooms (k:Int)))):=Z9 rfl
   obtain ⟨_,_,hde,_,_,r3⟩:=(uh Hv1).desks
   cases hde
   rcases r3 with e0 | ⟨db,off,rfl,hbw,hcl⟩
   ·rw [e0] at hlt;simp at hlt
   obtain ⟨d0,_,_⟩:=Zf hcl hlt
   clear hcl
   have hfo:=UQ ((uh HS).bench hlt)
   have Hu:=Z9 (fun (W:World) (hW:Below wr.heap.size wr W)=>VI (k:Int) (-1) ((uh Hv1).below hW) (uh HS).guilded (by have:=(uh HS).few;omega))
   have Hf:=Z9 (fun (W:World) (hW:Below wr.heap.size wr W)=>Wy (k:Int) ((uh Hv1).below hW).rooms ((uh HS).bench hlt))
   rw [<-hfo] at Hf
   clear hfo
   generalize ZA m (k:Int) (-1)=us at *
   generalize Zx m.rooms (k:Int)=fo at *
   generalize (Z8 m.desks k).1=op at *
   have y0:=cell_regrown c0
   have y1:=cell_regrown c1
   have y2:=cell_regrown c2
   have y3:=cell_regrown c3
   have y4:=cell_regrown c4
   have y5:=cell_regrown c5
   have z0:=cell_regrown d0
   obtain ⟨mu,hmu⟩:∃ q,WK us fo=q:=⟨_,rfl⟩
   have Ht:=Z9 (fun (W:World)=>Calls.same_below (Tn us fo W))
   rw [hmu] at Hc Ht
   clear hmu
   cases op
   ·go_wp2_with fail
    refine wp_region_quiet_below (by kernel_rfl) (by kernel_rfl) ?_
    repeat (go_big_quiet_step (first | exact Calls.regrown_of (uh Hu _ (below_regrown _ _ _)) | exact Calls.regrown_of (uh Hf _ (below_regrown _ _ _)) | exact Calls.regrown_of (uh Ht _)))
    refine wpQuiet_nil ?_
    intro _ hw'
    obtain ⟨⟨dq,osq⟩,hw''⟩:=hw'
    subst hw''
    go_wp2_with fail
    go_roundw
    case rel=>exact ⟨k+1,by omega,by go_num,X8 (uh Hn) (uh Hc),(uh kb).below (below_regrown _ _ _) (uh kb).lt,(uh Hv1).below (below_regrown _ _ _),(uh BB).trans ((below_regrown _ _ _).mono (uh BB).size)⟩
    case measure=>simp [intOf];omega
   ·cases mu
    ·go_wp2_with fail
     refine wp_region_quiet_below (by kernel_rfl) (by kernel_rfl) ?_
     repeat (go_big_quiet_step (first | exact Calls.regrown_of (uh Hu _ (below_regrown _ _ _)) | exact Calls.regrown_of (uh Hf _ (below_regrown _ _ _)) | exact Calls.regrown_of (uh Ht _)))
     refine wpQuiet_nil ?_
     intro _ hw'
     obtain ⟨⟨dq,osq⟩,hw''⟩:=hw'
     subst hw''
     go_wp2_with fail
     go_roundw
     case rel=>exact ⟨k+1,by omega,by go_num,X8 (uh Hn) (uh Hc),(uh kb).below (below_regrown _ _ _) (uh kb).lt,(uh Hv1).below (below_regrown _ _ _),(uh BB).trans ((below_regrown _ _ _).mono (uh BB).size)⟩
     case measure=>simp [intOf];omega
    ·go_wp2_with fail
     refine wp_region_quiet_below (by kernel_rfl) (by kernel_rfl) ?_
     repeat (go_big_quiet_step (first | exact Calls.regrown_of (uh Hu _ (below_regrown _ _ _)) | exact Calls.regrown_of (uh Hf _ (below_regrown _ _ _)) | exact Calls.regrown_of (uh Ht _)))
     refine wpQuiet_nil ?_
     intro _ hw'
     obtain ⟨⟨dq,osq⟩,hw''⟩:=hw'
     subst hw''
     go_wp2_with fail
     go_ret
     exact ⟨Z7 (uh Hyes k hlt (uh Hc)).symm,(uh BB).trans ((below_regrown _ _ _).mono (uh BB).size)⟩
  ·obtain rfl:k=m.desks.length:=by omega
   go_wp2_with fail
   go_ret
   exact ⟨Z7 (uh Hno (uh Hn)).symm,uh BB⟩
structure Tp (m:Z6) (k:Nat):Prop where
 lt:k<m.smiths.length
 st:(Z8 m.smiths k).1 ≠ 0
 y0:0<=(Z8 m.smiths k).2.2.2.1
 y1:(Z8 m.smiths k).2.2.2.1<=255
theorem DA {m:Z6} {who:Int} {k:Nat} (h:P1 m who k=false):Wc m who (k+1)=Wc m who k:=by show (if _ then _ else _)=_;rw [h];rfl
theorem Fh {m:Z6} {who:Int} {k:Nat} (h:P1 m who k=true):Wc m who (k+1)=Wc m who k++[(k:Int)]:=by show (if _ then _ else _)=_;rw [h];rfl
theorem UX {w:World} {v0 v1 v2 v3 v4:Value} {m:Z6} {who:Nat} (h:Smy w v0 v1 v2 v3 v4 m) (hS:Sane m) (hA:Tp m who) :
  Calls Tryz.prog 81 #[.agg #[v0,v1,v2,v3,v4,.int .i64 m.now],.int .i64 (who:Int)] w fun e w'=> ∃ v',e= .returned v'/\NumsAt w.heap.size w' v' (Zn m (who:Int))/\Below w.heap.size w w':=by
 have Hv:=Z9 (h.alloc (.cells #[v0,v1,v2,v3,v4,.int .i64 m.now] 32))
 obtain ⟨a0,p0,a1,p1,a2,p2,a3,p3,a4,p4,rfl,rfl,rfl,rfl,rfl,_,_,_,_,_,_,_,_,_,_⟩:=h.five
 have HW:=Z9 h
 clear h
 obtain ⟨BB0,kb0⟩:=WL w 32 (S6 a0 p0 a1 p1 a2 p2 a3 p3 a4 p4 m)
 have HS:=Z9 hS
 have HA:=Z9 hA
 have h8:=hS.eight
 clear hS hA
 have kb1:Hid (Blk ((w.alloc (.cells #[.slice a0 m.rooms.length p0,.slice a1 m.guilds.length p1,.slice a2 m.smiths.length p2,.slice a3 m.desks.length p3,.slice a4 m.paces.length p4,.int .i64 m.now] 32)).alloc (.cells #[] 2)) w.heap.size 32 #[.slice a0 m.rooms.length p0,.slice a1 m.guilds.length p1,.slice a2 m.smiths.length p2,.slice a3 m.desks.length p3,.slice a4 m.paces.length p4,.int .i64 m.now]):=Z9 ((uh kb0).alloc _)
 have BB1:Hid (Below w.heap.size w ((w.alloc (.cells #[.slice a0 m.rooms.length p0,.slice a1 m.guilds.length p1,.slice a2 m.smiths.length p2,.slice a3 m.desks.length p3,.slice a4 m.paces.length p4,.int .i64 m.now] 32)).alloc (.cells #[] 2))):=Z9 ((uh BB0).alloc (uh BB0).size _)
 have Hv0:=Z9 ((uh Hv).alloc (.cells #[] 2))
 have E0:Hid (NumsAt (w.heap.size+1) ((w.alloc (.cells #[.slice a0 m.rooms.length p0,.slice a1 m.guilds.length p1,.slice a2 m.smiths.length p2,.slice a3 m.desks.length p3,.slice a4 m.paces.length p4,.int .i64 m.now] 32)).alloc (.cells #[] 2)) (.slice (some ⟨w.heap.size+1,0,none⟩) 0 0) []):=Z9 (YZ (by simp) (by simp))
 clear kb0 BB0 Hv
 go_enter Tryz.func81,Tryz.ntmps81
 go_wp2_with fail
 go_loopw [5,6] (fun l i wr=> ∃ k:Nat,k<=m.desks.length/\i= .int .i64 k/\NumsAt (w.heap.size+1) wr l (Wc m (who:Int) k)/\Blk wr w.heap.size 32 #[.slice a0 m.rooms.length p0,.slice a1 m.guilds.length p1,.slice a2 m.smiths.length p2,.slice a3 m.desks.length p3,.slice a4 m.paces.length p4,.int .i64 m.now]/\Smy wr (.slice a0 m.rooms.length p0) (.slice a1 m.guilds.length p1) (.slice a2 m.smiths.length p2) (.slice a3 m.desks.length p3) (.slice a4 m.paces.length p4) m/\Below w.heap.size w wr) (fun _ i _=>m.desks.length-(intOf i).toNat)
 case atStart=>exact ⟨0,Nat.zero_le _,rfl,uh E0,uh kb1,uh Hv0,uh BB1⟩
 case round=>
  obtain ⟨k,hk,rfl,hl,hkb,hv,hb0⟩:=hrel
  obtain ⟨la,lc,rfl⟩:=RecAt.shape hl
  have HL:=Z9 hl
  have kb:=Z9 hkb
  have Hv1:=Z9 hv
  have BB:=Z9 hb0
  have hbl:=(uh kb).lt
  have hfl:=Qs m (who:Int) k
  clear hkb hv hb0 kb1 BB1 Hv0 E0 hl
  obtain ⟨c0,c1,c2,c3,c4,c5⟩:=(uh kb).c6
  by_cases hlt:k<m.desks.length
  ·have hlt1:(k:Int)<(m.desks.length:Int):=by omega
   have Hc:Hid (P1 m (who:Int) k=(Zw m (who:Int) k && W6 (ZI m (who:Int)) (ZA m (k:Int) (who:Int)) (Zx m.rooms (k:Int)))):=Z9 rfl
   have Hno:=Z9 (fun hh=>DA (m:=m) (who:=(who:Int)) (k:=k) hh)
   have Hyes:=Z9 (fun hh=>Fh (m:=m) (who:=(who:Int)) (k:=k) hh)
   have hfo:=UQ ((uh HS).bench hlt)
   have Hma:=Z9 (fun (W:World) (hW:Below wr.heap.size wr W)=>UY ((uh Hv1).below hW) (uh HA).lt hlt (by omega) (uh HA).y0 (uh HA).y1)
   have Hwa:=Z9 (fun (W:World) (hW:Below wr.heap.size wr W)=>UC ((uh Hv1).below hW) (uh HS).guilded.guilds (uh HA).lt ((uh HS).guilded.lo who (uh HA).lt (uh HA).st) ((uh HS).guilded.hi who (uh HA).lt (uh HA).st))
   have Hu:=Z9 (fun (W:World) (hW:Below wr.heap.size wr W)=>VI (k:Int) (who:Int) ((uh Hv1).below hW) (uh HS).guilded (by have:=(uh HS).few;omega))
   have Hf:=Z9 (fun (W:World) (hW:Below wr.heap.size wr W)=>Wy (k:Int) ((uh Hv1).below hW).rooms ((uh HS).bench hlt))
   rw [<-hfo] at Hf
   clear hfo
   have Ht:=Z9 (fun (W:World)=>Calls.same_below (U7 (ZI m (who:Int)) (ZA m (k:Int) (who:Int)) (Zx m.rooms (k:Int)) W))
   generalize Zw m (who:Int) k=ma at *
   generalize ZI m (who:Int)=wa at *
   generalize ZA m (k:Int) (who:Int)=us at *
   generalize Zx m.rooms (k:Int)=fo at *
   generalize W6 wa us fo=fi at *
   have y0:=cell_regrown c0
   have y1:=cell_regrown c1
   have y2:=cell_regrown c2
   have y3:=cell_regrown c3
   have y4:=cell_regrown c4
   have y5:=cell_regrown c5
   cases ma
   ·go_wp2_with fail
    refine wp_region_quiet_below (by kernel_rfl) (by kernel_rfl) ?_
    repeat (go_big_quiet_step (first | exact Calls.regrown_of (uh Hma _ (below_regrown _ _ _)) | exact Calls.regrown_of (uh Hwa _ (below_regrown _ _ _)) | exact Calls.regrown_of (uh Hu _ (below_regrown _ _ _)) | exact Calls.regrown_of (uh Hf _ (below_regrown _ _ _)) | exact Calls.regrown_of (uh Ht _)))
    refine wpQuiet_nil ?_
    intro _ hw'
    obtain ⟨⟨dq,osq⟩,hw''⟩:=hw'
    subst hw''
    go_wp2_with fail
    go_roundw
    case rel=>exact ⟨k+1,by omega,by go_num,by rw [uh Hno (uh Hc)];exact RecAt.later (uh HL) (below_regrown _ _ _),(uh kb).below (below_regrown _ _ _) (uh kb).lt,(uh Hv1).below (below_regrown _ _ _),(uh BB).trans ((below_regrown _ _ _).mono (uh BB).size)⟩
    case measure=>simp [intOf];omega
   cases fi
   ·go_wp2_with fail
    refine wp_region_quiet_below (by kernel_rfl) (by kernel_rfl) ?_
    repeat (go_big_quiet_step (first | exact Calls.regrown_of (uh Hma _ (below_regrown _ _ _)) | exact Calls.regrown_of (uh Hwa _ (below_regrown _ _ _)) | exact Calls.regrown_of (uh Hu _ (below_regrown _ _ _)) | exact Calls.regrown_of (uh Hf _ (below_regrown _ _ _)) | exact Calls.regrown_of (uh Ht _)))
    refine wpQuiet_nil ?_
    intro _ hw'
    obtain ⟨⟨dq,osq⟩,hw''⟩:=hw'
    subst hw''
    go_wp2_with fail
    go_roundw
    case rel=>exact ⟨k+1,by omega,by go_num,by rw [uh Hno (uh Hc)];exact RecAt.later (uh HL) (below_regrown _ _ _),(uh kb).below (below_regrown _ _ _) (uh kb).lt,(uh Hv1).below (below_regrown _ _ _),(uh BB).trans ((below_regrown _ _ _).mono (uh BB).size)⟩
    case measure=>simp [intOf];omega
   ·go_wp2_with fail
    refine wp_region_quiet_below (by kernel_rfl) (by kernel_rfl) ?_
    repeat (go_big_quiet_step (first | exact Calls.regrown_of (uh Hma _ (below_regrown _ _ _)) | exact Calls.regrown_of (uh Hwa _ (below_regrown _ _ _)) | exact Calls.regrown_of (uh Hu _ (below_regrown _ _ _)) | exact Calls.regrown_of (uh Hf _ (below_regrown _ _ _)) | exact Calls.regrown_of (uh Ht _)))
    refine wpQuiet_nil ?_
    intro _ hw'
    obtain ⟨⟨dq,osq⟩,hw''⟩:=hw'
    subst hw''
    clear c0 c1 c2 c3 c4 c5 y0 y1 y2 y3 y4 y5 Hma Hwa Hu Hf Ht
    have hb9:=below_regrown wr dq osq
    replace HL:=Z9 (RecAt.later (uh HL) hb9)
    replace kb:=Z9 ((uh kb).below hb9 (uh kb).lt)
    replace Hv1:=Z9 ((uh Hv1).below hb9)
    replace BB:=Z9 ((uh BB).trans (hb9.mono (uh BB).size))
    clear hb9
    generalize grow (redrawn wr dq) osq=X at *
    have hsx:=(uh BB).size
    go_wp2_with (at_builtin;refine ZH tyN rfl (.tmp 33) (.tmp 35) 30 Tryz.underlying30 rfl (w.heap.size+1) _ _ (Wc m (who:Int) k) [(k:Int)] rfl rfl (RecAt.later (uh HL) ((Below.refl _ _).alloc (Nat.le_refl _) _)) (Xd (k:Int) rfl (Nat.le_refl _) (by omega)) (by simp;omega) (by simp;omega) ?_;intro u9 w9 hp9 hg9 hat9;have HP9:=Z9 hp9;have HG9:=Z9 hg9;clear hp9 hg9 hat9)
    have hlx:=(uh kb).lt
    have hgo:∀ i,(Value.slice la (Wc m (who:Int) k).length lc).ownBlock=some i->w.heap.size+1<=i:=fun i e=>(RecAt.lt (uh HL) e).1
    have hb9:Below (w.heap.size+1) X w9:=((Below.refl _ _).alloc hlx _).trans ((Below.refl _ _).grown (uh HG9) (by simp;omega) hgo)
    have hb8:=(uh BB).trans (hb9.mono (Nat.le_succ _))
    go_wp2_with fail
    go_roundw
    case rel=>exact ⟨k+1,by omega,by go_num,by rw [uh Hyes (uh Hc)];exact uh HP9,(uh kb).below hb9 (Nat.lt_succ_self _),(uh HW).below hb8,hb8⟩
    case measure=>simp [intOf];omega
  ·obtain rfl:k=m.desks.length:=by omega
   go_wp2_with fail
   go_ret
   exact ⟨_,rfl,RecAt.mono (uh HL) (Nat.le_succ _),uh BB⟩
theorem Di {w:World} {g:Nat} {zs:List Int} (h:∀ j,j<zs.length-> ∀ i u,(Us (Z8 zs j))[i]?=some u->w.cell? ⟨g,j*1+i,none⟩=some u) {j:Nat} (hj:j<zs.length):w.cell? ⟨g,j,none⟩=some (.int .i64 (Z8 zs j)):=by
 have:=h j hj 0 _ rfl
 simpa using this
theorem JV {m:Z6} {who:Int} (h:XV m=true\/(XV m=false/\(Zn m who).length=0)):Zr m who=(Zg m who m.desks.length).1:=by
 unfold Zr
 rcases h with e | ⟨e,e'⟩
 ·rw [e];rfl
 ·rw [e,e'];rfl
theorem JU {m:Z6} {who:Int} (h:XV m=false) (h':0<(Zn m who).length):Zr m who=(XU m who (Zn m who) (Zn m who).length).1:=by
 unfold Zr
 rw [h,decide_eq_true h'];rfl
theorem I1 {m:Z6} {who:Int} {k:Nat} (hm:Zw m who k=true) (h:(Zg m who k).1<0\/(Zg m who k).2<Yi (ZA m k who) (Zx m.rooms k)):Zg m who (k+1)=((k:Int),Yi (ZA m k who) (Zx m.rooms k)):=by
 show (if _ then _ else _)=_
 rw [hm]
 rcases h with h | h
 ·rw [decide_eq_true h];rfl
 ·rw [decide_eq_true h,Bool.or_true];rfl
theorem FJ {m:Z6} {who:Int} {k:Nat} (h:Zw m who k=false\/(¬ (Zg m who k).1<0/\ ¬ (Zg m who k).2<Yi (ZA m k who) (Zx m.rooms k))):Zg m who (k+1)=Zg m who k:=by
 show (if _ then _ else _)=_
 rcases h with h | ⟨h,h'⟩
 ·rw [h];rfl
 ·rw [decide_eq_false h,decide_eq_false h',Bool.or_false,Bool.and_false];rfl
theorem N8 {m:Z6} {who:Int} {f:List Int} : XU m who f 1=(Z8 f 0,ZX m who (Z8 f 0)):=by
 cases f<;>rfl
theorem P0 {m:Z6} {who:Int} {f:List Int} {k:Nat} (h1:1<=k) (hk:k<f.length):XU m who f (k+1)=Y2 m who (XU m who f k) (Z8 f k):=by
 unfold XU
 have e:f.take (k+1)=f.take k++[Z8 f k]:=by
  rw [List.take_add_one,List.getElem?_eq_getElem hk,Sw hk];rfl
 rw [e,List.drop_append_of_le_length (by simp;omega),List.foldl_append]
 rfl
theorem In {m:Z6} {who:Nat} {f:List Int} {k:Nat} (h1:1<=k) (hk:k<f.length) (h:ZX m (who:Int) (Z8 f k)<(XU m (who:Int) f k).2\/(ZX m (who:Int) (Z8 f k)=(XU m (who:Int) f k).2/\Z8 f k=(Z8 m.smiths who).2.1)):XU m (who:Int) f (k+1)=(Z8 f k,ZX m (who:Int) (Z8 f k)):=by
 rw [P0 h1 hk]
 unfold Y2
 exact if_pos h
theorem E5 {m:Z6} {who:Nat} {f:List Int} {k:Nat} (h1:1<=k) (hk:k<f.length) (h:¬ (ZX m (who:Int) (Z8 f k)<(XU m (who:Int) f k).2\/(ZX m (who:Int) (Z8 f k)=(XU m (who:Int) f k).2/\Z8 f k=(Z8 m.smiths who).2.1))):XU m (who:Int) f (k+1)=XU m (who:Int) f k:=by
 rw [P0 h1 hk]
 unfold Y2
 exact if_neg h
theorem Xm {w:World} {v0 v1 v2 v3 v4:Value} {m:Z6} {who:Nat} (h:Smy w v0 v1 v2 v3 v4 m) (hS:Sane m) (hp:m.paces.length<=1000) (hA:Tp m who) :
  Calls Tryz.prog 90 #[.agg #[v0,v1,v2,v3,v4,.int .i64 m.now],.int .i64 (who:Int)] w fun e w'=>e= .returned (.int .i64 (Zr m (who:Int)))/\Below w.heap.size w w':=by
 have Hv:=Z9 (h.alloc (.cells #[v0,v1,v2,v3,v4,.int .i64 m.now] 32))
 obtain ⟨a0,p0,a1,p1,a2,p2,a3,p3,a4,p4,rfl,rfl,rfl,rfl,rfl,_,_,_,_,_,_,_,_,_,_⟩:=h.five
 clear h
 obtain ⟨BB0,kb0⟩:=WL w 32 (S6 a0 p0 a1 p1 a2 p2 a3 p3 a4 p4 m)
 have HS:=Z9 hS
 have HA:=Z9 hA
 have HP:=Z9 hp
 have h8:=hS.eight
 clear hS hA hp
 obtain ⟨c0,c1,c2,c3,c4,c5⟩:=(uh kb0).c6
 have hX:(XV m=true\/(XV m=false/\(Zn m (who:Int)).length=0))\/(XV m=false/\0<(Zn m (who:Int)).length):=by
  cases XV m
  ·by_cases h0:(Zn m (who:Int)).length=0
   ·exact .inl (.inr ⟨rfl,h0⟩)
   ·exact .inr ⟨rfl,by omega⟩
  ·exact .inl (.inl rfl)
 rcases hX with hX | ⟨hcr,hle⟩
 ·rw [JV hX]
  rcases hX with hcr | ⟨hcr,hle⟩
  all_goals
   go_enter Tryz.func90,Tryz.ntmps90
   go_wp2_with (first | (go_at_call 81;refine (UX (uh Hv) (uh HS) (uh HA)).mono ?_;rintro e w1 ⟨fv,rfl,hf1,hb1⟩;obtain ⟨la,lc,rfl⟩:=RecAt.shape hf1;have HF:=Z9 hf1;have B1:=Z9 hb1;have kb1:=Z9 ((uh kb0).below hb1 (uh kb0).lt);have Hv1:=Z9 ((uh Hv).below hb1);have BB1:=Z9 ((uh BB0).trans (hb1.mono (uh BB0).size));clear hf1 hb1 kb0 Hv BB0 B1 c0 c1 c2 c3 c4 c5;have d0:=(uh kb1).cell (i:=0) (v:= .slice a0 m.rooms.length p0) rfl;have d1:=(uh kb1).cell (i:=1) (v:= .slice a1 m.guilds.length p1) rfl;have d2:=(uh kb1).cell (i:=2) (v:= .slice a2 m.smiths.length p2) rfl;have d3:=(uh kb1).cell (i:=3) (v:= .slice a3 m.desks.length p3) rfl;have d4:=(uh kb1).cell (i:=4) (v:= .slice a4 m.paces.length p4) rfl;have d5:=(uh kb1).cell (i:=5) (v:= .int .i64 m.now) rfl) | (go_at_call 91;refine (UW (uh Hv1) (uh HS)).mono ?_;rintro e w2 ⟨he,hb2⟩;rw [hcr] at he;subst he;have B2:=Z9 hb2;clear hb2) | fail)
   have kb2:=Z9 ((uh kb1).below (uh B2) (uh kb1).lt)
   have Hv2:=Z9 ((uh Hv1).below (uh B2))
   have BB2:=Z9 ((uh BB1).trans ((uh B2).mono (uh BB1).size))
   clear kb1 Hv1 BB1 B2 d0 d1 d2 d3 d4 d5 HF
   go_loopw [10,11,12] (fun bv mv i wr=> ∃ k:Nat,k<=m.desks.length/\bv= .int .i64 (Zg m (who:Int) k).1/\mv= .int .i64 (Zg m (who:Int) k).2/\i= .int .i64 k/\Blk wr w.heap.size 32 #[.slice a0 m.rooms.length p0,.slice a1 m.guilds.length p1,.slice a2 m.smiths.length p2,.slice a3 m.desks.length p3,.slice a4 m.paces.length p4,.int .i64 m.now]/\Smy wr (.slice a0 m.rooms.length p0) (.slice a1 m.guilds.length p1) (.slice a2 m.smiths.length p2) (.slice a3 m.desks.length p3) (.slice a4 m.paces.length p4) m/\Below w.heap.size w wr) (fun _ _ i _=>m.desks.length-(intOf i).toNat)
   case atStart=>exact ⟨0,Nat.zero_le _,rfl,rfl,rfl,uh kb2,uh Hv2,uh BB2⟩
   case round=>
    obtain ⟨k,hk,rfl,rfl,rfl,hkb,hv,hb0⟩:=hrel
    have kb:=Z9 hkb
    have Hv3:=Z9 hv
    have BB:=Z9 hb0
    clear hkb hv hb0 kb2 BB2 Hv2
    obtain ⟨e0,e1,e2,e3,e4,e5⟩:=(uh kb).c6
    by_cases hlt:k<m.desks.length
    ·have hlt1:(k:Int)<(m.desks.length:Int):=by omega
     have Hno:=Z9 (fun hh=>FJ (m:=m) (who:=(who:Int)) (k:=k) hh)
     have Hyes:=Z9 (fun ha hh=>I1 (m:=m) (who:=(who:Int)) (k:=k) ha hh)
     have hfo:=UQ ((uh HS).bench hlt)
     have Hma:=Z9 (fun (W:World) (hW:Below wr.heap.size wr W)=>UY ((uh Hv3).below hW) (uh HA).lt hlt (by omega) (uh HA).y0 (uh HA).y1)
     have Hu:=Z9 (fun (W:World) (hW:Below wr.heap.size wr W)=>VI (k:Int) (who:Int) ((uh Hv3).below hW) (uh HS).guilded (by have:=(uh HS).few;omega))
     have Hf:=Z9 (fun (W:World) (hW:Below wr.heap.size wr W)=>Wy (k:Int) ((uh Hv3).below hW).rooms ((uh HS).bench hlt))
     rw [<-hfo] at Hf
     clear hfo
     have Ht:=Z9 (fun (W:World)=>Calls.same_below (WH (ZA m (k:Int) (who:Int)) (Zx m.rooms (k:Int)) W))
     generalize Zw m (who:Int) k=ma at *
     generalize ZA m (k:Int) (who:Int)=us at *
     generalize Zx m.rooms (k:Int)=fo at *
     generalize Yi us fo=sp at *
     obtain ⟨bt,hbt⟩:∃ q,(Zg m (who:Int) k).1=q:=⟨_,rfl⟩
     obtain ⟨mt,hmt⟩:∃ q,(Zg m (who:Int) k).2=q:=⟨_,rfl⟩
     rw [hbt,hmt] at Hno Hyes
     rw [hbt,hmt]
     have Hbt:=Z9 hbt
     have Hmt:=Z9 hmt
     clear hbt hmt
     have y0:=cell_regrown e0
     have y1:=cell_regrown e1
     have y2:=cell_regrown e2
     have y3:=cell_regrown e3
     have y4:=cell_regrown e4
     have y5:=cell_regrown e5
     cases ma
     ·go_wp2_with fail
      refine wp_region_quiet_below (by kernel_rfl) (by kernel_rfl) ?_
      repeat (go_big_quiet_step (first | exact Calls.regrown_of (uh Hu _ (below_regrown _ _ _)) | exact Calls.regrown_of (uh Hf _ (below_regrown _ _ _)) | exact Calls.regrown_of (uh Ht _)))
      refine wpQuiet_nil ?_
      intro _ hw'
      obtain ⟨⟨dq,osq⟩,hw''⟩:=hw'
      subst hw''
      go_wp2_with (go_at_call 82;refine (uh Hma _ (below_regrown _ _ _)).mono ?_;rintro e w5 ⟨rfl,hb5⟩;have HX:=Z9 ((below_regrown wr dq osq).trans (hb5.mono (below_regrown _ _ _).size));clear hb5)
      go_roundw
      case rel=>exact ⟨k+1,by omega,by rw [uh Hno (.inl (by simp)),uh Hbt],by rw [uh Hno (.inl (by simp)),uh Hmt],by go_num,(uh kb).below (uh HX) (uh kb).lt,(uh Hv3).below (uh HX),(uh BB).trans ((uh HX).mono (uh BB).size)⟩
      case measure=>simp [intOf];omega
     by_cases hb1:bt<0
     ·go_wp2_with fail
      refine wp_region_quiet_below (by kernel_rfl) (by kernel_rfl) ?_
      repeat (go_big_quiet_step (first | exact Calls.regrown_of (uh Hu _ (below_regrown _ _ _)) | exact Calls.regrown_of (uh Hf _ (below_regrown _ _ _)) | exact Calls.regrown_of (uh Ht _)))
      refine wpQuiet_nil ?_
      intro _ hw'
      obtain ⟨⟨dq,osq⟩,hw''⟩:=hw'
      subst hw''
      go_wp2_with (go_at_call 82;refine (uh Hma _ (below_regrown _ _ _)).mono ?_;rintro e w5 ⟨rfl,hb5⟩;have HX:=Z9 ((below_regrown wr dq osq).trans (hb5.mono (below_regrown _ _ _).size));clear hb5)
      go_roundw
      case rel=>exact ⟨k+1,by omega,by rw [uh Hyes (by simp) (.inl hb1)],by rw [uh Hyes (by simp) (.inl hb1)],by go_num,(uh kb).below (uh HX) (uh kb).lt,(uh Hv3).below (uh HX),(uh BB).trans ((uh HX).mono (uh BB).size)⟩
      case measure=>simp [intOf];omega
     by_cases hb2:mt<sp
     ·go_wp2_with fail
      refine wp_region_quiet_below (by kernel_rfl) (by kernel_rfl) ?_
      repeat (go_big_quiet_step (first | exact Calls.regrown_of (uh Hu _ (below_regrown _ _ _)) | exact Calls.regrown_of (uh Hf _ (below_regrown _ _ _)) | exact Calls.regrown_of (uh Ht _)))
      refine wpQuiet_nil ?_
      intro _ hw'
      obtain ⟨⟨dq,osq⟩,hw''⟩:=hw'
      subst hw''
      go_wp2_with (go_at_call 82;refine (uh Hma _ (below_regrown _ _ _)).mono ?_;rintro e w5 ⟨rfl,hb5⟩;have HX:=Z9 ((below_regrown wr dq osq).trans (hb5.mono (below_regrown _ _ _).size));clear hb5)
      go_roundw
      case rel=>exact ⟨k+1,by omega,by rw [uh Hyes (by simp) (.inr hb2)],by rw [uh Hyes (by simp) (.inr hb2)],by go_num,(uh kb).below (uh HX) (uh kb).lt,(uh Hv3).below (uh HX),(uh BB).trans ((uh HX).mono (uh BB).size)⟩
      case measure=>simp [intOf];omega
     ·go_wp2_with fail
      refine wp_region_quiet_below (by kernel_rfl) (by kernel_rfl) ?_
      repeat (go_big_quiet_step (first | exact Calls.regrown_of (uh Hu _ (below_regrown _ _ _)) | exact Calls.regrown_of (uh Hf _ (below_regrown _ _ _)) | exact Calls.regrown_of (uh Ht _)))
      refine wpQuiet_nil ?_
      intro _ hw'
      obtain ⟨⟨dq,osq⟩,hw''⟩:=hw'
      subst hw''
      go_wp2_with (go_at_call 82;refine (uh Hma _ (below_regrown _ _ _)).mono ?_;rintro e w5 ⟨rfl,hb5⟩;have HX:=Z9 ((below_regrown wr dq osq).trans (hb5.mono (below_regrown _ _ _).size));clear hb5)
      go_roundw
      case rel=>exact ⟨k+1,by omega,by rw [uh Hno (.inr ⟨by omega,by omega⟩),uh Hbt],by rw [uh Hno (.inr ⟨by omega,by omega⟩),uh Hmt],by go_num,(uh kb).below (uh HX) (uh kb).lt,(uh Hv3).below (uh HX),(uh BB).trans ((uh HX).mono (uh BB).size)⟩
      case measure=>simp [intOf];omega
    ·obtain rfl:k=m.desks.length:=by omega
     go_wp2_with fail
     go_ret
     exact ⟨rfl,uh BB⟩
 ·rw [JU hcr hle]
  have hlb:(Zn m (who:Int)).length<=m.desks.length:=Qs m (who:Int) m.desks.length
  generalize hL:Zn m (who:Int)=L at *
  go_enter Tryz.func90,Tryz.ntmps90
  go_wp2_with (first | (go_at_call 81;refine (UX (uh Hv) (uh HS) (uh HA)).mono ?_;rintro e w1 ⟨fv,rfl,hf1,hb1⟩;rw [hL] at hf1;obtain ⟨la,lc,rfl⟩:=RecAt.shape hf1;obtain ⟨g,rfl,_,g1,hgc,_⟩:=RecAt.view YK (by omega) hf1 rfl hle;have C1:=Z9 (fun j hj=>Di hgc (j:=j) hj);have kb1:=Z9 ((uh kb0).below hb1 (uh kb0).lt);have Hv1:=Z9 ((uh Hv).below hb1);have BB1:=Z9 ((uh BB0).trans (hb1.mono (uh BB0).size));clear hf1 hb1 hgc kb0 Hv BB0 c0 c1 c2 c3 c4 c5;have d0:=(uh kb1).cell (i:=0) (v:= .slice a0 m.rooms.length p0) rfl;have d1:=(uh kb1).cell (i:=1) (v:= .slice a1 m.guilds.length p1) rfl;have d2:=(uh kb1).cell (i:=2) (v:= .slice a2 m.smiths.length p2) rfl;have d3:=(uh kb1).cell (i:=3) (v:= .slice a3 m.desks.length p3) rfl;have d4:=(uh kb1).cell (i:=4) (v:= .slice a4 m.paces.length p4) rfl;have d5:=(uh kb1).cell (i:=5) (v:= .int .i64 m.now) rfl) | (go_at_call 91;refine (UW (uh Hv1) (uh HS)).mono ?_;rintro e w2 ⟨he,hb2⟩;rw [hcr] at he;subst he;have kb2:=Z9 ((uh kb1).below hb2 (uh kb1).lt);have Hv2:=Z9 ((uh Hv1).below hb2);have BB2:=Z9 ((uh BB1).trans (hb2.mono (uh BB1).size));have C2:=Z9 (fun j hj=>(hb2.cell (p:=⟨g,j,none⟩) g1).trans (uh C1 j hj));have g2:=Nat.lt_of_lt_of_le g1 hb2.size;clear hb2 kb1 Hv1 BB1 C1 g1 d0 d1 d2 d3 d4 d5;have d0:=(uh kb2).cell (i:=0) (v:= .slice a0 m.rooms.length p0) rfl;have d1:=(uh kb2).cell (i:=1) (v:= .slice a1 m.guilds.length p1) rfl;have d2:=(uh kb2).cell (i:=2) (v:= .slice a2 m.smiths.length p2) rfl;have d3:=(uh kb2).cell (i:=3) (v:= .slice a3 m.desks.length p3) rfl;have d4:=(uh kb2).cell (i:=4) (v:= .slice a4 m.paces.length p4) rfl;have d5:=(uh kb2).cell (i:=5) (v:= .int .i64 m.now) rfl;have x0:=uh C2 0 hle) | (go_at_call 92;refine (SQ _ (uh Hv2) (uh HS) (uh HP) (uh HA).lt (uh HA).st).mono ?_;rintro e w3 ⟨rfl,hb3⟩;have B3:=Z9 hb3;clear hb3) | fail)
  have kb3:=Z9 ((uh kb2).below (uh B3) (uh kb2).lt)
  have Hv3:=Z9 ((uh Hv2).below (uh B3))
  have BB3:=Z9 ((uh BB2).trans ((uh B3).mono (uh BB2).size))
  have C3:=Z9 (fun j hj=>((uh B3).cell (p:=⟨g,j,none⟩) g2).trans (uh C2 j hj))
  have g3:=Nat.lt_of_lt_of_le g2 (uh B3).size
  clear kb2 Hv2 BB2 B3 C2 g2 d0 d1 d2 d3 d4 d5 x0
  go_loopw [6,7,8] (fun bv lv i wr=> ∃ k:Nat,1<=k/\k<=L.length/\bv= .int .i64 (XU m (who:Int) L k).1/\lv= .int .i64 (XU m (who:Int) L k).2/\i= .int .i64 k/\(∀ j,j<L.length->wr.cell? ⟨g,j,none⟩=some (.int .i64 (Z8 L j)))/\g<wr.heap.size/\Blk wr w.heap.size 32 #[.slice a0 m.rooms.length p0,.slice a1 m.guilds.length p1,.slice a2 m.smiths.length p2,.slice a3 m.desks.length p3,.slice a4 m.paces.length p4,.int .i64 m.now]/\Smy wr (.slice a0 m.rooms.length p0) (.slice a1 m.guilds.length p1) (.slice a2 m.smiths.length p2) (.slice a3 m.desks.length p3) (.slice a4 m.paces.length p4) m/\Below w.heap.size w wr) (fun _ _ i _=>L.length-(intOf i).toNat)
  case atStart=>exact ⟨1,Nat.le_refl _,by omega,by rw [N8],by rw [N8],rfl,uh C3,g3,uh kb3,uh Hv3,uh BB3⟩
  case round=>
   obtain ⟨k,hk1,hk,rfl,rfl,rfl,hc,hg,hkb,hv,hb0⟩:=hrel
   have HC:=Z9 hc
   have kb:=Z9 hkb
   have Hv4:=Z9 hv
   have BB:=Z9 hb0
   clear hkb hv hb0 kb3 BB3 Hv3 hc C3 g3
   obtain ⟨e0,e1,e2,e3,e4,e5⟩:=(uh kb).c6
   by_cases hlt:k<L.length
   ·have hlt1:(k:Int)<(L.length:Int):=by omega
    have x0:=uh HC k hlt
    obtain ⟨_,_,hse,_,_,r2⟩:=(uh Hv4).smiths
    cases hse
    have hwl:=(uh HA).lt
    rcases r2 with e0 | ⟨sb,so,rfl,hbs,hcs⟩
    ·rw [e0] at hwl;simp at hwl
    obtain ⟨_,s1,_⟩:=ZE hcs hwl
    clear hcs
    have hwl1:(who:Int)<(m.smiths.length:Int):=by omega
    have Hno:=Z9 (fun hh=>E5 (m:=m) (who:=who) (k:=k) hk1 hlt hh)
    have Hyes:=Z9 (fun hh=>In (m:=m) (who:=who) (k:=k) hk1 hlt hh)
    have Hw:=Z9 (fun (W:World) (hW:Below wr.heap.size wr W)=>SQ (Z8 L k) ((uh Hv4).below hW) (uh HS) (uh HP) (uh HA).lt (uh HA).st)
    generalize ZX m (who:Int) (Z8 L k)=n at *
    generalize Z8 L k=x at *
    generalize (Z8 m.smiths who).2.1=y at *
    obtain ⟨bt,hbt⟩:∃ q,(XU m (who:Int) L k).1=q:=⟨_,rfl⟩
    obtain ⟨lt,hmt⟩:∃ q,(XU m (who:Int) L k).2=q:=⟨_,rfl⟩
    rw [hmt] at Hno Hyes
    rw [hbt,hmt]
    have Hbt:=Z9 hbt
    have Hmt:=Z9 hmt
    clear hbt hmt
    have y0:=cell_regrown e0
    have y1:=cell_regrown e1
    have y2:=cell_regrown e2
    have y3:=cell_regrown e3
    have y4:=cell_regrown e4
    have y5:=cell_regrown e5
    have z0:=cell_regrown x0
    have z1:=cell_regrown s1
    go_wp2_with fail
    refine wp_region_quiet_below (by kernel_rfl) (by kernel_rfl) ?_
    repeat (go_big_quiet_step (first | exact Calls.regrown_of (uh Hw _ (below_regrown _ _ _))))
    refine wpQuiet_nil ?_
    intro _ hw'
    obtain ⟨⟨dq,osq⟩,hw''⟩:=hw'
    subst hw''
    go_wp2_with fail
    have hX:=Z9 (below_regrown wr dq osq)
    have q0:=y0 dq osq;have q1:=y1 dq osq;have q2:=y2 dq osq;have q3:=y3 dq osq;have q4:=y4 dq osq;have q5:=y5 dq osq
    have r0:=z0 dq osq
    have r1:=z1 dq osq
    clear z0 z1 x0 s1 y0 y1 y2 y3 y4 y5 e0 e1 e2 e3 e4 e5 Hw
    have HC2:=Z9 (fun j hj=>((uh hX).cell (p:=⟨g,j,none⟩) hg).trans (uh HC j hj))
    have hg2:=Nat.lt_of_lt_of_le hg (uh hX).size
    have kb9:=Z9 ((uh kb).below (uh hX) (uh kb).lt)
    have Hv9:=Z9 ((uh Hv4).below (uh hX))
    have BB9:=Z9 ((uh BB).trans ((uh hX).mono (uh BB).size))
    clear HC hg kb Hv4 BB hX hbs
    generalize grow (redrawn wr dq) osq=X at *
    have r2:=cell_regrown r0
    have r3:=cell_regrown r1
    have t0:=cell_regrown q0;have t1:=cell_regrown q1;have t2:=cell_regrown q2;have t3:=cell_regrown q3;have t4:=cell_regrown q4;have t5:=cell_regrown q5
    by_cases hn:n<lt
    ·refine wp_region_quiet_below (by kernel_rfl) (by kernel_rfl) ?_
     repeat (go_big_quiet_step (fail))
     refine wpQuiet_nil ?_
     intro _ hw'
     obtain ⟨⟨dq,osq⟩,hw''⟩:=hw'
     subst hw''
     go_wp2_with fail
     go_roundw
     case rel=>exact ⟨k+1,by omega,by omega,by rw [uh Hyes (by omega)],by rw [uh Hyes (by omega)],by go_num,fun j hj=>((below_regrown X dq osq).cell (p:=⟨g,j,none⟩) hg2).trans (uh HC2 j hj),Nat.lt_of_lt_of_le hg2 (below_regrown X dq osq).size,(uh kb9).below (below_regrown X dq osq) (uh kb9).lt,(uh Hv9).below (below_regrown X dq osq),(uh BB9).trans ((below_regrown X dq osq).mono (uh BB9).size)⟩
     case measure=>simp [intOf];omega
    by_cases he:n=lt
    ·subst he
     by_cases hxy:x=y
     ·subst hxy
      refine wp_region_quiet_below (by kernel_rfl) (by kernel_rfl) ?_
      repeat (go_big_quiet_step (fail))
      refine wpQuiet_nil ?_
      intro _ hw'
      obtain ⟨⟨dq,osq⟩,hw''⟩:=hw'
      subst hw''
      go_wp2_with fail
      go_roundw
      case rel=>exact ⟨k+1,by omega,by omega,by rw [uh Hyes (by omega)],by rw [uh Hyes (by omega)],by go_num,fun j hj=>((below_regrown X dq osq).cell (p:=⟨g,j,none⟩) hg2).trans (uh HC2 j hj),Nat.lt_of_lt_of_le hg2 (below_regrown X dq osq).size,(uh kb9).below (below_regrown X dq osq) (uh kb9).lt,(uh Hv9).below (below_regrown X dq osq),(uh BB9).trans ((below_regrown X dq osq).mono (uh BB9).size)⟩
      case measure=>simp [intOf];omega
     ·refine wp_region_quiet_below (by kernel_rfl) (by kernel_rfl) ?_
      repeat (go_big_quiet_step (fail))
      refine wpQuiet_nil ?_
      intro _ hw'
      obtain ⟨⟨dq,osq⟩,hw''⟩:=hw'
      subst hw''
      go_wp2_with fail
      go_roundw
      case rel=>exact ⟨k+1,by omega,by omega,by rw [uh Hno (by omega),uh Hbt],by rw [uh Hno (by omega),uh Hmt],by go_num,fun j hj=>((below_regrown X dq osq).cell (p:=⟨g,j,none⟩) hg2).trans (uh HC2 j hj),Nat.lt_of_lt_of_le hg2 (below_regrown X dq osq).size,(uh kb9).below (below_regrown X dq osq) (uh kb9).lt,(uh Hv9).below (below_regrown X dq osq),(uh BB9).trans ((below_regrown X dq osq).mono (uh BB9).size)⟩
      case measure=>simp [intOf];omega
    ·have e1:(n ==lt)=false:=by simpa using he
     have e2:decide (n=lt)=false:=decide_eq_false he
     refine wp_region_quiet_below (by kernel_rfl) (by kernel_rfl) ?_
     repeat (go_big_quiet_step (fail))
     refine wpQuiet_nil ?_
     intro _ hw'
     obtain ⟨⟨dq,osq⟩,hw''⟩:=hw'
     subst hw''
     go_wp2_with fail
     go_roundw
     case rel=>exact ⟨k+1,by omega,by omega,by rw [uh Hno (by omega),uh Hbt],by rw [uh Hno (by omega),uh Hmt],by go_num,fun j hj=>((below_regrown X dq osq).cell (p:=⟨g,j,none⟩) hg2).trans (uh HC2 j hj),Nat.lt_of_lt_of_le hg2 (below_regrown X dq osq).size,(uh kb9).below (below_regrown X dq osq) (uh kb9).lt,(uh Hv9).below (below_regrown X dq osq),(uh BB9).trans ((below_regrown X dq osq).mono (uh BB9).size)⟩
     case measure=>simp [intOf];omega
   ·obtain rfl:k=L.length:=by omega
    go_wp2_with fail
    go_ret
    exact ⟨rfl,uh BB⟩
end Go.Proofs.YtaegckehjlkaaaaGreat
