/- Part 25 of what the proof rests on. No condition but those that a theorem names. -/
import Derived.Test.YtffcgajndmhpkaaGreatDoorXw24
import Derived.Deep.LoopGhost
set_option maxHeartbeats 8000000
set_option maxRecDepth 100000
namespace Go.Proofs.YtffcgajndmhpkaaGreatDoor
open Go.ChangeShapes Go.WideShapes Go.ChangeAt Go.RowKit Go.Sort
set_option linter.unusedVariables false
set_option maxRecDepth 100000
variable {w w' w0 w1 w2 w3 w₀ wr W W' X A B C : World} {v v0 v1 v2 v3 v4 u u0 u1 u2 u3 u4 : Value} {m : Z4}
theorem Pn (st be rk my gu lo hi hd ca ut wk:Int) {R n3 p3:Nat} {a3:Option Addr} {ds:List Yq} (hc:w.cell? ⟨R,3,none⟩=some (.slice a3 n3 p3)) (hR:R<w.heap.size) (h:Vy w (.slice a3 n3 p3) ds):Calls Tryz.prog 111 #[.agg (I11 st be rk my gu lo hi hd ca ut wk),.pointer (some ⟨R,0,none⟩)] w fun e w'=>e= .returned (.bool (Xo ds (st,be,rk,my,gu,lo,hi,hd,ca,ut,wk)))/\Below w.heap.size w w':=by
 have hne:R ≠ w.heap.size:=Nat.ne_of_lt hR
 have HD:=Z9 h
 clear h
 go_enter Tryz.func111,Tryz.ntmps111
 go_wp2_with fail
 refine ck (Nb st be rk my gu lo hi hd ca ut wk ((uh HD).below ((ba _ _)))) fun w1 hb=> ?_
 have Hb:=Z9 (((Below.refl w.heap.size w).alloc (Nat.le_refl _) _).trans (hb.mono (by simp)))
 clear hb
 go_wp2_with fail
 go_ret
 exact ⟨rfl,uh Hb⟩
theorem Le  {ss:List Z3} {R n3 p3:Nat} {a3:Option Addr} {ds:List Yq} (h:Wu w v ss) (hc0:w.cell? ⟨R,3,none⟩=some (.slice a3 n3 p3)) (hR:R<w.heap.size) (hds:Vy w (.slice a3 n3 p3) ds):Calls Tryz.prog 110 #[v,.func (Fn.func 111) #[] #[.pointer (some ⟨R,0,none⟩)]] w fun e w'=>e= .returned (.bool (Yz (Xo ds) ss ss.length))/\Below w.heap.size w w':=by
 obtain ⟨a,cap,rfl,hc,hm,hr⟩:=h
 have Hr:=Z9 hr
 clear hr
 have HC:=Z9 hc0
 have HD:=Z9 hds
 clear hc0 hds
 go_enter Tryz.func110,Tryz.ntmps110
 go_wp2_with fail
 go_loopw [9] (fun i wr=> ∃ k:Nat,k<=ss.length/\i= .int .i64 k/\Yz (Xo ds) ss k=true/\Below w.heap.size w wr) (fun i _=>ss.length-(intOf i).toNat)
 case atStart=>exact ⟨0,Nat.zero_le _,rfl,rfl,Below.refl _ _⟩
 case round=>
  obtain ⟨k,hk,rfl,hst,hb0⟩:=hrel
  have Hst:=Z9 hst
  have BB:=Z9 hb0
  by_cases hlt:k<ss.length
  ·have hlt1:(k:Int)<(ss.length:Int):=by omega
   rcases uh Hr with e0 | ⟨b,off,rfl,hbw,hcl⟩
   ·rw [e0] at hlt;simp at hlt
   obtain ⟨d0,d1,d2,d3,d4,d5,d6,d7,d8,d9,d10⟩:=ZC hcl hlt
   rw [<-hb0.cell (p:=⟨b,off+k*11,none⟩) hbw] at d0
   rw [<-hb0.cell (p:=⟨b,off+k*11+1,none⟩) hbw] at d1
   rw [<-hb0.cell (p:=⟨b,off+k*11+2,none⟩) hbw] at d2
   rw [<-hb0.cell (p:=⟨b,off+k*11+3,none⟩) hbw] at d3
   rw [<-hb0.cell (p:=⟨b,off+k*11+4,none⟩) hbw] at d4
   rw [<-hb0.cell (p:=⟨b,off+k*11+5,none⟩) hbw] at d5
   rw [<-hb0.cell (p:=⟨b,off+k*11+6,none⟩) hbw] at d6
   rw [<-hb0.cell (p:=⟨b,off+k*11+7,none⟩) hbw] at d7
   rw [<-hb0.cell (p:=⟨b,off+k*11+8,none⟩) hbw] at d8
   rw [<-hb0.cell (p:=⟨b,off+k*11+9,none⟩) hbw] at d9
   rw [<-hb0.cell (p:=⟨b,off+k*11+10,none⟩) hbw] at d10
   have HU:=Z9 (fun hh=>Q2 (p:=(Xo ds)) (xs:=ss) (k:=k) hst hh)
   have HN:=Z9 (fun hh=>QZ (p:=(Xo ds)) (xs:=ss) hlt hh)
   clear hcl hst hb0
   generalize Z8 ss k=s at *
   obtain ⟨st,be,rk,my,gu,lo,hi,hd,ca,ut,wk⟩:=s
   simp only at d0 d1 d2 d3 d4 d5 d6 d7 d8 d9 d10
   have hbr:b<wr.heap.size:=Nat.lt_of_lt_of_le hbw (uh BB).size
   go_wp2_with fail
   clear d0 d1 d2 d3 d4 d5 d6 d7 d8 d9 d10
   obtain ⟨q,hq⟩:∃ q,(Xo ds) (st,be,rk,my,gu,lo,hi,hd,ca,ut,wk)=q:=⟨_,rfl⟩
   have Hq:=Z9 hq
   clear hq
   have hba:Below wr.heap.size wr (wr.alloc (.cells (I11 st be rk my gu lo hi hd ca ut wk) 39)):=ba _ _
   replace BB:=bt BB hba
   clear hba
   refine (Pn st be rk my gu lo hi hd ca ut wk (((uh BB).cell (p:=⟨R,3,none⟩) hR).trans (uh HC)) (Nat.lt_of_lt_of_le hR (uh BB).size) ((uh HD).below (uh BB))).mono ?_
   rw [uh Hq]
   rintro e w1 ⟨rfl,hb⟩
   replace BB:=bt BB hb
   clear hb
   cases q
   ·go_wp2_with fail
    go_ret
    exact ⟨Z5 (uh HN (uh Hq)).symm,uh BB⟩
   ·go_wp2_with fail
    go_roundw
    case rel=>exact ⟨k+1,by omega,by go_num,uh HU (uh Hq),uh BB⟩
    case measure=>exact ms
  ·obtain rfl:k=ss.length:=by omega
   go_wp2_with fail
   go_ret
   exact ⟨Z5 (uh Hst).symm,uh BB⟩
theorem VH (a0 a1 a2 a3 a4:Option Addr) (n0 n1 n2 n3 n4 p0 p1 p2 p3 p4:Nat) (now:Int) (w:World):Calls Tryz.prog 109 #[.agg #[.slice a0 n0 p0,.slice a1 n1 p1,.slice a2 n2 p2,.slice a3 n3 p3,.slice a4 n4 p4,.int .i64 now]] w fun e w'=>e= .returned (.slice a2 n2 p2)/\Below w.heap.size w w':=by
 go_enter Tryz.func109,Tryz.ntmps109
 go_wp2_with fail
 go_ret
 exact ⟨rfl,(ba _ _)⟩
theorem PO (a0 a1 a2 a3 a4:Option Addr) (n0 n1 n2 n3 n4 p0 p1 p2 p3 p4:Nat) (now:Int) (w:World):Calls Tryz.prog 150 #[.agg #[.slice a0 n0 p0,.slice a1 n1 p1,.slice a2 n2 p2,.slice a3 n3 p3,.slice a4 n4 p4,.int .i64 now]] w fun e w'=>e= .returned (.slice a3 n3 p3)/\Below w.heap.size w w':=by
 go_enter Tryz.func150,Tryz.ntmps150
 go_wp2_with fail
 go_ret
 exact ⟨rfl,(ba _ _)⟩
theorem LY  {ss:List Z3} {gs:List ZF} (h:Wu w v ss) (h1:Yg w v1 gs):Calls Tryz.prog 166 #[v,v1] w fun e w'=>e= .returned (.bool (Uy ss gs.length))/\Below w.heap.size w w':=by
 have Hv:=Z9 h
 obtain ⟨a,cap,rfl,_,_⟩:=IsRec.shape h
 obtain ⟨ga,gc,rfl,_,_⟩:=IsRec.shape h1
 clear h h1
 obtain ⟨q1,hq1⟩:∃ q,Yz ZE ss ss.length=q:=⟨_,rfl⟩
 obtain ⟨q2,hq2⟩:∃ q,Yz (XB gs.length) ss ss.length=q:=⟨_,rfl⟩
 have H1:=Z9 hq1
 have H2:=Z9 hq2
 by_cases hl:ss.length<=12
 ·refine Calls.bool_of (q:=(q1 && q2)) ?_ (by unfold Uy;rw [hq1,hq2,decide_eq_true hl,Bool.true_and])
  have hl1:(ss.length:Int)<=12:=by omega
  clear hq1 hq2
  have HW:=Z9 ((uh Hv).below ((Below.refl _ _).alloc (Nat.le_refl _) (.cells #[.slice ga gs.length gc] 27)))
  go_enter Tryz.func166,Tryz.ntmps166
  go_wp2_with fail
  refine (Eo (uh HW)).mono ?_
  rw [uh H1]
  rintro e w1 ⟨rfl,hb⟩
  replace HW:=Z9 ((uh HW).below hb)
  have c0:w1.cell? ⟨w.heap.size,0,none⟩=some (.slice ga gs.length gc):=(hb.cell (p:=⟨w.heap.size,0,none⟩) (by simp)).trans (Zu _ rfl)
  have hlt:w.heap.size<w1.heap.size:=by have:=hb.size;simp at this;omega
  have Hb:=Z9 (((Below.refl w.heap.size w).alloc (Nat.le_refl _) _).trans (hb.mono (by simp)))
  have HC:=Z9 c0
  clear hb c0
  cases q1
  ·go_wp2_with fail
   go_ret
   exact ⟨rfl,uh Hb⟩
  go_wp2_with fail
  refine (Lf (uh HW) (uh HC) hlt).mono ?_
  rw [uh H2]
  rintro e w2 ⟨rfl,hb⟩
  replace Hb:=Z9 ((uh Hb).trans (hb.mono (uh Hb).size))
  clear hb
  go_wp2_with fail
  go_ret
  exact ⟨Z5 (by simp),uh Hb⟩
 ·refine Calls.bool_of (q:=false) ?_ (by unfold Uy;rw [decide_eq_false hl];rfl)
  have hl1:¬ ((ss.length:Int)<=12):=by omega
  clear hq1 hq2
  go_enter Tryz.func166,Tryz.ntmps166
  go_wp2_with fail
  go_ret
  exact ⟨rfl,(ba _ _)⟩
theorem Ji  {ds:List Yq} {n:Int} (h:Vy w v ds) (hn:n<=1000):Calls Tryz.prog 167 #[v,.int .i64 n] w fun e w'=>e= .returned (.bool (So ds n))/\Below w.heap.size w w':=by
 have Hv:=Z9 h
 obtain ⟨a,cap,rfl,_,_⟩:=IsRec.shape h
 clear h
 obtain ⟨q1,hq1⟩:∃ q,Yz Ws ds ds.length=q:=⟨_,rfl⟩
 obtain ⟨ws,hws⟩:∃ ws,ZW TS ds ds.length=ws:=⟨_,rfl⟩
 have H1:=Z9 hq1
 have H2:=Z9 hws
 by_cases hl:(ds.length:Int)=n
 ·refine Calls.bool_of (q:=(q1 && decide (0<ws.length))) ?_ (by unfold So;rw [hq1,show ZW (fun d:Yq=>d.1) ds ds.length=ws from hws,decide_eq_true hl,Bool.true_and])
  subst hl
  have hl1:ds.length<=1000:=by omega
  clear hq1 hws
  go_enter Tryz.func167,Tryz.ntmps167
  go_wp2_with fail
  refine (IY (uh Hv)).mono ?_
  rw [uh H1]
  rintro e w1 ⟨rfl,hb⟩
  replace Hv:=Z9 ((uh Hv).below hb)
  have Hb:=Z9 hb
  clear hb
  cases q1
  ·go_wp2_with fail
   go_ret
   exact ⟨rfl,uh Hb⟩
  go_wp2_with fail
  refine (Nz (uh Hv) hl1).mono ?_
  rw [uh H2]
  rintro e w2 ⟨v2,rfl,hn2,hb⟩
  obtain ⟨la,lc,rfl⟩:=RecAt.shape hn2
  replace Hb:=Z9 ((uh Hb).trans (hb.mono (uh Hb).size))
  clear hb hn2
  go_wp2_with fail
  go_ret
  exact ⟨Z5 (by simp),uh Hb⟩
 ·refine Calls.bool_of (q:=false) ?_ (by unfold So;rw [decide_eq_false hl];rfl)
  have hl1:((ds.length:Int) ==n)=false:=by simpa using hl
  clear hq1 hws
  go_enter Tryz.func167,Tryz.ntmps167
  go_wp2_with fail
  go_ret
  exact ⟨rfl,Below.refl _ _⟩
theorem Ig {ps:List Int} {rs:List Z2} {k:Nat} (hk:k<ps.length) (h:XA (Z0 rs k).2.length (Z8 ps k)=false):Wc ps rs=false:=by
 unfold Wc
 rw [RL (p:=fun j=>XA (Z0 rs j).2.length (Z8 ps j)) hk h,Bool.and_false]
theorem OB  {ps:List Int} {rs:List Z2} (h:Qg w v ps) (h0:IsRooms w v0 rs):Calls Tryz.prog 169 #[v,v0] w fun e w'=>e= .returned (.bool (Wc ps rs))/\Below w.heap.size w w':=by
 obtain ⟨a,cap,rfl,hc,hm,hr⟩:=h
 obtain ⟨a0,cap0,rfl,hc0,hm0,hr0⟩:=h0
 have Hr:=Z9 hr
 have Hr0:=Z9 hr0
 clear hr hr0
 by_cases hl:ps.length=rs.length
 ·have hl1:(ps.length:Int)=(rs.length:Int):=by omega
  have hbn:((ps.length:Int) !=(rs.length:Int))=false:=by simp [hl]
  have Hall:Hid ((List.range ps.length).all (fun j=>XA (Z0 rs j).2.length (Z8 ps j))=true->Wc ps rs=true):=Z9 (fun e=>by unfold Wc;rw [e,decide_eq_true hl];rfl)
  have Hl:=Z9 hl
  clear hl hl1
  go_enter Tryz.func169,Tryz.ntmps169
  go_wp2_with fail
  go_loopw [14] (fun i wr=> ∃ k:Nat,k<=ps.length/\i= .int .i64 k/\(List.range k).all (fun j=>XA (Z0 rs j).2.length (Z8 ps j))=true/\Below w.heap.size w wr) (fun i _=>ps.length-(intOf i).toNat)
  case atStart=>exact ⟨0,Nat.zero_le _,rfl,rfl,Below.refl _ _⟩
  case round=>
   obtain ⟨k,hk,rfl,hst,hb0⟩:=hrel
   have Hst:=Z9 hst
   have BB:=Z9 hb0
   by_cases hlt:k<ps.length
   ·have hlt1:(k:Int)<(ps.length:Int):=by omega
    have hlt2:(k:Int)<(rs.length:Int):=by have:=uh Hl;omega
    rcases uh Hr with e0 | ⟨b,off,rfl,hbw,hcl⟩
    ·rw [e0] at hlt;simp at hlt
    rcases uh Hr0 with e0 | ⟨b0,off0,rfl,hbw0,hcl0⟩
    ·rw [e0] at hlt2;simp at hlt2;omega
    have d0:=hcl k hlt 0 _ rfl
    simp only [Nat.mul_one,Nat.add_zero] at d0
    rw [<-hb0.cell (p:=⟨b,off+k,none⟩) hbw] at d0
    obtain ⟨_,pv,g1,hpv⟩:=hcl0 k (by have:=uh Hl;omega)
    obtain ⟨pa,pc,rfl,_,_,_⟩:=hpv
    rw [<-hb0.cell (p:=⟨b0,off0+k*2+1,none⟩) hbw0] at g1
    have HU:=Z9 (fun (hh:XA (Z0 rs k).2.length (Z8 ps k)=true)=>(show (List.range (k+1)).all (fun j=>XA (Z0 rs j).2.length (Z8 ps j))=true from by rw [UF,hst,hh];rfl))
    have HN:=Z9 (fun hh=>Ig (rs:=rs) hlt hh)
    clear hcl hcl0 hst hb0
    generalize Z8 ps k=x at *
    generalize (Z0 rs k).2.length=n at *
    obtain ⟨q,hq⟩:∃ q,XA n x=q:=⟨_,rfl⟩
    have Hq:=Z9 hq
    clear hq
    go_wp2_with fail
    refine (PV pa n pc x _).mono ?_
    rw [uh Hq]
    rintro e w1 ⟨rfl,h9⟩
    subst w1
    cases q
    ·go_wp2_with fail
     go_ret
     exact ⟨Z5 (uh HN (uh Hq)).symm,uh BB⟩
    ·go_wp2_with fail
     go_roundw
     case rel=>exact ⟨k+1,by omega,by go_num,uh HU (uh Hq),uh BB⟩
     case measure=>exact ms
   ·obtain rfl:k=ps.length:=by omega
    go_wp2_with fail
    go_ret
    exact ⟨Z5 (uh Hall (uh Hst)).symm,uh BB⟩
 ·refine Calls.bool_of (q:=false) ?_ (by unfold Wc;rw [decide_eq_false hl];rfl)
  have hbn:((ps.length:Int) !=(rs.length:Int))=true:=by simp;omega
  go_enter Tryz.func169,Tryz.ntmps169
  go_wp2_with fail
  go_ret
  exact ⟨rfl,Below.refl _ _⟩
theorem Calls.same_below' {P:Program} {f:FuncId} {args:Array Value}  (h:Calls P f args w fun e w'=>e= .returned v/\w'=w):Calls P f args w fun e w'=>e= .returned v/\Below w.heap.size w w':=h.mono fun e w' ⟨he,hw⟩=>⟨he,by subst hw;exact Below.refl _ _⟩
theorem Calls.int_of {P:Program} {f:FuncId} {args:Array Value} {q q':Int} (h:Calls P f args w fun e w'=>e= .returned (.int .i64 q)/\Below w.heap.size w w') (e:q=q'):Calls P f args w fun e w'=>e= .returned (.int .i64 q')/\Below w.heap.size w w':=by rw [<-e];exact h
theorem Kh  (h:Smy w v0 v1 v2 v3 v4 m):Calls Tryz.prog 108 #[.agg #[v0,v1,v2,v3,v4,.int .i64 m.now]] w fun e w'=>e= .returned (.bool (Rq m))/\Below w.heap.size w w':=by
 have Hv:=Z9 (h.alloc (.cells #[v0,v1,v2,v3,v4,.int .i64 m.now] 32))
 obtain ⟨a0,p0,a1,p1,a2,p2,a3,p3,a4,p4,rfl,rfl,rfl,rfl,rfl,_,_,_,_,_,_,_,_,_,_⟩:=h.five
 clear h
 obtain ⟨q1,hq1⟩:∃ q,Zh m.rooms=q:=⟨_,rfl⟩
 obtain ⟨q2,hq2⟩:∃ q,Zw m.guilds=q:=⟨_,rfl⟩
 obtain ⟨q3,hq3⟩:∃ q,Uy m.smiths m.guilds.length=q:=⟨_,rfl⟩
 obtain ⟨q4,hq4⟩:∃ q,So m.desks (VW m.rooms)=q:=⟨_,rfl⟩
 obtain ⟨q5,hq5⟩:∃ q,Wc m.paces m.rooms=q:=⟨_,rfl⟩
 obtain ⟨q6,hq6⟩:∃ q,inB m.now 0 1000000=q:=⟨_,rfl⟩
 refine Calls.bool_of (q:=(q1 && (q2 && (q3 && (q4 && (q5 && q6)))))) ?_ (by
  unfold Rq
  rw [hq2,hq3,hq5,hq6]
  cases q1
  ·rw [hq1];rfl
  ·rw [<-RN hq1,hq4,hq1])
 have kb:Hid (Blk (w.alloc (.cells (S6 a0 p0 a1 p1 a2 p2 a3 p3 a4 p4 m) 32)) w.heap.size 32 (S6 a0 p0 a1 p1 a2 p2 a3 p3 a4 p4 m)):=Z9 (Blk.new w _ _)
 have BB:Hid (Below w.heap.size w (w.alloc (.cells (S6 a0 p0 a1 p1 a2 p2 a3 p3 a4 p4 m) 32))):=Z9 ((ba _ _))
 have hbv:VW m.rooms<=1000:=by
  cases hb:Zh m.rooms
  ·rw [NH hb];omega
  ·rw [RN hb];have:=(Zy hb).2.2.2;omega
 go_enter Tryz.func108,Tryz.ntmps108
 go_wp2_with fail
 generalize w.alloc (.cells (S6 a0 p0 a1 p1 a2 p2 a3 p3 a4 p4 m) 32)=W at *
 have H1:=Z9 (fun (X:World) (hX:Below W.heap.size W X)=>Calls.bool_of (Yh ((uh Hv).below hX).rooms) hq1)
 have H2:=Z9 (fun (X:World) (hX:Below W.heap.size W X)=>Calls.bool_of (Xd ((uh Hv).below hX).guilds) hq2)
 have H3:=Z9 (fun (X:World) (hX:Below W.heap.size W X)=>Calls.bool_of (LY ((uh Hv).below hX).smiths ((uh Hv).below hX).guilds) hq3)
 have H4a:=Z9 (fun (X:World) (hX:Below W.heap.size W X)=>Rf ((uh Hv).below hX).rooms)
 have H4:=Z9 (fun (X:World) (hX:Below W.heap.size W X)=>Calls.bool_of (Ji ((uh Hv).below hX).desks hbv) hq4)
 have H5:=Z9 (fun (X:World) (hX:Below W.heap.size W X)=>Calls.bool_of (OB ((uh Hv).below hX).paces ((uh Hv).below hX).rooms) hq5)
 have H6:=Z9 (fun (X:World) (hX:Below W.heap.size W X)=>Calls.bool_of (Calls.same_below' (ZD 0 m.now 1000000 X)) hq6)
 clear hq1 hq2 hq3 hq4 hq5 hq6
 generalize VW m.rooms=nb at *
 obtain ⟨c0,c1,c2,c3,c4,c5⟩:=(uh kb).c6
 have y0:=cell_regrown c0
 have y1:=cell_regrown c1
 have y2:=cell_regrown c2
 have y3:=cell_regrown c3
 have y4:=cell_regrown c4
 have y5:=cell_regrown c5
 cases q1
 ·go_wp2_with fail
  refine wq ?_
  repeat (go_big_quiet_step (first | exact Calls.regrown_of (uh H1 _ (below_regrown _ _ _)) | exact Calls.regrown_of (uh H2 _ (below_regrown _ _ _)) | exact Calls.regrown_of (uh H3 _ (below_regrown _ _ _)) | exact Calls.regrown_of (uh H4a _ (below_regrown _ _ _)) | exact Calls.regrown_of (uh H4 _ (below_regrown _ _ _)) | exact Calls.regrown_of (uh H5 _ (below_regrown _ _ _)) | exact Calls.regrown_of (uh H6 _ (below_regrown _ _ _))))
  refine wpQuiet_nil ?_
  intro _ hw'
  obtain ⟨⟨dq,osq⟩,hw''⟩:=hw'
  subst hw''
  go_wp2_with fail
  go_ret
  exact ⟨rfl,(uh BB).trans ((below_regrown _ _ _).mono (uh BB).size)⟩
 cases q2
 ·go_wp2_with fail
  refine wq ?_
  repeat (go_big_quiet_step (first | exact Calls.regrown_of (uh H1 _ (below_regrown _ _ _)) | exact Calls.regrown_of (uh H2 _ (below_regrown _ _ _)) | exact Calls.regrown_of (uh H3 _ (below_regrown _ _ _)) | exact Calls.regrown_of (uh H4a _ (below_regrown _ _ _)) | exact Calls.regrown_of (uh H4 _ (below_regrown _ _ _)) | exact Calls.regrown_of (uh H5 _ (below_regrown _ _ _)) | exact Calls.regrown_of (uh H6 _ (below_regrown _ _ _))))
  refine wpQuiet_nil ?_
  intro _ hw'
  obtain ⟨⟨dq,osq⟩,hw''⟩:=hw'
  subst hw''
  go_wp2_with fail
  go_ret
  exact ⟨rfl,(uh BB).trans ((below_regrown _ _ _).mono (uh BB).size)⟩
 cases q3
 ·go_wp2_with fail
  refine wq ?_
  repeat (go_big_quiet_step (first | exact Calls.regrown_of (uh H1 _ (below_regrown _ _ _)) | exact Calls.regrown_of (uh H2 _ (below_regrown _ _ _)) | exact Calls.regrown_of (uh H3 _ (below_regrown _ _ _)) | exact Calls.regrown_of (uh H4a _ (below_regrown _ _ _)) | exact Calls.regrown_of (uh H4 _ (below_regrown _ _ _)) | exact Calls.regrown_of (uh H5 _ (below_regrown _ _ _)) | exact Calls.regrown_of (uh H6 _ (below_regrown _ _ _))))
  refine wpQuiet_nil ?_
  intro _ hw'
  obtain ⟨⟨dq,osq⟩,hw''⟩:=hw'
  subst hw''
  go_wp2_with fail
  go_ret
  exact ⟨rfl,(uh BB).trans ((below_regrown _ _ _).mono (uh BB).size)⟩
 cases q4
 ·go_wp2_with fail
  refine wq ?_
  repeat (go_big_quiet_step (first | exact Calls.regrown_of (uh H1 _ (below_regrown _ _ _)) | exact Calls.regrown_of (uh H2 _ (below_regrown _ _ _)) | exact Calls.regrown_of (uh H3 _ (below_regrown _ _ _)) | exact Calls.regrown_of (uh H4a _ (below_regrown _ _ _)) | exact Calls.regrown_of (uh H4 _ (below_regrown _ _ _)) | exact Calls.regrown_of (uh H5 _ (below_regrown _ _ _)) | exact Calls.regrown_of (uh H6 _ (below_regrown _ _ _))))
  refine wpQuiet_nil ?_
  intro _ hw'
  obtain ⟨⟨dq,osq⟩,hw''⟩:=hw'
  subst hw''
  go_wp2_with fail
  go_ret
  exact ⟨rfl,(uh BB).trans ((below_regrown _ _ _).mono (uh BB).size)⟩
 cases q5
 ·go_wp2_with fail
  refine wq ?_
  repeat (go_big_quiet_step (first | exact Calls.regrown_of (uh H1 _ (below_regrown _ _ _)) | exact Calls.regrown_of (uh H2 _ (below_regrown _ _ _)) | exact Calls.regrown_of (uh H3 _ (below_regrown _ _ _)) | exact Calls.regrown_of (uh H4a _ (below_regrown _ _ _)) | exact Calls.regrown_of (uh H4 _ (below_regrown _ _ _)) | exact Calls.regrown_of (uh H5 _ (below_regrown _ _ _)) | exact Calls.regrown_of (uh H6 _ (below_regrown _ _ _))))
  refine wpQuiet_nil ?_
  intro _ hw'
  obtain ⟨⟨dq,osq⟩,hw''⟩:=hw'
  subst hw''
  go_wp2_with fail
  go_ret
  exact ⟨rfl,(uh BB).trans ((below_regrown _ _ _).mono (uh BB).size)⟩
 go_wp2_with fail
 refine wq ?_
 repeat (go_big_quiet_step (first | exact Calls.regrown_of (uh H1 _ (below_regrown _ _ _)) | exact Calls.regrown_of (uh H2 _ (below_regrown _ _ _)) | exact Calls.regrown_of (uh H3 _ (below_regrown _ _ _)) | exact Calls.regrown_of (uh H4a _ (below_regrown _ _ _)) | exact Calls.regrown_of (uh H4 _ (below_regrown _ _ _)) | exact Calls.regrown_of (uh H5 _ (below_regrown _ _ _)) | exact Calls.regrown_of (uh H6 _ (below_regrown _ _ _))))
 refine wpQuiet_nil ?_
 intro _ hw'
 obtain ⟨⟨dq,osq⟩,hw''⟩:=hw'
 subst hw''
 go_wp2_with fail
 go_ret
 exact ⟨Z5 (by simp),(uh BB).trans ((below_regrown _ _ _).mono (uh BB).size)⟩
theorem SC  (h:Smy w v0 v1 v2 v3 v4 m):Calls Tryz.prog 50 #[.agg #[v0,v1,v2,v3,v4,.int .i64 m.now]] w fun e w'=>e= .returned (.bool (WI m))/\Below w.heap.size w w':=by
 have Hv:=Z9 (h.alloc (.cells #[v0,v1,v2,v3,v4,.int .i64 m.now] 32))
 obtain ⟨a0,p0,a1,p1,a2,p2,a3,p3,a4,p4,rfl,rfl,rfl,rfl,rfl,_,_,_,_,_,_,_,_,_,_⟩:=h.five
 clear h
 obtain ⟨q1,hq1⟩:∃ q,Rq m=q:=⟨_,rfl⟩
 obtain ⟨q2,hq2⟩:∃ q,Yz (Xo m.desks) m.smiths m.smiths.length=q:=⟨_,rfl⟩
 refine Calls.bool_of (q:=(q1 && q2)) ?_ (by unfold WI;rw [hq1,hq2])
 have H1:=Z9 hq1
 have H2:=Z9 hq2
 clear hq1 hq2
 have kb:Hid (Blk (w.alloc (.cells (S6 a0 p0 a1 p1 a2 p2 a3 p3 a4 p4 m) 32)) w.heap.size 32 (S6 a0 p0 a1 p1 a2 p2 a3 p3 a4 p4 m)):=Z9 (Blk.new w _ _)
 have BB:Hid (Below w.heap.size w (w.alloc (.cells (S6 a0 p0 a1 p1 a2 p2 a3 p3 a4 p4 m) 32))):=Z9 ((ba _ _))
 go_enter Tryz.func50,Tryz.ntmps50
 go_wp2_with fail
 generalize w.alloc (.cells (S6 a0 p0 a1 p1 a2 p2 a3 p3 a4 p4 m) 32)=W at *
 refine (Kh (uh Hv)).mono ?_
 rw [uh H1]
 rintro e w1 ⟨rfl,hb⟩
 replace Hv:=Z9 ((uh Hv).below hb)
 replace kb:=bl kb hb
 replace BB:=bt BB hb
 clear hb
 cases q1
 ·go_wp2_with fail
  go_ret
  exact ⟨rfl,uh BB⟩
 obtain ⟨c0,c1,c2,c3,c4,c5⟩:=(uh kb).c6
 go_wp2_with fail
 refine ck (VH _ _ _ _ _ _ _ _ _ _ _ _ _ _ _ _ _) fun w2 hb=> ?_
 replace Hv:=Z9 ((uh Hv).below hb)
 replace kb:=bl kb hb
 replace BB:=bt BB hb
 clear hb c0 c1 c2 c3 c4 c5
 go_wp2_with fail
 refine (Le (uh Hv).smiths ((uh kb).cell (i:=3) rfl) (uh kb).lt (uh Hv).desks).mono ?_
 rw [uh H2]
 rintro e w3 ⟨rfl,hb⟩
 replace BB:=bt BB hb
 clear hb
 go_wp2_with fail
 go_ret
 exact ⟨Z5 (by simp),uh BB⟩
theorem Tp  (b:Int) (h:Smy w v0 v1 v2 v3 v4 m) (hl:m.smiths.length<=1000):Calls Tryz.prog 176 #[.agg #[v0,v1,v2,v3,v4,.int .i64 m.now],.int .i64 b] w fun e w'=> ∃ v',e= .returned v'/\NumsAt w.heap.size w' v' (ZW (atB b) m.smiths m.smiths.length)/\Below w.heap.size w w':=by
 have Hv:=Z9 ((h.alloc (.cells #[v0,v1,v2,v3,v4,.int .i64 m.now] 32)).alloc (.cells #[.int .i64 b] 2))
 obtain ⟨a0,p0,a1,p1,a2,p2,a3,p3,a4,p4,rfl,rfl,rfl,rfl,rfl,_,_,_,_,_,_,_,_,_,_⟩:=h.five
 clear h
 have BB:Hid (Below w.heap.size w ((w.alloc (.cells (S6 a0 p0 a1 p1 a2 p2 a3 p3 a4 p4 m) 32)).alloc (.cells #[.int .i64 b] 2))):=Z9 (((ba _ _)).alloc (by simp) _)
 have kc:Hid (Blk ((w.alloc (.cells (S6 a0 p0 a1 p1 a2 p2 a3 p3 a4 p4 m) 32)).alloc (.cells #[.int .i64 b] 2)) (w.heap.size+1) 2 #[.int .i64 b]):=Z9 (by
  have k:=Blk.new (w.alloc (.cells (S6 a0 p0 a1 p1 a2 p2 a3 p3 a4 p4 m) 32)) 2 #[.int .i64 b]
  rw [World.size_alloc] at k
  exact k)
 go_enter Tryz.func176,Tryz.ntmps176
 go_wp2_with fail
 generalize (w.alloc (.cells (S6 a0 p0 a1 p1 a2 p2 a3 p3 a4 p4 m) 32)).alloc (.cells #[.int .i64 b] 2)=W at *
 refine ck (VH _ _ _ _ _ _ _ _ _ _ _ _ _ _ _ _ _) fun w2 hb=> ?_
 replace Hv:=Z9 ((uh Hv).below hb)
 replace kc:=bl kc hb
 replace BB:=bt BB hb
 clear hb
 go_wp2_with fail
 refine (KU (uh Hv).smiths hl ((uh kc).cell (i:=0) rfl) (uh kc).lt).mono ?_
 rintro e w3 ⟨v',rfl,hn,hb⟩
 have HN:=Z9 (RecAt.mono hn (uh BB).size)
 replace BB:=bt BB hb
 obtain ⟨la,lc,rfl⟩:=RecAt.shape hn
 clear hb hn
 go_wp2_with fail
 go_ret
 exact ⟨_,rfl,uh HN,uh BB⟩
theorem Pe  (b:Int) (h:Smy w v0 v1 v2 v3 v4 m) (hl:m.smiths.length<=1000):Calls Tryz.prog 177 #[.agg #[v0,v1,v2,v3,v4,.int .i64 m.now],.int .i64 b] w fun e w'=> ∃ v',e= .returned v'/\NumsAt w.heap.size w' v' (ZW (Zm b) m.smiths m.smiths.length)/\Below w.heap.size w w':=by
 have Hv:=Z9 ((h.alloc (.cells #[v0,v1,v2,v3,v4,.int .i64 m.now] 32)).alloc (.cells #[.int .i64 b] 2))
 obtain ⟨a0,p0,a1,p1,a2,p2,a3,p3,a4,p4,rfl,rfl,rfl,rfl,rfl,_,_,_,_,_,_,_,_,_,_⟩:=h.five
 clear h
 have BB:Hid (Below w.heap.size w ((w.alloc (.cells (S6 a0 p0 a1 p1 a2 p2 a3 p3 a4 p4 m) 32)).alloc (.cells #[.int .i64 b] 2))):=Z9 (((ba _ _)).alloc (by simp) _)
 have kc:Hid (Blk ((w.alloc (.cells (S6 a0 p0 a1 p1 a2 p2 a3 p3 a4 p4 m) 32)).alloc (.cells #[.int .i64 b] 2)) (w.heap.size+1) 2 #[.int .i64 b]):=Z9 (by
  have k:=Blk.new (w.alloc (.cells (S6 a0 p0 a1 p1 a2 p2 a3 p3 a4 p4 m) 32)) 2 #[.int .i64 b]
  rw [World.size_alloc] at k
  exact k)
 go_enter Tryz.func177,Tryz.ntmps177
 go_wp2_with fail
 generalize (w.alloc (.cells (S6 a0 p0 a1 p1 a2 p2 a3 p3 a4 p4 m) 32)).alloc (.cells #[.int .i64 b] 2)=W at *
 refine ck (VH _ _ _ _ _ _ _ _ _ _ _ _ _ _ _ _ _) fun w2 hb=> ?_
 replace Hv:=Z9 ((uh Hv).below hb)
 replace kc:=bl kc hb
 replace BB:=bt BB hb
 clear hb
 go_wp2_with fail
 refine (Pd (uh Hv).smiths hl ((uh kc).cell (i:=0) rfl) (uh kc).lt).mono ?_
 rintro e w3 ⟨v',rfl,hn,hb⟩
 have HN:=Z9 (RecAt.mono hn (uh BB).size)
 replace BB:=bt BB hb
 obtain ⟨la,lc,rfl⟩:=RecAt.shape hn
 clear hb hn
 go_wp2_with fail
 go_ret
 exact ⟨_,rfl,uh HN,uh BB⟩
theorem IH  {b:Nat} (h:Smy w v0 v1 v2 v3 v4 m) (hl:m.smiths.length<=1000) (hb0:b<m.desks.length):Calls Tryz.prog 113 #[.agg #[v0,v1,v2,v3,v4,.int .i64 m.now],.int .i64 (b:Int)] w fun e w'=>e= .returned (.bool (VT m b))/\Below w.heap.size w w':=by
 have Hv:=Z9 (h.alloc (.cells #[v0,v1,v2,v3,v4,.int .i64 m.now] 32))
 obtain ⟨a0,p0,rfl,_,_⟩:=IsRooms.shape h.rooms
 obtain ⟨a1,p1,rfl,_,_⟩:=IsRec.shape h.guilds
 obtain ⟨a2,p2,rfl,_,_⟩:=IsRec.shape h.smiths
 obtain ⟨a3,p3,rfl,hc3,hm3,r3⟩:=h.desks
 obtain ⟨a4,p4,rfl,_,_⟩:=IsRec.shape h.paces
 clear h
 rcases r3 with e0 | ⟨db,off,rfl,hbw,hcl⟩
 ·rw [e0] at hb0;simp at hb0
 obtain ⟨_,d1,_⟩:=Zp hcl hb0
 have hb1:(b:Int)<(m.desks.length:Int):=by omega
 have hT:VT m b=if (Z8 m.desks b).2.1= -1 then decide ((ZW (atB b) m.smiths m.smiths.length).length=0) else decide ((ZW (Zm b) m.smiths m.smiths.length).length=1) && decide (Z8 (ZW (Zm b) m.smiths m.smiths.length) 0=(Z8 m.desks b).2.1):=rfl
 have HT:=Z9 hT
 clear hT hcl
 generalize (Z8 m.desks b).2.1=who at *
 have hne:db ≠ w.heap.size:=Nat.ne_of_lt hbw
 obtain ⟨BB,kb⟩:=WZ w 32 #[.slice a0 m.rooms.length p0,.slice a1 m.guilds.length p1,.slice a2 m.smiths.length p2,.slice (some ⟨db,off,none⟩) m.desks.length p3,.slice a4 m.paces.length p4,.int .i64 m.now]
 rw [<-(uh BB).cell (p:=⟨db,off+b*3+1,none⟩) hbw] at d1
 by_cases hw:who= -1
 ·subst hw
  obtain ⟨ws,hws⟩:∃ ws,ZW (atB b) m.smiths m.smiths.length=ws:=⟨_,rfl⟩
  refine Calls.bool_of (q:=decide (ws.length=0)) ?_ (by rw [uh HT,if_pos rfl,hws])
  have Hws:=Z9 hws
  clear hws HT
  go_enter Tryz.func113,Tryz.ntmps113
  go_upto_region 3 with fail
  generalize w.alloc (.cells #[.slice a0 m.rooms.length p0,.slice a1 m.guilds.length p1,.slice a2 m.smiths.length p2,.slice (some ⟨db,off,none⟩) m.desks.length p3,.slice a4 m.paces.length p4,.int .i64 m.now] 32)=W at *
  obtain ⟨c0,c1,c2,c3,c4,c5⟩:=(uh kb).c6
  go_wp2_with fail
  refine (Tp (b:Int) (uh Hv) hl).mono ?_
  rw [uh Hws]
  rintro e w2 ⟨v',rfl,hn,hb⟩
  obtain ⟨la,lc,rfl⟩:=RecAt.shape hn
  replace BB:=bt BB hb
  clear hb hn c0 c1 c2 c3 c4 c5
  go_wp2_with fail
  go_ret
  exact ⟨Z5 (by rw [Bool.eq_iff_iff];simp only [beq_iff_eq,decide_eq_true_eq];omega),uh BB⟩
 have nw:(who == -1)=false:=by simpa using hw
 obtain ⟨ws,hws⟩:∃ ws,ZW (Zm b) m.smiths m.smiths.length=ws:=⟨_,rfl⟩
 refine Calls.bool_of (q:=decide (ws.length=1) && decide (Z8 ws 0=who)) ?_ (by rw [uh HT,if_neg hw,hws])
 have Hws:=Z9 hws
 clear hws HT
 go_enter Tryz.func113,Tryz.ntmps113
 go_upto_region 3 with fail
 generalize w.alloc (.cells #[.slice a0 m.rooms.length p0,.slice a1 m.guilds.length p1,.slice a2 m.smiths.length p2,.slice (some ⟨db,off,none⟩) m.desks.length p3,.slice a4 m.paces.length p4,.int .i64 m.now] 32)=W at *
 obtain ⟨c0,c1,c2,c3,c4,c5⟩:=(uh kb).c6
 go_wp2_with fail
 refine (Pe (b:Int) (uh Hv) hl).mono ?_
 rw [uh Hws]
 rintro e w2 ⟨v',rfl,hn,hb⟩
 obtain ⟨la,lc,rfl⟩:=RecAt.shape hn
 replace BB:=bt BB hb
 have HN:=Z9 hn
 clear hb hn c0 c1 c2 c3 c4 c5
 by_cases h1:ws.length=1
 ·obtain ⟨g,hga,_,_,hcl,_⟩:=RecAt.view Zb (by omega) (uh HN) rfl (by omega)
  cases hga
  have z0:=hcl 0 (by omega) 0 _ rfl
  simp only [Nat.zero_mul,Nat.add_zero] at z0
  have hl1:((ws.length:Int) ==1)=true:=by simp;omega
  clear hcl
  have h01:(0:Int)<(ws.length:Int):=by omega
  obtain ⟨z,hz⟩:∃ z,Z8 ws 0=z:=⟨_,rfl⟩
  rw [hz] at z0
  have Hz:=Z9 hz
  clear hz
  go_wp2_with fail
  go_ret
  exact ⟨Z5 (by rw [uh Hz,decide_eq_true h1,Bool.eq_iff_iff];simp only [Bool.true_and,beq_iff_eq,decide_eq_true_eq]),uh BB⟩
 ·have hl1:((ws.length:Int) ==1)=false:=by simp;omega
  go_wp2_with fail
  go_ret
  exact ⟨Z5 (by rw [decide_eq_false h1];rfl),uh BB⟩
theorem KN  (h:Smy w v0 v1 v2 v3 v4 m) (hl:m.smiths.length<=1000):Calls Tryz.prog 51 #[.agg #[v0,v1,v2,v3,v4,.int .i64 m.now]] w fun e w'=>e= .returned (.bool (RF m))/\Below w.heap.size w w':=by
 have Hv:=Z9 (h.alloc (.cells #[v0,v1,v2,v3,v4,.int .i64 m.now] 32))
 obtain ⟨a0,p0,a1,p1,a2,p2,a3,p3,a4,p4,rfl,rfl,rfl,rfl,rfl,_,_,_,_,_,_,_,_,_,_⟩:=h.five
 clear h
 obtain ⟨BB0,kb0⟩:=WZ w 32 (S6 a0 p0 a1 p1 a2 p2 a3 p3 a4 p4 m)
 go_enter Tryz.func51,Tryz.ntmps51
 go_wp2_with fail
 go_loopw [7] (fun i wr=> ∃ k:Nat,k<=m.desks.length/\i= .int .i64 k/\(List.range k).all (VT m)=true/\Smy wr (.slice a0 m.rooms.length p0) (.slice a1 m.guilds.length p1) (.slice a2 m.smiths.length p2) (.slice a3 m.desks.length p3) (.slice a4 m.paces.length p4) m/\Blk wr w.heap.size 32 (S6 a0 p0 a1 p1 a2 p2 a3 p3 a4 p4 m)/\Below w.heap.size w wr) (fun i _=>m.desks.length-(intOf i).toNat)
 case atStart=>exact ⟨0,Nat.zero_le _,rfl,rfl,uh Hv,uh kb0,uh BB0⟩
 case round=>
  obtain ⟨k,hk,rfl,hst,hv,hkb,hb0⟩:=hrel
  have Hst:=Z9 hst
  have Hv1:=Z9 hv
  have kb:=Z9 hkb
  have BB:=Z9 hb0
  clear hv hkb hb0 kb0 BB0 Hv
  by_cases hlt:k<m.desks.length
  ·have hlt1:(k:Int)<(m.desks.length:Int):=by omega
   have HU:=Z9 (fun (hh:VT m k=true)=>(show (List.range (k+1)).all (VT m)=true from by rw [UF,hst,hh];rfl))
   have HN:=Z9 (fun hh=>(show RF m=false from RL (p:=VT m) hlt hh))
   clear hst
   obtain ⟨q,hq⟩:∃ q,VT m k=q:=⟨_,rfl⟩
   have Hq:=Z9 hq
   clear hq
   obtain ⟨c0,c1,c2,c3,c4,c5⟩:=(uh kb).c6
   go_wp2_with fail
   refine (IH (uh Hv1) hl hlt).mono ?_
   rw [uh Hq]
   rintro e w1 ⟨rfl,hb⟩
   replace Hv1:=Z9 ((uh Hv1).below hb)
   replace kb:=bl kb hb
   replace BB:=bt BB hb
   clear hb c0 c1 c2 c3 c4 c5
   cases q
   ·go_wp2_with fail
    go_ret
    exact ⟨Z5 (uh HN (uh Hq)).symm,uh BB⟩
   ·go_wp2_with fail
    go_roundw
    case rel=>exact ⟨k+1,by omega,by go_num,uh HU (uh Hq),uh Hv1,uh kb,uh BB⟩
    case measure=>exact ms
  ·obtain rfl:k=m.desks.length:=by omega
   go_wp2_with fail
   go_ret
   exact ⟨Z5 (uh Hst).symm,uh BB⟩
theorem E7 (h:WI m=true):m.smiths.length<=12:=by
 rw [RT] at h
 unfold Y0 Y2 at h
 simp only [Bool.and_eq_true,decide_eq_true_eq] at h
 exact h.1.2.2.1
theorem Qu  (h:Smy w v0 v1 v2 v3 v4 m):Calls Tryz.prog 15 #[.agg #[v0,v1,v2,v3,v4,.int .i64 m.now]] w fun e w'=>e= .returned (.bool (ZP m))/\Below w.heap.size w w':=by
 have Hv:=Z9 (h.alloc (.cells #[v0,v1,v2,v3,v4,.int .i64 m.now] 32))
 obtain ⟨a0,p0,a1,p1,a2,p2,a3,p3,a4,p4,rfl,rfl,rfl,rfl,rfl,_,_,_,_,_,_,_,_,_,_⟩:=h.five
 clear h
 obtain ⟨q1,hq1⟩:∃ q,WI m=q:=⟨_,rfl⟩
 obtain ⟨q2,hq2⟩:∃ q,RF m=q:=⟨_,rfl⟩
 refine Calls.bool_of (q:=(q1 && q2)) ?_ (by rw [<-D4];unfold D3;rw [hq1,hq2])
 have H1:=Z9 hq1
 have H2:=Z9 hq2
 clear hq1 hq2
 have kb:Hid (Blk (w.alloc (.cells (S6 a0 p0 a1 p1 a2 p2 a3 p3 a4 p4 m) 32)) w.heap.size 32 (S6 a0 p0 a1 p1 a2 p2 a3 p3 a4 p4 m)):=Z9 (Blk.new w _ _)
 have BB:Hid (Below w.heap.size w (w.alloc (.cells (S6 a0 p0 a1 p1 a2 p2 a3 p3 a4 p4 m) 32))):=Z9 ((ba _ _))
 go_enter Tryz.func15,Tryz.ntmps15
 go_wp2_with fail
 generalize w.alloc (.cells (S6 a0 p0 a1 p1 a2 p2 a3 p3 a4 p4 m) 32)=W at *
 refine (SC (uh Hv)).mono ?_
 rw [uh H1]
 rintro e w1 ⟨rfl,hb⟩
 replace Hv:=Z9 ((uh Hv).below hb)
 replace kb:=bl kb hb
 replace BB:=bt BB hb
 clear hb
 cases q1
 ·go_wp2_with fail
  go_ret
  exact ⟨rfl,uh BB⟩
 obtain ⟨c0,c1,c2,c3,c4,c5⟩:=(uh kb).c6
 go_wp2_with fail
 refine (KN (uh Hv) (by have:=E7 (uh H1);omega)).mono ?_
 rw [uh H2]
 rintro e w2 ⟨rfl,hb⟩
 replace BB:=bt BB hb
 clear hb c0 c1 c2 c3 c4 c5
 go_wp2_with fail
 go_ret
 exact ⟨Z5 (by simp),uh BB⟩
theorem SP (w:World) (v0 v1 v2 v3 v4:Value) (m:Z4) (q:Bool) (hq:ZP m=q) (h:Smy w v0 v1 v2 v3 v4 m):Calls Tryz.prog 15 #[.agg #[v0,v1,v2,v3,v4,.int .i64 m.now]] w fun e w'=>e= .returned (.bool q)/\Below w.heap.size w w':=Calls.bool_of (Qu h) hq
theorem Ev {ps qs hs hs':List Z6} (hr:Ris qs) (hle:∀ x ∈ qs,∀ y ∈ hs,ltB y x=false) (hh:HeapTo hs hs.length) (hl:0<hs.length) (hp:(qs++hs).Perm ps) (hp':(hs'++[Z7 hs 0]).Perm hs) :
  Ris (qs++[Z7 hs 0])/\(∀ x ∈ qs++[Z7 hs 0],∀ y ∈ hs',ltB y x=false)/\((qs++[Z7 hs 0])++hs').Perm ps:=by
 have hsub:∀ y ∈ hs',y ∈ hs:=fun y hy=>hp'.subset (List.mem_append_left _ hy)
 refine ⟨DP hr (fun y hy=>hle y hy _ (XM hl)),fun x hx y hy=> ?_,?_⟩
 ·rcases List.mem_append.1 hx with hx | hx
  ·exact hle x hx y (hsub y hy)
  ·obtain rfl:x=Z7 hs 0:=by simpa using hx
   obtain ⟨k,hk,rfl⟩:=TR (hsub y hy)
   exact hh.least k hk
 ·rw [List.append_assoc]
  exact ((List.perm_append_comm (l₁:=[Z7 hs 0]) (l₂:=hs')).trans hp').append_left qs |>.trans hp
theorem Jn {n₀ bx:Nat}  {ps:List Z6} (h:HeapIs n₀ bx v w ps) (hp:HeapTo ps ps.length) (hl:ps.length<=900) (hx:n₀<=bx) (hn:n₀<=w.heap.size) :
  Calls Tryz.prog 287 #[.pointer (some ⟨bx,0,none⟩)] w fun e w'=> ∃ v' qs,e= .returned v'/\EntsAt w.heap.size w' v' qs/\Ris qs/\qs.Perm ps/\Below n₀ w w':=by
 have H:=Z9 h
 have HP:=Z9 hp
 have hbx:=h.lt
 have HO:Hid (∀ k,v.ownBlock=some k->n₀<=k/\k<w.heap.size):=Z9 (fun k e=>h.row.lt e)
 clear h hp
 go_enter Tryz.func287,Tryz.ntmps287
 go_wp2_with fail
 go_loopg [3] ps.length (fun gg q wr=> ∃ (vh:Value) (qs hs:List Z6),hs.length<=gg/\EntsAt w.heap.size wr q qs/\HeapIs n₀ bx vh wr hs/\HeapTo hs hs.length/\Ris qs/\(∀ x ∈ qs,∀ y ∈ hs,ltB y x=false)/\(qs++hs).Perm ps/\vh.ownBlock=v.ownBlock/\Below n₀ w wr)
 case atStart=>exact ⟨v,[],ps,Nat.le_refl _,Wh rfl (Nat.le_refl _),(uh H).later ((ba _ _)),uh HP,List.Pairwise.nil,fun _ hx=>(by cases hx),List.Perm.refl _,rfl,(Below.refl _ _).alloc hn _⟩
 case round=>
  obtain ⟨vh,qs,hs,hgg,hq,hh,hto,hris,hle,hperm,hob,hbel⟩:=hrel
  have hlen:qs.length+hs.length=ps.length:=by have:=hperm.length_eq;simpa using this
  obtain ⟨qa,qcap,rfl⟩:=hq.shape
  have Hq:=Z9 hq
  have Hh:=Z9 hh
  have Hto:=Z9 hto
  have Hris:=Z9 hris
  have Hle:=Z9 hle
  have Hpe:=Z9 hperm
  have Hob:=Z9 hob
  have Hbel:=Z9 hbel
  have hsz:=hbel.size
  clear hq hh hto hris hle hperm hob hbel
  by_cases h0:hs.length=0
  ·have hz:¬ (0:Int)<(hs.length:Int):=by omega
   go_wp2_with fail
   refine (Ri (uh Hh)).mono ?_
   rintro e w' ⟨rfl,h2⟩
   subst w'
   go_wp2_with fail
   go_ret
   obtain rfl:hs=[]:=List.eq_nil_of_length_eq_zero h0
   exact ⟨_,qs,rfl,uh Hq,uh Hris,by have:=uh Hpe;simpa using this,uh Hbel⟩
  ·obtain ⟨m,hm⟩:∃ m,hs.length=m+1:=⟨hs.length-1,by omega⟩
   have hz:(0:Int)<(hs.length:Int):=by omega
   go_wp2_with fail
   refine (Ri (uh Hh)).mono ?_
   rintro e w' ⟨rfl,h2⟩
   subst w'
   go_wp2_with fail
   refine (JE (uh Hh) (uh Hto) hm (by omega)).mono ?_
   rintro e w1 ⟨rfl,v1,hs',hh1,hto1,hpe1,hob1,hf1⟩
   obtain ⟨s1,s2,s3⟩:=Ev (uh Hris) (uh Hle) (uh Hto) (by omega) (uh Hpe) hpe1
   have hlen':hs'.length+1=hs.length:=by have:=hpe1.length_eq;simpa using this
   generalize Z7 hs 0=p at *
   obtain ⟨f,z⟩:=p
   have hta:=NF f z
   have S1:=Z9 s1
   have S2:=Z9 s2
   have S3:=Z9 s3
   have H1:=Z9 hh1
   have T1:=Z9 hto1
   have O1:Hid (v1.ownBlock=v.ownBlock):=Z9 (hob1.trans (uh Hob))
   have Q1:Hid (EntsAt w.heap.size w1 (.slice qa qs.length qcap) qs):=Z9 ((uh Hq).fr hf1 (fun e=>by have:=(uh Hq).lt e;omega) (fun k e e2=>by have h8:=(uh Hq).lt e;have h9:=uh HO k ((uh Hob).symm.trans e2);omega))
   have hz1:=hf1.size
   have B1:Hid (Below n₀ w w1):=Z9 ((uh Hbel).trans ((uh Hh).below (v':=v1) (qs:=hs) hf1 hx (by omega)))
   clear s1 s2 s3 hh1 hto1 hpe1 hob1 hf1 Hh Hto Hris Hle Hpe Hob Hbel Hq
   go_wp2_with (at_builtin;refine WN rfl (.tmp 8) (.tmp 13) 148 Tryz.underlying148 rfl w.heap.size _ _ qs [(f,z)] rfl rfl ((uh Q1).later ((ba _ _))) (SJ rfl (Nat.le_refl _) (by omega)) (by simp;omega) (by simp;omega) ?_;intro v' w2 hown hgrow hat)
   have hb0:Below w1.heap.size w1 (w1.alloc (.cells #[.int .i64 f,.int .i64 z] 151)):=ba _ _
   have hq0:∀ k,(Value.slice qa qs.length qcap).ownBlock=some k->w.heap.size<=k:=fun k e=>((uh Q1).lt e).1
   have hw2:Below w.heap.size (w1.alloc (.cells #[.int .i64 f,.int .i64 z] 151)) w2:=(Below.refl _ _).grown hgrow (by simp;omega) (fun k e=>hq0 k e)
   have hh2:HeapIs n₀ bx v1 w2 hs':=by
    have h3:=(uh H1).later hb0
    have hk:=hw2.block bx hbx
    refine ⟨(World.cell?_of_block (a:=⟨bx,0,none⟩) hk).trans h3.cell,(World.frozen?_of_block (a:=⟨bx,0,none⟩) hk).trans h3.free,Nat.lt_of_lt_of_le h3.lt hw2.size,h3.row.same (fun k e=>hw2.block k ?_),h3.off⟩
    exact (uh HO k ((uh O1).symm.trans e)).2
   have H2:=Z9 hh2
   have N2:=Z9 hown
   have B2:Hid (Below n₀ w w2):=Z9 ((uh B1).trans ((hb0.mono (by omega)).trans (hw2.mono hn)))
   clear hown hgrow hat hb0 hw2 hh2 hq0
   go_roundg (m)
   case measure=>omega
   case rel=>exact ⟨v1,qs++[(f,z)],hs',by omega,uh N2,uh H2,uh T1,uh S1,uh S2,uh S3,uh O1,uh B2⟩
end Go.Proofs.YtffcgajndmhpkaaGreatDoor
