/- Part 23 of what the proof rests on. No condition but those that a theorem names. -/
import Derived.Test.YtffcgajndmhpkaaGreatDoorXt22
set_option maxHeartbeats 8000000
set_option maxRecDepth 100000
namespace Go.Proofs.YtffcgajndmhpkaaGreatDoor
open Go.ChangeShapes Go.WideShapes Go.ChangeAt Go.RowKit Go.Sort
set_option linter.unusedVariables false
set_option maxRecDepth 100000
variable {w w' w0 w1 w2 w3 w₀ wr W W' X A B C : World} {v v0 v1 v2 v3 v4 u u0 u1 u2 u3 u4 : Value} {m : Z6}
theorem PB (st be rk my gu lo hi hd ca ut wk:Int) {R n3 p3:Nat} {a3:Option Addr} {ds:List Yq} (hc:w.cell? ⟨R,3,none⟩=some (.slice a3 n3 p3)) (hR:R<w.heap.size) (h:VI w (.slice a3 n3 p3) ds):Calls Tryz.prog 111 #[.agg (I11 st be rk my gu lo hi hd ca ut wk),.pointer (some ⟨R,0,none⟩)] w fun e w'=>e= .returned (.bool (Xr ds (st,be,rk,my,gu,lo,hi,hd,ca,ut,wk)))/\Below w.heap.size w w':=by
 have hne:R ≠ w.heap.size:=Nat.ne_of_lt hR
 have HD:=Z9 h
 clear h
 go_enter Tryz.func111,Tryz.ntmps111
 go_wp2_with fail
 refine ck (Ni st be rk my gu lo hi hd ca ut wk ((uh HD).below ((ba _ _)))) fun w1 hb=> ?_
 have Hb:=Z9 (((Below.refl w.heap.size w).alloc (Nat.le_refl _) _).trans (hb.mono (by simp)))
 clear hb
 go_wp2_with fail
 go_ret
 exact ⟨rfl,uh Hb⟩
theorem Lp  {ss:List Z3} {R n3 p3:Nat} {a3:Option Addr} {ds:List Yq} (h:Wy w v ss) (hc0:w.cell? ⟨R,3,none⟩=some (.slice a3 n3 p3)) (hR:R<w.heap.size) (hds:VI w (.slice a3 n3 p3) ds):Calls Tryz.prog 110 #[v,.func (Fn.func 111) #[] #[.pointer (some ⟨R,0,none⟩)]] w fun e w'=>e= .returned (.bool (Yy (Xr ds) ss ss.length))/\Below w.heap.size w w':=by
 obtain ⟨a,cap,rfl,hc,hm,hr⟩:=h
 have Hr:=Z9 hr
 clear hr
 have HC:=Z9 hc0
 have HD:=Z9 hds
 clear hc0 hds
 go_enter Tryz.func110,Tryz.ntmps110
 go_wp2_with fail
 go_loopw [9] (fun i wr=> ∃ k:Nat,k<=ss.length/\i= .int .i64 k/\Yy (Xr ds) ss k=true/\Below w.heap.size w wr) (fun i _=>ss.length-(intOf i).toNat)
 case atStart=>exact ⟨0,Nat.zero_le _,rfl,rfl,Below.refl _ _⟩
 case round=>
  obtain ⟨k,hk,rfl,hst,hb0⟩:=hrel
  have Hst:=Z9 hst
  have BB:=Z9 hb0
  by_cases hlt:k<ss.length
  ·have hlt1:(k:Int)<(ss.length:Int):=by omega
   rcases uh Hr with e0 | ⟨b,off,rfl,hbw,hcl⟩
   ·rw [e0] at hlt;simp at hlt
   obtain ⟨d0,d1,d2,d3,d4,d5,d6,d7,d8,d9,d10⟩:=ZB hcl hlt
   rw [<-hb0.cell (p:=⟨b,off+k*11,none⟩) hbw] at d0
   rw [<-hb0.cell (p:=⟨b,off+k*11+1,none⟩) hbw] at d1
   rw [<-hb0.cell (p:=⟨b,off+k*11+2,none⟩) hbw] at d2
   rw [<-hb0.cell (p:=⟨b,off+k*11+3,none⟩) hbw] at d3
   rw [<-hb0.cell (p:=⟨b,off+k*11+4,none⟩) hbw] at d4
   rw [<-hb0.cell (p:=⟨b,off+k*11+5,none⟩) hbw] at d5
   rw [<-hb0.cell (p:=⟨b,off+k*11+6,none⟩) hbw] at d6
   rw [<-hb0.cell (p:=⟨b,off+k*11+7,none⟩) hbw] at d7
   rw [<-hb0.cell (p:=⟨b,off+k*11+8,none⟩) hbw] at d8
   rw [<-hb0.cell (p:=⟨b,off+k*11+9,none⟩) hbw] at d9
   rw [<-hb0.cell (p:=⟨b,off+k*11+10,none⟩) hbw] at d10
   have HU:=Z9 (fun hh=>Rh (p:=(Xr ds)) (xs:=ss) (k:=k) hst hh)
   have HN:=Z9 (fun hh=>Rg (p:=(Xr ds)) (xs:=ss) hlt hh)
   clear hcl hst hb0
   generalize Z8 ss k=s at *
   obtain ⟨st,be,rk,my,gu,lo,hi,hd,ca,ut,wk⟩:=s
   simp only at d0 d1 d2 d3 d4 d5 d6 d7 d8 d9 d10
   have hbr:b<wr.heap.size:=Nat.lt_of_lt_of_le hbw (uh BB).size
   go_wp2_with fail
   clear d0 d1 d2 d3 d4 d5 d6 d7 d8 d9 d10
   obtain ⟨q,hq⟩:∃ q,(Xr ds) (st,be,rk,my,gu,lo,hi,hd,ca,ut,wk)=q:=⟨_,rfl⟩
   have Hq:=Z9 hq
   clear hq
   have hba:Below wr.heap.size wr (wr.alloc (.cells (I11 st be rk my gu lo hi hd ca ut wk) 39)):=ba _ _
   replace BB:=bt BB hba
   clear hba
   refine (PB st be rk my gu lo hi hd ca ut wk (((uh BB).cell (p:=⟨R,3,none⟩) hR).trans (uh HC)) (Nat.lt_of_lt_of_le hR (uh BB).size) ((uh HD).below (uh BB))).mono ?_
   rw [uh Hq]
   rintro e w1 ⟨rfl,hb⟩
   replace BB:=bt BB hb
   clear hb
   cases q
   ·go_wp2_with fail
    go_ret
    exact ⟨Z5 (uh HN (uh Hq)).symm,uh BB⟩
   ·go_wp2_with fail
    go_roundw
    case rel=>exact ⟨k+1,by omega,by go_num,uh HU (uh Hq),uh BB⟩
    case measure=>exact ms
  ·obtain rfl:k=ss.length:=by omega
   go_wp2_with fail
   go_ret
   exact ⟨Z5 (uh Hst).symm,uh BB⟩
theorem VP (a0 a1 a2 a3 a4:Option Addr) (n0 n1 n2 n3 n4 p0 p1 p2 p3 p4:Nat) (now:Int) (w:World):Calls Tryz.prog 109 #[.agg #[.slice a0 n0 p0,.slice a1 n1 p1,.slice a2 n2 p2,.slice a3 n3 p3,.slice a4 n4 p4,.int .i64 now]] w fun e w'=>e= .returned (.slice a2 n2 p2)/\Below w.heap.size w w':=by
 go_enter Tryz.func109,Tryz.ntmps109
 go_wp2_with fail
 go_ret
 exact ⟨rfl,(ba _ _)⟩
theorem Jq (a0 a1 a2 a3 a4:Option Addr) (n0 n1 n2 n3 n4 p0 p1 p2 p3 p4:Nat) (now:Int) (w:World):Calls Tryz.prog 150 #[.agg #[.slice a0 n0 p0,.slice a1 n1 p1,.slice a2 n2 p2,.slice a3 n3 p3,.slice a4 n4 p4,.int .i64 now]] w fun e w'=>e= .returned (.slice a3 n3 p3)/\Below w.heap.size w w':=by
 go_enter Tryz.func150,Tryz.ntmps150
 go_wp2_with fail
 go_ret
 exact ⟨rfl,(ba _ _)⟩
theorem Md  {ss:List Z3} {gs:List ZA} (h:Wy w v ss) (h1:XJ w v1 gs):Calls Tryz.prog 166 #[v,v1] w fun e w'=>e= .returned (.bool (UA ss gs.length))/\Below w.heap.size w w':=by
 have Hv:=Z9 h
 obtain ⟨a,cap,rfl,_,_⟩:=IsRec.shape h
 obtain ⟨ga,gc,rfl,_,_⟩:=IsRec.shape h1
 clear h h1
 obtain ⟨q1,hq1⟩:∃ q,Yy ZJ ss ss.length=q:=⟨_,rfl⟩
 obtain ⟨q2,hq2⟩:∃ q,Yy (XG gs.length) ss ss.length=q:=⟨_,rfl⟩
 have H1:=Z9 hq1
 have H2:=Z9 hq2
 by_cases hl:ss.length<=12
 ·refine Calls.bool_of (q:=(q1 && q2)) ?_ (by unfold UA;rw [hq1,hq2,decide_eq_true hl,Bool.true_and])
  have hl1:(ss.length:Int)<=12:=by omega
  clear hq1 hq2
  have HW:=Z9 ((uh Hv).below ((Below.refl _ _).alloc (Nat.le_refl _) (.cells #[.slice ga gs.length gc] 27)))
  go_enter Tryz.func166,Tryz.ntmps166
  go_wp2_with fail
  refine (EC (uh HW)).mono ?_
  rw [uh H1]
  rintro e w1 ⟨rfl,hb⟩
  replace HW:=Z9 ((uh HW).below hb)
  have c0:w1.cell? ⟨w.heap.size,0,none⟩=some (.slice ga gs.length gc):=(hb.cell (p:=⟨w.heap.size,0,none⟩) (by simp)).trans (Zt _ rfl)
  have hlt:w.heap.size<w1.heap.size:=by have:=hb.size;simp at this;omega
  have Hb:=Z9 (((Below.refl w.heap.size w).alloc (Nat.le_refl _) _).trans (hb.mono (by simp)))
  have HC:=Z9 c0
  clear hb c0
  cases q1
  ·go_wp2_with fail
   go_ret
   exact ⟨rfl,uh Hb⟩
  go_wp2_with fail
  refine (Lq (uh HW) (uh HC) hlt).mono ?_
  rw [uh H2]
  rintro e w2 ⟨rfl,hb⟩
  replace Hb:=Z9 ((uh Hb).trans (hb.mono (uh Hb).size))
  clear hb
  go_wp2_with fail
  go_ret
  exact ⟨Z5 (by simp),uh Hb⟩
 ·refine Calls.bool_of (q:=false) ?_ (by unfold UA;rw [decide_eq_false hl];rfl)
  have hl1:¬ ((ss.length:Int)<=12):=by omega
  clear hq1 hq2
  go_enter Tryz.func166,Tryz.ntmps166
  go_wp2_with fail
  go_ret
  exact ⟨rfl,(ba _ _)⟩
theorem Jr  {ds:List Yq} {n:Int} (h:VI w v ds) (hn:n<=1000):Calls Tryz.prog 167 #[v,.int .i64 n] w fun e w'=>e= .returned (.bool (SD ds n))/\Below w.heap.size w w':=by
 have Hv:=Z9 h
 obtain ⟨a,cap,rfl,_,_⟩:=IsRec.shape h
 clear h
 obtain ⟨q1,hq1⟩:∃ q,Yy Wu ds ds.length=q:=⟨_,rfl⟩
 obtain ⟨ws,hws⟩:∃ ws,ZS T0 ds ds.length=ws:=⟨_,rfl⟩
 have H1:=Z9 hq1
 have H2:=Z9 hws
 by_cases hl:(ds.length:Int)=n
 ·refine Calls.bool_of (q:=(q1 && decide (0<ws.length))) ?_ (by unfold SD;rw [hq1,show ZS (fun d:Yq=>d.1) ds ds.length=ws from hws,decide_eq_true hl,Bool.true_and])
  subst hl
  have hl1:ds.length<=1000:=by omega
  clear hq1 hws
  go_enter Tryz.func167,Tryz.ntmps167
  go_wp2_with fail
  refine (I6 (uh Hv)).mono ?_
  rw [uh H1]
  rintro e w1 ⟨rfl,hb⟩
  replace Hv:=Z9 ((uh Hv).below hb)
  have Hb:=Z9 hb
  clear hb
  cases q1
  ·go_wp2_with fail
   go_ret
   exact ⟨rfl,uh Hb⟩
  go_wp2_with fail
  refine (NH (uh Hv) hl1).mono ?_
  rw [uh H2]
  rintro e w2 ⟨v2,rfl,hn2,hb⟩
  obtain ⟨la,lc,rfl⟩:=RecAt.shape hn2
  replace Hb:=Z9 ((uh Hb).trans (hb.mono (uh Hb).size))
  clear hb hn2
  go_wp2_with fail
  go_ret
  exact ⟨Z5 (by simp),uh Hb⟩
 ·refine Calls.bool_of (q:=false) ?_ (by unfold SD;rw [decide_eq_false hl];rfl)
  have hl1:((ds.length:Int) ==n)=false:=by simpa using hl
  clear hq1 hws
  go_enter Tryz.func167,Tryz.ntmps167
  go_wp2_with fail
  go_ret
  exact ⟨rfl,Below.refl _ _⟩
theorem Ir {ps:List Int} {rs:List Z2} {k:Nat} (hk:k<ps.length) (h:Wx (ZV rs k).2.length (Z8 ps k)=false):Wd ps rs=false:=by
 unfold Wd
 rw [RW (p:=fun j=>Wx (ZV rs j).2.length (Z8 ps j)) hk h,Bool.and_false]
theorem ON  {ps:List Int} {rs:List Z2} (h:Qu w v ps) (h0:IsRooms w v0 rs):Calls Tryz.prog 169 #[v,v0] w fun e w'=>e= .returned (.bool (Wd ps rs))/\Below w.heap.size w w':=by
 obtain ⟨a,cap,rfl,hc,hm,hr⟩:=h
 obtain ⟨a0,cap0,rfl,hc0,hm0,hr0⟩:=h0
 have Hr:=Z9 hr
 have Hr0:=Z9 hr0
 clear hr hr0
 by_cases hl:ps.length=rs.length
 ·have hl1:(ps.length:Int)=(rs.length:Int):=by omega
  have hbn:((ps.length:Int) !=(rs.length:Int))=false:=by simp [hl]
  have Hall:Hid ((List.range ps.length).all (fun j=>Wx (ZV rs j).2.length (Z8 ps j))=true->Wd ps rs=true):=Z9 (fun e=>by unfold Wd;rw [e,decide_eq_true hl];rfl)
  have Hl:=Z9 hl
  clear hl hl1
  go_enter Tryz.func169,Tryz.ntmps169
  go_wp2_with fail
  go_loopw [14] (fun i wr=> ∃ k:Nat,k<=ps.length/\i= .int .i64 k/\(List.range k).all (fun j=>Wx (ZV rs j).2.length (Z8 ps j))=true/\Below w.heap.size w wr) (fun i _=>ps.length-(intOf i).toNat)
  case atStart=>exact ⟨0,Nat.zero_le _,rfl,rfl,Below.refl _ _⟩
  case round=>
   obtain ⟨k,hk,rfl,hst,hb0⟩:=hrel
   have Hst:=Z9 hst
   have BB:=Z9 hb0
   by_cases hlt:k<ps.length
   ·have hlt1:(k:Int)<(ps.length:Int):=by omega
    have hlt2:(k:Int)<(rs.length:Int):=by have:=uh Hl;omega
    rcases uh Hr with e0 | ⟨b,off,rfl,hbw,hcl⟩
    ·rw [e0] at hlt;simp at hlt
    rcases uh Hr0 with e0 | ⟨b0,off0,rfl,hbw0,hcl0⟩
    ·rw [e0] at hlt2;simp at hlt2;omega
    have d0:=hcl k hlt 0 _ rfl
    simp only [Nat.mul_one,Nat.add_zero] at d0
    rw [<-hb0.cell (p:=⟨b,off+k,none⟩) hbw] at d0
    obtain ⟨_,pv,g1,hpv⟩:=hcl0 k (by have:=uh Hl;omega)
    obtain ⟨pa,pc,rfl,_,_,_⟩:=hpv
    rw [<-hb0.cell (p:=⟨b0,off0+k*2+1,none⟩) hbw0] at g1
    have HU:=Z9 (fun (hh:Wx (ZV rs k).2.length (Z8 ps k)=true)=>(show (List.range (k+1)).all (fun j=>Wx (ZV rs j).2.length (Z8 ps j))=true from by rw [UG,hst,hh];rfl))
    have HN:=Z9 (fun hh=>Ir (rs:=rs) hlt hh)
    clear hcl hcl0 hst hb0
    generalize Z8 ps k=x at *
    generalize (ZV rs k).2.length=n at *
    obtain ⟨q,hq⟩:∃ q,Wx n x=q:=⟨_,rfl⟩
    have Hq:=Z9 hq
    clear hq
    go_wp2_with fail
    refine (JM pa n pc x _).mono ?_
    rw [uh Hq]
    rintro e w1 ⟨rfl,h9⟩
    subst w1
    cases q
    ·go_wp2_with fail
     go_ret
     exact ⟨Z5 (uh HN (uh Hq)).symm,uh BB⟩
    ·go_wp2_with fail
     go_roundw
     case rel=>exact ⟨k+1,by omega,by go_num,uh HU (uh Hq),uh BB⟩
     case measure=>exact ms
   ·obtain rfl:k=ps.length:=by omega
    go_wp2_with fail
    go_ret
    exact ⟨Z5 (uh Hall (uh Hst)).symm,uh BB⟩
 ·refine Calls.bool_of (q:=false) ?_ (by unfold Wd;rw [decide_eq_false hl];rfl)
  have hbn:((ps.length:Int) !=(rs.length:Int))=true:=by simp;omega
  go_enter Tryz.func169,Tryz.ntmps169
  go_wp2_with fail
  go_ret
  exact ⟨rfl,Below.refl _ _⟩
theorem Calls.same_below' {P:Program} {f:FuncId} {args:Array Value}  (h:Calls P f args w fun e w'=>e= .returned v/\w'=w):Calls P f args w fun e w'=>e= .returned v/\Below w.heap.size w w':=h.mono fun e w' ⟨he,hw⟩=>⟨he,by subst hw;exact Below.refl _ _⟩
theorem Calls.int_of {P:Program} {f:FuncId} {args:Array Value} {q q':Int} (h:Calls P f args w fun e w'=>e= .returned (.int .i64 q)/\Below w.heap.size w w') (e:q=q'):Calls P f args w fun e w'=>e= .returned (.int .i64 q')/\Below w.heap.size w w':=by rw [<-e];exact h
theorem Kt  (h:Smy w v0 v1 v2 v3 v4 m):Calls Tryz.prog 108 #[.agg #[v0,v1,v2,v3,v4,.int .i64 m.now]] w fun e w'=>e= .returned (.bool (RF m))/\Below w.heap.size w w':=by
 have Hv:=Z9 (h.alloc (.cells #[v0,v1,v2,v3,v4,.int .i64 m.now] 32))
 obtain ⟨a0,p0,a1,p1,a2,p2,a3,p3,a4,p4,rfl,rfl,rfl,rfl,rfl,_,_,_,_,_,_,_,_,_,_⟩:=h.five
 clear h
 obtain ⟨q1,hq1⟩:∃ q,Zf m.rooms=q:=⟨_,rfl⟩
 obtain ⟨q2,hq2⟩:∃ q,Zc m.guilds=q:=⟨_,rfl⟩
 obtain ⟨q3,hq3⟩:∃ q,UA m.smiths m.guilds.length=q:=⟨_,rfl⟩
 obtain ⟨q4,hq4⟩:∃ q,SD m.desks (Xn m.rooms)=q:=⟨_,rfl⟩
 obtain ⟨q5,hq5⟩:∃ q,Wd m.paces m.rooms=q:=⟨_,rfl⟩
 obtain ⟨q6,hq6⟩:∃ q,inB m.now 0 1000000=q:=⟨_,rfl⟩
 refine Calls.bool_of (q:=(q1 && (q2 && (q3 && (q4 && (q5 && q6)))))) ?_ (by
  unfold RF
  rw [hq2,hq3,hq5,hq6]
  cases q1
  ·rw [hq1];rfl
  ·rw [<-U8 hq1,hq4,hq1])
 have kb:Hid (Blk (w.alloc (.cells (S6 a0 p0 a1 p1 a2 p2 a3 p3 a4 p4 m) 32)) w.heap.size 32 (S6 a0 p0 a1 p1 a2 p2 a3 p3 a4 p4 m)):=Z9 (Blk.new w _ _)
 have BB:Hid (Below w.heap.size w (w.alloc (.cells (S6 a0 p0 a1 p1 a2 p2 a3 p3 a4 p4 m) 32))):=Z9 ((ba _ _))
 have hbv:Xn m.rooms<=1000:=by
  cases hb:Zf m.rooms
  ·rw [RY hb];omega
  ·rw [U8 hb];have:=(Zo hb).2.2.2;omega
 go_enter Tryz.func108,Tryz.ntmps108
 go_wp2_with fail
 generalize w.alloc (.cells (S6 a0 p0 a1 p1 a2 p2 a3 p3 a4 p4 m) 32)=W at *
 have H1:=Z9 (fun (X:World) (hX:Below W.heap.size W X)=>Calls.bool_of (Vh ((uh Hv).below hX).rooms) hq1)
 have H2:=Z9 (fun (X:World) (hX:Below W.heap.size W X)=>Calls.bool_of (QK ((uh Hv).below hX).guilds) hq2)
 have H3:=Z9 (fun (X:World) (hX:Below W.heap.size W X)=>Calls.bool_of (Md ((uh Hv).below hX).smiths ((uh Hv).below hX).guilds) hq3)
 have H4a:=Z9 (fun (X:World) (hX:Below W.heap.size W X)=>WG ((uh Hv).below hX).rooms)
 have H4:=Z9 (fun (X:World) (hX:Below W.heap.size W X)=>Calls.bool_of (Jr ((uh Hv).below hX).desks hbv) hq4)
 have H5:=Z9 (fun (X:World) (hX:Below W.heap.size W X)=>Calls.bool_of (ON ((uh Hv).below hX).paces ((uh Hv).below hX).rooms) hq5)
 have H6:=Z9 (fun (X:World) (hX:Below W.heap.size W X)=>Calls.bool_of (Calls.same_below' (ZC 0 m.now 1000000 X)) hq6)
 clear hq1 hq2 hq3 hq4 hq5 hq6
 generalize Xn m.rooms=nb at *
 obtain ⟨c0,c1,c2,c3,c4,c5⟩:=(uh kb).c6
 have y0:=cell_regrown c0
 have y1:=cell_regrown c1
 have y2:=cell_regrown c2
 have y3:=cell_regrown c3
 have y4:=cell_regrown c4
 have y5:=cell_regrown c5
 cases q1
 ·go_wp2_with fail
  refine wq ?_
  repeat (go_big_quiet_step (first | exact Calls.regrown_of (uh H1 _ (below_regrown _ _ _)) | exact Calls.regrown_of (uh H2 _ (below_regrown _ _ _)) | exact Calls.regrown_of (uh H3 _ (below_regrown _ _ _)) | exact Calls.regrown_of (uh H4a _ (below_regrown _ _ _)) | exact Calls.regrown_of (uh H4 _ (below_regrown _ _ _)) | exact Calls.regrown_of (uh H5 _ (below_regrown _ _ _)) | exact Calls.regrown_of (uh H6 _ (below_regrown _ _ _))))
  refine wpQuiet_nil ?_
  intro _ hw'
  obtain ⟨⟨dq,osq⟩,hw''⟩:=hw'
  subst hw''
  go_wp2_with fail
  go_ret
  exact ⟨rfl,(uh BB).trans ((below_regrown _ _ _).mono (uh BB).size)⟩
 cases q2
 ·go_wp2_with fail
  refine wq ?_
  repeat (go_big_quiet_step (first | exact Calls.regrown_of (uh H1 _ (below_regrown _ _ _)) | exact Calls.regrown_of (uh H2 _ (below_regrown _ _ _)) | exact Calls.regrown_of (uh H3 _ (below_regrown _ _ _)) | exact Calls.regrown_of (uh H4a _ (below_regrown _ _ _)) | exact Calls.regrown_of (uh H4 _ (below_regrown _ _ _)) | exact Calls.regrown_of (uh H5 _ (below_regrown _ _ _)) | exact Calls.regrown_of (uh H6 _ (below_regrown _ _ _))))
  refine wpQuiet_nil ?_
  intro _ hw'
  obtain ⟨⟨dq,osq⟩,hw''⟩:=hw'
  subst hw''
  go_wp2_with fail
  go_ret
  exact ⟨rfl,(uh BB).trans ((below_regrown _ _ _).mono (uh BB).size)⟩
 cases q3
 ·go_wp2_with fail
  refine wq ?_
  repeat (go_big_quiet_step (first | exact Calls.regrown_of (uh H1 _ (below_regrown _ _ _)) | exact Calls.regrown_of (uh H2 _ (below_regrown _ _ _)) | exact Calls.regrown_of (uh H3 _ (below_regrown _ _ _)) | exact Calls.regrown_of (uh H4a _ (below_regrown _ _ _)) | exact Calls.regrown_of (uh H4 _ (below_regrown _ _ _)) | exact Calls.regrown_of (uh H5 _ (below_regrown _ _ _)) | exact Calls.regrown_of (uh H6 _ (below_regrown _ _ _))))
  refine wpQuiet_nil ?_
  intro _ hw'
  obtain ⟨⟨dq,osq⟩,hw''⟩:=hw'
  subst hw''
  go_wp2_with fail
  go_ret
  exact ⟨rfl,(uh BB).trans ((below_regrown _ _ _).mono (uh BB).size)⟩
 cases q4
 ·go_wp2_with fail
  refine wq ?_
  repeat (go_big_quiet_step (first | exact Calls.regrown_of (uh H1 _ (below_regrown _ _ _)) | exact Calls.regrown_of (uh H2 _ (below_regrown _ _ _)) | exact Calls.regrown_of (uh H3 _ (below_regrown _ _ _)) | exact Calls.regrown_of (uh H4a _ (below_regrown _ _ _)) | exact Calls.regrown_of (uh H4 _ (below_regrown _ _ _)) | exact Calls.regrown_of (uh H5 _ (below_regrown _ _ _)) | exact Calls.regrown_of (uh H6 _ (below_regrown _ _ _))))
  refine wpQuiet_nil ?_
  intro _ hw'
  obtain ⟨⟨dq,osq⟩,hw''⟩:=hw'
  subst hw''
  go_wp2_with fail
  go_ret
  exact ⟨rfl,(uh BB).trans ((below_regrown _ _ _).mono (uh BB).size)⟩
 cases q5
 ·go_wp2_with fail
  refine wq ?_
  repeat (go_big_quiet_step (first | exact Calls.regrown_of (uh H1 _ (below_regrown _ _ _)) | exact Calls.regrown_of (uh H2 _ (below_regrown _ _ _)) | exact Calls.regrown_of (uh H3 _ (below_regrown _ _ _)) | exact Calls.regrown_of (uh H4a _ (below_regrown _ _ _)) | exact Calls.regrown_of (uh H4 _ (below_regrown _ _ _)) | exact Calls.regrown_of (uh H5 _ (below_regrown _ _ _)) | exact Calls.regrown_of (uh H6 _ (below_regrown _ _ _))))
  refine wpQuiet_nil ?_
  intro _ hw'
  obtain ⟨⟨dq,osq⟩,hw''⟩:=hw'
  subst hw''
  go_wp2_with fail
  go_ret
  exact ⟨rfl,(uh BB).trans ((below_regrown _ _ _).mono (uh BB).size)⟩
 go_wp2_with fail
 refine wq ?_
 repeat (go_big_quiet_step (first | exact Calls.regrown_of (uh H1 _ (below_regrown _ _ _)) | exact Calls.regrown_of (uh H2 _ (below_regrown _ _ _)) | exact Calls.regrown_of (uh H3 _ (below_regrown _ _ _)) | exact Calls.regrown_of (uh H4a _ (below_regrown _ _ _)) | exact Calls.regrown_of (uh H4 _ (below_regrown _ _ _)) | exact Calls.regrown_of (uh H5 _ (below_regrown _ _ _)) | exact Calls.regrown_of (uh H6 _ (below_regrown _ _ _))))
 refine wpQuiet_nil ?_
 intro _ hw'
 obtain ⟨⟨dq,osq⟩,hw''⟩:=hw'
 subst hw''
 go_wp2_with fail
 go_ret
 exact ⟨Z5 (by simp),(uh BB).trans ((below_regrown _ _ _).mono (uh BB).size)⟩
theorem U6  (h:Smy w v0 v1 v2 v3 v4 m):Calls Tryz.prog 50 #[.agg #[v0,v1,v2,v3,v4,.int .i64 m.now]] w fun e w'=>e= .returned (.bool (Xi m))/\Below w.heap.size w w':=by
 have Hv:=Z9 (h.alloc (.cells #[v0,v1,v2,v3,v4,.int .i64 m.now] 32))
 obtain ⟨a0,p0,a1,p1,a2,p2,a3,p3,a4,p4,rfl,rfl,rfl,rfl,rfl,_,_,_,_,_,_,_,_,_,_⟩:=h.five
 clear h
 obtain ⟨q1,hq1⟩:∃ q,RF m=q:=⟨_,rfl⟩
 obtain ⟨q2,hq2⟩:∃ q,Yy (Xr m.desks) m.smiths m.smiths.length=q:=⟨_,rfl⟩
 refine Calls.bool_of (q:=(q1 && q2)) ?_ (by unfold Xi;rw [hq1,hq2])
 have H1:=Z9 hq1
 have H2:=Z9 hq2
 clear hq1 hq2
 have kb:Hid (Blk (w.alloc (.cells (S6 a0 p0 a1 p1 a2 p2 a3 p3 a4 p4 m) 32)) w.heap.size 32 (S6 a0 p0 a1 p1 a2 p2 a3 p3 a4 p4 m)):=Z9 (Blk.new w _ _)
 have BB:Hid (Below w.heap.size w (w.alloc (.cells (S6 a0 p0 a1 p1 a2 p2 a3 p3 a4 p4 m) 32))):=Z9 ((ba _ _))
 go_enter Tryz.func50,Tryz.ntmps50
 go_wp2_with fail
 generalize w.alloc (.cells (S6 a0 p0 a1 p1 a2 p2 a3 p3 a4 p4 m) 32)=W at *
 refine (Kt (uh Hv)).mono ?_
 rw [uh H1]
 rintro e w1 ⟨rfl,hb⟩
 replace Hv:=Z9 ((uh Hv).below hb)
 replace kb:=bl kb hb
 replace BB:=bt BB hb
 clear hb
 cases q1
 ·go_wp2_with fail
  go_ret
  exact ⟨rfl,uh BB⟩
 obtain ⟨c0,c1,c2,c3,c4,c5⟩:=(uh kb).c6
 go_wp2_with fail
 refine ck (VP _ _ _ _ _ _ _ _ _ _ _ _ _ _ _ _ _) fun w2 hb=> ?_
 replace Hv:=Z9 ((uh Hv).below hb)
 replace kb:=bl kb hb
 replace BB:=bt BB hb
 clear hb c0 c1 c2 c3 c4 c5
 go_wp2_with fail
 refine (Lp (uh Hv).smiths ((uh kb).cell (i:=3) rfl) (uh kb).lt (uh Hv).desks).mono ?_
 rw [uh H2]
 rintro e w3 ⟨rfl,hb⟩
 replace BB:=bt BB hb
 clear hb
 go_wp2_with fail
 go_ret
 exact ⟨Z5 (by simp),uh BB⟩
theorem Qt  (b:Int) (h:Smy w v0 v1 v2 v3 v4 m) (hl:m.smiths.length<=1000):Calls Tryz.prog 176 #[.agg #[v0,v1,v2,v3,v4,.int .i64 m.now],.int .i64 b] w fun e w'=> ∃ v',e= .returned v'/\NumsAt w.heap.size w' v' (ZS (atB b) m.smiths m.smiths.length)/\Below w.heap.size w w':=by
 have Hv:=Z9 ((h.alloc (.cells #[v0,v1,v2,v3,v4,.int .i64 m.now] 32)).alloc (.cells #[.int .i64 b] 2))
 obtain ⟨a0,p0,a1,p1,a2,p2,a3,p3,a4,p4,rfl,rfl,rfl,rfl,rfl,_,_,_,_,_,_,_,_,_,_⟩:=h.five
 clear h
 have BB:Hid (Below w.heap.size w ((w.alloc (.cells (S6 a0 p0 a1 p1 a2 p2 a3 p3 a4 p4 m) 32)).alloc (.cells #[.int .i64 b] 2))):=Z9 (((ba _ _)).alloc (by simp) _)
 have kc:Hid (Blk ((w.alloc (.cells (S6 a0 p0 a1 p1 a2 p2 a3 p3 a4 p4 m) 32)).alloc (.cells #[.int .i64 b] 2)) (w.heap.size+1) 2 #[.int .i64 b]):=Z9 (by
  have k:=Blk.new (w.alloc (.cells (S6 a0 p0 a1 p1 a2 p2 a3 p3 a4 p4 m) 32)) 2 #[.int .i64 b]
  rw [World.size_alloc] at k
  exact k)
 go_enter Tryz.func176,Tryz.ntmps176
 go_wp2_with fail
 generalize (w.alloc (.cells (S6 a0 p0 a1 p1 a2 p2 a3 p3 a4 p4 m) 32)).alloc (.cells #[.int .i64 b] 2)=W at *
 refine ck (VP _ _ _ _ _ _ _ _ _ _ _ _ _ _ _ _ _) fun w2 hb=> ?_
 replace Hv:=Z9 ((uh Hv).below hb)
 replace kc:=bl kc hb
 replace BB:=bt BB hb
 clear hb
 go_wp2_with fail
 refine (Lh (uh Hv).smiths hl ((uh kc).cell (i:=0) rfl) (uh kc).lt).mono ?_
 rintro e w3 ⟨v',rfl,hn,hb⟩
 have HN:=Z9 (RecAt.mono hn (uh BB).size)
 replace BB:=bt BB hb
 obtain ⟨la,lc,rfl⟩:=RecAt.shape hn
 clear hb hn
 go_wp2_with fail
 go_ret
 exact ⟨_,rfl,uh HN,uh BB⟩
theorem Pp  (b:Int) (h:Smy w v0 v1 v2 v3 v4 m) (hl:m.smiths.length<=1000):Calls Tryz.prog 177 #[.agg #[v0,v1,v2,v3,v4,.int .i64 m.now],.int .i64 b] w fun e w'=> ∃ v',e= .returned v'/\NumsAt w.heap.size w' v' (ZS (Zl b) m.smiths m.smiths.length)/\Below w.heap.size w w':=by
 have Hv:=Z9 ((h.alloc (.cells #[v0,v1,v2,v3,v4,.int .i64 m.now] 32)).alloc (.cells #[.int .i64 b] 2))
 obtain ⟨a0,p0,a1,p1,a2,p2,a3,p3,a4,p4,rfl,rfl,rfl,rfl,rfl,_,_,_,_,_,_,_,_,_,_⟩:=h.five
 clear h
 have BB:Hid (Below w.heap.size w ((w.alloc (.cells (S6 a0 p0 a1 p1 a2 p2 a3 p3 a4 p4 m) 32)).alloc (.cells #[.int .i64 b] 2))):=Z9 (((ba _ _)).alloc (by simp) _)
 have kc:Hid (Blk ((w.alloc (.cells (S6 a0 p0 a1 p1 a2 p2 a3 p3 a4 p4 m) 32)).alloc (.cells #[.int .i64 b] 2)) (w.heap.size+1) 2 #[.int .i64 b]):=Z9 (by
  have k:=Blk.new (w.alloc (.cells (S6 a0 p0 a1 p1 a2 p2 a3 p3 a4 p4 m) 32)) 2 #[.int .i64 b]
  rw [World.size_alloc] at k
  exact k)
 go_enter Tryz.func177,Tryz.ntmps177
 go_wp2_with fail
 generalize (w.alloc (.cells (S6 a0 p0 a1 p1 a2 p2 a3 p3 a4 p4 m) 32)).alloc (.cells #[.int .i64 b] 2)=W at *
 refine ck (VP _ _ _ _ _ _ _ _ _ _ _ _ _ _ _ _ _) fun w2 hb=> ?_
 replace Hv:=Z9 ((uh Hv).below hb)
 replace kc:=bl kc hb
 replace BB:=bt BB hb
 clear hb
 go_wp2_with fail
 refine (Po (uh Hv).smiths hl ((uh kc).cell (i:=0) rfl) (uh kc).lt).mono ?_
 rintro e w3 ⟨v',rfl,hn,hb⟩
 have HN:=Z9 (RecAt.mono hn (uh BB).size)
 replace BB:=bt BB hb
 obtain ⟨la,lc,rfl⟩:=RecAt.shape hn
 clear hb hn
 go_wp2_with fail
 go_ret
 exact ⟨_,rfl,uh HN,uh BB⟩
theorem IU  {b:Nat} (h:Smy w v0 v1 v2 v3 v4 m) (hl:m.smiths.length<=1000) (hb0:b<m.desks.length):Calls Tryz.prog 113 #[.agg #[v0,v1,v2,v3,v4,.int .i64 m.now],.int .i64 (b:Int)] w fun e w'=>e= .returned (.bool (VZ m b))/\Below w.heap.size w w':=by
 have Hv:=Z9 (h.alloc (.cells #[v0,v1,v2,v3,v4,.int .i64 m.now] 32))
 obtain ⟨a0,p0,rfl,_,_⟩:=IsRooms.shape h.rooms
 obtain ⟨a1,p1,rfl,_,_⟩:=IsRec.shape h.guilds
 obtain ⟨a2,p2,rfl,_,_⟩:=IsRec.shape h.smiths
 obtain ⟨a3,p3,rfl,hc3,hm3,r3⟩:=h.desks
 obtain ⟨a4,p4,rfl,_,_⟩:=IsRec.shape h.paces
 clear h
 rcases r3 with e0 | ⟨db,off,rfl,hbw,hcl⟩
 ·rw [e0] at hb0;simp at hb0
 obtain ⟨_,d1,_⟩:=Zi hcl hb0
 have hb1:(b:Int)<(m.desks.length:Int):=by omega
 have hT:VZ m b=if (Z8 m.desks b).2.1= -1 then decide ((ZS (atB b) m.smiths m.smiths.length).length=0) else decide ((ZS (Zl b) m.smiths m.smiths.length).length=1) && decide (Z8 (ZS (Zl b) m.smiths m.smiths.length) 0=(Z8 m.desks b).2.1):=rfl
 have HT:=Z9 hT
 clear hT hcl
 generalize (Z8 m.desks b).2.1=who at *
 have hne:db ≠ w.heap.size:=Nat.ne_of_lt hbw
 obtain ⟨BB,kb⟩:=Xe w 32 #[.slice a0 m.rooms.length p0,.slice a1 m.guilds.length p1,.slice a2 m.smiths.length p2,.slice (some ⟨db,off,none⟩) m.desks.length p3,.slice a4 m.paces.length p4,.int .i64 m.now]
 rw [<-(uh BB).cell (p:=⟨db,off+b*3+1,none⟩) hbw] at d1
 by_cases hw:who= -1
 ·subst hw
  obtain ⟨ws,hws⟩:∃ ws,ZS (atB b) m.smiths m.smiths.length=ws:=⟨_,rfl⟩
  refine Calls.bool_of (q:=decide (ws.length=0)) ?_ (by rw [uh HT,if_pos rfl,hws])
  have Hws:=Z9 hws
  clear hws HT
  go_enter Tryz.func113,Tryz.ntmps113
  go_upto_region 3 with fail
  generalize w.alloc (.cells #[.slice a0 m.rooms.length p0,.slice a1 m.guilds.length p1,.slice a2 m.smiths.length p2,.slice (some ⟨db,off,none⟩) m.desks.length p3,.slice a4 m.paces.length p4,.int .i64 m.now] 32)=W at *
  obtain ⟨c0,c1,c2,c3,c4,c5⟩:=(uh kb).c6
  go_wp2_with fail
  refine (Qt (b:Int) (uh Hv) hl).mono ?_
  rw [uh Hws]
  rintro e w2 ⟨v',rfl,hn,hb⟩
  obtain ⟨la,lc,rfl⟩:=RecAt.shape hn
  replace BB:=bt BB hb
  clear hb hn c0 c1 c2 c3 c4 c5
  go_wp2_with fail
  go_ret
  exact ⟨Z5 (by rw [Bool.eq_iff_iff];simp only [beq_iff_eq,decide_eq_true_eq];omega),uh BB⟩
 have nw:(who == -1)=false:=by simpa using hw
 obtain ⟨ws,hws⟩:∃ ws,ZS (Zl b) m.smiths m.smiths.length=ws:=⟨_,rfl⟩
 refine Calls.bool_of (q:=decide (ws.length=1) && decide (Z8 ws 0=who)) ?_ (by rw [uh HT,if_neg hw,hws])
 have Hws:=Z9 hws
 clear hws HT
 go_enter Tryz.func113,Tryz.ntmps113
 go_upto_region 3 with fail
 generalize w.alloc (.cells #[.slice a0 m.rooms.length p0,.slice a1 m.guilds.length p1,.slice a2 m.smiths.length p2,.slice (some ⟨db,off,none⟩) m.desks.length p3,.slice a4 m.paces.length p4,.int .i64 m.now] 32)=W at *
 obtain ⟨c0,c1,c2,c3,c4,c5⟩:=(uh kb).c6
 go_wp2_with fail
 refine (Pp (b:Int) (uh Hv) hl).mono ?_
 rw [uh Hws]
 rintro e w2 ⟨v',rfl,hn,hb⟩
 obtain ⟨la,lc,rfl⟩:=RecAt.shape hn
 replace BB:=bt BB hb
 have HN:=Z9 hn
 clear hb hn c0 c1 c2 c3 c4 c5
 by_cases h1:ws.length=1
 ·obtain ⟨g,hga,_,_,hcl,_⟩:=RecAt.view YH (by omega) (uh HN) rfl (by omega)
  cases hga
  have z0:=hcl 0 (by omega) 0 _ rfl
  simp only [Nat.zero_mul,Nat.add_zero] at z0
  have hl1:((ws.length:Int) ==1)=true:=by simp;omega
  clear hcl
  have h01:(0:Int)<(ws.length:Int):=by omega
  obtain ⟨z,hz⟩:∃ z,Z8 ws 0=z:=⟨_,rfl⟩
  rw [hz] at z0
  have Hz:=Z9 hz
  clear hz
  go_wp2_with fail
  go_ret
  exact ⟨Z5 (by rw [uh Hz,decide_eq_true h1,Bool.eq_iff_iff];simp only [Bool.true_and,beq_iff_eq,decide_eq_true_eq]),uh BB⟩
 ·have hl1:((ws.length:Int) ==1)=false:=by simp;omega
  go_wp2_with fail
  go_ret
  exact ⟨Z5 (by rw [decide_eq_false h1];rfl),uh BB⟩
theorem K7  (h:Smy w v0 v1 v2 v3 v4 m) (hl:m.smiths.length<=1000):Calls Tryz.prog 51 #[.agg #[v0,v1,v2,v3,v4,.int .i64 m.now]] w fun e w'=>e= .returned (.bool (RR m))/\Below w.heap.size w w':=by
 have Hv:=Z9 (h.alloc (.cells #[v0,v1,v2,v3,v4,.int .i64 m.now] 32))
 obtain ⟨a0,p0,a1,p1,a2,p2,a3,p3,a4,p4,rfl,rfl,rfl,rfl,rfl,_,_,_,_,_,_,_,_,_,_⟩:=h.five
 clear h
 obtain ⟨BB0,kb0⟩:=Xe w 32 (S6 a0 p0 a1 p1 a2 p2 a3 p3 a4 p4 m)
 go_enter Tryz.func51,Tryz.ntmps51
 go_wp2_with fail
 go_loopw [7] (fun i wr=> ∃ k:Nat,k<=m.desks.length/\i= .int .i64 k/\(List.range k).all (VZ m)=true/\Smy wr (.slice a0 m.rooms.length p0) (.slice a1 m.guilds.length p1) (.slice a2 m.smiths.length p2) (.slice a3 m.desks.length p3) (.slice a4 m.paces.length p4) m/\Blk wr w.heap.size 32 (S6 a0 p0 a1 p1 a2 p2 a3 p3 a4 p4 m)/\Below w.heap.size w wr) (fun i _=>m.desks.length-(intOf i).toNat)
 case atStart=>exact ⟨0,Nat.zero_le _,rfl,rfl,uh Hv,uh kb0,uh BB0⟩
 case round=>
  obtain ⟨k,hk,rfl,hst,hv,hkb,hb0⟩:=hrel
  have Hst:=Z9 hst
  have Hv1:=Z9 hv
  have kb:=Z9 hkb
  have BB:=Z9 hb0
  clear hv hkb hb0 kb0 BB0 Hv
  by_cases hlt:k<m.desks.length
  ·have hlt1:(k:Int)<(m.desks.length:Int):=by omega
   have HU:=Z9 (fun (hh:VZ m k=true)=>(show (List.range (k+1)).all (VZ m)=true from by rw [UG,hst,hh];rfl))
   have HN:=Z9 (fun hh=>(show RR m=false from RW (p:=VZ m) hlt hh))
   clear hst
   obtain ⟨q,hq⟩:∃ q,VZ m k=q:=⟨_,rfl⟩
   have Hq:=Z9 hq
   clear hq
   obtain ⟨c0,c1,c2,c3,c4,c5⟩:=(uh kb).c6
   go_wp2_with fail
   refine (IU (uh Hv1) hl hlt).mono ?_
   rw [uh Hq]
   rintro e w1 ⟨rfl,hb⟩
   replace Hv1:=Z9 ((uh Hv1).below hb)
   replace kb:=bl kb hb
   replace BB:=bt BB hb
   clear hb c0 c1 c2 c3 c4 c5
   cases q
   ·go_wp2_with fail
    go_ret
    exact ⟨Z5 (uh HN (uh Hq)).symm,uh BB⟩
   ·go_wp2_with fail
    go_roundw
    case rel=>exact ⟨k+1,by omega,by go_num,uh HU (uh Hq),uh Hv1,uh kb,uh BB⟩
    case measure=>exact ms
  ·obtain rfl:k=m.desks.length:=by omega
   go_wp2_with fail
   go_ret
   exact ⟨Z5 (uh Hst).symm,uh BB⟩
theorem Fm (h:Xi m=true):m.smiths.length<=12:=by
 rw [TW] at h
 unfold Ze YY at h
 simp only [Bool.and_eq_true,decide_eq_true_eq] at h
 exact h.1.2.2.1
theorem QM  (h:Smy w v0 v1 v2 v3 v4 m):Calls Tryz.prog 15 #[.agg #[v0,v1,v2,v3,v4,.int .i64 m.now]] w fun e w'=>e= .returned (.bool (ZO m))/\Below w.heap.size w w':=by
 have Hv:=Z9 (h.alloc (.cells #[v0,v1,v2,v3,v4,.int .i64 m.now] 32))
 obtain ⟨a0,p0,a1,p1,a2,p2,a3,p3,a4,p4,rfl,rfl,rfl,rfl,rfl,_,_,_,_,_,_,_,_,_,_⟩:=h.five
 clear h
 obtain ⟨q1,hq1⟩:∃ q,Xi m=q:=⟨_,rfl⟩
 obtain ⟨q2,hq2⟩:∃ q,RR m=q:=⟨_,rfl⟩
 refine Calls.bool_of (q:=(q1 && q2)) ?_ (by rw [<-Ej];unfold Ei;rw [hq1,hq2])
 have H1:=Z9 hq1
 have H2:=Z9 hq2
 clear hq1 hq2
 have kb:Hid (Blk (w.alloc (.cells (S6 a0 p0 a1 p1 a2 p2 a3 p3 a4 p4 m) 32)) w.heap.size 32 (S6 a0 p0 a1 p1 a2 p2 a3 p3 a4 p4 m)):=Z9 (Blk.new w _ _)
 have BB:Hid (Below w.heap.size w (w.alloc (.cells (S6 a0 p0 a1 p1 a2 p2 a3 p3 a4 p4 m) 32))):=Z9 ((ba _ _))
 go_enter Tryz.func15,Tryz.ntmps15
 go_wp2_with fail
 generalize w.alloc (.cells (S6 a0 p0 a1 p1 a2 p2 a3 p3 a4 p4 m) 32)=W at *
 refine (U6 (uh Hv)).mono ?_
 rw [uh H1]
 rintro e w1 ⟨rfl,hb⟩
 replace Hv:=Z9 ((uh Hv).below hb)
 replace kb:=bl kb hb
 replace BB:=bt BB hb
 clear hb
 cases q1
 ·go_wp2_with fail
  go_ret
  exact ⟨rfl,uh BB⟩
 obtain ⟨c0,c1,c2,c3,c4,c5⟩:=(uh kb).c6
 go_wp2_with fail
 refine (K7 (uh Hv) (by have:=Fm (uh H1);omega)).mono ?_
 rw [uh H2]
 rintro e w2 ⟨rfl,hb⟩
 replace BB:=bt BB hb
 clear hb c0 c1 c2 c3 c4 c5
 go_wp2_with fail
 go_ret
 exact ⟨Z5 (by simp),uh BB⟩
theorem S5 (w:World) (v0 v1 v2 v3 v4:Value) (m:Z6) (q:Bool) (hq:ZO m=q) (h:Smy w v0 v1 v2 v3 v4 m):Calls Tryz.prog 15 #[.agg #[v0,v1,v2,v3,v4,.int .i64 m.now]] w fun e w'=>e= .returned (.bool q)/\Below w.heap.size w w':=Calls.bool_of (QM h) hq
end Go.Proofs.YtffcgajndmhpkaaGreatDoor
