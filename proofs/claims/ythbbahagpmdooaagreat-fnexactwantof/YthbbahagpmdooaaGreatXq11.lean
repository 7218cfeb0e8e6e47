/- Part 11 of what the proof rests on. No condition but those that a theorem names. -/
import Derived.Test.YthbbahagpmdooaaGreatXq10
set_option maxHeartbeats 8000000
set_option maxRecDepth 100000
namespace Go.Proofs.YthbbahagpmdooaaGreat
open Go.ChangeShapes Go.WideShapes Go.ChangeAt Go.RowKit Go.Sort
set_option linter.unusedVariables false
set_option maxRecDepth 100000
variable {w w' w0 w1 w2 w3 w₀ wr W W' X A B C : World} {v v0 v1 v2 v3 v4 u u0 u1 u2 u3 u4 : Value} {m : Z4}
theorem Qs (st be rk my gu lo hi hd ca ut wk:Int) {R n3 p3:Nat} {a3:Option Addr} {ds:List Yl} (hc:w.cell? ⟨R,3,none⟩=some (.slice a3 n3 p3)) (hR:R<w.heap.size) (h:U8 w (.slice a3 n3 p3) ds):Calls Tryz.prog 82 #[.agg #[.int .i64 st,.int .i64 be,.int .i64 rk,.int .i64 my,.int .i64 gu,.int .i64 lo,.int .i64 hi,.int .i64 hd,.int .i64 ca,.int .i64 ut,.int .i64 wk],.pointer (some ⟨R,0,none⟩)] w fun e w'=>e= .returned (.bool (XA ds (st,be,rk,my,gu,lo,hi,hd,ca,ut,wk)))/\Below w.heap.size w w':=by
 have hne:R ≠ w.heap.size:=Nat.ne_of_lt hR
 have HD:=Z9 h
 clear h
 go_enter Tryz.func82,Tryz.ntmps82
 go_wp2_with fail
 refine (OE st be rk my gu lo hi hd ca ut wk ((uh HD).below ((Below.refl _ _).alloc (Nat.le_refl _) _))).mono ?_
 rintro e w1 ⟨rfl,hb⟩
 have Hb:=Z9 (((Below.refl w.heap.size w).alloc (Nat.le_refl _) _).trans (hb.mono (by simp)))
 clear hb
 go_wp2_with fail
 go_ret
 exact ⟨rfl,uh Hb⟩
theorem M7  {ss:List Z3} {R n3 p3:Nat} {a3:Option Addr} {ds:List Yl} (h:V2 w v ss) (hc0:w.cell? ⟨R,3,none⟩=some (.slice a3 n3 p3)) (hR:R<w.heap.size) (hds:U8 w (.slice a3 n3 p3) ds):Calls Tryz.prog 81 #[v,.func (Fn.func 82) #[] #[.pointer (some ⟨R,0,none⟩)]] w fun e w'=>e= .returned (.bool (YA (XA ds) ss ss.length))/\Below w.heap.size w w':=by
 obtain ⟨a,cap,rfl,hc,hm,hr⟩:=h
 have Hr:=Z9 hr
 clear hr
 have HC:=Z9 hc0
 have HD:=Z9 hds
 clear hc0 hds
 go_enter Tryz.func81,Tryz.ntmps81
 go_wp2_with fail
 go_loopw [9] (fun i wr=> ∃ k:Nat,k<=ss.length/\i= .int .i64 k/\YA (XA ds) ss k=true/\Below w.heap.size w wr) (fun i _=>ss.length-(intOf i).toNat)
 case atStart=>exact ⟨0,Nat.zero_le _,rfl,rfl,Below.refl _ _⟩
 case round=>
  obtain ⟨k,hk,rfl,hst,hb0⟩:=hrel
  have Hst:=Z9 hst
  have BB:=Z9 hb0
  by_cases hlt:k<ss.length
  ·have hlt1:(k:Int)<(ss.length:Int):=by omega
   rcases uh Hr with e0 | ⟨b,off,rfl,hbw,hcl⟩
   ·rw [e0] at hlt;simp at hlt
   obtain ⟨d0,d1,d2,d3,d4,d5,d6,d7,d8,d9,d10⟩:=ZI hcl hlt
   rw [<-hb0.cell (p:=⟨b,off+k*11,none⟩) hbw] at d0
   rw [<-hb0.cell (p:=⟨b,off+k*11+1,none⟩) hbw] at d1
   rw [<-hb0.cell (p:=⟨b,off+k*11+2,none⟩) hbw] at d2
   rw [<-hb0.cell (p:=⟨b,off+k*11+3,none⟩) hbw] at d3
   rw [<-hb0.cell (p:=⟨b,off+k*11+4,none⟩) hbw] at d4
   rw [<-hb0.cell (p:=⟨b,off+k*11+5,none⟩) hbw] at d5
   rw [<-hb0.cell (p:=⟨b,off+k*11+6,none⟩) hbw] at d6
   rw [<-hb0.cell (p:=⟨b,off+k*11+7,none⟩) hbw] at d7
   rw [<-hb0.cell (p:=⟨b,off+k*11+8,none⟩) hbw] at d8
   rw [<-hb0.cell (p:=⟨b,off+k*11+9,none⟩) hbw] at d9
   rw [<-hb0.cell (p:=⟨b,off+k*11+10,none⟩) hbw] at d10
   have HU:=Z9 (fun hh=>RP (p:=(XA ds)) (xs:=ss) (k:=k) hst hh)
   have HN:=Z9 (fun hh=>RO (p:=(XA ds)) (xs:=ss) hlt hh)
   clear hcl hst hb0
   generalize Z8 ss k=s at *
   obtain ⟨st,be,rk,my,gu,lo,hi,hd,ca,ut,wk⟩:=s
   simp only at d0 d1 d2 d3 d4 d5 d6 d7 d8 d9 d10
   have hbr:b<wr.heap.size:=Nat.lt_of_lt_of_le hbw (uh BB).size
   go_wp2_with fail
   clear d0 d1 d2 d3 d4 d5 d6 d7 d8 d9 d10
   obtain ⟨q,hq⟩:∃ q,(XA ds) (st,be,rk,my,gu,lo,hi,hd,ca,ut,wk)=q:=⟨_,rfl⟩
   have Hq:=Z9 hq
   clear hq
   have hba:Below wr.heap.size wr (wr.alloc (.cells #[.int .i64 st,.int .i64 be,.int .i64 rk,.int .i64 my,.int .i64 gu,.int .i64 lo,.int .i64 hi,.int .i64 hd,.int .i64 ca,.int .i64 ut,.int .i64 wk] 41)):=(Below.refl _ _).alloc (Nat.le_refl _) _
   replace BB:=bt BB hba
   clear hba
   refine (Qs st be rk my gu lo hi hd ca ut wk (((uh BB).cell (p:=⟨R,3,none⟩) hR).trans (uh HC)) (Nat.lt_of_lt_of_le hR (uh BB).size) ((uh HD).below (uh BB))).mono ?_
   rw [uh Hq]
   rintro e w1 ⟨rfl,hb⟩
   replace BB:=bt BB hb
   clear hb
   cases q
   ·go_wp2_with fail
    go_ret
    exact ⟨Z6 (uh HN (uh Hq)).symm,uh BB⟩
   ·go_wp2_with fail
    go_roundw
    case rel=>exact ⟨k+1,by omega,by go_num,uh HU (uh Hq),uh BB⟩
    case measure=>simp [intOf];omega
  ·obtain rfl:k=ss.length:=by omega
   go_wp2_with fail
   go_ret
   exact ⟨Z6 (uh Hst).symm,uh BB⟩
theorem VL (a0 a1 a2 a3 a4:Option Addr) (n0 n1 n2 n3 n4 p0 p1 p2 p3 p4:Nat) (now:Int) (w:World):Calls Tryz.prog 72 #[.agg #[.slice a0 n0 p0,.slice a1 n1 p1,.slice a2 n2 p2,.slice a3 n3 p3,.slice a4 n4 p4,.int .i64 now]] w fun e w'=>e= .returned (.slice a2 n2 p2)/\Below w.heap.size w w':=by
 go_enter Tryz.func72,Tryz.ntmps72
 go_wp2_with fail
 go_ret
 exact ⟨rfl,(Below.refl _ _).alloc (Nat.le_refl _) _⟩
theorem Ll (a0 a1 a2 a3 a4:Option Addr) (n0 n1 n2 n3 n4 p0 p1 p2 p3 p4:Nat) (now:Int) (w:World):Calls Tryz.prog 27 #[.agg #[.slice a0 n0 p0,.slice a1 n1 p1,.slice a2 n2 p2,.slice a3 n3 p3,.slice a4 n4 p4,.int .i64 now]] w fun e w'=>e= .returned (.slice a3 n3 p3)/\Below w.heap.size w w':=by
 go_enter Tryz.func27,Tryz.ntmps27
 go_wp2_with fail
 go_ret
 exact ⟨rfl,(Below.refl _ _).alloc (Nat.le_refl _) _⟩
theorem NJ  {ss:List Z3} {gs:List ZK} (h:V2 w v ss) (h1:Yw w v1 gs):Calls Tryz.prog 126 #[v,v1] w fun e w'=>e= .returned (.bool (UT ss gs.length))/\Below w.heap.size w w':=by
 have Hv:=Z9 h
 obtain ⟨a,cap,rfl,_,_⟩:=IsRec.shape h
 obtain ⟨ga,gc,rfl,_,_⟩:=IsRec.shape h1
 clear h h1
 obtain ⟨q1,hq1⟩:∃ q,YA ZH ss ss.length=q:=⟨_,rfl⟩
 obtain ⟨q2,hq2⟩:∃ q,YA (XH gs.length) ss ss.length=q:=⟨_,rfl⟩
 have H1:=Z9 hq1
 have H2:=Z9 hq2
 by_cases hl:ss.length<=12
 ·refine Calls.bool_of (q:=(q1 && q2)) ?_ (by unfold UT;rw [hq1,hq2,decide_eq_true hl,Bool.true_and])
  have hl1:(ss.length:Int)<=12:=by omega
  clear hq1 hq2
  have HW:=Z9 ((uh Hv).below ((Below.refl _ _).alloc (Nat.le_refl _) (.cells #[.slice ga gs.length gc] 27)))
  go_enter Tryz.func126,Tryz.ntmps126
  go_wp2_with fail
  refine (GA (uh HW)).mono ?_
  rw [uh H1]
  rintro e w1 ⟨rfl,hb⟩
  replace HW:=Z9 ((uh HW).below hb)
  have c0:w1.cell? ⟨w.heap.size,0,none⟩=some (.slice ga gs.length gc):=(hb.cell (p:=⟨w.heap.size,0,none⟩) (by simp)).trans (Z2 _ rfl)
  have hlt:w.heap.size<w1.heap.size:=by have:=hb.size;simp at this;omega
  have Hb:=Z9 (((Below.refl w.heap.size w).alloc (Nat.le_refl _) _).trans (hb.mono (by simp)))
  have HC:=Z9 c0
  clear hb c0
  cases q1
  ·go_wp2_with fail
   go_ret
   exact ⟨rfl,uh Hb⟩
  go_wp2_with fail
  refine (M8 (uh HW) (uh HC) hlt).mono ?_
  rw [uh H2]
  rintro e w2 ⟨rfl,hb⟩
  replace Hb:=Z9 ((uh Hb).trans (hb.mono (uh Hb).size))
  clear hb
  go_wp2_with fail
  go_ret
  exact ⟨Z6 (by simp),uh Hb⟩
 ·refine Calls.bool_of (q:=false) ?_ (by unfold UT;rw [decide_eq_false hl];rfl)
  have hl1:¬ ((ss.length:Int)<=12):=by omega
  clear hq1 hq2
  go_enter Tryz.func126,Tryz.ntmps126
  go_wp2_with fail
  go_ret
  exact ⟨rfl,(Below.refl _ _).alloc (Nat.le_refl _) _⟩
theorem Lm  {ds:List Yl} {n:Int} (h:U8 w v ds) (hn:n<=1000):Calls Tryz.prog 127 #[v,.int .i64 n] w fun e w'=>e= .returned (.bool (S7 ds n))/\Below w.heap.size w w':=by
 have Hv:=Z9 h
 obtain ⟨a,cap,rfl,_,_⟩:=IsRec.shape h
 clear h
 obtain ⟨q1,hq1⟩:∃ q,YA Wz ds ds.length=q:=⟨_,rfl⟩
 obtain ⟨ws,hws⟩:∃ ws,ZX Ut ds ds.length=ws:=⟨_,rfl⟩
 have H1:=Z9 hq1
 have H2:=Z9 hws
 by_cases hl:(ds.length:Int)=n
 ·refine Calls.bool_of (q:=(q1 && decide (0<ws.length))) ?_ (by unfold S7;rw [hq1,show ZX (fun d:Yl=>d.1) ds ds.length=ws from hws,decide_eq_true hl,Bool.true_and])
  subst hl
  have hl1:ds.length<=1000:=by omega
  clear hq1 hws
  go_enter Tryz.func127,Tryz.ntmps127
  go_wp2_with fail
  refine (K0 (uh Hv)).mono ?_
  rw [uh H1]
  rintro e w1 ⟨rfl,hb⟩
  replace Hv:=Z9 ((uh Hv).below hb)
  have Hb:=Z9 hb
  clear hb
  cases q1
  ·go_wp2_with fail
   go_ret
   exact ⟨rfl,uh Hb⟩
  go_wp2_with fail
  refine (OY (uh Hv) hl1).mono ?_
  rw [uh H2]
  rintro e w2 ⟨v2,rfl,hn2,hb⟩
  obtain ⟨la,lc,rfl⟩:=RecAt.shape hn2
  replace Hb:=Z9 ((uh Hb).trans (hb.mono (uh Hb).size))
  clear hb hn2
  go_wp2_with fail
  go_ret
  exact ⟨Z6 (by simp),uh Hb⟩
 ·refine Calls.bool_of (q:=false) ?_ (by unfold S7;rw [decide_eq_false hl];rfl)
  have hl1:((ds.length:Int) ==n)=false:=by simpa using hl
  clear hq1 hws
  go_enter Tryz.func127,Tryz.ntmps127
  go_wp2_with fail
  go_ret
  exact ⟨rfl,Below.refl _ _⟩
theorem Kg {ps:List Int} {rs:List Z0} {k:Nat} (hk:k<ps.length) (h:Xz (ZS rs k).2.length (Z8 ps k)=false):Wj ps rs=false:=by
 unfold Wj
 rw [Sx (p:=fun j=>Xz (ZS rs j).2.length (Z8 ps j)) hk h,Bool.and_false]
theorem PJ  {ps:List Int} {rs:List Z0} (h:Js w v ps) (h0:IsRooms w v0 rs):Calls Tryz.prog 129 #[v,v0] w fun e w'=>e= .returned (.bool (Wj ps rs))/\Below w.heap.size w w':=by
 obtain ⟨a,cap,rfl,hc,hm,hr⟩:=h
 obtain ⟨a0,cap0,rfl,hc0,hm0,hr0⟩:=h0
 have Hr:=Z9 hr
 have Hr0:=Z9 hr0
 clear hr hr0
 by_cases hl:ps.length=rs.length
 ·have hl1:(ps.length:Int)=(rs.length:Int):=by omega
  have hbn:((ps.length:Int) !=(rs.length:Int))=false:=by simp [hl]
  have Hall:Hid ((List.range ps.length).all (fun j=>Xz (ZS rs j).2.length (Z8 ps j))=true->Wj ps rs=true):=Z9 (fun e=>by unfold Wj;rw [e,decide_eq_true hl];rfl)
  have Hl:=Z9 hl
  clear hl hl1
  go_enter Tryz.func129,Tryz.ntmps129
  go_wp2_with fail
  go_loopw [14] (fun i wr=> ∃ k:Nat,k<=ps.length/\i= .int .i64 k/\(List.range k).all (fun j=>Xz (ZS rs j).2.length (Z8 ps j))=true/\Below w.heap.size w wr) (fun i _=>ps.length-(intOf i).toNat)
  case atStart=>exact ⟨0,Nat.zero_le _,rfl,rfl,Below.refl _ _⟩
  case round=>
   obtain ⟨k,hk,rfl,hst,hb0⟩:=hrel
   have Hst:=Z9 hst
   have BB:=Z9 hb0
   by_cases hlt:k<ps.length
   ·have hlt1:(k:Int)<(ps.length:Int):=by omega
    have hlt2:(k:Int)<(rs.length:Int):=by have:=uh Hl;omega
    rcases uh Hr with e0 | ⟨b,off,rfl,hbw,hcl⟩
    ·rw [e0] at hlt;simp at hlt
    rcases uh Hr0 with e0 | ⟨b0,off0,rfl,hbw0,hcl0⟩
    ·rw [e0] at hlt2;simp at hlt2;omega
    have d0:=hcl k hlt 0 _ rfl
    simp only [Nat.mul_one,Nat.add_zero] at d0
    rw [<-hb0.cell (p:=⟨b,off+k,none⟩) hbw] at d0
    obtain ⟨_,pv,g1,hpv⟩:=hcl0 k (by have:=uh Hl;omega)
    obtain ⟨pa,pc,rfl,_,_,_⟩:=hpv
    rw [<-hb0.cell (p:=⟨b0,off0+k*2+1,none⟩) hbw0] at g1
    have HU:=Z9 (fun (hh:Xz (ZS rs k).2.length (Z8 ps k)=true)=>(show (List.range (k+1)).all (fun j=>Xz (ZS rs j).2.length (Z8 ps j))=true from by rw [UZ,hst,hh];rfl))
    have HN:=Z9 (fun hh=>Kg (rs:=rs) hlt hh)
    clear hcl hcl0 hst hb0
    generalize Z8 ps k=x at *
    generalize (ZS rs k).2.length=n at *
    obtain ⟨q,hq⟩:∃ q,Xz n x=q:=⟨_,rfl⟩
    have Hq:=Z9 hq
    clear hq
    go_wp2_with fail
    refine (LF pa n pc x _).mono ?_
    rw [uh Hq]
    rintro e w1 ⟨rfl,h9⟩
    subst w1
    cases q
    ·go_wp2_with fail
     go_ret
     exact ⟨Z6 (uh HN (uh Hq)).symm,uh BB⟩
    ·go_wp2_with fail
     go_roundw
     case rel=>exact ⟨k+1,by omega,by go_num,uh HU (uh Hq),uh BB⟩
     case measure=>simp [intOf];omega
   ·obtain rfl:k=ps.length:=by omega
    go_wp2_with fail
    go_ret
    exact ⟨Z6 (uh Hall (uh Hst)).symm,uh BB⟩
 ·refine Calls.bool_of (q:=false) ?_ (by unfold Wj;rw [decide_eq_false hl];rfl)
  have hbn:((ps.length:Int) !=(rs.length:Int))=true:=by simp;omega
  go_enter Tryz.func129,Tryz.ntmps129
  go_wp2_with fail
  go_ret
  exact ⟨rfl,Below.refl _ _⟩
theorem Calls.same_below' {P:Program} {f:FuncId} {args:Array Value}  (h:Calls P f args w fun e w'=>e= .returned v/\w'=w):Calls P f args w fun e w'=>e= .returned v/\Below w.heap.size w w':=h.mono fun e w' ⟨he,hw⟩=>⟨he,by subst hw;exact Below.refl _ _⟩
theorem Mp  (h:Smy w v0 v1 v2 v3 v4 m):Calls Tryz.prog 80 #[.agg #[v0,v1,v2,v3,v4,.int .i64 m.now]] w fun e w'=>e= .returned (.bool (Sh m))/\Below w.heap.size w w':=by
 have Hv:=Z9 (h.alloc (.cells #[v0,v1,v2,v3,v4,.int .i64 m.now] 32))
 obtain ⟨a0,p0,a1,p1,a2,p2,a3,p3,a4,p4,rfl,rfl,rfl,rfl,rfl,_,_,_,_,_,_,_,_,_,_⟩:=h.five
 clear h
 obtain ⟨q1,hq1⟩:∃ q,Zb m.rooms=q:=⟨_,rfl⟩
 obtain ⟨q2,hq2⟩:∃ q,Zw m.guilds=q:=⟨_,rfl⟩
 obtain ⟨q3,hq3⟩:∃ q,UT m.smiths m.guilds.length=q:=⟨_,rfl⟩
 obtain ⟨q4,hq4⟩:∃ q,S7 m.desks (V3 m.rooms)=q:=⟨_,rfl⟩
 obtain ⟨q5,hq5⟩:∃ q,Wj m.paces m.rooms=q:=⟨_,rfl⟩
 obtain ⟨q6,hq6⟩:∃ q,inB m.now 0 1000000=q:=⟨_,rfl⟩
 refine Calls.bool_of (q:=(q1 && (q2 && (q3 && (q4 && (q5 && q6)))))) ?_ (by
  unfold Sh
  rw [hq2,hq3,hq5,hq6]
  cases q1
  ·rw [hq1];rfl
  ·rw [<-SA hq1,hq4,hq1])
 have kb:Hid (Blk (w.alloc (.cells #[.slice a0 m.rooms.length p0,.slice a1 m.guilds.length p1,.slice a2 m.smiths.length p2,.slice a3 m.desks.length p3,.slice a4 m.paces.length p4,.int .i64 m.now] 32)) w.heap.size 32 #[.slice a0 m.rooms.length p0,.slice a1 m.guilds.length p1,.slice a2 m.smiths.length p2,.slice a3 m.desks.length p3,.slice a4 m.paces.length p4,.int .i64 m.now]):=Z9 (Blk.new w _ _)
 have BB:Hid (Below w.heap.size w (w.alloc (.cells #[.slice a0 m.rooms.length p0,.slice a1 m.guilds.length p1,.slice a2 m.smiths.length p2,.slice a3 m.desks.length p3,.slice a4 m.paces.length p4,.int .i64 m.now] 32))):=Z9 ((Below.refl _ _).alloc (Nat.le_refl _) _)
 have hbv:V3 m.rooms<=1000:=by
  cases hb:Zb m.rooms
  ·rw [O6 hb];omega
  ·rw [SA hb];have:=(Zf hb).2.2.2;omega
 go_enter Tryz.func80,Tryz.ntmps80
 go_wp2_with fail
 generalize w.alloc (.cells #[.slice a0 m.rooms.length p0,.slice a1 m.guilds.length p1,.slice a2 m.smiths.length p2,.slice a3 m.desks.length p3,.slice a4 m.paces.length p4,.int .i64 m.now] 32)=W at *
 have H1:=Z9 (fun (X:World) (hX:Below W.heap.size W X)=>Calls.bool_of (Vo ((uh Hv).below hX).rooms) hq1)
 have H2:=Z9 (fun (X:World) (hX:Below W.heap.size W X)=>Calls.bool_of (Xp ((uh Hv).below hX).guilds) hq2)
 have H3:=Z9 (fun (X:World) (hX:Below W.heap.size W X)=>Calls.bool_of (NJ ((uh Hv).below hX).smiths ((uh Hv).below hX).guilds) hq3)
 have H4a:=Z9 (fun (X:World) (hX:Below W.heap.size W X)=>R7 ((uh Hv).below hX).rooms)
 have H4:=Z9 (fun (X:World) (hX:Below W.heap.size W X)=>Calls.bool_of (Lm ((uh Hv).below hX).desks hbv) hq4)
 have H5:=Z9 (fun (X:World) (hX:Below W.heap.size W X)=>Calls.bool_of (PJ ((uh Hv).below hX).paces ((uh Hv).below hX).rooms) hq5)
 have H6:=Z9 (fun (X:World) (hX:Below W.heap.size W X)=>Calls.bool_of (Calls.same_below' (ZY 0 m.now 1000000 X)) hq6)
 clear hq1 hq2 hq3 hq4 hq5 hq6
 generalize V3 m.rooms=nb at *
 obtain ⟨c0,c1,c2,c3,c4,c5⟩:=(uh kb).c6
 have y0:=cell_regrown c0
 have y1:=cell_regrown c1
 have y2:=cell_regrown c2
 have y3:=cell_regrown c3
 have y4:=cell_regrown c4
 have y5:=cell_regrown c5
 cases q1
 ·go_wp2_with fail
  refine wp_region_quiet_below (by kernel_rfl) (by kernel_rfl) ?_
  repeat (go_big_quiet_step (first | exact Calls.regrown_of (uh H1 _ (below_regrown _ _ _)) | exact Calls.regrown_of (uh H2 _ (below_regrown _ _ _)) | exact Calls.regrown_of (uh H3 _ (below_regrown _ _ _)) | exact Calls.regrown_of (uh H4a _ (below_regrown _ _ _)) | exact Calls.regrown_of (uh H4 _ (below_regrown _ _ _)) | exact Calls.regrown_of (uh H5 _ (below_regrown _ _ _)) | exact Calls.regrown_of (uh H6 _ (below_regrown _ _ _))))
  refine wpQuiet_nil ?_
  intro _ hw'
  obtain ⟨⟨dq,osq⟩,hw''⟩:=hw'
  subst hw''
  go_wp2_with fail
  go_ret
  exact ⟨rfl,(uh BB).trans ((below_regrown _ _ _).mono (uh BB).size)⟩
 cases q2
 ·go_wp2_with fail
  refine wp_region_quiet_below (by kernel_rfl) (by kernel_rfl) ?_
  repeat (go_big_quiet_step (first | exact Calls.regrown_of (uh H1 _ (below_regrown _ _ _)) | exact Calls.regrown_of (uh H2 _ (below_regrown _ _ _)) | exact Calls.regrown_of (uh H3 _ (below_regrown _ _ _)) | exact Calls.regrown_of (uh H4a _ (below_regrown _ _ _)) | exact Calls.regrown_of (uh H4 _ (below_regrown _ _ _)) | exact Calls.regrown_of (uh H5 _ (below_regrown _ _ _)) | exact Calls.regrown_of (uh H6 _ (below_regrown _ _ _))))
  refine wpQuiet_nil ?_
  intro _ hw'
  obtain ⟨⟨dq,osq⟩,hw''⟩:=hw'
  subst hw''
  go_wp2_with fail
  go_ret
  exact ⟨rfl,(uh BB).trans ((below_regrown _ _ _).mono (uh BB).size)⟩
 cases q3
 ·go_wp2_with fail
  refine wp_region_quiet_below (by kernel_rfl) (by kernel_rfl) ?_
  repeat (go_big_quiet_step (first | exact Calls.regrown_of (uh H1 _ (below_regrown _ _ _)) | exact Calls.regrown_of (uh H2 _ (below_regrown _ _ _)) | exact Calls.regrown_of (uh H3 _ (below_regrown _ _ _)) | exact Calls.regrown_of (uh H4a _ (below_regrown _ _ _)) | exact Calls.regrown_of (uh H4 _ (below_regrown _ _ _)) | exact Calls.regrown_of (uh H5 _ (below_regrown _ _ _)) | exact Calls.regrown_of (uh H6 _ (below_regrown _ _ _))))
  refine wpQuiet_nil ?_
  intro _ hw'
  obtain ⟨⟨dq,osq⟩,hw''⟩:=hw'
  subst hw''
  go_wp2_with fail
  go_ret
  exact ⟨rfl,(uh BB).trans ((below_regrown _ _ _).mono (uh BB).size)⟩
 cases q4
 ·go_wp2_with fail
  refine wp_region_quiet_below (by kernel_rfl) (by kernel_rfl) ?_
  repeat (go_big_quiet_step (first | exact Calls.regrown_of (uh H1 _ (below_regrown _ _ _)) | exact Calls.regrown_of (uh H2 _ (below_regrown _ _ _)) | exact Calls.regrown_of (uh H3 _ (below_regrown _ _ _)) | exact Calls.regrown_of (uh H4a _ (below_regrown _ _ _)) | exact Calls.regrown_of (uh H4 _ (below_regrown _ _ _)) | exact Calls.regrown_of (uh H5 _ (below_regrown _ _ _)) | exact Calls.regrown_of (uh H6 _ (below_regrown _ _ _))))
  refine wpQuiet_nil ?_
  intro _ hw'
  obtain ⟨⟨dq,osq⟩,hw''⟩:=hw'
  subst hw''
  go_wp2_with fail
  go_ret
  exact ⟨rfl,(uh BB).trans ((below_regrown _ _ _).mono (uh BB).size)⟩
 cases q5
 ·go_wp2_with fail
  refine wp_region_quiet_below (by kernel_rfl) (by kernel_rfl) ?_
  repeat (go_big_quiet_step (first | exact Calls.regrown_of (uh H1 _ (below_regrown _ _ _)) | exact Calls.regrown_of (uh H2 _ (below_regrown _ _ _)) | exact Calls.regrown_of (uh H3 _ (below_regrown _ _ _)) | exact Calls.regrown_of (uh H4a _ (below_regrown _ _ _)) | exact Calls.regrown_of (uh H4 _ (below_regrown _ _ _)) | exact Calls.regrown_of (uh H5 _ (below_regrown _ _ _)) | exact Calls.regrown_of (uh H6 _ (below_regrown _ _ _))))
  refine wpQuiet_nil ?_
  intro _ hw'
  obtain ⟨⟨dq,osq⟩,hw''⟩:=hw'
  subst hw''
  go_wp2_with fail
  go_ret
  exact ⟨rfl,(uh BB).trans ((below_regrown _ _ _).mono (uh BB).size)⟩
 go_wp2_with fail
 refine wp_region_quiet_below (by kernel_rfl) (by kernel_rfl) ?_
 repeat (go_big_quiet_step (first | exact Calls.regrown_of (uh H1 _ (below_regrown _ _ _)) | exact Calls.regrown_of (uh H2 _ (below_regrown _ _ _)) | exact Calls.regrown_of (uh H3 _ (below_regrown _ _ _)) | exact Calls.regrown_of (uh H4a _ (below_regrown _ _ _)) | exact Calls.regrown_of (uh H4 _ (below_regrown _ _ _)) | exact Calls.regrown_of (uh H5 _ (below_regrown _ _ _)) | exact Calls.regrown_of (uh H6 _ (below_regrown _ _ _))))
 refine wpQuiet_nil ?_
 intro _ hw'
 obtain ⟨⟨dq,osq⟩,hw''⟩:=hw'
 subst hw''
 go_wp2_with fail
 go_ret
 exact ⟨Z6 (by simp),(uh BB).trans ((below_regrown _ _ _).mono (uh BB).size)⟩
theorem O2  (h:Smy w v0 v1 v2 v3 v4 m):Calls Tryz.prog 38 #[.agg #[v0,v1,v2,v3,v4,.int .i64 m.now]] w fun e w'=>e= .returned (.bool (Wr m))/\Below w.heap.size w w':=by
 have Hv:=Z9 (h.alloc (.cells #[v0,v1,v2,v3,v4,.int .i64 m.now] 32))
 obtain ⟨a0,p0,a1,p1,a2,p2,a3,p3,a4,p4,rfl,rfl,rfl,rfl,rfl,_,_,_,_,_,_,_,_,_,_⟩:=h.five
 clear h
 obtain ⟨q1,hq1⟩:∃ q,Sh m=q:=⟨_,rfl⟩
 obtain ⟨q2,hq2⟩:∃ q,YA (XA m.desks) m.smiths m.smiths.length=q:=⟨_,rfl⟩
 refine Calls.bool_of (q:=(q1 && q2)) ?_ (by unfold Wr;rw [hq1,hq2])
 have H1:=Z9 hq1
 have H2:=Z9 hq2
 clear hq1 hq2
 have kb:Hid (Blk (w.alloc (.cells #[.slice a0 m.rooms.length p0,.slice a1 m.guilds.length p1,.slice a2 m.smiths.length p2,.slice a3 m.desks.length p3,.slice a4 m.paces.length p4,.int .i64 m.now] 32)) w.heap.size 32 #[.slice a0 m.rooms.length p0,.slice a1 m.guilds.length p1,.slice a2 m.smiths.length p2,.slice a3 m.desks.length p3,.slice a4 m.paces.length p4,.int .i64 m.now]):=Z9 (Blk.new w _ _)
 have BB:Hid (Below w.heap.size w (w.alloc (.cells #[.slice a0 m.rooms.length p0,.slice a1 m.guilds.length p1,.slice a2 m.smiths.length p2,.slice a3 m.desks.length p3,.slice a4 m.paces.length p4,.int .i64 m.now] 32))):=Z9 ((Below.refl _ _).alloc (Nat.le_refl _) _)
 go_enter Tryz.func38,Tryz.ntmps38
 go_wp2_with fail
 generalize w.alloc (.cells #[.slice a0 m.rooms.length p0,.slice a1 m.guilds.length p1,.slice a2 m.smiths.length p2,.slice a3 m.desks.length p3,.slice a4 m.paces.length p4,.int .i64 m.now] 32)=W at *
 refine (Mp (uh Hv)).mono ?_
 rw [uh H1]
 rintro e w1 ⟨rfl,hb⟩
 replace Hv:=Z9 ((uh Hv).below hb)
 replace kb:=bl kb hb
 replace BB:=bt BB hb
 clear hb
 cases q1
 ·go_wp2_with fail
  go_ret
  exact ⟨rfl,uh BB⟩
 obtain ⟨c0,c1,c2,c3,c4,c5⟩:=(uh kb).c6
 go_wp2_with fail
 refine (VL _ _ _ _ _ _ _ _ _ _ _ _ _ _ _ _ _).mono ?_
 rintro e w2 ⟨rfl,hb⟩
 replace Hv:=Z9 ((uh Hv).below hb)
 replace kb:=bl kb hb
 replace BB:=bt BB hb
 clear hb c0 c1 c2 c3 c4 c5
 go_wp2_with fail
 refine (M7 (uh Hv).smiths ((uh kb).cell (i:=3) rfl) (uh kb).lt (uh Hv).desks).mono ?_
 rw [uh H2]
 rintro e w3 ⟨rfl,hb⟩
 replace BB:=bt BB hb
 clear hb
 go_wp2_with fail
 go_ret
 exact ⟨Z6 (by simp),uh BB⟩
theorem TW  (b:Int) (h:Smy w v0 v1 v2 v3 v4 m) (hl:m.smiths.length<=1000):Calls Tryz.prog 70 #[.agg #[v0,v1,v2,v3,v4,.int .i64 m.now],.int .i64 b] w fun e w'=> ∃ v',e= .returned v'/\NumsAt w.heap.size w' v' (ZX (atB b) m.smiths m.smiths.length)/\Below w.heap.size w w':=by
 have Hv:=Z9 ((h.alloc (.cells #[v0,v1,v2,v3,v4,.int .i64 m.now] 32)).alloc (.cells #[.int .i64 b] 2))
 obtain ⟨a0,p0,a1,p1,a2,p2,a3,p3,a4,p4,rfl,rfl,rfl,rfl,rfl,_,_,_,_,_,_,_,_,_,_⟩:=h.five
 clear h
 have BB:Hid (Below w.heap.size w ((w.alloc (.cells #[.slice a0 m.rooms.length p0,.slice a1 m.guilds.length p1,.slice a2 m.smiths.length p2,.slice a3 m.desks.length p3,.slice a4 m.paces.length p4,.int .i64 m.now] 32)).alloc (.cells #[.int .i64 b] 2))):=Z9 (((Below.refl _ _).alloc (Nat.le_refl _) _).alloc (by simp) _)
 have kc:Hid (Blk ((w.alloc (.cells #[.slice a0 m.rooms.length p0,.slice a1 m.guilds.length p1,.slice a2 m.smiths.length p2,.slice a3 m.desks.length p3,.slice a4 m.paces.length p4,.int .i64 m.now] 32)).alloc (.cells #[.int .i64 b] 2)) (w.heap.size+1) 2 #[.int .i64 b]):=Z9 (by
  have k:=Blk.new (w.alloc (.cells #[.slice a0 m.rooms.length p0,.slice a1 m.guilds.length p1,.slice a2 m.smiths.length p2,.slice a3 m.desks.length p3,.slice a4 m.paces.length p4,.int .i64 m.now] 32)) 2 #[.int .i64 b]
  rw [World.size_alloc] at k
  exact k)
 go_enter Tryz.func70,Tryz.ntmps70
 go_wp2_with fail
 generalize (w.alloc (.cells #[.slice a0 m.rooms.length p0,.slice a1 m.guilds.length p1,.slice a2 m.smiths.length p2,.slice a3 m.desks.length p3,.slice a4 m.paces.length p4,.int .i64 m.now] 32)).alloc (.cells #[.int .i64 b] 2)=W at *
 refine (VL _ _ _ _ _ _ _ _ _ _ _ _ _ _ _ _ _).mono ?_
 rintro e w2 ⟨rfl,hb⟩
 replace Hv:=Z9 ((uh Hv).below hb)
 replace kc:=bl kc hb
 replace BB:=bt BB hb
 clear hb
 go_wp2_with fail
 refine (MV (uh Hv).smiths hl ((uh kc).cell (i:=0) rfl) (uh kc).lt).mono ?_
 rintro e w3 ⟨v',rfl,hn,hb⟩
 have HN:=Z9 (RecAt.mono hn (uh BB).size)
 replace BB:=bt BB hb
 obtain ⟨la,lc,rfl⟩:=RecAt.shape hn
 clear hb hn
 go_wp2_with fail
 go_ret
 exact ⟨_,rfl,uh HN,uh BB⟩
theorem Qk  (b:Int) (h:Smy w v0 v1 v2 v3 v4 m) (hl:m.smiths.length<=1000):Calls Tryz.prog 135 #[.agg #[v0,v1,v2,v3,v4,.int .i64 m.now],.int .i64 b] w fun e w'=> ∃ v',e= .returned v'/\NumsAt w.heap.size w' v' (ZX (Zn b) m.smiths m.smiths.length)/\Below w.heap.size w w':=by
 have Hv:=Z9 ((h.alloc (.cells #[v0,v1,v2,v3,v4,.int .i64 m.now] 32)).alloc (.cells #[.int .i64 b] 2))
 obtain ⟨a0,p0,a1,p1,a2,p2,a3,p3,a4,p4,rfl,rfl,rfl,rfl,rfl,_,_,_,_,_,_,_,_,_,_⟩:=h.five
 clear h
 have BB:Hid (Below w.heap.size w ((w.alloc (.cells #[.slice a0 m.rooms.length p0,.slice a1 m.guilds.length p1,.slice a2 m.smiths.length p2,.slice a3 m.desks.length p3,.slice a4 m.paces.length p4,.int .i64 m.now] 32)).alloc (.cells #[.int .i64 b] 2))):=Z9 (((Below.refl _ _).alloc (Nat.le_refl _) _).alloc (by simp) _)
 have kc:Hid (Blk ((w.alloc (.cells #[.slice a0 m.rooms.length p0,.slice a1 m.guilds.length p1,.slice a2 m.smiths.length p2,.slice a3 m.desks.length p3,.slice a4 m.paces.length p4,.int .i64 m.now] 32)).alloc (.cells #[.int .i64 b] 2)) (w.heap.size+1) 2 #[.int .i64 b]):=Z9 (by
  have k:=Blk.new (w.alloc (.cells #[.slice a0 m.rooms.length p0,.slice a1 m.guilds.length p1,.slice a2 m.smiths.length p2,.slice a3 m.desks.length p3,.slice a4 m.paces.length p4,.int .i64 m.now] 32)) 2 #[.int .i64 b]
  rw [World.size_alloc] at k
  exact k)
 go_enter Tryz.func135,Tryz.ntmps135
 go_wp2_with fail
 generalize (w.alloc (.cells #[.slice a0 m.rooms.length p0,.slice a1 m.guilds.length p1,.slice a2 m.smiths.length p2,.slice a3 m.desks.length p3,.slice a4 m.paces.length p4,.int .i64 m.now] 32)).alloc (.cells #[.int .i64 b] 2)=W at *
 refine (VL _ _ _ _ _ _ _ _ _ _ _ _ _ _ _ _ _).mono ?_
 rintro e w2 ⟨rfl,hb⟩
 replace Hv:=Z9 ((uh Hv).below hb)
 replace kc:=bl kc hb
 replace BB:=bt BB hb
 clear hb
 go_wp2_with fail
 refine (Qj (uh Hv).smiths hl ((uh kc).cell (i:=0) rfl) (uh kc).lt).mono ?_
 rintro e w3 ⟨v',rfl,hn,hb⟩
 have HN:=Z9 (RecAt.mono hn (uh BB).size)
 replace BB:=bt BB hb
 obtain ⟨la,lc,rfl⟩:=RecAt.shape hn
 clear hb hn
 go_wp2_with fail
 go_ret
 exact ⟨_,rfl,uh HN,uh BB⟩
theorem KH  {b:Nat} (h:Smy w v0 v1 v2 v3 v4 m) (hl:m.smiths.length<=1000) (hb0:b<m.desks.length):Calls Tryz.prog 84 #[.agg #[v0,v1,v2,v3,v4,.int .i64 m.now],.int .i64 (b:Int)] w fun e w'=>e= .returned (.bool (V0 m b))/\Below w.heap.size w w':=by
 have Hv:=Z9 (h.alloc (.cells #[v0,v1,v2,v3,v4,.int .i64 m.now] 32))
 obtain ⟨a0,p0,rfl,_,_⟩:=IsRooms.shape h.rooms
 obtain ⟨a1,p1,rfl,_,_⟩:=IsRec.shape h.guilds
 obtain ⟨a2,p2,rfl,_,_⟩:=IsRec.shape h.smiths
 obtain ⟨a3,p3,rfl,hc3,hm3,r3⟩:=h.desks
 obtain ⟨a4,p4,rfl,_,_⟩:=IsRec.shape h.paces
 clear h
 rcases r3 with e0 | ⟨db,off,rfl,hbw,hcl⟩
 ·rw [e0] at hb0;simp at hb0
 obtain ⟨_,d1,_⟩:=Zd hcl hb0
 have hb1:(b:Int)<(m.desks.length:Int):=by omega
 have hT:V0 m b=if (Z8 m.desks b).2.1= -1 then decide ((ZX (atB b) m.smiths m.smiths.length).length=0) else decide ((ZX (Zn b) m.smiths m.smiths.length).length=1) && decide (Z8 (ZX (Zn b) m.smiths m.smiths.length) 0=(Z8 m.desks b).2.1):=rfl
 have HT:=Z9 hT
 clear hT hcl
 generalize (Z8 m.desks b).2.1=who at *
 have hne:db ≠ w.heap.size:=Nat.ne_of_lt hbw
 obtain ⟨BB,kb⟩:=Xj w 32 #[.slice a0 m.rooms.length p0,.slice a1 m.guilds.length p1,.slice a2 m.smiths.length p2,.slice (some ⟨db,off,none⟩) m.desks.length p3,.slice a4 m.paces.length p4,.int .i64 m.now]
 rw [<-(uh BB).cell (p:=⟨db,off+b*3+1,none⟩) hbw] at d1
 by_cases hw:who= -1
 ·subst hw
  obtain ⟨ws,hws⟩:∃ ws,ZX (atB b) m.smiths m.smiths.length=ws:=⟨_,rfl⟩
  refine Calls.bool_of (q:=decide (ws.length=0)) ?_ (by rw [uh HT,if_pos rfl,hws])
  have Hws:=Z9 hws
  clear hws HT
  go_enter Tryz.func84,Tryz.ntmps84
  go_upto_region 3 with fail
  generalize w.alloc (.cells #[.slice a0 m.rooms.length p0,.slice a1 m.guilds.length p1,.slice a2 m.smiths.length p2,.slice (some ⟨db,off,none⟩) m.desks.length p3,.slice a4 m.paces.length p4,.int .i64 m.now] 32)=W at *
  obtain ⟨c0,c1,c2,c3,c4,c5⟩:=(uh kb).c6
  go_wp2_with fail
  refine (TW (b:Int) (uh Hv) hl).mono ?_
  rw [uh Hws]
  rintro e w2 ⟨v',rfl,hn,hb⟩
  obtain ⟨la,lc,rfl⟩:=RecAt.shape hn
  replace BB:=bt BB hb
  clear hb hn c0 c1 c2 c3 c4 c5
  go_wp2_with fail
  go_ret
  exact ⟨Z6 (by rw [Bool.eq_iff_iff];simp only [beq_iff_eq,decide_eq_true_eq];omega),uh BB⟩
 have nw:(who == -1)=false:=by simpa using hw
 obtain ⟨ws,hws⟩:∃ ws,ZX (Zn b) m.smiths m.smiths.length=ws:=⟨_,rfl⟩
 refine Calls.bool_of (q:=decide (ws.length=1) && decide (Z8 ws 0=who)) ?_ (by rw [uh HT,if_neg hw,hws])
 have Hws:=Z9 hws
 clear hws HT
 go_enter Tryz.func84,Tryz.ntmps84
 go_upto_region 3 with fail
 generalize w.alloc (.cells #[.slice a0 m.rooms.length p0,.slice a1 m.guilds.length p1,.slice a2 m.smiths.length p2,.slice (some ⟨db,off,none⟩) m.desks.length p3,.slice a4 m.paces.length p4,.int .i64 m.now] 32)=W at *
 obtain ⟨c0,c1,c2,c3,c4,c5⟩:=(uh kb).c6
 go_wp2_with fail
 refine (Qk (b:Int) (uh Hv) hl).mono ?_
 rw [uh Hws]
 rintro e w2 ⟨v',rfl,hn,hb⟩
 obtain ⟨la,lc,rfl⟩:=RecAt.shape hn
 replace BB:=bt BB hb
 have HN:=Z9 hn
 clear hb hn c0 c1 c2 c3 c4 c5
 by_cases h1:ws.length=1
 ·obtain ⟨g,hga,_,_,hcl,_⟩:=RecAt.view YT (by omega) (uh HN) rfl (by omega)
  cases hga
  have z0:=hcl 0 (by omega) 0 _ rfl
  simp only [Nat.zero_mul,Nat.add_zero] at z0
  have hl1:((ws.length:Int) ==1)=true:=by simp;omega
  clear hcl
  have h01:(0:Int)<(ws.length:Int):=by omega
  obtain ⟨z,hz⟩:∃ z,Z8 ws 0=z:=⟨_,rfl⟩
  rw [hz] at z0
  have Hz:=Z9 hz
  clear hz
  go_wp2_with fail
  go_ret
  exact ⟨Z6 (by rw [uh Hz,decide_eq_true h1,Bool.eq_iff_iff];simp only [Bool.true_and,beq_iff_eq,decide_eq_true_eq]),uh BB⟩
 ·have hl1:((ws.length:Int) ==1)=false:=by simp;omega
  go_wp2_with fail
  go_ret
  exact ⟨Z6 (by rw [decide_eq_false h1];rfl),uh BB⟩
theorem MN  (h:Smy w v0 v1 v2 v3 v4 m) (hl:m.smiths.length<=1000):Calls Tryz.prog 39 #[.agg #[v0,v1,v2,v3,v4,.int .i64 m.now]] w fun e w'=>e= .returned (.bool (Ss m))/\Below w.heap.size w w':=by
 have Hv:=Z9 (h.alloc (.cells #[v0,v1,v2,v3,v4,.int .i64 m.now] 32))
 obtain ⟨a0,p0,a1,p1,a2,p2,a3,p3,a4,p4,rfl,rfl,rfl,rfl,rfl,_,_,_,_,_,_,_,_,_,_⟩:=h.five
 clear h
 obtain ⟨BB0,kb0⟩:=Xj w 32 (S6 a0 p0 a1 p1 a2 p2 a3 p3 a4 p4 m)
 go_enter Tryz.func39,Tryz.ntmps39
 go_wp2_with fail
 go_loopw [7] (fun i wr=> ∃ k:Nat,k<=m.desks.length/\i= .int .i64 k/\(List.range k).all (V0 m)=true/\Smy wr (.slice a0 m.rooms.length p0) (.slice a1 m.guilds.length p1) (.slice a2 m.smiths.length p2) (.slice a3 m.desks.length p3) (.slice a4 m.paces.length p4) m/\Blk wr w.heap.size 32 #[.slice a0 m.rooms.length p0,.slice a1 m.guilds.length p1,.slice a2 m.smiths.length p2,.slice a3 m.desks.length p3,.slice a4 m.paces.length p4,.int .i64 m.now]/\Below w.heap.size w wr) (fun i _=>m.desks.length-(intOf i).toNat)
 case atStart=>exact ⟨0,Nat.zero_le _,rfl,rfl,uh Hv,uh kb0,uh BB0⟩
 case round=>
  obtain ⟨k,hk,rfl,hst,hv,hkb,hb0⟩:=hrel
  have Hst:=Z9 hst
  have Hv1:=Z9 hv
  have kb:=Z9 hkb
  have BB:=Z9 hb0
  clear hv hkb hb0 kb0 BB0 Hv
  by_cases hlt:k<m.desks.length
  ·have hlt1:(k:Int)<(m.desks.length:Int):=by omega
   have HU:=Z9 (fun (hh:V0 m k=true)=>(show (List.range (k+1)).all (V0 m)=true from by rw [UZ,hst,hh];rfl))
   have HN:=Z9 (fun hh=>(show Ss m=false from Sx (p:=V0 m) hlt hh))
   clear hst
   obtain ⟨q,hq⟩:∃ q,V0 m k=q:=⟨_,rfl⟩
   have Hq:=Z9 hq
   clear hq
   obtain ⟨c0,c1,c2,c3,c4,c5⟩:=(uh kb).c6
   go_wp2_with fail
   refine (KH (uh Hv1) hl hlt).mono ?_
   rw [uh Hq]
   rintro e w1 ⟨rfl,hb⟩
   replace Hv1:=Z9 ((uh Hv1).below hb)
   replace kb:=bl kb hb
   replace BB:=bt BB hb
   clear hb c0 c1 c2 c3 c4 c5
   cases q
   ·go_wp2_with fail
    go_ret
    exact ⟨Z6 (uh HN (uh Hq)).symm,uh BB⟩
   ·go_wp2_with fail
    go_roundw
    case rel=>exact ⟨k+1,by omega,by go_num,uh HU (uh Hq),uh Hv1,uh kb,uh BB⟩
    case measure=>simp [intOf];omega
  ·obtain rfl:k=m.desks.length:=by omega
   go_wp2_with fail
   go_ret
   exact ⟨Z6 (uh Hst).symm,uh BB⟩
theorem Im (h:Wr m=true):m.smiths.length<=12:=by
 rw [PE] at h
 unfold YO YY at h
 simp only [Bool.and_eq_true,decide_eq_true_eq] at h
 exact h.1.2.2.1
theorem Rv  (h:Smy w v0 v1 v2 v3 v4 m):Calls Tryz.prog 15 #[.agg #[v0,v1,v2,v3,v4,.int .i64 m.now]] w fun e w'=>e= .returned (.bool (ZO m))/\Below w.heap.size w w':=by
 have Hv:=Z9 (h.alloc (.cells #[v0,v1,v2,v3,v4,.int .i64 m.now] 32))
 obtain ⟨a0,p0,a1,p1,a2,p2,a3,p3,a4,p4,rfl,rfl,rfl,rfl,rfl,_,_,_,_,_,_,_,_,_,_⟩:=h.five
 clear h
 obtain ⟨q1,hq1⟩:∃ q,Wr m=q:=⟨_,rfl⟩
 obtain ⟨q2,hq2⟩:∃ q,Ss m=q:=⟨_,rfl⟩
 refine Calls.bool_of (q:=(q1 && q2)) ?_ (by rw [<-Gi];unfold Gh;rw [hq1,hq2])
 have H1:=Z9 hq1
 have H2:=Z9 hq2
 clear hq1 hq2
 have kb:Hid (Blk (w.alloc (.cells #[.slice a0 m.rooms.length p0,.slice a1 m.guilds.length p1,.slice a2 m.smiths.length p2,.slice a3 m.desks.length p3,.slice a4 m.paces.length p4,.int .i64 m.now] 32)) w.heap.size 32 #[.slice a0 m.rooms.length p0,.slice a1 m.guilds.length p1,.slice a2 m.smiths.length p2,.slice a3 m.desks.length p3,.slice a4 m.paces.length p4,.int .i64 m.now]):=Z9 (Blk.new w _ _)
 have BB:Hid (Below w.heap.size w (w.alloc (.cells #[.slice a0 m.rooms.length p0,.slice a1 m.guilds.length p1,.slice a2 m.smiths.length p2,.slice a3 m.desks.length p3,.slice a4 m.paces.length p4,.int .i64 m.now] 32))):=Z9 ((Below.refl _ _).alloc (Nat.le_refl _) _)
 go_enter Tryz.func15,Tryz.ntmps15
 go_wp2_with fail
 generalize w.alloc (.cells #[.slice a0 m.rooms.length p0,.slice a1 m.guilds.length p1,.slice a2 m.smiths.length p2,.slice a3 m.desks.length p3,.slice a4 m.paces.length p4,.int .i64 m.now] 32)=W at *
 refine (O2 (uh Hv)).mono ?_
 rw [uh H1]
 rintro e w1 ⟨rfl,hb⟩
 replace Hv:=Z9 ((uh Hv).below hb)
 replace kb:=bl kb hb
 replace BB:=bt BB hb
 clear hb
 cases q1
 ·go_wp2_with fail
  go_ret
  exact ⟨rfl,uh BB⟩
 obtain ⟨c0,c1,c2,c3,c4,c5⟩:=(uh kb).c6
 go_wp2_with fail
 refine (MN (uh Hv) (by have:=Im (uh H1);omega)).mono ?_
 rw [uh H2]
 rintro e w2 ⟨rfl,hb⟩
 replace BB:=bt BB hb
 clear hb c0 c1 c2 c3 c4 c5
 go_wp2_with fail
 go_ret
 exact ⟨Z6 (by simp),uh BB⟩
theorem WG (w:World) (v0 v1 v2 v3 v4:Value) (m:Z4) (q:Bool) (hq:ZO m=q) (h:Smy w v0 v1 v2 v3 v4 m):Calls Tryz.prog 15 #[.agg #[v0,v1,v2,v3,v4,.int .i64 m.now]] w fun e w'=>e= .returned (.bool q)/\Below w.heap.size w w':=Calls.bool_of (Rv h) hq
theorem Ta:(Tryz.prog.info? 45).map (fun i=>(i.zero,i.size,i.bytes))=some (some (.agg #[.int .i64 0,.int .i64 0]),2,16):=by kernel_rfl
theorem SJ (ps:List Z5):(YG ps).length=ps.length*2:=by unfold YG;exact Od ps
theorem SV (ps qs:List Z5):YG (ps++qs)=YG ps++YG qs:=by unfold YG;rw [List.flatMap_append]
theorem Ra:∀ (ps:List Z5) (n:Nat),YG (ps.take n)=(YG ps).take (n*2)
 | [],n=>by simp [YG]
 | p::ps,0=>by simp [YG]
 | p::ps,n+1=>by
  have ih:=Ra ps n
  unfold YG at ih ⊢
  rw [show (n+1)*2=n*2+2 by omega]
  simpa using ih
def EntsAt (n₀:Nat) (w:World) (v:Value) (ps:List Z5):Prop:=w.ownsRow n₀ 45 2 v ps.length (YG ps)
theorem EntsAt.lt {n₀:Nat}  {ps:List Z5} (h:EntsAt n₀ w v ps) {k:Nat} (hk:v.ownBlock=some k):n₀<=k/\k<w.heap.size:=World.ownsRow.lt h k hk
theorem EntsAt.mono {n₀ n₁:Nat}  {ps:List Z5} (h:EntsAt n₀ w v ps) (hn:n₁<=n₀):EntsAt n₁ w v ps:=UK h hn
theorem EntsAt.same {n₀:Nat}  {ps:List Z5} (h:EntsAt n₀ w v ps) (hs:∀ k,v.ownBlock=some k->w'.heap[k]?=w.heap[k]?):EntsAt n₀ w' v ps:=XX h hs
theorem EntsAt.later {n₀:Nat}  {ps:List Z5} (h:EntsAt n₀ w v ps) (hb:Below w.heap.size w w'):EntsAt n₀ w' v ps:=h.same fun k hk=>hb.block k (h.lt hk).2
theorem EntsAt.paces {n₀:Nat}  {ps:List Z5} (h:EntsAt n₀ w v ps):IsPaces w v ps:=by
 have h':=h
 rcases h.2 with ⟨rfl,hz⟩ | ⟨g,cap,cur,rfl,hb,hg,hnc,hcm,r⟩
 ·exact ⟨none,0,by rw [hz],by omega,by omega,.inl (List.eq_nil_of_length_eq_zero hz)⟩
 ·refine ⟨_,cap,rfl,hnc,by unfold maxLen at hcm;omega,.inr ⟨g,0,rfl,(Array.getElem?_eq_some_iff.1 hg).1,fun k hk=> ?_⟩⟩
  have hp:=UN (f:=fun p:Z5=>Value.int .i64 p.1) (g:=fun p:Z5=>Value.int .i64 p.2) ps k hk
  have hat:Z7 ps k=ps[k]:=by unfold Z7;simp [List.getD,hk]
  rw [Nat.zero_add,hat]
  exact ⟨(World.ownsRow.cellAt h' (k*2) (by omega)).trans hp.1,(World.ownsRow.cellAt h' (k*2+1) (by omega)).trans hp.2⟩
theorem EntsAt.shape {n₀:Nat}  {ps:List Z5} (h:EntsAt n₀ w v ps):∃ a cap,v= .slice a ps.length cap:=by
 rcases h.2 with ⟨rfl,hz⟩ | ⟨g,cap,cur,rfl,_⟩
 ·exact ⟨none,0,by rw [hz]⟩
 ·exact ⟨_,cap,rfl⟩
theorem EntsAt.cut {n₀:Nat} {a:Option Addr} {len cap:Nat} {ps:List Z5} (h:EntsAt n₀ w (.slice a len cap) ps) {n:Nat} (hn:n<=ps.length) (ha:a ≠ none):EntsAt n₀ w (.slice a n cap) (ps.take n):=by
 have hl:(ps.take n).length=n:=by simp;omega
 unfold EntsAt
 rw [hl,Ra]
 rcases h.2 with ⟨hv,hz⟩ | ⟨g,cap',cur,hv,hb,hg,hnc,hcm,hs,ht⟩
 ·cases hv;exact absurd rfl ha
 ·cases hv
  refine ⟨by rw [List.length_take,SJ];omega,.inr ⟨g,cap,cur,rfl,hb,hg,by omega,hcm,hs,?_⟩⟩
  rw [<-ht,List.take_take];congr 1;omega
theorem IsPaces.cut {a:Option Addr} {len cap:Nat} {ps:List Z5} (h:IsPaces w (.slice a len cap) ps) {n:Nat} (hn:n<=ps.length):IsPaces w (.slice a n cap) (ps.take n):=by
 obtain ⟨a',cap',he,hc,hm,hr⟩:=h
 cases he
 have hl:(ps.take n).length=n:=by simp;omega
 refine ⟨a,cap,by rw [hl],by omega,hm,?_⟩
 rcases hr with hr | ⟨b,off,rfl,hlt,hcl⟩
 ·exact .inl (by rw [hr];simp)
 ·refine .inr ⟨b,off,rfl,hlt,fun k hk=> ?_⟩
  rw [Wc (by omega)]
  exact hcl k (by omega)
end Go.Proofs.YthbbahagpmdooaaGreat
