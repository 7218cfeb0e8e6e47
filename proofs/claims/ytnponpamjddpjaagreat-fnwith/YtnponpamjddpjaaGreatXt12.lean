/- Part 12 of what the proof rests on. No condition but those that a theorem names. -/
import Derived.Test.YtnponpamjddpjaaGreatXt11
set_option maxHeartbeats 8000000
set_option maxRecDepth 100000
namespace Go.Proofs.YtnponpamjddpjaaGreat
open Go.ChangeShapes Go.WideShapes Go.ChangeAt Go.RowKit Go.Sort
set_option linter.unusedVariables false
set_option maxRecDepth 100000
variable {w w' w0 w1 w2 w3 w₀ wr W W' X A B C : World} {v v0 v1 v2 v3 v4 u u0 u1 u2 u3 u4 : Value} {m : Z3}
theorem Qt (st be rk my gu lo hi hd ca ut wk:Int) {R n3 p3:Nat} {a3:Option Addr} {ds:List Ys} (hc:w.cell? ⟨R,3,none⟩=some (.slice a3 n3 p3)) (hR:R<w.heap.size) (h:VN w (.slice a3 n3 p3) ds):Calls Tryz.prog 133 #[.agg #[.int .i64 st,.int .i64 be,.int .i64 rk,.int .i64 my,.int .i64 gu,.int .i64 lo,.int .i64 hi,.int .i64 hd,.int .i64 ca,.int .i64 ut,.int .i64 wk],.pointer (some ⟨R,0,none⟩)] w fun e w'=>e= .returned (.bool (Xv ds (st,be,rk,my,gu,lo,hi,hd,ca,ut,wk)))/\Below w.heap.size w w':=by
 have hne:R ≠ w.heap.size:=Nat.ne_of_lt hR
 have HD:=Z9 h
 clear h
 go_enter Tryz.func133,Tryz.ntmps133
 go_wp2_with fail
 refine (OE st be rk my gu lo hi hd ca ut wk ((uh HD).below ((Below.refl _ _).alloc (Nat.le_refl _) _))).mono ?_
 rintro e w1 ⟨rfl,hb⟩
 have Hb:=Z9 (((Below.refl w.heap.size w).alloc (Nat.le_refl _) _).trans (hb.mono (by simp)))
 clear hb
 go_wp2_with fail
 go_ret
 exact ⟨rfl,uh Hb⟩
theorem MZ  {ss:List Z4} {R n3 p3:Nat} {a3:Option Addr} {ds:List Ys} (h:WK w v ss) (hc0:w.cell? ⟨R,3,none⟩=some (.slice a3 n3 p3)) (hR:R<w.heap.size) (hds:VN w (.slice a3 n3 p3) ds):Calls Tryz.prog 132 #[v,.func (Fn.func 133) #[] #[.pointer (some ⟨R,0,none⟩)]] w fun e w'=>e= .returned (.bool (Yy (Xv ds) ss ss.length))/\Below w.heap.size w w':=by
 obtain ⟨a,cap,rfl,hc,hm,hr⟩:=h
 have Hr:=Z9 hr
 clear hr
 have HC:=Z9 hc0
 have HD:=Z9 hds
 clear hc0 hds
 go_enter Tryz.func132,Tryz.ntmps132
 go_wp2_with fail
 go_loopw [9] (fun i wr=> ∃ k:Nat,k<=ss.length/\i= .int .i64 k/\Yy (Xv ds) ss k=true/\Below w.heap.size w wr) (fun i _=>ss.length-(intOf i).toNat)
 case atStart=>exact ⟨0,Nat.zero_le _,rfl,rfl,Below.refl _ _⟩
 case round=>
  obtain ⟨k,hk,rfl,hst,hb0⟩:=hrel
  have Hst:=Z9 hst
  have BB:=Z9 hb0
  by_cases hlt:k<ss.length
  ·have hlt1:(k:Int)<(ss.length:Int):=by omega
   rcases uh Hr with e0 | ⟨b,off,rfl,hbw,hcl⟩
   ·rw [e0] at hlt;simp at hlt
   obtain ⟨d0,d1,d2,d3,d4,d5,d6,d7,d8,d9,d10⟩:=ZD hcl hlt
   rw [<-hb0.cell (p:=⟨b,off+k*11,none⟩) hbw] at d0
   rw [<-hb0.cell (p:=⟨b,off+k*11+1,none⟩) hbw] at d1
   rw [<-hb0.cell (p:=⟨b,off+k*11+2,none⟩) hbw] at d2
   rw [<-hb0.cell (p:=⟨b,off+k*11+3,none⟩) hbw] at d3
   rw [<-hb0.cell (p:=⟨b,off+k*11+4,none⟩) hbw] at d4
   rw [<-hb0.cell (p:=⟨b,off+k*11+5,none⟩) hbw] at d5
   rw [<-hb0.cell (p:=⟨b,off+k*11+6,none⟩) hbw] at d6
   rw [<-hb0.cell (p:=⟨b,off+k*11+7,none⟩) hbw] at d7
   rw [<-hb0.cell (p:=⟨b,off+k*11+8,none⟩) hbw] at d8
   rw [<-hb0.cell (p:=⟨b,off+k*11+9,none⟩) hbw] at d9
   rw [<-hb0.cell (p:=⟨b,off+k*11+10,none⟩) hbw] at d10
   have HU:=Z9 (fun hh=>R7 (p:=(Xv ds)) (xs:=ss) (k:=k) hst hh)
   have HN:=Z9 (fun hh=>R6 (p:=(Xv ds)) (xs:=ss) hlt hh)
   clear hcl hst hb0
   generalize Z8 ss k=s at *
   obtain ⟨st,be,rk,my,gu,lo,hi,hd,ca,ut,wk⟩:=s
   simp only at d0 d1 d2 d3 d4 d5 d6 d7 d8 d9 d10
   have hbr:b<wr.heap.size:=Nat.lt_of_lt_of_le hbw (uh BB).size
   go_wp2_with fail
   clear d0 d1 d2 d3 d4 d5 d6 d7 d8 d9 d10
   obtain ⟨q,hq⟩:∃ q,(Xv ds) (st,be,rk,my,gu,lo,hi,hd,ca,ut,wk)=q:=⟨_,rfl⟩
   have Hq:=Z9 hq
   clear hq
   have hba:Below wr.heap.size wr (wr.alloc (.cells #[.int .i64 st,.int .i64 be,.int .i64 rk,.int .i64 my,.int .i64 gu,.int .i64 lo,.int .i64 hi,.int .i64 hd,.int .i64 ca,.int .i64 ut,.int .i64 wk] 41)):=(Below.refl _ _).alloc (Nat.le_refl _) _
   replace BB:=bt BB hba
   clear hba
   refine (Qt st be rk my gu lo hi hd ca ut wk (((uh BB).cell (p:=⟨R,3,none⟩) hR).trans (uh HC)) (Nat.lt_of_lt_of_le hR (uh BB).size) ((uh HD).below (uh BB))).mono ?_
   rw [uh Hq]
   rintro e w1 ⟨rfl,hb⟩
   replace BB:=bt BB hb
   clear hb
   cases q
   ·go_wp2_with fail
    go_ret
    exact ⟨Z5 (uh HN (uh Hq)).symm,uh BB⟩
   ·go_wp2_with fail
    go_roundw
    case rel=>exact ⟨k+1,by omega,by go_num,uh HU (uh Hq),uh BB⟩
    case measure=>simp [intOf];omega
  ·obtain rfl:k=ss.length:=by omega
   go_wp2_with fail
   go_ret
   exact ⟨Z5 (uh Hst).symm,uh BB⟩
theorem VS (a0 a1 a2 a3 a4:Option Addr) (n0 n1 n2 n3 n4 p0 p1 p2 p3 p4:Nat) (now:Int) (w:World):Calls Tryz.prog 60 #[.agg #[.slice a0 n0 p0,.slice a1 n1 p1,.slice a2 n2 p2,.slice a3 n3 p3,.slice a4 n4 p4,.int .i64 now]] w fun e w'=>e= .returned (.slice a2 n2 p2)/\Below w.heap.size w w':=by
 go_enter Tryz.func60,Tryz.ntmps60
 go_wp2_with fail
 go_ret
 exact ⟨rfl,(Below.refl _ _).alloc (Nat.le_refl _) _⟩
theorem Lj (a0 a1 a2 a3 a4:Option Addr) (n0 n1 n2 n3 n4 p0 p1 p2 p3 p4:Nat) (now:Int) (w:World):Calls Tryz.prog 56 #[.agg #[.slice a0 n0 p0,.slice a1 n1 p1,.slice a2 n2 p2,.slice a3 n3 p3,.slice a4 n4 p4,.int .i64 now]] w fun e w'=>e= .returned (.slice a3 n3 p3)/\Below w.heap.size w w':=by
 go_enter Tryz.func56,Tryz.ntmps56
 go_wp2_with fail
 go_ret
 exact ⟨rfl,(Below.refl _ _).alloc (Nat.le_refl _) _⟩
theorem ND  {ss:List Z4} {gs:List ZA} (h:WK w v ss) (h1:XI w v1 gs):Calls Tryz.prog 197 #[v,v1] w fun e w'=>e= .returned (.bool (UV ss gs.length))/\Below w.heap.size w w':=by
 have Hv:=Z9 h
 obtain ⟨a,cap,rfl,_,_⟩:=IsRec.shape h
 obtain ⟨ga,gc,rfl,_,_⟩:=IsRec.shape h1
 clear h h1
 obtain ⟨q1,hq1⟩:∃ q,Yy ZE ss ss.length=q:=⟨_,rfl⟩
 obtain ⟨q2,hq2⟩:∃ q,Yy (XG gs.length) ss ss.length=q:=⟨_,rfl⟩
 have H1:=Z9 hq1
 have H2:=Z9 hq2
 by_cases hl:ss.length<=12
 ·refine Calls.bool_of (q:=(q1 && q2)) ?_ (by unfold UV;rw [hq1,hq2,decide_eq_true hl,Bool.true_and])
  have hl1:(ss.length:Int)<=12:=by omega
  clear hq1 hq2
  have HW:=Z9 ((uh Hv).below ((Below.refl _ _).alloc (Nat.le_refl _) (.cells #[.slice ga gs.length gc] 27)))
  go_enter Tryz.func197,Tryz.ntmps197
  go_wp2_with fail
  refine (GP (uh HW)).mono ?_
  rw [uh H1]
  rintro e w1 ⟨rfl,hb⟩
  replace HW:=Z9 ((uh HW).below hb)
  have c0:w1.cell? ⟨w.heap.size,0,none⟩=some (.slice ga gs.length gc):=(hb.cell (p:=⟨w.heap.size,0,none⟩) (by simp)).trans (Z2 _ rfl)
  have hlt:w.heap.size<w1.heap.size:=by have:=hb.size;simp at this;omega
  have Hb:=Z9 (((Below.refl w.heap.size w).alloc (Nat.le_refl _) _).trans (hb.mono (by simp)))
  have HC:=Z9 c0
  clear hb c0
  cases q1
  ·go_wp2_with fail
   go_ret
   exact ⟨rfl,uh Hb⟩
  go_wp2_with fail
  refine (M0 (uh HW) (uh HC) hlt).mono ?_
  rw [uh H2]
  rintro e w2 ⟨rfl,hb⟩
  replace Hb:=Z9 ((uh Hb).trans (hb.mono (uh Hb).size))
  clear hb
  go_wp2_with fail
  go_ret
  exact ⟨Z5 (by simp),uh Hb⟩
 ·refine Calls.bool_of (q:=false) ?_ (by unfold UV;rw [decide_eq_false hl];rfl)
  have hl1:¬ ((ss.length:Int)<=12):=by omega
  clear hq1 hq2
  go_enter Tryz.func197,Tryz.ntmps197
  go_wp2_with fail
  go_ret
  exact ⟨rfl,(Below.refl _ _).alloc (Nat.le_refl _) _⟩
theorem Lk  {ds:List Ys} {n:Int} (h:VN w v ds) (hn:n<=1000):Calls Tryz.prog 198 #[v,.int .i64 n] w fun e w'=>e= .returned (.bool (Te ds n))/\Below w.heap.size w w':=by
 have Hv:=Z9 h
 obtain ⟨a,cap,rfl,_,_⟩:=IsRec.shape h
 clear h
 obtain ⟨q1,hq1⟩:∃ q,Yy WH ds ds.length=q:=⟨_,rfl⟩
 obtain ⟨ws,hws⟩:∃ ws,ZU Uu ds ds.length=ws:=⟨_,rfl⟩
 have H1:=Z9 hq1
 have H2:=Z9 hws
 by_cases hl:(ds.length:Int)=n
 ·refine Calls.bool_of (q:=(q1 && decide (0<ws.length))) ?_ (by unfold Te;rw [hq1,show ZU (fun d:Ys=>d.1) ds ds.length=ws from hws,decide_eq_true hl,Bool.true_and])
  subst hl
  have hl1:ds.length<=1000:=by omega
  clear hq1 hws
  go_enter Tryz.func198,Tryz.ntmps198
  go_wp2_with fail
  refine (KY (uh Hv)).mono ?_
  rw [uh H1]
  rintro e w1 ⟨rfl,hb⟩
  replace Hv:=Z9 ((uh Hv).below hb)
  have Hb:=Z9 hb
  clear hb
  cases q1
  ·go_wp2_with fail
   go_ret
   exact ⟨rfl,uh Hb⟩
  go_wp2_with fail
  refine (OY (uh Hv) hl1).mono ?_
  rw [uh H2]
  rintro e w2 ⟨v2,rfl,hn2,hb⟩
  obtain ⟨la,lc,rfl⟩:=RecAt.shape hn2
  replace Hb:=Z9 ((uh Hb).trans (hb.mono (uh Hb).size))
  clear hb hn2
  go_wp2_with fail
  go_ret
  exact ⟨Z5 (by simp),uh Hb⟩
 ·refine Calls.bool_of (q:=false) ?_ (by unfold Te;rw [decide_eq_false hl];rfl)
  have hl1:((ds.length:Int) ==n)=false:=by simpa using hl
  clear hq1 hws
  go_enter Tryz.func198,Tryz.ntmps198
  go_wp2_with fail
  go_ret
  exact ⟨rfl,Below.refl _ _⟩
theorem Kk {ps:List Int} {rs:List Z0} {k:Nat} (hk:k<ps.length) (h:WJ (ZV rs k).2.length (Z8 ps k)=false):Wr ps rs=false:=by
 unfold Wr
 rw [SH (p:=fun j=>WJ (ZV rs j).2.length (Z8 ps j)) hk h,Bool.and_false]
theorem PM  {ps:List Int} {rs:List Z0} (h:Rs w v ps) (h0:IsRooms w v0 rs):Calls Tryz.prog 200 #[v,v0] w fun e w'=>e= .returned (.bool (Wr ps rs))/\Below w.heap.size w w':=by
 obtain ⟨a,cap,rfl,hc,hm,hr⟩:=h
 obtain ⟨a0,cap0,rfl,hc0,hm0,hr0⟩:=h0
 have Hr:=Z9 hr
 have Hr0:=Z9 hr0
 clear hr hr0
 by_cases hl:ps.length=rs.length
 ·have hl1:(ps.length:Int)=(rs.length:Int):=by omega
  have hbn:((ps.length:Int) !=(rs.length:Int))=false:=by simp [hl]
  have Hall:Hid ((List.range ps.length).all (fun j=>WJ (ZV rs j).2.length (Z8 ps j))=true->Wr ps rs=true):=Z9 (fun e=>by unfold Wr;rw [e,decide_eq_true hl];rfl)
  have Hl:=Z9 hl
  clear hl hl1
  go_enter Tryz.func200,Tryz.ntmps200
  go_wp2_with fail
  go_loopw [14] (fun i wr=> ∃ k:Nat,k<=ps.length/\i= .int .i64 k/\(List.range k).all (fun j=>WJ (ZV rs j).2.length (Z8 ps j))=true/\Below w.heap.size w wr) (fun i _=>ps.length-(intOf i).toNat)
  case atStart=>exact ⟨0,Nat.zero_le _,rfl,rfl,Below.refl _ _⟩
  case round=>
   obtain ⟨k,hk,rfl,hst,hb0⟩:=hrel
   have Hst:=Z9 hst
   have BB:=Z9 hb0
   by_cases hlt:k<ps.length
   ·have hlt1:(k:Int)<(ps.length:Int):=by omega
    have hlt2:(k:Int)<(rs.length:Int):=by have:=uh Hl;omega
    rcases uh Hr with e0 | ⟨b,off,rfl,hbw,hcl⟩
    ·rw [e0] at hlt;simp at hlt
    rcases uh Hr0 with e0 | ⟨b0,off0,rfl,hbw0,hcl0⟩
    ·rw [e0] at hlt2;simp at hlt2;omega
    have d0:=hcl k hlt 0 _ rfl
    simp only [Nat.mul_one,Nat.add_zero] at d0
    rw [<-hb0.cell (p:=⟨b,off+k,none⟩) hbw] at d0
    obtain ⟨_,pv,g1,hpv⟩:=hcl0 k (by have:=uh Hl;omega)
    obtain ⟨pa,pc,rfl,_,_,_⟩:=hpv
    rw [<-hb0.cell (p:=⟨b0,off0+k*2+1,none⟩) hbw0] at g1
    have HU:=Z9 (fun (hh:WJ (ZV rs k).2.length (Z8 ps k)=true)=>(show (List.range (k+1)).all (fun j=>WJ (ZV rs j).2.length (Z8 ps j))=true from by rw [UY,hst,hh];rfl))
    have HN:=Z9 (fun hh=>Kk (rs:=rs) hlt hh)
    clear hcl hcl0 hst hb0
    generalize Z8 ps k=x at *
    generalize (ZV rs k).2.length=n at *
    obtain ⟨q,hq⟩:∃ q,WJ n x=q:=⟨_,rfl⟩
    have Hq:=Z9 hq
    clear hq
    go_wp2_with fail
    refine (LC pa n pc x _).mono ?_
    rw [uh Hq]
    rintro e w1 ⟨rfl,h9⟩
    subst w1
    cases q
    ·go_wp2_with fail
     go_ret
     exact ⟨Z5 (uh HN (uh Hq)).symm,uh BB⟩
    ·go_wp2_with fail
     go_roundw
     case rel=>exact ⟨k+1,by omega,by go_num,uh HU (uh Hq),uh BB⟩
     case measure=>simp [intOf];omega
   ·obtain rfl:k=ps.length:=by omega
    go_wp2_with fail
    go_ret
    exact ⟨Z5 (uh Hall (uh Hst)).symm,uh BB⟩
 ·refine Calls.bool_of (q:=false) ?_ (by unfold Wr;rw [decide_eq_false hl];rfl)
  have hbn:((ps.length:Int) !=(rs.length:Int))=true:=by simp;omega
  go_enter Tryz.func200,Tryz.ntmps200
  go_wp2_with fail
  go_ret
  exact ⟨rfl,Below.refl _ _⟩
theorem Calls.same_below' {P:Program} {f:FuncId} {args:Array Value}  (h:Calls P f args w fun e w'=>e= .returned v/\w'=w):Calls P f args w fun e w'=>e= .returned v/\Below w.heap.size w w':=h.mono fun e w' ⟨he,hw⟩=>⟨he,by subst hw;exact Below.refl _ _⟩
theorem Mm  (h:Smy w v0 v1 v2 v3 v4 m):Calls Tryz.prog 131 #[.agg #[v0,v1,v2,v3,v4,.int .i64 m.now]] w fun e w'=>e= .returned (.bool (Sq m))/\Below w.heap.size w w':=by
 have Hv:=Z9 (h.alloc (.cells #[v0,v1,v2,v3,v4,.int .i64 m.now] 32))
 obtain ⟨a0,p0,a1,p1,a2,p2,a3,p3,a4,p4,rfl,rfl,rfl,rfl,rfl,_,_,_,_,_,_,_,_,_,_⟩:=h.five
 clear h
 obtain ⟨q1,hq1⟩:∃ q,Y4 m.rooms=q:=⟨_,rfl⟩
 obtain ⟨q2,hq2⟩:∃ q,Zh m.guilds=q:=⟨_,rfl⟩
 obtain ⟨q3,hq3⟩:∃ q,UV m.smiths m.guilds.length=q:=⟨_,rfl⟩
 obtain ⟨q4,hq4⟩:∃ q,Te m.desks (Wa m.rooms)=q:=⟨_,rfl⟩
 obtain ⟨q5,hq5⟩:∃ q,Wr m.paces m.rooms=q:=⟨_,rfl⟩
 obtain ⟨q6,hq6⟩:∃ q,inB m.now 0 1000000=q:=⟨_,rfl⟩
 refine Calls.bool_of (q:=(q1 && (q2 && (q3 && (q4 && (q5 && q6)))))) ?_ (by
  unfold Sq
  rw [hq2,hq3,hq5,hq6]
  cases q1
  ·rw [hq1];rfl
  ·rw [<-SJ hq1,hq4,hq1])
 have kb:Hid (Blk (w.alloc (.cells #[.slice a0 m.rooms.length p0,.slice a1 m.guilds.length p1,.slice a2 m.smiths.length p2,.slice a3 m.desks.length p3,.slice a4 m.paces.length p4,.int .i64 m.now] 32)) w.heap.size 32 #[.slice a0 m.rooms.length p0,.slice a1 m.guilds.length p1,.slice a2 m.smiths.length p2,.slice a3 m.desks.length p3,.slice a4 m.paces.length p4,.int .i64 m.now]):=Z9 (Blk.new w _ _)
 have BB:Hid (Below w.heap.size w (w.alloc (.cells #[.slice a0 m.rooms.length p0,.slice a1 m.guilds.length p1,.slice a2 m.smiths.length p2,.slice a3 m.desks.length p3,.slice a4 m.paces.length p4,.int .i64 m.now] 32))):=Z9 ((Below.refl _ _).alloc (Nat.le_refl _) _)
 have hbv:Wa m.rooms<=1000:=by
  cases hb:Y4 m.rooms
  ·rw [O6 hb];omega
  ·rw [SJ hb];have:=(Ze hb).2.2.2;omega
 go_enter Tryz.func131,Tryz.ntmps131
 go_wp2_with fail
 generalize w.alloc (.cells #[.slice a0 m.rooms.length p0,.slice a1 m.guilds.length p1,.slice a2 m.smiths.length p2,.slice a3 m.desks.length p3,.slice a4 m.paces.length p4,.int .i64 m.now] 32)=W at *
 have H1:=Z9 (fun (X:World) (hX:Below W.heap.size W X)=>Calls.bool_of (Vt ((uh Hv).below hX).rooms) hq1)
 have H2:=Z9 (fun (X:World) (hX:Below W.heap.size W X)=>Calls.bool_of (RG ((uh Hv).below hX).guilds) hq2)
 have H3:=Z9 (fun (X:World) (hX:Below W.heap.size W X)=>Calls.bool_of (ND ((uh Hv).below hX).smiths ((uh Hv).below hX).guilds) hq3)
 have H4a:=Z9 (fun (X:World) (hX:Below W.heap.size W X)=>Sj ((uh Hv).below hX).rooms)
 have H4:=Z9 (fun (X:World) (hX:Below W.heap.size W X)=>Calls.bool_of (Lk ((uh Hv).below hX).desks hbv) hq4)
 have H5:=Z9 (fun (X:World) (hX:Below W.heap.size W X)=>Calls.bool_of (PM ((uh Hv).below hX).paces ((uh Hv).below hX).rooms) hq5)
 have H6:=Z9 (fun (X:World) (hX:Below W.heap.size W X)=>Calls.bool_of (Calls.same_below' (ZX 0 m.now 1000000 X)) hq6)
 clear hq1 hq2 hq3 hq4 hq5 hq6
 generalize Wa m.rooms=nb at *
 obtain ⟨c0,c1,c2,c3,c4,c5⟩:=(uh kb).c6
 have y0:=cell_regrown c0
 have y1:=cell_regrown c1
 have y2:=cell_regrown c2
 have y3:=cell_regrown c3
 have y4:=cell_regrown c4
 have y5:=cell_regrown c5
 cases q1
 ·go_wp2_with fail
  refine wp_region_quiet_below (by kernel_rfl) (by kernel_rfl) ?_
  repeat (go_big_quiet_step (first | exact Calls.regrown_of (uh H1 _ (below_regrown _ _ _)) | exact Calls.regrown_of (uh H2 _ (below_regrown _ _ _)) | exact Calls.regrown_of (uh H3 _ (below_regrown _ _ _)) | exact Calls.regrown_of (uh H4a _ (below_regrown _ _ _)) | exact Calls.regrown_of (uh H4 _ (below_regrown _ _ _)) | exact Calls.regrown_of (uh H5 _ (below_regrown _ _ _)) | exact Calls.regrown_of (uh H6 _ (below_regrown _ _ _))))
  refine wpQuiet_nil ?_
  intro _ hw'
  obtain ⟨⟨dq,osq⟩,hw''⟩:=hw'
  subst hw''
  go_wp2_with fail
  go_ret
  exact ⟨rfl,(uh BB).trans ((below_regrown _ _ _).mono (uh BB).size)⟩
 cases q2
 ·go_wp2_with fail
  refine wp_region_quiet_below (by kernel_rfl) (by kernel_rfl) ?_
  repeat (go_big_quiet_step (first | exact Calls.regrown_of (uh H1 _ (below_regrown _ _ _)) | exact Calls.regrown_of (uh H2 _ (below_regrown _ _ _)) | exact Calls.regrown_of (uh H3 _ (below_regrown _ _ _)) | exact Calls.regrown_of (uh H4a _ (below_regrown _ _ _)) | exact Calls.regrown_of (uh H4 _ (below_regrown _ _ _)) | exact Calls.regrown_of (uh H5 _ (below_regrown _ _ _)) | exact Calls.regrown_of (uh H6 _ (below_regrown _ _ _))))
  refine wpQuiet_nil ?_
  intro _ hw'
  obtain ⟨⟨dq,osq⟩,hw''⟩:=hw'
  subst hw''
  go_wp2_with fail
  go_ret
  exact ⟨rfl,(uh BB).trans ((below_regrown _ _ _).mono (uh BB).size)⟩
 cases q3
 ·go_wp2_with fail
  refine wp_region_quiet_below (by kernel_rfl) (by kernel_rfl) ?_
  repeat (go_big_quiet_step (first | exact Calls.regrown_of (uh H1 _ (below_regrown _ _ _)) | exact Calls.regrown_of (uh H2 _ (below_regrown _ _ _)) | exact Calls.regrown_of (uh H3 _ (below_regrown _ _ _)) | exact Calls.regrown_of (uh H4a _ (below_regrown _ _ _)) | exact Calls.regrown_of (uh H4 _ (below_regrown _ _ _)) | exact Calls.regrown_of (uh H5 _ (below_regrown _ _ _)) | exact Calls.regrown_of (uh H6 _ (below_regrown _ _ _))))
  refine wpQuiet_nil ?_
  intro _ hw'
  obtain ⟨⟨dq,osq⟩,hw''⟩:=hw'
  subst hw''
  go_wp2_with fail
  go_ret
  exact ⟨rfl,(uh BB).trans ((below_regrown _ _ _).mono (uh BB).size)⟩
 cases q4
 ·go_wp2_with fail
  refine wp_region_quiet_below (by kernel_rfl) (by kernel_rfl) ?_
  repeat (go_big_quiet_step (first | exact Calls.regrown_of (uh H1 _ (below_regrown _ _ _)) | exact Calls.regrown_of (uh H2 _ (below_regrown _ _ _)) | exact Calls.regrown_of (uh H3 _ (below_regrown _ _ _)) | exact Calls.regrown_of (uh H4a _ (below_regrown _ _ _)) | exact Calls.regrown_of (uh H4 _ (below_regrown _ _ _)) | exact Calls.regrown_of (uh H5 _ (below_regrown _ _ _)) | exact Calls.regrown_of (uh H6 _ (below_regrown _ _ _))))
  refine wpQuiet_nil ?_
  intro _ hw'
  obtain ⟨⟨dq,osq⟩,hw''⟩:=hw'
  subst hw''
  go_wp2_with fail
  go_ret
  exact ⟨rfl,(uh BB).trans ((below_regrown _ _ _).mono (uh BB).size)⟩
 cases q5
 ·go_wp2_with fail
  refine wp_region_quiet_below (by kernel_rfl) (by kernel_rfl) ?_
  repeat (go_big_quiet_step (first | exact Calls.regrown_of (uh H1 _ (below_regrown _ _ _)) | exact Calls.regrown_of (uh H2 _ (below_regrown _ _ _)) | exact Calls.regrown_of (uh H3 _ (below_regrown _ _ _)) | exact Calls.regrown_of (uh H4a _ (below_regrown _ _ _)) | exact Calls.regrown_of (uh H4 _ (below_regrown _ _ _)) | exact Calls.regrown_of (uh H5 _ (below_regrown _ _ _)) | exact Calls.regrown_of (uh H6 _ (below_regrown _ _ _))))
  refine wpQuiet_nil ?_
  intro _ hw'
  obtain ⟨⟨dq,osq⟩,hw''⟩:=hw'
  subst hw''
  go_wp2_with fail
  go_ret
  exact ⟨rfl,(uh BB).trans ((below_regrown _ _ _).mono (uh BB).size)⟩
 go_wp2_with fail
 refine wp_region_quiet_below (by kernel_rfl) (by kernel_rfl) ?_
 repeat (go_big_quiet_step (first | exact Calls.regrown_of (uh H1 _ (below_regrown _ _ _)) | exact Calls.regrown_of (uh H2 _ (below_regrown _ _ _)) | exact Calls.regrown_of (uh H3 _ (below_regrown _ _ _)) | exact Calls.regrown_of (uh H4a _ (below_regrown _ _ _)) | exact Calls.regrown_of (uh H4 _ (below_regrown _ _ _)) | exact Calls.regrown_of (uh H5 _ (below_regrown _ _ _)) | exact Calls.regrown_of (uh H6 _ (below_regrown _ _ _))))
 refine wpQuiet_nil ?_
 intro _ hw'
 obtain ⟨⟨dq,osq⟩,hw''⟩:=hw'
 subst hw''
 go_wp2_with fail
 go_ret
 exact ⟨Z5 (by simp),(uh BB).trans ((below_regrown _ _ _).mono (uh BB).size)⟩
theorem Tv  (h:Smy w v0 v1 v2 v3 v4 m):Calls Tryz.prog 69 #[.agg #[v0,v1,v2,v3,v4,.int .i64 m.now]] w fun e w'=>e= .returned (.bool (W6 m))/\Below w.heap.size w w':=by
 have Hv:=Z9 (h.alloc (.cells #[v0,v1,v2,v3,v4,.int .i64 m.now] 32))
 obtain ⟨a0,p0,a1,p1,a2,p2,a3,p3,a4,p4,rfl,rfl,rfl,rfl,rfl,_,_,_,_,_,_,_,_,_,_⟩:=h.five
 clear h
 obtain ⟨q1,hq1⟩:∃ q,Sq m=q:=⟨_,rfl⟩
 obtain ⟨q2,hq2⟩:∃ q,Yy (Xv m.desks) m.smiths m.smiths.length=q:=⟨_,rfl⟩
 refine Calls.bool_of (q:=(q1 && q2)) ?_ (by unfold W6;rw [hq1,hq2])
 have H1:=Z9 hq1
 have H2:=Z9 hq2
 clear hq1 hq2
 have kb:Hid (Blk (w.alloc (.cells #[.slice a0 m.rooms.length p0,.slice a1 m.guilds.length p1,.slice a2 m.smiths.length p2,.slice a3 m.desks.length p3,.slice a4 m.paces.length p4,.int .i64 m.now] 32)) w.heap.size 32 #[.slice a0 m.rooms.length p0,.slice a1 m.guilds.length p1,.slice a2 m.smiths.length p2,.slice a3 m.desks.length p3,.slice a4 m.paces.length p4,.int .i64 m.now]):=Z9 (Blk.new w _ _)
 have BB:Hid (Below w.heap.size w (w.alloc (.cells #[.slice a0 m.rooms.length p0,.slice a1 m.guilds.length p1,.slice a2 m.smiths.length p2,.slice a3 m.desks.length p3,.slice a4 m.paces.length p4,.int .i64 m.now] 32))):=Z9 ((Below.refl _ _).alloc (Nat.le_refl _) _)
 go_enter Tryz.func69,Tryz.ntmps69
 go_wp2_with fail
 generalize w.alloc (.cells #[.slice a0 m.rooms.length p0,.slice a1 m.guilds.length p1,.slice a2 m.smiths.length p2,.slice a3 m.desks.length p3,.slice a4 m.paces.length p4,.int .i64 m.now] 32)=W at *
 refine (Mm (uh Hv)).mono ?_
 rw [uh H1]
 rintro e w1 ⟨rfl,hb⟩
 replace Hv:=Z9 ((uh Hv).below hb)
 replace kb:=bl kb hb
 replace BB:=bt BB hb
 clear hb
 cases q1
 ·go_wp2_with fail
  go_ret
  exact ⟨rfl,uh BB⟩
 obtain ⟨c0,c1,c2,c3,c4,c5⟩:=(uh kb).c6
 go_wp2_with fail
 refine (VS _ _ _ _ _ _ _ _ _ _ _ _ _ _ _ _ _).mono ?_
 rintro e w2 ⟨rfl,hb⟩
 replace Hv:=Z9 ((uh Hv).below hb)
 replace kb:=bl kb hb
 replace BB:=bt BB hb
 clear hb c0 c1 c2 c3 c4 c5
 go_wp2_with fail
 refine (MZ (uh Hv).smiths ((uh kb).cell (i:=3) rfl) (uh kb).lt (uh Hv).desks).mono ?_
 rw [uh H2]
 rintro e w3 ⟨rfl,hb⟩
 replace BB:=bt BB hb
 clear hb
 go_wp2_with fail
 go_ret
 exact ⟨Z5 (by simp),uh BB⟩
theorem Rr  (b:Int) (h:Smy w v0 v1 v2 v3 v4 m) (hl:m.smiths.length<=1000):Calls Tryz.prog 88 #[.agg #[v0,v1,v2,v3,v4,.int .i64 m.now],.int .i64 b] w fun e w'=> ∃ v',e= .returned v'/\NumsAt w.heap.size w' v' (ZU (atB b) m.smiths m.smiths.length)/\Below w.heap.size w w':=by
 have Hv:=Z9 ((h.alloc (.cells #[v0,v1,v2,v3,v4,.int .i64 m.now] 32)).alloc (.cells #[.int .i64 b] 2))
 obtain ⟨a0,p0,a1,p1,a2,p2,a3,p3,a4,p4,rfl,rfl,rfl,rfl,rfl,_,_,_,_,_,_,_,_,_,_⟩:=h.five
 clear h
 have BB:Hid (Below w.heap.size w ((w.alloc (.cells #[.slice a0 m.rooms.length p0,.slice a1 m.guilds.length p1,.slice a2 m.smiths.length p2,.slice a3 m.desks.length p3,.slice a4 m.paces.length p4,.int .i64 m.now] 32)).alloc (.cells #[.int .i64 b] 2))):=Z9 (((Below.refl _ _).alloc (Nat.le_refl _) _).alloc (by simp) _)
 have kc:Hid (Blk ((w.alloc (.cells #[.slice a0 m.rooms.length p0,.slice a1 m.guilds.length p1,.slice a2 m.smiths.length p2,.slice a3 m.desks.length p3,.slice a4 m.paces.length p4,.int .i64 m.now] 32)).alloc (.cells #[.int .i64 b] 2)) (w.heap.size+1) 2 #[.int .i64 b]):=Z9 (by
  have k:=Blk.new (w.alloc (.cells #[.slice a0 m.rooms.length p0,.slice a1 m.guilds.length p1,.slice a2 m.smiths.length p2,.slice a3 m.desks.length p3,.slice a4 m.paces.length p4,.int .i64 m.now] 32)) 2 #[.int .i64 b]
  rw [World.size_alloc] at k
  exact k)
 go_enter Tryz.func88,Tryz.ntmps88
 go_wp2_with fail
 generalize (w.alloc (.cells #[.slice a0 m.rooms.length p0,.slice a1 m.guilds.length p1,.slice a2 m.smiths.length p2,.slice a3 m.desks.length p3,.slice a4 m.paces.length p4,.int .i64 m.now] 32)).alloc (.cells #[.int .i64 b] 2)=W at *
 refine (VS _ _ _ _ _ _ _ _ _ _ _ _ _ _ _ _ _).mono ?_
 rintro e w2 ⟨rfl,hb⟩
 replace Hv:=Z9 ((uh Hv).below hb)
 replace kc:=bl kc hb
 replace BB:=bt BB hb
 clear hb
 go_wp2_with fail
 refine (MR (uh Hv).smiths hl ((uh kc).cell (i:=0) rfl) (uh kc).lt).mono ?_
 rintro e w3 ⟨v',rfl,hn,hb⟩
 have HN:=Z9 (RecAt.mono hn (uh BB).size)
 replace BB:=bt BB hb
 obtain ⟨la,lc,rfl⟩:=RecAt.shape hn
 clear hb hn
 go_wp2_with fail
 go_ret
 exact ⟨_,rfl,uh HN,uh BB⟩
theorem Qk  (b:Int) (h:Smy w v0 v1 v2 v3 v4 m) (hl:m.smiths.length<=1000):Calls Tryz.prog 205 #[.agg #[v0,v1,v2,v3,v4,.int .i64 m.now],.int .i64 b] w fun e w'=> ∃ v',e= .returned v'/\NumsAt w.heap.size w' v' (ZU (Zo b) m.smiths m.smiths.length)/\Below w.heap.size w w':=by
 have Hv:=Z9 ((h.alloc (.cells #[v0,v1,v2,v3,v4,.int .i64 m.now] 32)).alloc (.cells #[.int .i64 b] 2))
 obtain ⟨a0,p0,a1,p1,a2,p2,a3,p3,a4,p4,rfl,rfl,rfl,rfl,rfl,_,_,_,_,_,_,_,_,_,_⟩:=h.five
 clear h
 have BB:Hid (Below w.heap.size w ((w.alloc (.cells #[.slice a0 m.rooms.length p0,.slice a1 m.guilds.length p1,.slice a2 m.smiths.length p2,.slice a3 m.desks.length p3,.slice a4 m.paces.length p4,.int .i64 m.now] 32)).alloc (.cells #[.int .i64 b] 2))):=Z9 (((Below.refl _ _).alloc (Nat.le_refl _) _).alloc (by simp) _)
 have kc:Hid (Blk ((w.alloc (.cells #[.slice a0 m.rooms.length p0,.slice a1 m.guilds.length p1,.slice a2 m.smiths.length p2,.slice a3 m.desks.length p3,.slice a4 m.paces.length p4,.int .i64 m.now] 32)).alloc (.cells #[.int .i64 b] 2)) (w.heap.size+1) 2 #[.int .i64 b]):=Z9 (by
  have k:=Blk.new (w.alloc (.cells #[.slice a0 m.rooms.length p0,.slice a1 m.guilds.length p1,.slice a2 m.smiths.length p2,.slice a3 m.desks.length p3,.slice a4 m.paces.length p4,.int .i64 m.now] 32)) 2 #[.int .i64 b]
  rw [World.size_alloc] at k
  exact k)
 go_enter Tryz.func205,Tryz.ntmps205
 go_wp2_with fail
 generalize (w.alloc (.cells #[.slice a0 m.rooms.length p0,.slice a1 m.guilds.length p1,.slice a2 m.smiths.length p2,.slice a3 m.desks.length p3,.slice a4 m.paces.length p4,.int .i64 m.now] 32)).alloc (.cells #[.int .i64 b] 2)=W at *
 refine (VS _ _ _ _ _ _ _ _ _ _ _ _ _ _ _ _ _).mono ?_
 rintro e w2 ⟨rfl,hb⟩
 replace Hv:=Z9 ((uh Hv).below hb)
 replace kc:=bl kc hb
 replace BB:=bt BB hb
 clear hb
 go_wp2_with fail
 refine (Qj (uh Hv).smiths hl ((uh kc).cell (i:=0) rfl) (uh kc).lt).mono ?_
 rintro e w3 ⟨v',rfl,hn,hb⟩
 have HN:=Z9 (RecAt.mono hn (uh BB).size)
 replace BB:=bt BB hb
 obtain ⟨la,lc,rfl⟩:=RecAt.shape hn
 clear hb hn
 go_wp2_with fail
 go_ret
 exact ⟨_,rfl,uh HN,uh BB⟩
theorem KK  {b:Nat} (h:Smy w v0 v1 v2 v3 v4 m) (hl:m.smiths.length<=1000) (hb0:b<m.desks.length):Calls Tryz.prog 135 #[.agg #[v0,v1,v2,v3,v4,.int .i64 m.now],.int .i64 (b:Int)] w fun e w'=>e= .returned (.bool (V7 m b))/\Below w.heap.size w w':=by
 have Hv:=Z9 (h.alloc (.cells #[v0,v1,v2,v3,v4,.int .i64 m.now] 32))
 obtain ⟨a0,p0,rfl,_,_⟩:=IsRooms.shape h.rooms
 obtain ⟨a1,p1,rfl,_,_⟩:=IsRec.shape h.guilds
 obtain ⟨a2,p2,rfl,_,_⟩:=IsRec.shape h.smiths
 obtain ⟨a3,p3,rfl,hc3,hm3,r3⟩:=h.desks
 obtain ⟨a4,p4,rfl,_,_⟩:=IsRec.shape h.paces
 clear h
 rcases r3 with e0 | ⟨db,off,rfl,hbw,hcl⟩
 ·rw [e0] at hb0;simp at hb0
 obtain ⟨_,d1,_⟩:=Zk hcl hb0
 have hb1:(b:Int)<(m.desks.length:Int):=by omega
 have hT:V7 m b=if (Z8 m.desks b).2.1= -1 then decide ((ZU (atB b) m.smiths m.smiths.length).length=0) else decide ((ZU (Zo b) m.smiths m.smiths.length).length=1) && decide (Z8 (ZU (Zo b) m.smiths m.smiths.length) 0=(Z8 m.desks b).2.1):=rfl
 have HT:=Z9 hT
 clear hT hcl
 generalize (Z8 m.desks b).2.1=who at *
 have hne:db ≠ w.heap.size:=Nat.ne_of_lt hbw
 obtain ⟨BB,kb⟩:=Xk w 32 #[.slice a0 m.rooms.length p0,.slice a1 m.guilds.length p1,.slice a2 m.smiths.length p2,.slice (some ⟨db,off,none⟩) m.desks.length p3,.slice a4 m.paces.length p4,.int .i64 m.now]
 rw [<-(uh BB).cell (p:=⟨db,off+b*3+1,none⟩) hbw] at d1
 by_cases hw:who= -1
 ·subst hw
  obtain ⟨ws,hws⟩:∃ ws,ZU (atB b) m.smiths m.smiths.length=ws:=⟨_,rfl⟩
  refine Calls.bool_of (q:=decide (ws.length=0)) ?_ (by rw [uh HT,if_pos rfl,hws])
  have Hws:=Z9 hws
  clear hws HT
  go_enter Tryz.func135,Tryz.ntmps135
  go_upto_region 3 with fail
  generalize w.alloc (.cells #[.slice a0 m.rooms.length p0,.slice a1 m.guilds.length p1,.slice a2 m.smiths.length p2,.slice (some ⟨db,off,none⟩) m.desks.length p3,.slice a4 m.paces.length p4,.int .i64 m.now] 32)=W at *
  obtain ⟨c0,c1,c2,c3,c4,c5⟩:=(uh kb).c6
  go_wp2_with fail
  refine (Rr (b:Int) (uh Hv) hl).mono ?_
  rw [uh Hws]
  rintro e w2 ⟨v',rfl,hn,hb⟩
  obtain ⟨la,lc,rfl⟩:=RecAt.shape hn
  replace BB:=bt BB hb
  clear hb hn c0 c1 c2 c3 c4 c5
  go_wp2_with fail
  go_ret
  exact ⟨Z5 (by rw [Bool.eq_iff_iff];simp only [beq_iff_eq,decide_eq_true_eq];omega),uh BB⟩
 have nw:(who == -1)=false:=by simpa using hw
 obtain ⟨ws,hws⟩:∃ ws,ZU (Zo b) m.smiths m.smiths.length=ws:=⟨_,rfl⟩
 refine Calls.bool_of (q:=decide (ws.length=1) && decide (Z8 ws 0=who)) ?_ (by rw [uh HT,if_neg hw,hws])
 have Hws:=Z9 hws
 clear hws HT
 go_enter Tryz.func135,Tryz.ntmps135
 go_upto_region 3 with fail
 generalize w.alloc (.cells #[.slice a0 m.rooms.length p0,.slice a1 m.guilds.length p1,.slice a2 m.smiths.length p2,.slice (some ⟨db,off,none⟩) m.desks.length p3,.slice a4 m.paces.length p4,.int .i64 m.now] 32)=W at *
 obtain ⟨c0,c1,c2,c3,c4,c5⟩:=(uh kb).c6
 go_wp2_with fail
 refine (Qk (b:Int) (uh Hv) hl).mono ?_
 rw [uh Hws]
 rintro e w2 ⟨v',rfl,hn,hb⟩
 obtain ⟨la,lc,rfl⟩:=RecAt.shape hn
 replace BB:=bt BB hb
 have HN:=Z9 hn
 clear hb hn c0 c1 c2 c3 c4 c5
 by_cases h1:ws.length=1
 ·obtain ⟨g,hga,_,_,hcl,_⟩:=RecAt.view YJ (by omega) (uh HN) rfl (by omega)
  cases hga
  have z0:=hcl 0 (by omega) 0 _ rfl
  simp only [Nat.zero_mul,Nat.add_zero] at z0
  have hl1:((ws.length:Int) ==1)=true:=by simp;omega
  clear hcl
  have h01:(0:Int)<(ws.length:Int):=by omega
  obtain ⟨z,hz⟩:∃ z,Z8 ws 0=z:=⟨_,rfl⟩
  rw [hz] at z0
  have Hz:=Z9 hz
  clear hz
  go_wp2_with fail
  go_ret
  exact ⟨Z5 (by rw [uh Hz,decide_eq_true h1,Bool.eq_iff_iff];simp only [Bool.true_and,beq_iff_eq,decide_eq_true_eq]),uh BB⟩
 ·have hl1:((ws.length:Int) ==1)=false:=by simp;omega
  go_wp2_with fail
  go_ret
  exact ⟨Z5 (by rw [decide_eq_false h1];rfl),uh BB⟩
theorem MJ  (h:Smy w v0 v1 v2 v3 v4 m) (hl:m.smiths.length<=1000):Calls Tryz.prog 70 #[.agg #[v0,v1,v2,v3,v4,.int .i64 m.now]] w fun e w'=>e= .returned (.bool (SC m))/\Below w.heap.size w w':=by
 have Hv:=Z9 (h.alloc (.cells #[v0,v1,v2,v3,v4,.int .i64 m.now] 32))
 obtain ⟨a0,p0,a1,p1,a2,p2,a3,p3,a4,p4,rfl,rfl,rfl,rfl,rfl,_,_,_,_,_,_,_,_,_,_⟩:=h.five
 clear h
 obtain ⟨BB0,kb0⟩:=Xk w 32 (S6 a0 p0 a1 p1 a2 p2 a3 p3 a4 p4 m)
 go_enter Tryz.func70,Tryz.ntmps70
 go_wp2_with fail
 go_loopw [7] (fun i wr=> ∃ k:Nat,k<=m.desks.length/\i= .int .i64 k/\(List.range k).all (V7 m)=true/\Smy wr (.slice a0 m.rooms.length p0) (.slice a1 m.guilds.length p1) (.slice a2 m.smiths.length p2) (.slice a3 m.desks.length p3) (.slice a4 m.paces.length p4) m/\Blk wr w.heap.size 32 #[.slice a0 m.rooms.length p0,.slice a1 m.guilds.length p1,.slice a2 m.smiths.length p2,.slice a3 m.desks.length p3,.slice a4 m.paces.length p4,.int .i64 m.now]/\Below w.heap.size w wr) (fun i _=>m.desks.length-(intOf i).toNat)
 case atStart=>exact ⟨0,Nat.zero_le _,rfl,rfl,uh Hv,uh kb0,uh BB0⟩
 case round=>
  obtain ⟨k,hk,rfl,hst,hv,hkb,hb0⟩:=hrel
  have Hst:=Z9 hst
  have Hv1:=Z9 hv
  have kb:=Z9 hkb
  have BB:=Z9 hb0
  clear hv hkb hb0 kb0 BB0 Hv
  by_cases hlt:k<m.desks.length
  ·have hlt1:(k:Int)<(m.desks.length:Int):=by omega
   have HU:=Z9 (fun (hh:V7 m k=true)=>(show (List.range (k+1)).all (V7 m)=true from by rw [UY,hst,hh];rfl))
   have HN:=Z9 (fun hh=>(show SC m=false from SH (p:=V7 m) hlt hh))
   clear hst
   obtain ⟨q,hq⟩:∃ q,V7 m k=q:=⟨_,rfl⟩
   have Hq:=Z9 hq
   clear hq
   obtain ⟨c0,c1,c2,c3,c4,c5⟩:=(uh kb).c6
   go_wp2_with fail
   refine (KK (uh Hv1) hl hlt).mono ?_
   rw [uh Hq]
   rintro e w1 ⟨rfl,hb⟩
   replace Hv1:=Z9 ((uh Hv1).below hb)
   replace kb:=bl kb hb
   replace BB:=bt BB hb
   clear hb c0 c1 c2 c3 c4 c5
   cases q
   ·go_wp2_with fail
    go_ret
    exact ⟨Z5 (uh HN (uh Hq)).symm,uh BB⟩
   ·go_wp2_with fail
    go_roundw
    case rel=>exact ⟨k+1,by omega,by go_num,uh HU (uh Hq),uh Hv1,uh kb,uh BB⟩
    case measure=>simp [intOf];omega
  ·obtain rfl:k=m.desks.length:=by omega
   go_wp2_with fail
   go_ret
   exact ⟨Z5 (uh Hst).symm,uh BB⟩
theorem Ix (h:W6 m=true):m.smiths.length<=12:=by
 rw [SP] at h
 unfold YZ YS at h
 simp only [Bool.and_eq_true,decide_eq_true_eq] at h
 exact h.1.2.2.1
theorem RH  (h:Smy w v0 v1 v2 v3 v4 m):Calls Tryz.prog 19 #[.agg #[v0,v1,v2,v3,v4,.int .i64 m.now]] w fun e w'=>e= .returned (.bool (ZK m))/\Below w.heap.size w w':=by
 have Hv:=Z9 (h.alloc (.cells #[v0,v1,v2,v3,v4,.int .i64 m.now] 32))
 obtain ⟨a0,p0,a1,p1,a2,p2,a3,p3,a4,p4,rfl,rfl,rfl,rfl,rfl,_,_,_,_,_,_,_,_,_,_⟩:=h.five
 clear h
 obtain ⟨q1,hq1⟩:∃ q,W6 m=q:=⟨_,rfl⟩
 obtain ⟨q2,hq2⟩:∃ q,SC m=q:=⟨_,rfl⟩
 refine Calls.bool_of (q:=(q1 && q2)) ?_ (by rw [<-GA];unfold Gz;rw [hq1,hq2])
 have H1:=Z9 hq1
 have H2:=Z9 hq2
 clear hq1 hq2
 have kb:Hid (Blk (w.alloc (.cells #[.slice a0 m.rooms.length p0,.slice a1 m.guilds.length p1,.slice a2 m.smiths.length p2,.slice a3 m.desks.length p3,.slice a4 m.paces.length p4,.int .i64 m.now] 32)) w.heap.size 32 #[.slice a0 m.rooms.length p0,.slice a1 m.guilds.length p1,.slice a2 m.smiths.length p2,.slice a3 m.desks.length p3,.slice a4 m.paces.length p4,.int .i64 m.now]):=Z9 (Blk.new w _ _)
 have BB:Hid (Below w.heap.size w (w.alloc (.cells #[.slice a0 m.rooms.length p0,.slice a1 m.guilds.length p1,.slice a2 m.smiths.length p2,.slice a3 m.desks.length p3,.slice a4 m.paces.length p4,.int .i64 m.now] 32))):=Z9 ((Below.refl _ _).alloc (Nat.le_refl _) _)
 go_enter Tryz.func19,Tryz.ntmps19
 go_wp2_with fail
 generalize w.alloc (.cells #[.slice a0 m.rooms.length p0,.slice a1 m.guilds.length p1,.slice a2 m.smiths.length p2,.slice a3 m.desks.length p3,.slice a4 m.paces.length p4,.int .i64 m.now] 32)=W at *
 refine (Tv (uh Hv)).mono ?_
 rw [uh H1]
 rintro e w1 ⟨rfl,hb⟩
 replace Hv:=Z9 ((uh Hv).below hb)
 replace kb:=bl kb hb
 replace BB:=bt BB hb
 clear hb
 cases q1
 ·go_wp2_with fail
  go_ret
  exact ⟨rfl,uh BB⟩
 obtain ⟨c0,c1,c2,c3,c4,c5⟩:=(uh kb).c6
 go_wp2_with fail
 refine (MJ (uh Hv) (by have:=Ix (uh H1);omega)).mono ?_
 rw [uh H2]
 rintro e w2 ⟨rfl,hb⟩
 replace BB:=bt BB hb
 clear hb c0 c1 c2 c3 c4 c5
 go_wp2_with fail
 go_ret
 exact ⟨Z5 (by simp),uh BB⟩
theorem Pw (w:World) (v0 v1 v2 v3 v4:Value) (m:Z3) (q:Bool) (hq:ZK m=q) (h:Smy w v0 v1 v2 v3 v4 m):Calls Tryz.prog 19 #[.agg #[v0,v1,v2,v3,v4,.int .i64 m.now]] w fun e w'=>e= .returned (.bool q)/\Below w.heap.size w w':=Calls.bool_of (RH h) hq
def WU (rs:List Z0) (n:Int):Nat:=((List.range rs.length).find? fun r=>decide (n<ZY (rs.take (r+1)))).getD 0
def Xf (rs:List Z0) (n:Int):Bool:=Y4 rs && inB n 0 (ZY rs-1)
def VK (ps:List Z6):Int:=(Z7 ps (ps.length-1)).1
def YR (rs:List Z0) (n:Int):Int:=if Xf rs n=true then VK (ZV rs (WU rs n)).2 else -1
theorem My {rs:List Z0} {n:Int} {r:Nat} (hr:r<rs.length) (h:n<ZY (rs.take (r+1))) (hl:∀ j,j<r->ZY (rs.take (j+1))<=n):WU rs n=r:=by
 unfold WU
 have:(List.range rs.length).find? (fun r=>decide (n<ZY (rs.take (r+1))))=some r:=by
  rw [List.find?_range_eq_some]
  refine ⟨by simpa using h,by simpa using hr,fun j hj=> ?_⟩
  have:=hl j hj
  simp;omega
 rw [this];rfl
theorem WA {rs:List Z0} {n:Int} (h:Xf rs n=true):Y4 rs=true/\0<=n/\n<ZY rs:=by
 unfold Xf at h;simp only [Bool.and_eq_true] at h
 have:=ZS h.2
 exact ⟨h.1,by omega,by omega⟩
theorem Ie {rs:List Z0} {n:Int} (h:Y4 rs=true) (h0:0<=n) (h1:n<ZY rs):Xf rs n=true:=by
 unfold Xf;rw [h,Zj (by omega) (by omega)];rfl
theorem TC {rs:List Z0} {n:Int} (h:Xf rs n=true):YR rs n=VK (ZV rs (WU rs n)).2:=by unfold YR;rw [if_pos h]
theorem RP {rs:List Z0} {n:Int} (h:Xf rs n=true) {r:Nat} (hr:r<=rs.length) (hl:∀ j,j<r->ZY (rs.take (j+1))<=n):r<rs.length:=by
 rcases Nat.lt_or_ge r rs.length with h1 | h1
 ·exact h1
 ·obtain rfl:r=rs.length:=by omega
  have hb:=WA h
  have h3:=Ze hb.1
  have:=hl (rs.length-1) (by omega)
  rw [show rs.length-1+1=rs.length by omega,Ui] at this
  omega
theorem Sd {rs:List Z0} (h:Y4 rs=true) (k:Nat) (hk:k<=rs.length):0<=ZY (rs.take k)/\ZY (rs.take k)<=12:=by
 have h3:=Ze h
 have:=Tx h3.2.2.1 k hk
 omega
theorem PV {rs:List Z0} {n:Int} (h:Xf rs n=true):WU rs n<rs.length:=by
 have key:∀ d r:Nat,r+d=rs.length->(∀ j,j<r->ZY (rs.take (j+1))<=n)->WU rs n<rs.length:=by
  intro d
  induction d with
  | zero=>intro r hr hl;have:=RP h (by omega) hl;omega
  | succ d ih=>
   intro r hr hl
   have hlt:=RP h (r:=r) (by omega) hl
   by_cases hc:n<ZY (rs.take (r+1))
   ·rw [My hlt hc hl];exact hlt
   ·exact ih (r+1) (by omega) (Yn hl (by omega))
 exact key rs.length 0 (by omega) (fun j hj=>by omega)
open Go.ChangeShapes Go.WideShapes Go.ChangeAt Go.RowKit
def Xm (a b c:Int):Int:=if inB a 0 1000000000 && inB b 0 1000000000 && inB c 1 1000000000 then a*b / c else -1
def Si (x:Int):Nat->Int->Int
 | 0,u=>u
 | n+1,u=>Si x n ((31*u+x) / 32)
def ZM (u x n:Int):Int:=if inB u 0 1024 && inB x 0 1024 && inB n 0 1000 then Si x n.toNat u else -1
theorem I0 {u x:Int} (h1:0<=u) (h2:u<=1024) (h3:0<=x) (h4:x<=1024):0<=(31*u+x) / 32/\(31*u+x) / 32<=1024:=by omega
theorem Lp (x:Int) (h3:0<=x) (h4:x<=1024):∀ (n:Nat) (u:Int),0<=u->u<=1024->0<=Si x n u/\Si x n u<=1024
 | 0,u,h1,h2=>⟨h1,h2⟩
 | n+1,u,h1,h2=>Lp x h3 h4 n _ (I0 h1 h2 h3 h4).1 (I0 h1 h2 h3 h4).2
theorem Pk (x:Int):∀ (n:Nat) (u:Int),Si x (n+1) u=(31*Si x n u+x) / 32
 | 0,u=>rfl
 | n+1,u=>Pk x n _
theorem EO {a b:Int} (a0:0<=a) (a1:a<=1000000000) (b0:0<=b) (b1:b<=1000000000):0<=a*b/\a*b<=1000000000000000000:=by
 refine ⟨Int.mul_nonneg a0 b0,?_⟩
 have h:=Int.mul_le_mul a1 b1 b0 (by omega)
 omega
theorem E7 {P:Prop} (a b c lo hi l1 h1 l2 h2:Int)
  (k1:inB a lo hi=false->P) (k2:inB a lo hi=true->inB b l1 h1=false->P) (k3:inB a lo hi=true->inB b l1 h1=true->inB c l2 h2=false->P)
  (k4:inB a lo hi=true->inB b l1 h1=true->inB c l2 h2=true->P):P:=by
 cases ha:inB a lo hi
 ·exact k1 ha
 ·cases hb:inB b l1 h1
  ·exact k2 ha hb
  ·cases hc:inB c l2 h2
   ·exact k3 ha hb hc
   ·exact k4 ha hb hc
theorem Vg (x:Int) (w:World):Calls Tryz.prog 142 #[.int .i64 x] w fun e w'=>e= .returned (.bool (inB x 0 1024))/\w'=w:=by
 go_enter Tryz.func142,Tryz.ntmps142
 go_wp2_with (go_at_call 128;refine (ZZ _ _ _ _).mono ?_;rintro e w' ⟨rfl,rfl⟩)
 go_ret
 exact ⟨rfl,rfl⟩
theorem P6 (a b c:Int) (w:World):Calls Tryz.prog 168 #[.int .i64 a,.int .i64 b,.int .i64 c] w fun e w'=>e= .returned (.int .i64 (Xm a b c))/\w'=w:=by
 refine E7 a b c 0 1000000000 0 1000000000 1 1000000000 ?_ ?_ ?_ ?_
 ·intro ha
  have hv:Xm a b c= -1:=by simp [Xm,ha]
  rw [hv];clear hv
  go_enter Tryz.func168,Tryz.ntmps168
  go_wp2_with (first | (go_at_call 214;refine (UK _ _).mono ?_;rintro e w' ⟨rfl,rfl⟩) | (go_at_call 128;refine (ZZ _ _ _ _).mono ?_;rintro e w' ⟨rfl,rfl⟩))
  go_ret
  exact ⟨rfl,rfl⟩
 ·intro ha hb
  have hv:Xm a b c= -1:=by simp [Xm,hb]
  rw [hv];clear hv
  go_enter Tryz.func168,Tryz.ntmps168
  go_wp2_with (first | (go_at_call 214;refine (UK _ _).mono ?_;rintro e w' ⟨rfl,rfl⟩) | (go_at_call 128;refine (ZZ _ _ _ _).mono ?_;rintro e w' ⟨rfl,rfl⟩))
  go_ret
  exact ⟨rfl,rfl⟩
 ·intro ha hb hc
  have hv:Xm a b c= -1:=by simp [Xm,hc]
  rw [hv];clear hv
  go_enter Tryz.func168,Tryz.ntmps168
  go_wp2_with (first | (go_at_call 214;refine (UK _ _).mono ?_;rintro e w' ⟨rfl,rfl⟩) | (go_at_call 128;refine (ZZ _ _ _ _).mono ?_;rintro e w' ⟨rfl,rfl⟩))
  go_ret
  exact ⟨rfl,rfl⟩
 ·intro ha hb hc
  have hv:Xm a b c=a*b / c:=by simp [Xm,ha,hb,hc]
  rw [hv];clear hv
  obtain ⟨a0,a1⟩:=ZS ha
  obtain ⟨b0,b1⟩:=ZS hb
  obtain ⟨c0,c1⟩:=ZS hc
  obtain ⟨m0,m1⟩:=EO a0 a1 b0 b1
  go_enter Tryz.func168,Tryz.ntmps168
  go_wp2_with (first | (go_at_call 214;refine (UK _ _).mono ?_;rintro e w' ⟨rfl,rfl⟩) | (go_at_call 128;refine (ZZ _ _ _ _).mono ?_;rintro e w' ⟨rfl,rfl⟩))
  go_ret
  exact ⟨rfl,rfl⟩
end Go.Proofs.YtnponpamjddpjaaGreat
