/- Part 17 of what the proof rests on. No condition but those that a theorem names. -/
import Derived.Test.YtnponpamjddpjaaGreatXt16
set_option maxHeartbeats 8000000
set_option maxRecDepth 100000
namespace Go.Proofs.YtnponpamjddpjaaGreat
open Go.ChangeShapes Go.WideShapes Go.ChangeAt Go.RowKit Go.Sort
set_option linter.unusedVariables false
def EA (n₀:Nat) (r:List Z6 × Bool) (e:Ending) (w':World):Prop:= ∃ v',e= .returned (.tuple #[v',.bool r.2])/\EntsAt n₀ w' v' r.1
theorem Kq {ps:List Z6} {e:Z6} (h:YF ps=false):Ux ps e=([],false):=by unfold Ux;rw [h];rfl
theorem OJ {ps:List Z6} {e:Z6} (h:YF ps=true) (h2:YF (Vq ps e)=false):Ux ps e=(ps,false):=by unfold Ux;rw [h,h2];rfl
theorem Rh {ps:List Z6} {e:Z6} (h:YF ps=true) (h2:YF (Vq ps e)=true):Ux ps e=(Vq ps e,true):=by unfold Ux;rw [h,h2];rfl
theorem Pv {w:World} {v:Value} {ps:List Z6} (f z:Int) (h:IsPaces w v ps) :
  Calls Tryz.prog 125 #[v,.agg #[.int .i64 f,.int .i64 z]] w fun e w'=>EA w.heap.size (Ux ps (f,z)) e w'/\Below w.heap.size w w':=by
 have Hv:=Z9 h
 obtain ⟨a,cap,rfl,hc,hm,hr⟩:=h
 clear hr
 cases hq:YF ps
 ·rw [Kq hq]
  go_enter Tryz.func125,Tryz.ntmps125
  go_wp2_with fail
  refine (Yw ((uh Hv).below ((Below.refl _ _).alloc (Nat.le_refl _) _))).mono ?_
  rw [hq]
  rintro e w1 ⟨rfl,hb1⟩
  have B1:Hid (Below w.heap.size w w1):=Z9 (((Below.refl _ _).alloc (Nat.le_refl _) _).trans (hb1.mono (by simp)))
  clear hb1
  go_wp2_with fail
  go_ret2
  exact ⟨⟨_,rfl,Ww rfl (uh B1).size⟩,(uh B1).alloc (uh B1).size _⟩
 ·have hQ:=EH hq
  have hlen:=hQ.len
  have HQ:=Z9 hQ
  clear hQ
  go_enter Tryz.func125,Tryz.ntmps125
  go_wp2_with fail
  refine (Yw ((uh Hv).below ((Below.refl _ _).alloc (Nat.le_refl _) _))).mono ?_
  rw [hq]
  rintro e w1 ⟨rfl,hb1⟩
  have hz1:w.heap.size+1<=w1.heap.size:=by have:=hb1.size;simpa using this
  have c0:w1.cell? ⟨w.heap.size,0,none⟩=some (.int .i64 f):=(hb1.cell (p:=⟨w.heap.size,0,none⟩) (by simp)).trans (by simp)
  have c1:w1.cell? ⟨w.heap.size,1,none⟩=some (.int .i64 z):=(hb1.cell (p:=⟨w.heap.size,1,none⟩) (by simp)).trans (by simp)
  have B1:Hid (Below w.heap.size w w1):=Z9 (((Below.refl _ _).alloc (Nat.le_refl _) _).trans (hb1.mono (by simp)))
  clear hb1
  go_wp2_with fail
  refine (JR ((uh Hv).below (uh B1)) (by omega)).mono ?_
  rintro e w2 ⟨bx,v2,rfl,hbx,hh2,hb2⟩
  have hlt1:w.heap.size<w1.heap.size:=by omega
  have d0:=(hb2.cell (p:=⟨w.heap.size,0,none⟩) hlt1).trans c0
  have d1:=(hb2.cell (p:=⟨w.heap.size,1,none⟩) hlt1).trans c1
  have hz2:=hb2.size
  have H2:=Z9 hh2
  have B2:Hid (Below w.heap.size w w2):=Z9 ((uh B1).trans (hb2.mono (by omega)))
  clear hb2 hh2 c0 c1
  go_wp2_with fail
  refine (Nl f z (uh H2) (Gp (uh HQ).ris) (by omega) hbx hz2).mono ?_
  rintro e w3 ⟨rfl,v3,hs,hh3,hto3,hpe3,hb3⟩
  have hz3:=hb3.size
  have hsl:hs.length=ps.length+1:=by have:=hpe3.length_eq;simpa using this
  have H3:=Z9 hh3
  have T3:=Z9 hto3
  have P3:=Z9 hpe3
  have B3:Hid (Below w.heap.size w w3):=Z9 ((uh B2).trans (hb3.mono (by omega)))
  clear hb3 hh3 hto3 hpe3 d0 d1
  go_wp2_with fail
  refine (Ln (uh H3) (uh T3) (by omega) hbx (by omega)).mono ?_
  rintro e w4 ⟨v4,qs,rfl,hi4,hris4,hpe4,hb4⟩
  obtain rfl:qs=Vq ps (f,z):=KA (uh HQ) hris4 (hpe4.trans (uh P3))
  have hz4:=hb4.size
  obtain ⟨a4,cap4,rfl⟩:=hi4.shape
  have H4:=Z9 hi4
  have B4:Hid (Below w.heap.size w w4):=Z9 ((uh B3).trans (hb4.mono (by omega)))
  clear hi4 hris4 hpe4 hb4 H2 H3 T3 P3
  go_wp2_with fail
  refine (Yw (uh H4).paces).mono ?_
  cases hq2:YF (Vq ps (f,z))
  ·rintro e w5 ⟨rfl,hb5⟩
   have B5:Hid (Below w.heap.size w w5):=Z9 ((uh B4).trans (hb5.mono (by omega)))
   clear hb5
   go_wp2_with fail
   refine (Pf ((uh Hv).below (uh B5)) (by omega)).mono ?_
   rintro e w6 ⟨v6,rfl,hi6,hb6⟩
   obtain ⟨a6,cap6,rfl⟩:=hi6.shape
   have H6:=Z9 hi6
   have B6:Hid (Below w.heap.size w w6):=Z9 ((uh B5).trans (hb6.mono (uh B5).size))
   clear hi6 hb6
   go_wp2_with fail
   go_ret2
   rw [OJ hq hq2]
   exact ⟨⟨_,rfl,(uh H6).mono (uh B5).size⟩,uh B6⟩
  ·rintro e w5 ⟨rfl,hb5⟩
   have H5:=Z9 ((uh H4).later hb5)
   have B5:Hid (Below w.heap.size w w5):=Z9 ((uh B4).trans (hb5.mono (by omega)))
   clear hb5
   go_wp2_with fail
   go_ret2
   rw [Rh hq hq2]
   exact ⟨⟨_,rfl,(uh H5).mono (by omega)⟩,uh B5⟩
structure IV (m:Z3):Prop where
 guilds:Zh m.guilds=true
 lo:∀ i,i<m.smiths.length->(Z8 m.smiths i).1 ≠ 0-> -1<=(Z8 m.smiths i).2.2.2.2.1
 hi:∀ i,i<m.smiths.length->(Z8 m.smiths i).1 ≠ 0->(Z8 m.smiths i).2.2.2.2.1<m.guilds.length
theorem Jm {s:Z4} (h:ZT s=true):s.1 ≠ 0:=fun e=>by unfold ZT at h;rw [e] at h;cases h
theorem TJ {w:World} {v0 v1 v2 v3 v4:Value} {m:Z3} {k:Nat} (h:Smy w v0 v1 v2 v3 v4 m) (hg:Zh m.guilds=true) (hk:k<m.smiths.length) (g0 : -1<=(Z8 m.smiths k).2.2.2.2.1) (g1:(Z8 m.smiths k).2.2.2.2.1<m.guilds.length) :
  Calls Tryz.prog 68 #[.agg #[v0,v1,v2,v3,v4,.int .i64 m.now],.int .i64 (k:Int)] w fun e w'=>e= .returned (.int .i64 (Ym m (k:Int)))/\Below w.heap.size w w':=by
 have hw:Ym m (k:Int)=Qi m.guilds (Z8 m.smiths k):=rfl
 rw [hw]
 clear hw
 have Hv:=Z9 h
 obtain ⟨h0,h1,h2,h3,h4⟩:=h
 obtain ⟨a0,p0,rfl,hc0,hm0⟩:=IsRooms.shape h0
 obtain ⟨a1,p1,rfl,hc1,hm1⟩:=IsRec.shape h1
 obtain ⟨a2,p2,rfl,hc2,hm2,r2⟩:=h2
 obtain ⟨a3,p3,rfl,hc3,hm3⟩:=IsRec.shape h3
 obtain ⟨a4,p4,rfl,hc4,hm4⟩:=IsRec.shape h4
 clear h0 h1 h3 h4
 rcases r2 with e0 | ⟨sb,off,rfl,hbw,hcl⟩
 ·rw [e0] at hk;simp at hk
 obtain ⟨d0,d1,d2,d3,d4,d5,d6,d7,d8,d9,d10⟩:=ZD hcl hk
 clear hcl
 generalize Z8 m.smiths k=ss at *
 obtain ⟨st,be,rk,my,gu,lo,hi,hd,ca,ut,wk⟩:=ss
 simp only at d0 d1 d2 d3 d4 d5 d6 d7 d8 d9 d10 g0 g1
 have Hg:=Z9 hg
 clear hg
 go_enter Tryz.func68,Tryz.ntmps68
 go_wp2_with fail
 have BB:Hid (Below w.heap.size w ((w.alloc (.cells #[.slice a0 m.rooms.length p0,.slice a1 m.guilds.length p1,.slice (some ⟨sb,off,none⟩) m.smiths.length p2,.slice a3 m.desks.length p3,.slice a4 m.paces.length p4,.int .i64 m.now] 32)).alloc (.cells #[.int .i64 st,.int .i64 be,.int .i64 rk,.int .i64 my,.int .i64 gu,.int .i64 lo,.int .i64 hi,.int .i64 hd,.int .i64 ca,.int .i64 ut,.int .i64 wk] 41))):=Z9 (((Below.refl _ _).alloc (Nat.le_refl _) _).alloc (by simp) _)
 have Hv2:=Z9 ((uh Hv).below (uh BB)).guilds
 have ks:=Z9 (Blk.new (w.alloc (.cells #[.slice a0 m.rooms.length p0,.slice a1 m.guilds.length p1,.slice (some ⟨sb,off,none⟩) m.smiths.length p2,.slice a3 m.desks.length p3,.slice a4 m.paces.length p4,.int .i64 m.now] 32)) 41 #[.int .i64 st,.int .i64 be,.int .i64 rk,.int .i64 my,.int .i64 gu,.int .i64 lo,.int .i64 hi,.int .i64 hd,.int .i64 ca,.int .i64 ut,.int .i64 wk])
 simp only [World.size_alloc] at ks
 generalize (w.alloc (.cells #[.slice a0 m.rooms.length p0,.slice a1 m.guilds.length p1,.slice (some ⟨sb,off,none⟩) m.smiths.length p2,.slice a3 m.desks.length p3,.slice a4 m.paces.length p4,.int .i64 m.now] 32)).alloc (.cells #[.int .i64 st,.int .i64 be,.int .i64 rk,.int .i64 my,.int .i64 gu,.int .i64 lo,.int .i64 hi,.int .i64 hd,.int .i64 ca,.int .i64 ut,.int .i64 wk] 41)=W at *
 refine (Re gu lo hi (uh Hv2) (Nm (uh Hg) m.guilds.length gu (uh Hv2) g0 g1 g1)).mono ?_
 rintro e w1 ⟨rfl,hb⟩
 replace ks:=bl ks hb
 replace BB:=bt BB hb
 have x9:=(uh ks).cell (i:=9) (v:= .int .i64 ut) rfl
 clear hb d0 d1 d2 d3 d4 d5 d6 d7 d8 d9 d10
 go_wp2_with (go_at_call 130;refine (Ue _ _ _ _).mono ?_;rintro e w' ⟨rfl,h9⟩;subst w')
 go_ret
 exact ⟨rfl,uh BB⟩
theorem KR (m:Z3) (but:Int) {q:List Z6} {k:Nat} (hk:k<q.length):Vo m but (q.take (k+1))=if (Z7 q k).2=but then Vo m but (q.take k) else Vo m but (q.take k)+Ym m (Z7 q k).2:=by
 have:q.take (k+1)=q.take k++[Z7 q k]:=by
  rw [List.take_succ_eq_append_getElem hk];unfold Z7;simp [List.getD,hk]
 rw [this,KQ]
theorem Ve {w:World} {v0 v1 v2 v3 v4:Value} {m:Z3} (b but:Int) (h:Smy w v0 v1 v2 v3 v4 m) (hG:IV m) (hl:m.smiths.length<=800) :
  Calls Tryz.prog 66 #[.agg #[v0,v1,v2,v3,v4,.int .i64 m.now],.int .i64 b,.int .i64 but] w fun e w'=>e= .returned (.int .i64 (XD m b but))/\Below w.heap.size w w':=by
 have Hv:=Z9 (h.alloc (.cells #[v0,v1,v2,v3,v4,.int .i64 m.now] 32))
 obtain ⟨a0,p0,a1,p1,a2,p2,a3,p3,a4,p4,rfl,rfl,rfl,rfl,rfl,_,_,_,_,_,_,_,_,_,_⟩:=h.five
 clear h
 have HG:=Z9 hG
 clear hG
 go_enter Tryz.func66,Tryz.ntmps66
 go_wp2_with fail
 refine (Ti b (uh Hv) hl).mono ?_
 rintro e w1 ⟨v',rfl,he,hb⟩
 have kb:Hid (Blk w1 w.heap.size 32 #[.slice a0 m.rooms.length p0,.slice a1 m.guilds.length p1,.slice a2 m.smiths.length p2,.slice a3 m.desks.length p3,.slice a4 m.paces.length p4,.int .i64 m.now]):=Z9 ((Blk.new w _ _).below hb (by simp))
 have BB:Hid (Below w.heap.size w w1):=Z9 (((Below.refl _ _).alloc (Nat.le_refl _) _).trans (hb.mono (by simp)))
 replace Hv:=Z9 ((uh Hv).below hb)
 have hq:=Uh m.smiths b m.smiths.length
 have hmem:=Yd m.smiths b
 have Hu:Hid (XD m b but=Vo m but (atV m.smiths b m.smiths.length)):=Z9 rfl
 have hmq:∀ x ∈ atV m.smiths b m.smiths.length,∃ j:Nat,j<m.smiths.length/\ZT (Z8 m.smiths j)=true/\x.2=(j:Int):=fun x hx=>by
  obtain ⟨j,hj,_,hp,rfl⟩:=(hmem x m.smiths.length).1 hx
  exact ⟨j,hj,hp,rfl⟩
 have Hm:=Z9 hmq
 clear hmem hmq hb
 have hp:=EntsAt.paces he
 clear he
 generalize atV m.smiths b m.smiths.length=q at *
 obtain ⟨qa,qc,rfl,hqc,hqm,hr⟩:=hp
 have Hr:=Z9 hr
 clear hr
 go_wp2_with fail
 go_loopw [7,9] (fun n i wr=> ∃ k:Nat,k<=q.length/\i= .int .i64 k/\n= .int .i64 (Vo m but (q.take k))/\Below w1.heap.size w1 wr) (fun _ i _=>q.length-(intOf i).toNat)
 case atStart=>exact ⟨0,Nat.zero_le _,rfl,rfl,Below.refl _ _⟩
 case round=>
  obtain ⟨k,hk,rfl,rfl,hbr⟩:=hrel
  have hub:=MN m but (q.take k)
  have htl:(q.take k).length<=k:=by rw [List.length_take];omega
  by_cases hlt:k<q.length
  ·rcases uh Hr with e0 | ⟨eb,eo,rfl,hbw,hcl⟩
   ·rw [e0] at hlt;simp at hlt
   obtain ⟨c0,c1⟩:=hcl k hlt
   rw [<-hbr.cell (p:=⟨eb,eo+k*2,none⟩) hbw] at c0
   rw [<-hbr.cell (p:=⟨eb,eo+k*2+1,none⟩) hbw] at c1
   obtain ⟨j,hj,hjp,hje⟩:=uh Hm _ (XQ hlt)
   have Hjp:=Z9 (Jm hjp)
   clear hjp
   have hst:=KR m but hlt
   have hwb:=MP m (j:Int)
   rw [hje] at c1 hst
   clear hje hcl
   generalize (Z7 q k).1=hd at *
   have Hst:=Z9 hst
   clear hst
   generalize Vo m but (q.take k)=u at *
   have u1:u<=1024*800:=by omega
   have kb1:=(uh kb).below hbr (uh kb).lt
   have Hv1:=Z9 ((uh Hv).below hbr)
   have Kb1:=Z9 kb1
   have Hbr:=Z9 hbr
   clear hbr kb1
   obtain ⟨x0,x1,x2,x3,x4,x5⟩:=(uh Kb1).c6
   by_cases hbut:(j:Int)=but
   ·have hbn:((j:Int) ==but)=true:=by simpa using hbut
    go_wp2_with fail
    go_roundw
    case rel=>exact ⟨k+1,by omega,by go_num,by rw [uh Hst,if_pos hbut],uh Hbr⟩
    case measure=>simp [intOf];omega
   ·have hbn:((j:Int) ==but)=false:=by simpa using hbut
    have Hw:=Z9 (fun (W:World) (hW:Below wr.heap.size wr W)=>TJ ((uh Hv1).below hW) (uh HG).guilds hj ((uh HG).lo j hj (uh Hjp)) ((uh HG).hi j hj (uh Hjp)))
    generalize Ym m (j:Int)=wa at *
    have y0:=cell_regrown x0
    have y1:=cell_regrown x1
    have y2:=cell_regrown x2
    have y3:=cell_regrown x3
    have y4:=cell_regrown x4
    have y5:=cell_regrown x5
    have z0:=cell_regrown c0
    have z1:=cell_regrown c1
    go_wp2_with fail
    refine wp_region_quiet_below (by kernel_rfl) (by kernel_rfl) ?_
    repeat (go_big_quiet_step (exact Calls.regrown_of (uh Hw _ (below_regrown _ _ _))))
    refine wpQuiet_nil ?_
    intro _ hw'
    obtain ⟨⟨dq,osq⟩,hw''⟩:=hw'
    subst hw''
    go_wp2_with fail
    go_roundw
    case rel=>exact ⟨k+1,by omega,by go_num,by rw [uh Hst,if_neg hbut],(uh Hbr).trans ((below_regrown _ _ _).mono (uh Hbr).size)⟩
    case measure=>simp [intOf];omega
  ·obtain rfl:k=q.length:=by omega
   rw [List.take_length]
   go_wp2_with fail
   go_ret
   exact ⟨Zv (uh Hu).symm,(uh BB).trans (hbr.mono (uh BB).size)⟩
structure Sane (m:Z3):Prop where
 hall:Y4 m.rooms=true
 desks:(m.desks.length:Int)=ZY m.rooms
 guilded:IV m
 few:m.smiths.length<=12
theorem Sane.bench {m:Z3} (h:Sane m) {b:Nat} (hb:b<m.desks.length):Xf m.rooms (b:Int)=true:=Ie h.hall (by omega) (by have:=h.desks;omega)
theorem Sane.eight {m:Z3} (h:Sane m):m.desks.length<=8:=by have:=(Ze h.hall).2.2.2;have:=h.desks;omega
theorem Loose.sane {m:Z3} (h:Loose m):Sane m:=by
 have hd:=h.head
 unfold YS at hd
 simp only [Bool.and_eq_true,decide_eq_true_eq] at hd
 obtain ⟨h1,h2,h3,h4,_⟩:=hd
 refine ⟨h1,h4,⟨h2,fun i hi hs=> ?_,fun i hi hs=>(h.limits hi hs).2.1⟩,h3⟩
 have hp:=(h.limits hi hs).1
 generalize Z8 m.smiths i=s at *
 obtain ⟨st,be,rk,my,gu,lo',hi',hd,ca,ut,wk⟩:=s
 exact (Zg hp).2.2.2.2.1.1
theorem Sane.with {m:Z3} (h:Sane m) {k:Nat} (hk:k<m.smiths.length) (hs:(Z8 m.smiths k).1 ≠ 0) (b:Int):Sane (T6 m (k:Int) b):=by
 have hset:∀ i,Z8 (T6 m (k:Int) b).smiths i=if i=k then Sa (Z8 m.smiths k) b else Z8 m.smiths i:=fun i=>by
  unfold T6
  simp only [Int.toNat_natCast]
  exact ZH hk i
 refine ⟨h.hall,h.desks,⟨h.guilded.guilds,fun i hi hne=> ?_,fun i hi hne=> ?_⟩,by unfold T6;simpa using h.few⟩
 ·have hi':i<m.smiths.length:=by unfold T6 at hi;simpa using hi
  rw [hset] at hne ⊢
  by_cases e:i=k
  ·rw [if_pos e];exact h.guilded.lo k hk hs
  ·rw [if_neg e] at hne ⊢;exact h.guilded.lo i hi' hne
 ·have hi':i<m.smiths.length:=by unfold T6 at hi;simpa using hi
  rw [hset] at hne ⊢
  by_cases e:i=k
  ·rw [if_pos e];exact h.guilded.hi k hk hs
  ·rw [if_neg e] at hne ⊢;exact h.guilded.hi i hi' hne
theorem Sane.few' {m:Z3} (h:Sane m) (hp:m.paces.length<=1000):Few m:=by
 obtain ⟨r1,r2,r3,r4⟩:=Ze h.hall
 have hg:=(Wy h.guilded.guilds).2
 refine ⟨by omega,fun r hr=> ?_,by omega,by have:=h.few;omega,by have:=h.eight;omega,hp⟩
 have hrb:=List.all_eq_true.1 r3 r hr
 unfold Zq at hrb
 simp only [Bool.and_eq_true] at hrb
 have:=ZS hrb.2.1
 omega
theorem SO {w:World} {v:Value} {rs:List Z0} (n:Int) (h:IsRooms w v rs) (hbn:Xf rs n=true) :
  Calls Tryz.prog 100 #[.agg #[v],.int .i64 n] w fun e w'=>e= .returned (.int .i64 (WU rs n))/\Below w.heap.size w w':=by
 obtain ⟨a,cap,rfl,hc,hm,hr⟩:=h
 have Hr:=Z9 hr
 have H:=Z9 hbn
 have hh:=(WA hbn).1
 have hn0:=(WA hbn).2.1
 have hn1:n<12:=by have h1:=(WA hbn).2.2;have:=(Ze hh).2.2.2;omega
 have Hh:=Z9 hh
 have hl3:rs.length<=3:=(Ze hh).2.1
 clear hr hbn hh
 go_enter Tryz.func100,Tryz.ntmps100
 go_wp2_with fail
 go_loop [1,5] (fun q i=> ∃ r:Nat,r<=rs.length/\i= .int .i64 r/\q= .int .i64 (n-ZY (rs.take r))/\(∀ j,j<r->ZY (rs.take (j+1))<=n)) (fun _ i=>rs.length-(intOf i).toNat)
 case atStart=>exact ⟨0,Nat.zero_le _,rfl,by simp [ZY],fun j hj=>by omega⟩
 case round=>
  obtain ⟨r,hr,rfl,rfl,hl⟩:=hrel
  have hlt:=RP (uh H) hr hl
  rcases uh Hr with e0 | ⟨b,off,rfl,hbw,hcl⟩
  ·rw [e0] at hlt;simp at hlt
  obtain ⟨c0,pv,c1,hip⟩:=hcl r hlt
  have hne:b ≠ w.heap.size:=Nat.ne_of_lt hbw
  have Hl:=Z9 hl
  have hb0:=Sd (uh Hh) r hr
  have hb1:=Sd (uh Hh) (r+1) hlt
  have Hs:=Z9 (X9 rs hlt)
  have HN:Hid (n<ZY (rs.take (r+1))->WU rs n=r):=Z9 (fun hx=>My hlt hx (uh Hl))
  have HM:Hid (ZY (rs.take (r+1))<=n-> ∀ j,j<r+1->ZY (rs.take (j+1))<=n):=Z9 (fun hx=>Yn (uh Hl) hx)
  rw [X9 rs hlt] at hb1 HN HM
  generalize ZY (rs.take r)=s at *
  generalize (ZV rs r).1=rb at *
  clear hcl hip hl
  by_cases hq:rb<=n-s
  ·go_wp2_with fail
   go_round
   case rel=>exact ⟨r+1,by omega,by go_num,by rw [uh Hs];congr 1;omega,uh HM (by omega)⟩
   case measure=>simp [intOf];omega
  ·go_wp2_with fail
   go_ret
   exact ⟨Zv (by rw [uh HN (by omega)]),(Below.refl _ _).alloc (Nat.le_refl _) _⟩
theorem Fj {w:World} {a:Option Addr} {cap:Nat} {rs:List Z0} {r:Nat} (h:IsRooms w (.slice a rs.length cap) rs) (hr:r<rs.length) (hh:Y4 rs=true) :
  ∃ b off a' cap',a=some ⟨b,off,none⟩/\b<w.heap.size/\w.cell? ⟨b,off+r*2+1,none⟩=some (.slice (some a') (ZV rs r).2.length cap')/\1<=(ZV rs r).2.length/\(ZV rs r).2.length<=4/\a'.spot=none/\a'.block<w.heap.size/\w.cell? ⟨a'.block,a'.off+((ZV rs r).2.length-1)*2,none⟩=some (.int .i64 (VK (ZV rs r).2)):=by
 obtain ⟨a0,cap0,he,hc,hm,hr'⟩:=h
 cases he
 rcases hr' with e0 | ⟨b,off,rfl,hbw,hcl⟩
 ·rw [e0] at hr;simp at hr
 obtain ⟨_,pv,c1,hip⟩:=hcl r hr
 have hb:=Ny (QV (Ze hh).2.2.1 hr)
 obtain ⟨pa,pcap,rfl,_,_,hp⟩:=hip
 rcases hp with e1 | ⟨b',off',rfl,hbw',hcl'⟩
 ·rw [e1] at hb;simp at hb
 ·exact ⟨b,off,⟨b',off',none⟩,pcap,rfl,hbw,c1,hb.2.2.1,hb.2.2.2,rfl,hbw',(hcl' _ (by omega)).1⟩
theorem Iz {s:Int} (h0:0<=s) (h1:s<=12):1<=(2:Int) ^ s.toNat/\(2:Int) ^ s.toNat<=4096:=by
 have key:∀ k:Fin 13,1<=(2:Int) ^ k.val/\(2:Int) ^ k.val<=4096:=by decide
 exact key ⟨s.toNat,by omega⟩
theorem KW {x:Int} (h0 : -100000<=x) (h1:x<=100000):wrap64 x=x:=by unfold wrap64;omega
theorem TN (b:Int) (h0:0<=b) (h1:b<=12) (w:World):Calls Tryz.prog 268 #[.int .i64 b] w fun e w'=>e= .returned (.int .i64 (2 ^ b.toNat))/\w'=w:=by
 go_enter Tryz.func268,Tryz.ntmps268
 go_wp2
 all_goals
  go_ret
  refine ⟨Zv ?_,rfl⟩
  have:=Iz h0 h1
  exact KW (by omega) (by omega)
theorem Zc {w:World} {v0 v1 v2 v3 v4:Value} {m:Z3} {q:Bool} (hq:ZK m=q) (h:Smy w v0 v1 v2 v3 v4 m):Calls Tryz.prog 20 #[.agg #[v0,v1,v2,v3,v4,.int .i64 m.now]] w fun e w'=>e= .returned (.bool q)/\Below w.heap.size w w':=by
 have:=RW h;rw [hq] at this;exact this
theorem Pz {w:World} {v0 v1 v2 v3 v4:Value} {m:Z3} {b:Int} {q:Bool} (hq:Vu m b=q) (h:Smy w v0 v1 v2 v3 v4 m) :
  Calls Tryz.prog 64 #[.agg #[v0,v1,v2,v3,v4,.int .i64 m.now],.int .i64 b] w fun e w'=>e= .returned (.bool q)/\Below w.heap.size w w':=by
 have hq2:inB b 0 ((m.desks.length:Int)-1)=q:=hq
 clear hq
 obtain ⟨a0,p0,rfl,_,_⟩:=IsRooms.shape h.rooms
 obtain ⟨a1,p1,rfl,_,_⟩:=IsRec.shape h.guilds
 obtain ⟨a2,p2,rfl,_,_⟩:=IsRec.shape h.smiths
 obtain ⟨a3,p3,rfl,hc3,hm3⟩:=IsRec.shape h.desks
 obtain ⟨a4,p4,rfl,_,_⟩:=IsRec.shape h.paces
 clear h
 go_enter Tryz.func64,Tryz.ntmps64
 go_wp2_with (go_at_call 128;refine (ZZ _ _ _ _).mono ?_;rw [hq2];rintro e w' ⟨rfl,h9⟩;subst w')
 go_ret
 exact ⟨rfl,(Below.refl _ _).alloc (Nat.le_refl _) _⟩
def Qp (m:Z3) (r:Int):Bool:=inB r 0 ((m.rooms.length:Int)-1)
theorem Jq {m:Z3} {b:Int} (h:Qp m b=true):∃ k:Nat,b=(k:Int)/\k<m.rooms.length:=by
 have:=ZS (show inB b 0 ((m.rooms.length:Int)-1)=true from h)
 exact ⟨b.toNat,by omega,by omega⟩
theorem Ik {w:World} {v0 v1 v2 v3 v4:Value} {m:Z3} {b:Int} {q:Bool} (hq:Qp m b=q) (h:Smy w v0 v1 v2 v3 v4 m) :
  Calls Tryz.prog 95 #[.agg #[v0,v1,v2,v3,v4,.int .i64 m.now],.int .i64 b] w fun e w'=>e= .returned (.bool q)/\Below w.heap.size w w':=by
 have hq2:inB b 0 ((m.rooms.length:Int)-1)=q:=hq
 clear hq
 obtain ⟨a0,p0,rfl,hc3,hm3⟩:=IsRooms.shape h.rooms
 obtain ⟨a1,p1,rfl,_,_⟩:=IsRec.shape h.guilds
 obtain ⟨a2,p2,rfl,_,_⟩:=IsRec.shape h.smiths
 obtain ⟨a3,p3,rfl,_,_⟩:=IsRec.shape h.desks
 obtain ⟨a4,p4,rfl,_,_⟩:=IsRec.shape h.paces
 clear h
 go_enter Tryz.func95,Tryz.ntmps95
 go_wp2_with (go_at_call 128;refine (ZZ _ _ _ _).mono ?_;rw [hq2];rintro e w' ⟨rfl,h9⟩;subst w')
 go_ret
 exact ⟨rfl,(Below.refl _ _).alloc (Nat.le_refl _) _⟩
set_option maxRecDepth 100000
theorem GO {m:Z3} {b:Int} {k:Nat} (hk:k<(ZU (atB b) m.smiths m.smiths.length).length):∃ i:Nat,i<m.smiths.length/\Z8 (ZU (atB b) m.smiths m.smiths.length) k=(i:Int):=by
 obtain ⟨i,hi,e,_⟩:=(Xc (atB b) m.smiths _ m.smiths.length).1 (Tr hk)
 exact ⟨i,hi,e⟩
theorem Ms {w:World} {v0 v1 v2 v3 v4:Value} {m:Z3} (b:Int) (h:Smy w v0 v1 v2 v3 v4 m) (hL:Loose m):Calls Tryz.prog 55 #[.agg #[v0,v1,v2,v3,v4,.int .i64 m.now],.int .i64 b] w fun e w'=> ∃ v',e= .returned v'/\EntsAt w.heap.size w' v' (atV m.smiths b m.smiths.length)/\Below w.heap.size w w':=by
 have Hv:=Z9 ((h.alloc (.cells #[v0,v1,v2,v3,v4,.int .i64 m.now] 32)).alloc (.cells #[] 45))
 have HV0:=Z9 h
 obtain ⟨a0,p0,a1,p1,a2,p2,a3,p3,a4,p4,rfl,rfl,rfl,rfl,rfl,_,_,_,_,_,_,_,_,_,_⟩:=h.five
 clear h
 have hl:m.smiths.length<=1000:=by have:=(XF hL).smiths;omega
 have HL:=Z9 hL
 clear hL
 have kb:Hid (Blk ((w.alloc (.cells #[.slice a0 m.rooms.length p0,.slice a1 m.guilds.length p1,.slice a2 m.smiths.length p2,.slice a3 m.desks.length p3,.slice a4 m.paces.length p4,.int .i64 m.now] 32)).alloc (.cells #[] 45)) w.heap.size 32 #[.slice a0 m.rooms.length p0,.slice a1 m.guilds.length p1,.slice a2 m.smiths.length p2,.slice a3 m.desks.length p3,.slice a4 m.paces.length p4,.int .i64 m.now]):=Z9 ((Blk.new w _ _).alloc _)
 have BB:Hid (Below w.heap.size w ((w.alloc (.cells #[.slice a0 m.rooms.length p0,.slice a1 m.guilds.length p1,.slice a2 m.smiths.length p2,.slice a3 m.desks.length p3,.slice a4 m.paces.length p4,.int .i64 m.now] 32)).alloc (.cells #[] 45))):=Z9 (((Below.refl _ _).alloc (Nat.le_refl _) _).alloc (by simp) _)
 have HE:Hid (EntsAt w.heap.size ((w.alloc (.cells #[.slice a0 m.rooms.length p0,.slice a1 m.guilds.length p1,.slice a2 m.smiths.length p2,.slice a3 m.desks.length p3,.slice a4 m.paces.length p4,.int .i64 m.now] 32)).alloc (.cells #[] 45)) (.slice (some ⟨w.heap.size+1,0,none⟩) 0 0) []):=Z9 (Ww (by simp) (by simp))
 go_enter Tryz.func55,Tryz.ntmps55
 go_upto_region 2 with fail
 generalize (w.alloc (.cells #[.slice a0 m.rooms.length p0,.slice a1 m.guilds.length p1,.slice a2 m.smiths.length p2,.slice a3 m.desks.length p3,.slice a4 m.paces.length p4,.int .i64 m.now] 32)).alloc (.cells #[] 45)=W at *
 obtain ⟨c0,c1,c2,c3,c4,c5⟩:=(uh kb).c6
 go_wp2_with fail
 refine (Rr b (uh Hv) hl).mono ?_
 rintro e w1 ⟨vn,rfl,hn,hb⟩
 obtain ⟨na,nc,rfl⟩:=RecAt.shape hn
 have HN0:=Z9 (RecAt.mono hn (uh BB).size)
 have Hv1:=Z9 ((uh Hv).below hb)
 have kb1:=Z9 ((uh kb).below hb (uh kb).lt)
 have BB1:=Z9 ((uh BB).trans (hb.mono (uh BB).size))
 have HE1:=Z9 ((uh HE).later hb)
 clear hb hn c0 c1 c2 c3 c4 c5 Hv kb BB HE
 have Hq:=Z9 (SR m.smiths b m.smiths.length)
 have Hwh:=Z9 (fun k hk=>GO (m:=m) (b:=b) (k:=k) hk)
 have Hpq:=Z9 (fun k=>Kl (uh HL) b k)
 have hwl:=Wm (atB b) m.smiths m.smiths.length
 generalize ZU (atB b) m.smiths m.smiths.length=ws at *
 go_wp2_with fail
 go_loopw [5,13] (fun l i wr=> ∃ k:Nat,k<=ws.length/\i= .int .i64 k/\EntsAt w.heap.size wr l (Ws m.smiths (ws.take k))/\NumsAt w.heap.size wr (.slice na ws.length nc) ws/\Blk wr w.heap.size 32 #[.slice a0 m.rooms.length p0,.slice a1 m.guilds.length p1,.slice a2 m.smiths.length p2,.slice a3 m.desks.length p3,.slice a4 m.paces.length p4,.int .i64 m.now]/\Smy wr (.slice a0 m.rooms.length p0) (.slice a1 m.guilds.length p1) (.slice a2 m.smiths.length p2) (.slice a3 m.desks.length p3) (.slice a4 m.paces.length p4) m/\Below w.heap.size w wr) (fun _ i _=>ws.length-(intOf i).toNat)
 case atStart=>exact ⟨0,Nat.zero_le _,rfl,uh HE1,uh HN0,uh kb1,uh Hv1,uh BB1⟩
 case round=>
  obtain ⟨k,hk,rfl,he,hn,hkb,hv,hb0⟩:=hrel
  obtain ⟨la,lc,rfl⟩:=EntsAt.shape he
  have HE:=Z9 he
  have HN:=Z9 hn
  have kb:=Z9 hkb
  have Hv:=Z9 hv
  have BB:=Z9 hb0
  clear he hn hkb hv hb0 HE1 HN0 kb1 Hv1 BB1
  by_cases hlt:k<ws.length
  ·have hlt1:(k:Int)<(ws.length:Int):=by omega
   obtain ⟨g,hga,_,_,hcl,_⟩:=RecAt.view YJ (by omega) (uh HN) rfl (by omega)
   cases hga
   have z0:=hcl k hlt 0 _ rfl
   simp only [Nat.mul_one,Nat.add_zero] at z0
   obtain ⟨i,hi,hiw⟩:=uh Hwh k hlt
   rw [hiw] at z0
   have hi1:(i:Int)<(m.smiths.length:Int):=by omega
   obtain ⟨_,_,hse,_,_,r2⟩:=(uh Hv).smiths
   cases hse
   rcases r2 with e0 | ⟨sb,off,rfl,hbw,hcs⟩
   ·rw [e0] at hi;simp at hi
   obtain ⟨_,_,_,_,_,_,_,d7,_⟩:=ZD hcs hi
   have HT:Hid (Ws m.smiths (ws.take (k+1))=Vq (Ws m.smiths (ws.take k)) (XL (Z8 m.smiths i),(i:Int))):=Z9 (by rw [NI hlt,Su,hiw];simp)
   have hq1:=uh Hpq k
   have hq2:=uh Hpq (k+1)
   rw [uh HT] at hq2
   have HQ:=Z9 (Rh hq1 hq2)
   clear hcl hcs hq1 hq2
   have e7:(Z8 m.smiths i).2.2.2.2.2.2.2.1=XL (Z8 m.smiths i):=rfl
   rw [e7] at d7
   clear e7
   generalize XL (Z8 m.smiths i)=hd at *
   have c2:=(uh kb).cell (i:=2) (v:= .slice (some ⟨sb,off,none⟩) m.smiths.length p2) rfl
   go_wp2_with fail
   refine (Pv hd (i:Int) (uh HE).paces).mono ?_
   rw [uh HQ]
   rintro e w2 ⟨⟨v',rfl,he⟩,hb⟩
   obtain ⟨ua,uc,rfl⟩:=EntsAt.shape he
   have HE2:=Z9 (he.mono (uh BB).size)
   replace HN:=Z9 (RecAt.later (uh HN) hb)
   replace kb:=bl kb hb
   replace Hv:=Z9 ((uh Hv).below hb)
   replace BB:=bt BB hb
   clear hb he c2 d7 z0
   go_wp2_with fail
   go_roundw
   case rel=>exact ⟨k+1,by omega,by go_num,by rw [uh HT];exact uh HE2,uh HN,uh kb,uh Hv,uh BB⟩
   case measure=>simp [intOf];omega
  ·obtain rfl:k=ws.length:=by omega
   have HE3:Hid (EntsAt w.heap.size wr (.slice la (Ws m.smiths (ws.take ws.length)).length lc) (atV m.smiths b m.smiths.length)):=Z9 (by
    have h9:=uh HE
    have e9:Ws m.smiths (ws.take ws.length)=atV m.smiths b m.smiths.length:=by rw [List.take_length,uh Hq]
    rw [<-e9]
    exact h9)
   go_wp2_with fail
   go_ret
   exact ⟨_,rfl,uh HE3,uh BB⟩
theorem Th {ps:List Z6} (h:(YF ps && decide (0<ps.length))=false):Ul ps=((0,0),false):=by unfold Ul;rw [h];rfl
theorem Pm {ps:List Z6} (h:YF ps=true) (hl:0<ps.length):Ul ps=(Z7 ps 0,true):=by unfold Ul;rw [h,decide_eq_true hl];rfl
theorem Qy {w:World} {v:Value} {ps:List Z6} (h:IsPaces w v ps) :
  Calls Tryz.prog 151 #[v] w fun e w'=>e= .returned (.tuple #[.agg #[.int .i64 (Ul ps).1.1,.int .i64 (Ul ps).1.2],.bool (Ul ps).2])/\Below w.heap.size w w':=by
 have Hv:=Z9 h
 obtain ⟨a,cap,rfl,hc,hm,hr⟩:=h
 cases hq:YF ps
 ·rw [Th (by rw [hq];rfl)]
  clear hr
  go_enter Tryz.func151,Tryz.ntmps151
  go_wp2_with fail
  refine (Yw ((uh Hv).below ((Below.refl _ _).alloc (Nat.le_refl _) _))).mono ?_
  rw [hq]
  rintro e w1 ⟨rfl,hb⟩
  have Hb:=Z9 hb
  have hsz:=hb.size
  simp at hsz
  obtain ⟨k1,k2⟩:=NR hb
  clear hb
  go_wp2_with fail
  exact bodyPost_ret (v:= .tuple #[.agg #[.int .i64 0,.int .i64 0],.bool false]) (by simp [results,Tryz.results151,go_sem,k1]) rfl ⟨rfl,((((Below.refl _ _).alloc (Nat.le_refl _) _).trans ((uh Hb).mono (by simp))).setCell (by simp) _).setCell (by simp) _⟩
 ·rcases hr with hr | ⟨b,off,rfl,hbw,hcl⟩
  ·subst hr
   rw [Th (by simp)]
   go_enter Tryz.func151,Tryz.ntmps151
   go_wp2_with fail
   refine (Yw ((uh Hv).below ((Below.refl _ _).alloc (Nat.le_refl _) _))).mono ?_
   rw [hq]
   rintro e w1 ⟨rfl,hb⟩
   have Hb:=Z9 hb
   have hsz:=hb.size
   simp at hsz
   obtain ⟨k1,k2⟩:=NR hb
   clear hb
   go_wp2_with fail
   exact bodyPost_ret (v:= .tuple #[.agg #[.int .i64 0,.int .i64 0],.bool false]) (by simp [results,Tryz.results151,go_sem,k1]) rfl ⟨rfl,((((Below.refl _ _).alloc (Nat.le_refl _) _).trans ((uh Hb).mono (by simp))).setCell (by simp) _).setCell (by simp) _⟩
  ·by_cases hl:0<ps.length
   ·rw [Pm hq hl]
    obtain ⟨c0,c1⟩:=hcl 0 hl
    simp only [Nat.zero_mul,Nat.add_zero] at c0 c1
    generalize Z7 ps 0=p at *
    obtain ⟨f,z⟩:=p
    simp only at c0 c1
    have hl2:(ps.length ==0)=false:=beq_eq_false_iff_ne.2 (by omega)
    have hl3:((ps.length:Int) ==0)=false:=beq_eq_false_iff_ne.2 (by omega)
    have hne:b ≠ w.heap.size:=Nat.ne_of_lt hbw
    clear hcl
    go_enter Tryz.func151,Tryz.ntmps151
    go_wp2_with fail
    refine (Yw ((uh Hv).below ((Below.refl _ _).alloc (Nat.le_refl _) _))).mono ?_
    rw [hq]
    rintro e w1 ⟨rfl,hb⟩
    have Hb:=Z9 hb
    have hsz:=hb.size
    simp at hsz
    have c0':=(hb.cell (p:=⟨b,off,none⟩) (by simp;omega)).trans ((World.cell?_alloc_old _ _ _ hne).trans c0)
    have c1':=(hb.cell (p:=⟨b,off+1,none⟩) (by simp;omega)).trans ((World.cell?_alloc_old _ _ _ hne).trans c1)
    obtain ⟨k1,k2⟩:=NR hb
    clear hb c0 c1
    go_wp2_with fail
    exact bodyPost_ret (v:= .tuple #[.agg #[.int .i64 f,.int .i64 z],.bool true]) (by simp [results,Tryz.results151,go_sem,k1]) rfl ⟨rfl,((((Below.refl _ _).alloc (Nat.le_refl _) _).trans ((uh Hb).mono (by simp))).setCell (by simp) _).setCell (by simp) _⟩
   ·obtain rfl:ps=[]:=List.eq_nil_of_length_eq_zero (by omega)
    rw [Th (by simp)]
    clear hcl
    go_enter Tryz.func151,Tryz.ntmps151
    go_wp2_with fail
    refine (Yw ((uh Hv).below ((Below.refl _ _).alloc (Nat.le_refl _) _))).mono ?_
    rw [hq]
    rintro e w1 ⟨rfl,hb⟩
    have Hb:=Z9 hb
    have hsz:=hb.size
    simp at hsz
    obtain ⟨k1,k2⟩:=NR hb
    clear hb
    go_wp2_with fail
    exact bodyPost_ret (v:= .tuple #[.agg #[.int .i64 0,.int .i64 0],.bool false]) (by simp [results,Tryz.results151,go_sem,k1]) rfl ⟨rfl,((((Below.refl _ _).alloc (Nat.le_refl _) _).trans ((uh Hb).mono (by simp))).setCell (by simp) _).setCell (by simp) _⟩
def YC (v0 v1 v2 v3 v4:Value) (qs:List (Z0 × Value)) (k:Nat):Prop:=v0.ownBlock=some k\/(∃ q ∈ qs,q.2.ownBlock=some k)\/v1.ownBlock=some k\/v2.ownBlock=some k\/v3.ownBlock=some k\/v4.ownBlock=some k
section
variable {n₀ : Nat} {w w' : World} {v0 v1 v2 v3 v4 : Value} {m : Z3} {qs : List (Z0 × Value)}
theorem FullSmy.own (h:FullSmy n₀ w v0 v1 v2 v3 v4 m qs) {k:Nat} (e:YC v0 v1 v2 v3 v4 qs k):n₀<=k/\k<w.heap.size:=by
 rcases e with e | e | e | e | e | e
 ·exact h.hall.lt (.inl e)
 ·exact h.hall.lt (.inr e)
 ·exact RecAt.lt h.guilds e
 ·exact RecAt.lt h.smiths e
 ·exact RecAt.lt h.desks e
 ·exact RecAt.lt h.paces e
theorem FullSmy.keep (h:FullSmy n₀ w v0 v1 v2 v3 v4 m qs) (hs:∀ k,YC v0 v1 v2 v3 v4 qs k->w'.heap[k]?=w.heap[k]?):FullSmy n₀ w' v0 v1 v2 v3 v4 m qs:=
 ⟨⟨XX h.hall.row (fun k e=>hs k (.inl e)),fun q hq=>XX (h.hall.paces q hq) (fun k e=>hs k (.inr (.inl ⟨q,hq,e⟩))),h.hall.off,h.hall.apart⟩,h.rooms,RecAt.same h.guilds fun k e=>hs k (.inr (.inr (.inl e))),RecAt.same h.smiths fun k e=>hs k (.inr (.inr (.inr (.inl e)))),RecAt.same h.desks fun k e=>hs k (.inr (.inr (.inr (.inr (.inl e))))),RecAt.same h.paces fun k e=>hs k (.inr (.inr (.inr (.inr (.inr e))))),h.h1,h.h2,h.h3,h.h4,h.a12,h.a13,h.a14,h.a23,h.a24,h.a34⟩
end
end Go.Proofs.YtnponpamjddpjaaGreat
namespace Go.Proofs.YtnponpamjddpjaaGreat
open Go.ChangeShapes Go.WideShapes Go.ChangeAt Go.RowKit Go.Sort
set_option linter.unusedVariables false
theorem FullSmy.set_off {n₀:Nat} {w:World} {v0 v1 v2 v3 v4:Value} {m:Z3} {qs:List (Z0 × Value)} (h:FullSmy n₀ w v0 v1 v2 v3 v4 m qs) {g:Nat} (ho:∀ k,(v0.ownBlock=some k\/(∃ q ∈ qs,q.2.ownBlock=some k)\/v1.ownBlock=some k\/v2.ownBlock=some k\/v3.ownBlock=some k\/v4.ownBlock=some k)->k ≠ g) (o:Nat) (u:Value):FullSmy n₀ (w.setCell ⟨g,o,none⟩ u) v0 v1 v2 v3 v4 m qs:=by
 have hne:∀ k,k ≠ g->(w.setCell ⟨g,o,none⟩ u).heap[k]?=w.heap[k]?:=fun k hk=>heap_setCell_other w _ k u hk
 exact ⟨h.hall.same2 fun k e=>hne k (ho k (by rcases e with e | e;exact .inl e;exact .inr (.inl e))),h.rooms,RecAt.same h.guilds fun k e=>hne k (ho k (.inr (.inr (.inl e)))),RecAt.same h.smiths fun k e=>hne k (ho k (.inr (.inr (.inr (.inl e))))),RecAt.same h.desks fun k e=>hne k (ho k (.inr (.inr (.inr (.inr (.inl e)))))),RecAt.same h.paces fun k e=>hne k (ho k (.inr (.inr (.inr (.inr (.inr e)))))),h.h1,h.h2,h.h3,h.h4,h.a12,h.a13,h.a14,h.a23,h.a24,h.a34⟩
theorem YO (n₀:Nat) (w:World):FullSmy n₀ w (.slice none 0 0) (.slice none 0 0) (.slice none 0 0) (.slice none 0 0) (.slice none 0 0) YB []:=by
 have hz:OZ (.slice none 0 0) (.slice none 0 0):=fun b e=>by cases e
 exact ⟨OwnHall.nil _ _,rfl,World.ownsRow_nil _ _ _ _,World.ownsRow_nil _ _ _ _,World.ownsRow_nil _ _ _ _,World.ownsRow_nil _ _ _ _,⟨hz,fun q hq=>by cases hq⟩,⟨hz,fun q hq=>by cases hq⟩,⟨hz,fun q hq=>by cases hq⟩,⟨hz,fun q hq=>by cases hq⟩,hz,hz,hz,hz,hz,hz⟩
def WY (n₀:Nat) (M:Z3) (c:Int) (e:Ending) (w':World):Prop:=
 ∃ u0 u1 u2 u3 u4 qs,e= .returned (.tuple #[.agg #[u0,u1,u2,u3,u4,.int .i64 M.now],.int .i64 c])/\FullSmy n₀ w' u0 u1 u2 u3 u4 M qs
theorem Vw {w:World} {v0 v1 v2 v3 v4:Value} {m:Z3} {who:Int} {q:Bool} (hq:Vb m who=q) (h:Smy w v0 v1 v2 v3 v4 m) :
  Calls Tryz.prog 67 #[.agg #[v0,v1,v2,v3,v4,.int .i64 m.now],.int .i64 who] w fun e w'=>e= .returned (.bool q)/\Below w.heap.size w w':=by
 subst hq
 obtain ⟨a0,p0,rfl,_,_⟩:=IsRooms.shape h.rooms
 obtain ⟨a1,p1,rfl,_,_⟩:=IsRec.shape h.guilds
 obtain ⟨a2,p2,rfl,hc2,hm2,r2⟩:=h.smiths
 obtain ⟨a3,p3,rfl,_,_⟩:=IsRec.shape h.desks
 obtain ⟨a4,p4,rfl,_,_⟩:=IsRec.shape h.paces
 clear h
 have Ba:Hid (Below w.heap.size w (w.alloc (.cells #[.slice a0 m.rooms.length p0,.slice a1 m.guilds.length p1,.slice a2 m.smiths.length p2,.slice a3 m.desks.length p3,.slice a4 m.paces.length p4,.int .i64 m.now] 32))):=Z9 ((Below.refl _ _).alloc (Nat.le_refl _) _)
 cases hi:inB who 0 ((m.smiths.length:Int)-1)
 ·have hw:Vb m who=false:=by unfold Vb;rw [hi];rfl
  have Hi:=Z9 hi
  rw [hw]
  clear hi hw r2
  go_enter Tryz.func67,Tryz.ntmps67
  go_wp2_with (go_at_call 128;refine (ZZ _ _ _ _).mono ?_;rw [uh Hi];rintro e w' ⟨rfl,h9⟩;subst w')
  go_ret
  exact ⟨rfl,uh Ba⟩
 ·obtain ⟨i0,i1⟩:=ZS hi
  obtain ⟨k,rfl⟩:∃ k:Nat,who=k:=⟨who.toNat,by omega⟩
  have hk:k<m.smiths.length:=by omega
  have hw:Vb m (k:Int)= !((Z8 m.smiths k).1 ==0):=by unfold Vb;rw [hi];simp
  rcases r2 with e0 | ⟨sb,off,rfl,hbw,hcl⟩
  ·rw [e0] at hk;simp at hk
  obtain ⟨d0,_⟩:=ZD hcl hk
  have Hi:=Z9 hi
  rw [hw]
  clear hi hw hcl
  have hk1:(k:Int)<(m.smiths.length:Int):=by omega
  generalize (Z8 m.smiths k).1=st at *
  go_enter Tryz.func67,Tryz.ntmps67
  go_wp2_with (go_at_call 128;refine (ZZ _ _ _ _).mono ?_;rw [uh Hi];rintro e w' ⟨rfl,h9⟩;subst w')
  go_ret
  exact ⟨rfl,uh Ba⟩
open Go.ChangeShapes Go.WideShapes Go.ChangeAt Go.RowKit
theorem Vm (u x n:Int) (w:World):Calls Tryz.prog 291 #[.int .i64 u,.int .i64 x,.int .i64 n] w fun e w'=>e= .returned (.int .i64 (ZM u x n))/\w'=w:=by
 refine E7 u x n 0 1024 0 1024 0 1000 ?_ ?_ ?_ ?_
 ·intro ha
  have hv:ZM u x n= -1:=by simp [ZM,ha]
  rw [hv];clear hv
  go_enter Tryz.func291,Tryz.ntmps291
  go_wp2_with (first | (go_at_call 142;refine (Vg _ _).mono ?_;rintro e w' ⟨rfl,rfl⟩) | (go_at_call 128;refine (ZZ _ _ _ _).mono ?_;rintro e w' ⟨rfl,rfl⟩))
  go_ret
  exact ⟨rfl,rfl⟩
 ·intro ha hb
  have hv:ZM u x n= -1:=by simp [ZM,hb]
  rw [hv];clear hv
  go_enter Tryz.func291,Tryz.ntmps291
  go_wp2_with (first | (go_at_call 142;refine (Vg _ _).mono ?_;rintro e w' ⟨rfl,rfl⟩) | (go_at_call 128;refine (ZZ _ _ _ _).mono ?_;rintro e w' ⟨rfl,rfl⟩))
  go_ret
  exact ⟨rfl,rfl⟩
 ·intro ha hb hc
  have hv:ZM u x n= -1:=by simp [ZM,hc]
  rw [hv];clear hv
  go_enter Tryz.func291,Tryz.ntmps291
  go_wp2_with (first | (go_at_call 142;refine (Vg _ _).mono ?_;rintro e w' ⟨rfl,rfl⟩) | (go_at_call 128;refine (ZZ _ _ _ _).mono ?_;rintro e w' ⟨rfl,rfl⟩))
  go_ret
  exact ⟨rfl,rfl⟩
 ·intro ha hb hc
  have hv:ZM u x n=Si x n.toNat u:=by simp [ZM,ha,hb,hc]
  rw [hv];clear hv
  obtain ⟨a0,a1⟩:=ZS ha
  obtain ⟨b0,b1⟩:=ZS hb
  obtain ⟨c0,c1⟩:=ZS hc
  obtain ⟨m,rfl⟩:=Int.eq_ofNat_of_zero_le c0
  rw [Int.toNat_natCast]
  go_enter Tryz.func291,Tryz.ntmps291
  go_wp2_with (first | (go_at_call 142;refine (Vg _ _).mono ?_;rintro e w' ⟨rfl,rfl⟩) | (go_at_call 128;refine (ZZ _ _ _ _).mono ?_;rintro e w' ⟨rfl,rfl⟩))
  go_loop [0,2] (fun s i=> ∃ k:Nat,k<=m/\i= .int .i64 ((m:Int)-k)/\s= .int .i64 (Si x k u)) (fun _ i=>(intOf i).toNat)
  case atStart=>exact ⟨0,Nat.zero_le _,by simp,rfl⟩
  case round=>
   obtain ⟨k,hk,rfl,rfl⟩:=hrel
   obtain ⟨f1,f2⟩:=Lp x b0 b1 k u a0 a1
   have Hs:=Z9 (Pk x k u)
   generalize hz:Si x k u=z at *
   have Hz:=Z9 hz
   clear hz
   by_cases hlt:k<m
   ·go_wp2_with fail
    go_round
    case rel=>exact ⟨k+1,by omega,by go_num,by rw [uh Hs]⟩
    case measure=>simp [intOf];omega
   ·go_wp2_with fail
    go_ret
    exact ⟨Zv (by rw [<-uh Hz,show k=m from by omega]),rfl⟩
end Go.Proofs.YtnponpamjddpjaaGreat
