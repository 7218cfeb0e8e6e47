/- Part 25 of what the proof rests on. No condition but those that a theorem names. -/
import Derived.Test.YtjhijildaceadaaGreatDoorXa24
set_option maxHeartbeats 8000000
set_option maxRecDepth 100000
namespace Go.Proofs.YtjhijildaceadaaGreatDoor
open Go.ChangeShapes Go.WideShapes Go.ChangeAt Go.RowKit Go.Sort
set_option linter.unusedVariables false
variable {w w' w0 w1 w2 w3 w₀ wr W W' X A B C : World} {v v0 v1 v2 v3 v4 u u0 u1 u2 u3 u4 : Value} {m : Z4}
theorem Cn {ps:List Z6} {k:Nat} {p:Z6} (hp:Z7 ps k=p) (h:Nn p=false):V8 ps k=false:=by unfold V8;rw [hp];simp [h]
theorem Co {ps:List Z6} {k:Nat} {p q:Z6} (hz:0<k) (hp:Z7 ps k=p) (hq:Z7 ps (k-1)=q) (h:ltB q p=false):V8 ps k=false:=by unfold V8;rw [hp,hq];simp [h];omega
theorem Cp {ps:List Z6} {k:Nat} {f z:Int} (hp:Z7 ps k=(f,z)) (h:0<=Wc (ps.take k) z):V8 ps k=false:=by unfold V8;rw [hp];simp;intros;exact h
theorem Cq {ps:List Z6} {k:Nat} {f z:Int} {q:Z6} (hz:0<k) (hp:Z7 ps k=(f,z)) (hq:Z7 ps (k-1)=q) (h1:Nn (f,z)=true) (h2:ltB q (f,z)=true) (h:Wc (ps.take k) z<0):V8 ps k=true:=by unfold V8;rw [hp,hq];simp [h1,h2,h]
theorem Cm {ps:List Z6} {p:Z6} (hp:Z7 ps 0=p) (h:Nn p=true):V8 ps 0=true:=by unfold V8;rw [hp];simp [h,Wc]
theorem Up  {ps:List Z6} {who F:Int} (hF:Wc ps who=F) (h:IsPaces w v ps) :
  Calls Tryz.prog 336 #[v,.int .i64 who] w fun e w'=>e= .returned (.int .i64 F)/\Below w.heap.size w w':=by
 subst hF
 exact JJ who h
theorem YE  {ps:List Z6} (h:IsPaces w v ps) :
  Calls Tryz.prog 295 #[v] w fun e w'=>e= .returned (.bool (YS ps))/\Below w.heap.size w w':=by
 have Hr2:=Z9 h
 obtain ⟨a,cap,rfl,hc,hm,hr⟩:=h
 have Hr:=Z9 hr
 clear hr
 by_cases hbig:100<ps.length
 ·go_enter Tryz.func295,Tryz.ntmps295
  go_wp2_with fail
  go_ret
  exact ⟨Z5 (GO hbig).symm,Below.refl _ _⟩
 go_enter Tryz.func295,Tryz.ntmps295
 go_wp2_with fail
 go_loopw [10] (fun i wr=> ∃ k:Nat,k<=ps.length/\i= .int .i64 k/\(∀ j,j<k->V8 ps j=true)/\Below w.heap.size w wr) (fun i _=>ps.length-(intOf i).toNat)
 case atStart=>exact ⟨0,Nat.zero_le _,rfl,fun j hj=>by omega,Below.refl _ _⟩
 case round=>
  obtain ⟨k,hk,rfl,hst,hb⟩:=hrel
  have Hst:=Z9 hst
  have Hb:=Z9 hb
  clear hst
  by_cases hlt:k<ps.length
  ·rcases uh Hr with h0 | ⟨b,off,rfl,hbw,hcl⟩
   ·rw [h0] at hlt;simp at hlt
   have hbr:b<wr.heap.size:=Nat.lt_of_lt_of_le hbw hb.size
   have hne:b ≠ wr.heap.size:=Nat.ne_of_lt hbr
   obtain ⟨c0,c1⟩:=hcl k hlt
   rw [<-hb.cell (p:=⟨b,off+k*2,none⟩) hbw] at c0
   rw [<-hb.cell (p:=⟨b,off+k*2+1,none⟩) hbw] at c1
   generalize hp:Z7 ps k=p at c0 c1
   have Hp:=Z9 hp
   clear hp
   obtain ⟨f,z⟩:=p
   simp only at c0 c1
   have Hip:=Z9 ((((uh Hr2).below hb).cut (n:=k) (by omega)).below ((Below.refl _ _).alloc (Nat.le_refl _) (.cells #[.int .i64 f,.int .i64 z] 94)))
   have d0:(wr.alloc (.cells #[.int .i64 f,.int .i64 z] 94)).cell? ⟨wr.heap.size,0,none⟩=some (.int .i64 f):=by simp
   have d1:(wr.alloc (.cells #[.int .i64 f,.int .i64 z] 94)).cell? ⟨wr.heap.size,1,none⟩=some (.int .i64 z):=by simp
   have k0:=cell_regrown d0
   have k1:=cell_regrown d1
   clear d0 d1
   obtain ⟨F,hF⟩:∃ F,Wc (ps.take k) z=F:=⟨_,rfl⟩
   have hFb:=CM (ps.take k) z
   rw [hF] at hFb
   have HF:=Z9 hF
   clear hF
   cases hpb:Nn (f,z)
   ·clear hcl
    go_wp2_with fail
    refine wp_region_quiet_below (by kernel_rfl) (by kernel_rfl) ?_
    repeat (go_big_quiet_step (first | exact Calls.regrown_of (VB _ _ _) | exact Calls.regrown_of (Xa _ _ _ _ _) | exact Calls.regrown_of (Up (uh HF) ((uh Hip).below (below_regrown _ _ _)))))
    refine wpQuiet_nil ?_
    intro _ hw'
    obtain ⟨⟨dq,osq⟩,hw''⟩:=hw'
    subst hw''
    go_wp2_with fail
    go_ret
    exact ⟨Z5 (On hlt (Cn (uh Hp) hpb)).symm,(uh Hb).trans (((Below.refl _ _).alloc (uh Hb).size _).trans ((below_regrown _ _ _).mono (by simp;have:=(uh Hb).size;omega)))⟩
   ·by_cases hz:0<k
    ·have hd:decide (0<k)=true:=decide_eq_true hz
     obtain ⟨e0,e1⟩:=hcl (k-1) (by omega)
     rw [<-hb.cell (p:=⟨b,off+(k-1)*2,none⟩) hbw] at e0
     rw [<-hb.cell (p:=⟨b,off+(k-1)*2+1,none⟩) hbw] at e1
     generalize hq:Z7 ps (k-1)=q at e0 e1
     have Hq:=Z9 hq
     clear hq
     obtain ⟨f',z'⟩:=q
     simp only at e0 e1
     have m0:=cell_regrown (w:=wr.alloc (.cells #[.int .i64 f,.int .i64 z] 94)) (a:=⟨b,off+(k-1)*2,none⟩) (v:= .int .i64 f') (by rw [World.cell?_alloc_old _ _ _ hne];exact e0)
     have m1:=cell_regrown (w:=wr.alloc (.cells #[.int .i64 f,.int .i64 z] 94)) (a:=⟨b,off+(k-1)*2+1,none⟩) (v:= .int .i64 z') (by rw [World.cell?_alloc_old _ _ _ hne];exact e1)
     clear hcl e0 e1
     cases hab:ltB (f',z') (f,z)
     ·go_wp2_with fail
      refine wp_region_quiet_below (by kernel_rfl) (by kernel_rfl) ?_
      repeat (go_big_quiet_step (first | exact Calls.regrown_of (VB _ _ _) | exact Calls.regrown_of (Xa _ _ _ _ _) | exact Calls.regrown_of (Up (uh HF) ((uh Hip).below (below_regrown _ _ _)))))
      refine wpQuiet_nil ?_
      intro _ hw'
      obtain ⟨⟨dq,osq⟩,hw''⟩:=hw'
      subst hw''
      go_wp2_with fail
      go_ret
      exact ⟨Z5 (On hlt (Co hz (uh Hp) (uh Hq) hab)).symm,(uh Hb).trans (((Below.refl _ _).alloc (uh Hb).size _).trans ((below_regrown _ _ _).mono (by simp;have:=(uh Hb).size;omega)))⟩
     ·by_cases hF0:F= -1
      ·subst hF0
       go_wp2_with fail
       refine wp_region_quiet_below (by kernel_rfl) (by kernel_rfl) ?_
       repeat (go_big_quiet_step (first | exact Calls.regrown_of (VB _ _ _) | exact Calls.regrown_of (Xa _ _ _ _ _) | exact Calls.regrown_of (Up (uh HF) ((uh Hip).below (below_regrown _ _ _)))))
       refine wpQuiet_nil ?_
       intro _ hw'
       obtain ⟨⟨dq,osq⟩,hw''⟩:=hw'
       subst hw''
       go_wp2_with fail
       go_roundw
       case rel=>exact ⟨k+1,by omega,by go_num,Y2 (uh Hst) (Cq hz (uh Hp) (uh Hq) hpb hab (by rw [uh HF];omega)),(uh Hb).trans (((Below.refl _ _).alloc (uh Hb).size _).trans ((below_regrown _ _ _).mono (by simp;have:=(uh Hb).size;omega)))⟩
       case measure=>simp [intOf];omega
      ·have hF1:0<=F:=by omega
       have hF2:(F == -1)=false:=by simpa using hF0
       have hF3:(F != -1)=true:=by simpa using hF0
       clear hF0
       go_wp2_with fail
       refine wp_region_quiet_below (by kernel_rfl) (by kernel_rfl) ?_
       repeat (go_big_quiet_step (first | exact Calls.regrown_of (VB _ _ _) | exact Calls.regrown_of (Xa _ _ _ _ _) | exact Calls.regrown_of (Up (uh HF) ((uh Hip).below (below_regrown _ _ _)))))
       refine wpQuiet_nil ?_
       intro _ hw'
       obtain ⟨⟨dq,osq⟩,hw''⟩:=hw'
       subst hw''
       go_wp2_with fail
       go_ret
       exact ⟨Z5 (On hlt (Cp (uh Hp) (by rw [uh HF];exact hF1))).symm,(uh Hb).trans (((Below.refl _ _).alloc (uh Hb).size _).trans ((below_regrown _ _ _).mono (by simp;have:=(uh Hb).size;omega)))⟩
    ·obtain rfl:k=0:=by omega
     obtain rfl:F= -1:=by simp at hFb;omega
     simp only [Nat.zero_mul,Nat.add_zero] at c0 c1 k0 k1
     clear hcl hz
     go_wp2_with fail
     refine wp_region_quiet_below (by kernel_rfl) (by kernel_rfl) ?_
     repeat (go_big_quiet_step (first | exact Calls.regrown_of (VB _ _ _) | exact Calls.regrown_of (Xa _ _ _ _ _) | exact Calls.regrown_of (Up (uh HF) ((uh Hip).below (below_regrown _ _ _)))))
     refine wpQuiet_nil ?_
     intro _ hw'
     obtain ⟨⟨dq,osq⟩,hw''⟩:=hw'
     subst hw''
     go_wp2_with fail
     go_roundw
     case rel=>exact ⟨1,by omega,by go_num,Y2 (uh Hst) (Cm (uh Hp) hpb),(uh Hb).trans (((Below.refl _ _).alloc (uh Hb).size _).trans ((below_regrown _ _ _).mono (by simp;have:=(uh Hb).size;omega)))⟩
     case measure=>simp [intOf];omega
  ·obtain rfl:k=ps.length:=by omega
   go_wp2_with fail
   go_ret
   exact ⟨Z5 (JO (by omega) (uh Hst)).symm,hb⟩
def AT (n₀:Nat) (r:List Z6 × Bool) (e:Ending) (w':World):Prop:= ∃ v',e= .returned (.tuple #[v',.bool r.2])/\EntsAt n₀ w' v' r.1
theorem GR {ps:List Z6} {e:Z6} (h:YS ps=false):TZ ps e=([],false):=by unfold TZ;rw [h];rfl
theorem MT {ps:List Z6} {e:Z6} (h:YS ps=true) (h2:YS (VH ps e)=false):TZ ps e=(ps,false):=by unfold TZ;rw [h,h2];rfl
theorem PI {ps:List Z6} {e:Z6} (h:YS ps=true) (h2:YS (VH ps e)=true):TZ ps e=(VH ps e,true):=by unfold TZ;rw [h,h2];rfl
theorem NI  {ps:List Z6} (f z:Int) (h:IsPaces w v ps) :
  Calls Tryz.prog 240 #[v,.agg #[.int .i64 f,.int .i64 z]] w fun e w'=>AT w.heap.size (TZ ps (f,z)) e w'/\Below w.heap.size w w':=by
 have Hv:=Z9 h
 obtain ⟨a,cap,rfl,hc,hm,hr⟩:=h
 clear hr
 cases hq:YS ps
 ·rw [GR hq]
  go_enter Tryz.func240,Tryz.ntmps240
  go_wp2_with fail
  refine (YE ((uh Hv).below ((Below.refl _ _).alloc (Nat.le_refl _) _))).mono ?_
  rw [hq]
  rintro e w1 ⟨rfl,hb1⟩
  have B1:Hid (Below w.heap.size w w1):=Z9 (((Below.refl _ _).alloc (Nat.le_refl _) _).trans (hb1.mono (by simp)))
  clear hb1
  go_wp2_with fail
  go_ret2
  exact ⟨⟨_,rfl,VS rfl (uh B1).size⟩,(uh B1).alloc (uh B1).size _⟩
 ·have hQ:=Bj hq
  have hlen:=hQ.len
  have HQ:=Z9 hQ
  clear hQ
  go_enter Tryz.func240,Tryz.ntmps240
  go_wp2_with fail
  refine (YE ((uh Hv).below ((Below.refl _ _).alloc (Nat.le_refl _) _))).mono ?_
  rw [hq]
  rintro e w1 ⟨rfl,hb1⟩
  have hz1:w.heap.size+1<=w1.heap.size:=by have:=hb1.size;simpa using this
  have c0:w1.cell? ⟨w.heap.size,0,none⟩=some (.int .i64 f):=(hb1.cell (p:=⟨w.heap.size,0,none⟩) (by simp)).trans (by simp)
  have c1:w1.cell? ⟨w.heap.size,1,none⟩=some (.int .i64 z):=(hb1.cell (p:=⟨w.heap.size,1,none⟩) (by simp)).trans (by simp)
  have B1:Hid (Below w.heap.size w w1):=Z9 (((Below.refl _ _).alloc (Nat.le_refl _) _).trans (hb1.mono (by simp)))
  clear hb1
  go_wp2_with fail
  refine (Gh ((uh Hv).below (uh B1)) (by omega)).mono ?_
  rintro e w2 ⟨bx,v2,rfl,hbx,hh2,hb2⟩
  have hlt1:w.heap.size<w1.heap.size:=by omega
  have d0:=(hb2.cell (p:=⟨w.heap.size,0,none⟩) hlt1).trans c0
  have d1:=(hb2.cell (p:=⟨w.heap.size,1,none⟩) hlt1).trans c1
  have hz2:=hb2.size
  have H2:=Z9 hh2
  have B2:Hid (Below w.heap.size w w2):=Z9 ((uh B1).trans (hb2.mono (by omega)))
  clear hb2 hh2 c0 c1
  go_wp2_with fail
  refine (La f z (uh H2) (Du (uh HQ).ris) (by omega) hbx hz2).mono ?_
  rintro e w3 ⟨rfl,v3,hs,hh3,hto3,hpe3,hb3⟩
  have hz3:=hb3.size
  have hsl:hs.length=ps.length+1:=by have:=hpe3.length_eq;simpa using this
  have H3:=Z9 hh3
  have T3:=Z9 hto3
  have P3:=Z9 hpe3
  have B3:Hid (Below w.heap.size w w3):=Z9 ((uh B2).trans (hb3.mono (by omega)))
  clear hb3 hh3 hto3 hpe3 d0 d1
  go_wp2_with fail
  refine (IP (uh H3) (uh T3) (by omega) hbx (by omega)).mono ?_
  rintro e w4 ⟨v4,qs,rfl,hi4,hris4,hpe4,hb4⟩
  obtain rfl:qs=VH ps (f,z):=G9 (uh HQ) hris4 (hpe4.trans (uh P3))
  have hz4:=hb4.size
  obtain ⟨a4,cap4,rfl⟩:=hi4.shape
  have H4:=Z9 hi4
  have B4:Hid (Below w.heap.size w w4):=Z9 ((uh B3).trans (hb4.mono (by omega)))
  clear hi4 hris4 hpe4 hb4 H2 H3 T3 P3
  go_wp2_with fail
  refine (YE (uh H4).paces).mono ?_
  cases hq2:YS (VH ps (f,z))
  ·rintro e w5 ⟨rfl,hb5⟩
   have B5:Hid (Below w.heap.size w w5):=Z9 ((uh B4).trans (hb5.mono (by omega)))
   clear hb5
   go_wp2_with fail
   refine (Nl ((uh Hv).below (uh B5)) (by omega)).mono ?_
   rintro e w6 ⟨v6,rfl,hi6,hb6⟩
   obtain ⟨a6,cap6,rfl⟩:=hi6.shape
   have H6:=Z9 hi6
   have B6:Hid (Below w.heap.size w w6):=Z9 ((uh B5).trans (hb6.mono (uh B5).size))
   clear hi6 hb6
   go_wp2_with fail
   go_ret2
   rw [MT hq hq2]
   exact ⟨⟨_,rfl,(uh H6).mono (uh B5).size⟩,uh B6⟩
  ·rintro e w5 ⟨rfl,hb5⟩
   have H5:=Z9 ((uh H4).later hb5)
   have B5:Hid (Below w.heap.size w w5):=Z9 ((uh B4).trans (hb5.mono (by omega)))
   clear hb5
   go_wp2_with fail
   go_ret2
   rw [PI hq hq2]
   exact ⟨⟨_,rfl,(uh H5).mono (by omega)⟩,uh B5⟩
set_option maxRecDepth 100000
theorem Kv {b:Int} {k:Nat} (hk:k<(ZZ (atB b) m.smiths m.smiths.length).length):∃ i:Nat,i<m.smiths.length/\Z8 (ZZ (atB b) m.smiths m.smiths.length) k=(i:Int):=by
 obtain ⟨i,hi,e,_⟩:=(Xn (atB b) m.smiths _ m.smiths.length).1 (U9 hk)
 exact ⟨i,hi,e⟩
theorem Om  {m M:Z4} (b:Int) (h:Smy w v0 v1 v2 v3 v4 m) (hL:Loose M) (hM:M.smiths=m.smiths):Calls Tryz.prog 178 #[.agg #[v0,v1,v2,v3,v4,.int .i64 m.now],.int .i64 b] w fun e w'=> ∃ v',e= .returned v'/\EntsAt w.heap.size w' v' (atV m.smiths b m.smiths.length)/\Below w.heap.size w w':=by
 have Hv:=Z9 ((h.alloc (.cells #[v0,v1,v2,v3,v4,.int .i64 m.now] 32)).alloc (.cells #[] 94))
 have HV0:=Z9 h
 obtain ⟨a0,p0,a1,p1,a2,p2,a3,p3,a4,p4,rfl,rfl,rfl,rfl,rfl,_,_,_,_,_,_,_,_,_,_⟩:=h.five
 clear h
 have hl:m.smiths.length<=1000:=by rw [<-hM];have:=(TH hL).smiths;omega
 have HL:Hid (∀ k,YS (Wm m.smiths ((ZZ (atB b) m.smiths m.smiths.length).take k))=true):=Z9 (fun k=>by have:=GJ hL b k;rw [hM] at this;exact this)
 clear hL hM
 have kb:Hid (Blk ((w.alloc (.cells #[.slice a0 m.rooms.length p0,.slice a1 m.guilds.length p1,.slice a2 m.smiths.length p2,.slice a3 m.desks.length p3,.slice a4 m.paces.length p4,.int .i64 m.now] 32)).alloc (.cells #[] 94)) w.heap.size 32 #[.slice a0 m.rooms.length p0,.slice a1 m.guilds.length p1,.slice a2 m.smiths.length p2,.slice a3 m.desks.length p3,.slice a4 m.paces.length p4,.int .i64 m.now]):=Z9 ((Blk.new w _ _).alloc _)
 have BB:Hid (Below w.heap.size w ((w.alloc (.cells #[.slice a0 m.rooms.length p0,.slice a1 m.guilds.length p1,.slice a2 m.smiths.length p2,.slice a3 m.desks.length p3,.slice a4 m.paces.length p4,.int .i64 m.now] 32)).alloc (.cells #[] 94))):=Z9 (((Below.refl _ _).alloc (Nat.le_refl _) _).alloc (by simp) _)
 have HE:Hid (EntsAt w.heap.size ((w.alloc (.cells #[.slice a0 m.rooms.length p0,.slice a1 m.guilds.length p1,.slice a2 m.smiths.length p2,.slice a3 m.desks.length p3,.slice a4 m.paces.length p4,.int .i64 m.now] 32)).alloc (.cells #[] 94)) (.slice (some ⟨w.heap.size+1,0,none⟩) 0 0) []):=Z9 (VS (by simp) (by simp))
 go_enter Tryz.func178,Tryz.ntmps178
 go_upto_region 2 with fail
 generalize (w.alloc (.cells #[.slice a0 m.rooms.length p0,.slice a1 m.guilds.length p1,.slice a2 m.smiths.length p2,.slice a3 m.desks.length p3,.slice a4 m.paces.length p4,.int .i64 m.now] 32)).alloc (.cells #[] 94)=W at *
 obtain ⟨c0,c1,c2,c3,c4,c5⟩:=(uh kb).c6
 go_wp2_with fail
 refine (Tm b (uh Hv) hl).mono ?_
 rintro e w1 ⟨vn,rfl,hn,hb⟩
 obtain ⟨na,nc,rfl⟩:=RecAt.shape hn
 have HN0:=Z9 (RecAt.mono hn (uh BB).size)
 have Hv1:=Z9 ((uh Hv).below hb)
 have kb1:=Z9 ((uh kb).below hb (uh kb).lt)
 have BB1:=Z9 ((uh BB).trans (hb.mono (uh BB).size))
 have HE1:=Z9 ((uh HE).later hb)
 clear hb hn c0 c1 c2 c3 c4 c5 Hv kb BB HE
 have Hq:=Z9 (RK m.smiths b m.smiths.length)
 have Hwh:=Z9 (fun k hk=>Kv (m:=m) (b:=b) (k:=k) hk)
 have Hpq:=HL
 clear HL
 have hwl:=WB (atB b) m.smiths m.smiths.length
 generalize ZZ (atB b) m.smiths m.smiths.length=ws at *
 go_wp2_with fail
 go_loopw [5,13] (fun l i wr=> ∃ k:Nat,k<=ws.length/\i= .int .i64 k/\EntsAt w.heap.size wr l (Wm m.smiths (ws.take k))/\NumsAt w.heap.size wr (.slice na ws.length nc) ws/\Blk wr w.heap.size 32 #[.slice a0 m.rooms.length p0,.slice a1 m.guilds.length p1,.slice a2 m.smiths.length p2,.slice a3 m.desks.length p3,.slice a4 m.paces.length p4,.int .i64 m.now]/\Smy wr (.slice a0 m.rooms.length p0) (.slice a1 m.guilds.length p1) (.slice a2 m.smiths.length p2) (.slice a3 m.desks.length p3) (.slice a4 m.paces.length p4) m/\Below w.heap.size w wr) (fun _ i _=>ws.length-(intOf i).toNat)
 case atStart=>exact ⟨0,Nat.zero_le _,rfl,uh HE1,uh HN0,uh kb1,uh Hv1,uh BB1⟩
 case round=>
  obtain ⟨k,hk,rfl,he,hn,hkb,hv,hb0⟩:=hrel
  obtain ⟨la,lc,rfl⟩:=EntsAt.shape he
  have HE:=Z9 he
  have HN:=Z9 hn
  have kb:=Z9 hkb
  have Hv:=Z9 hv
  have BB:=Z9 hb0
  clear he hn hkb hv hb0 HE1 HN0 kb1 Hv1 BB1
  by_cases hlt:k<ws.length
  ·have hlt1:(k:Int)<(ws.length:Int):=by omega
   obtain ⟨g,hga,_,_,hcl,_⟩:=RecAt.view X8 (by omega) (uh HN) rfl (by omega)
   cases hga
   have z0:=hcl k hlt 0 _ rfl
   simp only [Nat.mul_one,Nat.add_zero] at z0
   obtain ⟨i,hi,hiw⟩:=uh Hwh k hlt
   rw [hiw] at z0
   have hi1:(i:Int)<(m.smiths.length:Int):=by omega
   obtain ⟨_,_,hse,_,_,r2⟩:=(uh Hv).smiths
   cases hse
   rcases r2 with e0 | ⟨sb,off,rfl,hbw,hcs⟩
   ·rw [e0] at hi;simp at hi
   obtain ⟨_,_,_,_,_,_,_,d7,_⟩:=ZI hcs hi
   have HT:Hid (Wm m.smiths (ws.take (k+1))=VH (Wm m.smiths (ws.take k)) (XS (Z8 m.smiths i),(i:Int))):=Z9 (by rw [Rj hlt,Rb,hiw];simp)
   have hq1:=uh Hpq k
   have hq2:=uh Hpq (k+1)
   rw [uh HT] at hq2
   have HQ:=Z9 (PI hq1 hq2)
   clear hcl hcs hq1 hq2
   have e7:(Z8 m.smiths i).2.2.2.2.2.2.2.1=XS (Z8 m.smiths i):=rfl
   rw [e7] at d7
   clear e7
   generalize XS (Z8 m.smiths i)=hd at *
   have c2:=(uh kb).cell (i:=2) (v:= .slice (some ⟨sb,off,none⟩) m.smiths.length p2) rfl
   go_wp2_with fail
   refine (NI hd (i:Int) (uh HE).paces).mono ?_
   rw [uh HQ]
   rintro e w2 ⟨⟨v',rfl,he⟩,hb⟩
   obtain ⟨ua,uc,rfl⟩:=EntsAt.shape he
   have HE2:=Z9 (he.mono (uh BB).size)
   replace HN:=Z9 (RecAt.later (uh HN) hb)
   replace kb:=bl kb hb
   replace Hv:=Z9 ((uh Hv).below hb)
   replace BB:=bt BB hb
   clear hb he c2 d7 z0
   go_wp2_with fail
   go_roundw
   case rel=>exact ⟨k+1,by omega,by go_num,by rw [uh HT];exact uh HE2,uh HN,uh kb,uh Hv,uh BB⟩
   case measure=>simp [intOf];omega
  ·obtain rfl:k=ws.length:=by omega
   have HE3:Hid (EntsAt w.heap.size wr (.slice la (Wm m.smiths (ws.take ws.length)).length lc) (atV m.smiths b m.smiths.length)):=Z9 (by
    have h9:=uh HE
    have e9:Wm m.smiths (ws.take ws.length)=atV m.smiths b m.smiths.length:=by rw [List.take_length,uh Hq]
    rw [<-e9]
    exact h9)
   go_wp2_with fail
   go_ret
   exact ⟨_,rfl,uh HE3,uh BB⟩
theorem JN  (b:Int) (h:Smy w v0 v1 v2 v3 v4 m) (hL:Loose m):Calls Tryz.prog 178 #[.agg #[v0,v1,v2,v3,v4,.int .i64 m.now],.int .i64 b] w fun e w'=> ∃ v',e= .returned v'/\EntsAt w.heap.size w' v' (atV m.smiths b m.smiths.length)/\Below w.heap.size w w':=Om b h hL rfl
theorem Kt  {k:Nat} (h:Smy w v0 v1 v2 v3 v4 m) (hL:Wants m) (hk:k<m.smiths.length) (hs:(Z8 m.smiths k).1 ≠ 0):Calls Tryz.prog 275 #[.agg #[v0,v1,v2,v3,v4,.int .i64 m.now],.int .i64 (k:Int)] w fun e w'=>e= .returned (.int .i64 (ZC m (k:Int)))/\Below w.heap.size w w':=by
 have hw:ZC m (k:Int)=PO m.guilds (Z8 m.smiths k):=rfl
 rw [hw]
 clear hw
 have Hg0:=Z9 h.guilds
 obtain ⟨a0,p0,rfl,_,_⟩:=IsRooms.shape h.rooms
 obtain ⟨a1,p1,rfl,_,_⟩:=IsRec.shape h.guilds
 obtain ⟨a2,p2,rfl,hc2,hm2,r2⟩:=h.smiths
 obtain ⟨a3,p3,rfl,_,_⟩:=IsRec.shape h.desks
 obtain ⟨a4,p4,rfl,_,_⟩:=IsRec.shape h.paces
 clear h
 obtain ⟨hg1,hpair⟩:=hL.each k hk hs
 rcases r2 with e0 | ⟨sb,off,rfl,hbw,hcl⟩
 ·rw [e0] at hk;simp at hk
 have hk1:(k:Int)<(m.smiths.length:Int):=by omega
 obtain ⟨d0,d1,d2,d3,d4,d5,d6,d7,d8,d9,d10⟩:=ZI hcl hk
 clear hcl hs hL
 generalize Z8 m.smiths k=ss at *
 obtain ⟨st,be,rk,my,gu,lo,hi,hd,ca,ut,wk⟩:=ss
 simp only at d0 d1 d2 d3 d4 d5 d6 d7 d8 d9 d10 hg1 hpair
 obtain ⟨nr,hnr⟩:∃ nr,Vj (bnd m.guilds gu) lo hi=nr:=⟨_,rfl⟩
 have HW:Hid (T9 m.guilds gu lo hi=nr):=Z9 (by rw [<-hnr];exact MC hg1 hpair)
 have HX:Hid (PO m.guilds (st,be,rk,my,gu,lo,hi,hd,ca,ut,wk)=min (max ut nr.1) nr.2):=Z9 (by rw [<-hnr];rfl)
 rw [uh HX]
 clear hpair hg1 HX hnr
 obtain ⟨nl,nh⟩:=nr
 dsimp only
 have hne:sb ≠ w.heap.size:=Nat.ne_of_lt hbw
 have hbw2:sb<w.heap.size+1:=by omega
 have BB:Hid (Below w.heap.size w ((w.alloc (.cells #[.slice a0 m.rooms.length p0,.slice a1 m.guilds.length p1,.slice (some ⟨sb,off,none⟩) m.smiths.length p2,.slice a3 m.desks.length p3,.slice a4 m.paces.length p4,.int .i64 m.now] 32)).alloc (.cells #[.int .i64 st,.int .i64 be,.int .i64 rk,.int .i64 my,.int .i64 gu,.int .i64 lo,.int .i64 hi,.int .i64 hd,.int .i64 ca,.int .i64 ut,.int .i64 wk] 43))):=Z9 (((Below.refl _ _).alloc (Nat.le_refl _) _).alloc (by simp) _)
 have ks:Hid (Blk ((w.alloc (.cells #[.slice a0 m.rooms.length p0,.slice a1 m.guilds.length p1,.slice (some ⟨sb,off,none⟩) m.smiths.length p2,.slice a3 m.desks.length p3,.slice a4 m.paces.length p4,.int .i64 m.now] 32)).alloc (.cells #[.int .i64 st,.int .i64 be,.int .i64 rk,.int .i64 my,.int .i64 gu,.int .i64 lo,.int .i64 hi,.int .i64 hd,.int .i64 ca,.int .i64 ut,.int .i64 wk] 43)) (w.heap.size+1) 43 #[.int .i64 st,.int .i64 be,.int .i64 rk,.int .i64 my,.int .i64 gu,.int .i64 lo,.int .i64 hi,.int .i64 hd,.int .i64 ca,.int .i64 ut,.int .i64 wk]):=Z9 (by
  have k9:=Blk.new (w.alloc (.cells #[.slice a0 m.rooms.length p0,.slice a1 m.guilds.length p1,.slice (some ⟨sb,off,none⟩) m.smiths.length p2,.slice a3 m.desks.length p3,.slice a4 m.paces.length p4,.int .i64 m.now] 32)) 43 #[.int .i64 st,.int .i64 be,.int .i64 rk,.int .i64 my,.int .i64 gu,.int .i64 lo,.int .i64 hi,.int .i64 hd,.int .i64 ca,.int .i64 ut,.int .i64 wk]
  rw [World.size_alloc] at k9
  exact k9)
 have kb:Hid (Blk ((w.alloc (.cells #[.slice a0 m.rooms.length p0,.slice a1 m.guilds.length p1,.slice (some ⟨sb,off,none⟩) m.smiths.length p2,.slice a3 m.desks.length p3,.slice a4 m.paces.length p4,.int .i64 m.now] 32)).alloc (.cells #[.int .i64 st,.int .i64 be,.int .i64 rk,.int .i64 my,.int .i64 gu,.int .i64 lo,.int .i64 hi,.int .i64 hd,.int .i64 ca,.int .i64 ut,.int .i64 wk] 43)) w.heap.size 32 #[.slice a0 m.rooms.length p0,.slice a1 m.guilds.length p1,.slice (some ⟨sb,off,none⟩) m.smiths.length p2,.slice a3 m.desks.length p3,.slice a4 m.paces.length p4,.int .i64 m.now]):=Z9 ((Blk.new w _ _).alloc _)
 have Hg2:=Z9 ((uh Hg0).below (uh BB))
 go_enter Tryz.func275,Tryz.ntmps275
 go_upto_region 2 with fail
 generalize (w.alloc (.cells #[.slice a0 m.rooms.length p0,.slice a1 m.guilds.length p1,.slice (some ⟨sb,off,none⟩) m.smiths.length p2,.slice a3 m.desks.length p3,.slice a4 m.paces.length p4,.int .i64 m.now] 32)).alloc (.cells #[.int .i64 st,.int .i64 be,.int .i64 rk,.int .i64 my,.int .i64 gu,.int .i64 lo,.int .i64 hi,.int .i64 hd,.int .i64 ca,.int .i64 ut,.int .i64 wk] 43)=W at *
 clear d0 d1 d2 d3 d4 d5 d6 d7 d8 d9 d10
 have c1:=(uh kb).cell (i:=1) (v:= .slice a1 m.guilds.length p1) rfl
 have s4:=(uh ks).cell (i:=4) (v:= .int .i64 gu) rfl
 have s5:=(uh ks).cell (i:=5) (v:= .int .i64 lo) rfl
 have s6:=(uh ks).cell (i:=6) (v:= .int .i64 hi) rfl
 go_wp2_with fail
 refine (NN gu lo hi (uh Hg2)).mono ?_
 rw [uh HW]
 rintro e w1 ⟨rfl,hb⟩
 replace ks:=bl ks hb
 replace BB:=bt BB hb
 clear hb c1 s4 s5 s6 HW
 have s9:=(uh ks).cell (i:=9) (v:= .int .i64 ut) rfl
 go_wp2_with (go_at_call 325;refine (Vt _ _ _ _).mono ?_;rintro e w' ⟨rfl,h9⟩;subst w')
 go_ret
 exact ⟨rfl,uh BB⟩
theorem DZ (who:Int):V7 m who=(Yb m.smiths.length who && !((Z8 m.smiths who.toNat).1 ==0)):=by unfold V7;rw [CT]
theorem Pz  {who:Int} {q:Bool} (hq:V7 m who=q) (h:Smy w v0 v1 v2 v3 v4 m):Calls Tryz.prog 190 #[.agg #[v0,v1,v2,v3,v4,.int .i64 m.now],.int .i64 who] w fun e w'=>e= .returned (.bool q)/\Below w.heap.size w w':=by
 rw [DZ] at hq
 have Hq:=Z9 hq
 clear hq
 obtain ⟨a0,p0,a1,p1,a2,p2,a3,p3,a4,p4,rfl,rfl,rfl,rfl,rfl,K⟩:=Bx.new h
 clear h
 go_enter Tryz.func190,Tryz.ntmps190
 go_wp2_with fail
 generalize w.alloc (.cells #[.slice a0 m.rooms.length p0,.slice a1 m.guilds.length p1,.slice a2 m.smiths.length p2,.slice a3 m.desks.length p3,.slice a4 m.paces.length p4,.int .i64 m.now] 32)=W at *
 obtain ⟨c0,c1,c2,c3,c4,c5⟩:=K.cells
 go_wp2_with fail
 refine (XF _ _ _ _ _ _ _ _ _ _ _ _ _ _ _ _ _).mono ?_
 rintro e w2 ⟨rfl,hb⟩
 replace K:=K.next hb
 clear hb c0 c1 c2 c3 c4 c5
 obtain ⟨qh,hqh⟩:∃ q,Yb m.smiths.length who=q:=⟨_,rfl⟩
 have Hh:=Z9 hqh
 clear hqh
 go_wp2_with fail
 refine (K9 _ _ _ who _).mono ?_
 rw [uh Hh]
 rintro e w3 ⟨rfl,h9⟩
 subst w3
 cases qh
 ·obtain rfl:q=false:=by rw [<-uh Hq,uh Hh];rfl
  go_wp2_with fail
  go_ret
  exact ⟨rfl,K.bb⟩
 have hwb:0<=who/\who<(m.smiths.length:Int):=by have:=uh Hh;unfold Yb at this;simpa using this
 obtain ⟨k,rfl⟩:∃ k:Nat,who=k:=⟨who.toNat,by omega⟩
 have hk:k<m.smiths.length:=by omega
 have hk1:(k:Int)<(m.smiths.length:Int):=by omega
 obtain ⟨_,_,hse,_,_,r2⟩:=K.smy.smiths
 cases hse
 rcases r2 with e0 | ⟨sb,off,rfl,hbw,hcl⟩
 ·rw [e0] at hk;simp at hk
 obtain ⟨d0,d1,d2,d3,d4,d5,d6,d7,d8,d9,d10⟩:=ZI hcl hk
 obtain ⟨_,_,c2,_,_,_⟩:=K.cells
 have HS:Hid (q= !((Z8 m.smiths k).1 ==0)):=Z9 (by rw [<-uh Hq,uh Hh,Int.toNat_natCast];rfl)
 clear hcl
 generalize Z8 m.smiths k=ss at *
 obtain ⟨st,be,rk,my,gu,lo,hi,hd,ca,ut,wk⟩:=ss
 simp only at d0 d1 d2 d3 d4 d5 d6 d7 d8 d9 d10
 go_wp2_with fail
 refine (WE st be rk my gu lo hi hd ca ut wk _).mono ?_
 rintro e w4 ⟨rfl,hb⟩
 replace K:=K.next hb
 clear hb c2 d0 d1 d2 d3 d4 d5 d6 d7 d8 d9 d10
 obtain rfl:q= !(st ==0):=uh HS
 go_wp2_with fail
 go_ret
 exact ⟨rfl,K.bb⟩
theorem JP {st be rk my gu lo hi hd ca ut wk:Int} {rank x:Int} {R R':Nat} (x0:335<=x) (x1:x<=3125) (c0:0<=ca) (c1:ca<=3125) (hR:w.cell? ⟨R,0,none⟩=some (.int .i64 rank)) (hR':w.cell? ⟨R',0,none⟩=some (.int .i64 x)) :
  Calls Tryz.prog 212 #[.agg #[.int .i64 st,.int .i64 be,.int .i64 rk,.int .i64 my,.int .i64 gu,.int .i64 lo,.int .i64 hi,.int .i64 hd,.int .i64 ca,.int .i64 ut,.int .i64 wk],.pointer (some ⟨R,0,none⟩),.pointer (some ⟨R',0,none⟩)] w fun e w'=>e= .returned (.agg #[.int .i64 st,.int .i64 be,.int .i64 rank,.int .i64 my,.int .i64 gu,.int .i64 lo,.int .i64 hi,.int .i64 hd,.int .i64 (ca%x),.int .i64 ut,.int .i64 wk])/\Below w.heap.size w w':=by
 have hRl:=block_lt_of_cell hR
 have hRl':=block_lt_of_cell hR'
 have hx:¬ x=0:=by omega
 go_enter Tryz.func212,Tryz.ntmps212
 go_wp2_with fail
 refine bodyPost_ret (v:= .agg #[.int .i64 st,.int .i64 be,.int .i64 rank,.int .i64 my,.int .i64 gu,.int .i64 lo,.int .i64 hi,.int .i64 hd,.int .i64 (ca%x),.int .i64 ut,.int .i64 wk]) (by simp [results,Tryz.results212,go_sem]) rfl ⟨rfl,?_⟩
 exact ((Below.refl _ _).alloc (Nat.le_refl _) _).alloc (by simp) _
theorem QI (v:Value) (w:World):(Instr.typeAssert (.iface 246 v) 221 244 true).run Tryz.prog w= .ok (.tuple #[.agg #[.int .i64 0,.int .i64 0,.int .i64 0,.int .i64 0,.int .i64 0,.int .i64 0,.int .i64 0,.int .i64 0,.int .i64 0,.int .i64 0,.int .i64 0],.bool false]) w:=by kernel_rfl
theorem QG (v:Value) (w:World):(Instr.typeAssert (.iface 246 v) 221 246 true).run Tryz.prog w= .ok (.tuple #[v,.bool true]) w:=by kernel_rfl
theorem RW (v:Value) (w:World):(Instr.typeAssert (.iface 285 v) 221 244 true).run Tryz.prog w= .ok (.tuple #[.agg #[.int .i64 0,.int .i64 0,.int .i64 0,.int .i64 0,.int .i64 0,.int .i64 0,.int .i64 0,.int .i64 0,.int .i64 0,.int .i64 0,.int .i64 0],.bool false]) w:=by kernel_rfl
theorem RV (v:Value) (w:World):(Instr.typeAssert (.iface 285 v) 221 246 true).run Tryz.prog w= .ok (.tuple #[.agg #[],.bool false]) w:=by kernel_rfl
theorem QJ (v:Value) (w:World):(Instr.typeAssert (.iface 244 v) 221 244 true).run Tryz.prog w= .ok (.tuple #[v,.bool true]) w:=by kernel_rfl
attribute [local go_sem] QI QG RW RV QJ
theorem KK (can:Bool) (f:Value) (w:World):Calls Tryz.prog 211 #[.agg #[.int .i64 0,.int .i64 0,.int .i64 0,.int .i64 0,.int .i64 0,.int .i64 0,.int .i64 0,.int .i64 0,.int .i64 0,.int .i64 0,.int .i64 0],.bool can,f] w fun e w'=>e= .returned (.tuple #[.agg #[.int .i64 0,.int .i64 0,.int .i64 0,.int .i64 0,.int .i64 0,.int .i64 0,.int .i64 0,.int .i64 0,.int .i64 0,.int .i64 0,.int .i64 0],.bool false])/\Below w.heap.size w w':=by
 go_enter Tryz.func211,Tryz.ntmps211
 go_wp2_with fail
 refine (Rf _).mono ?_
 rintro e w1 ⟨rfl,hb⟩
 have kb:Blk w1 w.heap.size 43 #[.int .i64 0,.int .i64 0,.int .i64 0,.int .i64 0,.int .i64 0,.int .i64 0,.int .i64 0,.int .i64 0,.int .i64 0,.int .i64 0,.int .i64 0]:=((Blk.new w 43 #[.int .i64 0,.int .i64 0,.int .i64 0,.int .i64 0,.int .i64 0,.int .i64 0,.int .i64 0,.int .i64 0,.int .i64 0,.int .i64 0,.int .i64 0]).alloc _).below hb (by simp;omega)
 have ko:Blk w1 (w.heap.size+1) 43 #[.int .i64 0,.int .i64 0,.int .i64 0,.int .i64 0,.int .i64 0,.int .i64 0,.int .i64 0,.int .i64 0,.int .i64 0,.int .i64 0,.int .i64 0]:=by
  have k:=Blk.new (w.alloc (.cells #[.int .i64 0,.int .i64 0,.int .i64 0,.int .i64 0,.int .i64 0,.int .i64 0,.int .i64 0,.int .i64 0,.int .i64 0,.int .i64 0,.int .i64 0] 43)) 43 #[.int .i64 0,.int .i64 0,.int .i64 0,.int .i64 0,.int .i64 0,.int .i64 0,.int .i64 0,.int .i64 0,.int .i64 0,.int .i64 0,.int .i64 0]
  rw [World.size_alloc] at k
  exact k.below hb (by simp)
 have hsz:w.heap.size+2<=w1.heap.size:=by have:=hb.size;simp at this;omega
 have hl0:w.heap.size<w1.heap.size:=by omega
 have hl1:w.heap.size+1<w1.heap.size:=by omega
 have B1:=Z9 ((((Below.refl w.heap.size w).alloc (Nat.le_refl _) _).alloc (by simp) _).trans (hb.mono (by simp;omega)))
 have Kb:=Z9 kb
 have Ko:=Z9 ko
 obtain ⟨c0,c1,c2,c3,c4,c5,c6,c7,c8,c9,c10⟩:=kb.c11
 obtain ⟨o0,o1,o2,o3,o4,o5,o6,o7,o8,o9,o10⟩:=ko.c11
 obtain ⟨of0,of1,of2,of3,of4,of5,of6,of7,of8,of9,of10⟩:=ko.f11
 clear hb kb ko
 go_wp2_with fail
 refine bodyPost_ret (v:= .tuple #[.agg #[.int .i64 0,.int .i64 0,.int .i64 0,.int .i64 0,.int .i64 0,.int .i64 0,.int .i64 0,.int .i64 0,.int .i64 0,.int .i64 0,.int .i64 0],.bool false]) (by simp [results,Tryz.results211,go_sem,o0,o1,o2,o3,o4,o5,o6,o7,o8,o9,o10,hl1]) rfl ⟨rfl,?_⟩
 refine Below.alloc ?_ (by simp;omega) _
 iterate 11 (refine Below.setCell ?_ (by simp) _)
 exact uh B1
theorem MG {st be rk my gu lo hi hd ca ut wk:Int} (hg:Wh (st,be,rk,my,gu,lo,hi,hd,ca,ut,wk)=false) (hp:Zg (st,be,rk,my,gu,lo,hi,hd,ca,ut,wk)=false) (can:Bool) (f:Value) (w:World):Calls Tryz.prog 211 #[.agg #[.int .i64 st,.int .i64 be,.int .i64 rk,.int .i64 my,.int .i64 gu,.int .i64 lo,.int .i64 hi,.int .i64 hd,.int .i64 ca,.int .i64 ut,.int .i64 wk],.bool can,f] w fun e w'=>e= .returned (.tuple #[.agg #[.int .i64 0,.int .i64 0,.int .i64 0,.int .i64 0,.int .i64 0,.int .i64 0,.int .i64 0,.int .i64 0,.int .i64 0,.int .i64 0,.int .i64 0],.bool false])/\Below w.heap.size w w':=by
 have Hg:=Z9 hg
 have Hp:=Z9 hp
 clear hg hp
 go_enter Tryz.func211,Tryz.ntmps211
 go_wp2_with fail
 refine (R8 (uh Hg) (uh Hp) _).mono ?_
 rintro e w1 ⟨rfl,hb⟩
 have kb:Blk w1 w.heap.size 43 #[.int .i64 st,.int .i64 be,.int .i64 rk,.int .i64 my,.int .i64 gu,.int .i64 lo,.int .i64 hi,.int .i64 hd,.int .i64 ca,.int .i64 ut,.int .i64 wk]:=((Blk.new w 43 #[.int .i64 st,.int .i64 be,.int .i64 rk,.int .i64 my,.int .i64 gu,.int .i64 lo,.int .i64 hi,.int .i64 hd,.int .i64 ca,.int .i64 ut,.int .i64 wk]).alloc _).below hb (by simp;omega)
 have ko:Blk w1 (w.heap.size+1) 43 #[.int .i64 0,.int .i64 0,.int .i64 0,.int .i64 0,.int .i64 0,.int .i64 0,.int .i64 0,.int .i64 0,.int .i64 0,.int .i64 0,.int .i64 0]:=by
  have k:=Blk.new (w.alloc (.cells #[.int .i64 st,.int .i64 be,.int .i64 rk,.int .i64 my,.int .i64 gu,.int .i64 lo,.int .i64 hi,.int .i64 hd,.int .i64 ca,.int .i64 ut,.int .i64 wk] 43)) 43 #[.int .i64 0,.int .i64 0,.int .i64 0,.int .i64 0,.int .i64 0,.int .i64 0,.int .i64 0,.int .i64 0,.int .i64 0,.int .i64 0,.int .i64 0]
  rw [World.size_alloc] at k
  exact k.below hb (by simp)
 have hsz:w.heap.size+2<=w1.heap.size:=by have:=hb.size;simp at this;omega
 have hl0:w.heap.size<w1.heap.size:=by omega
 have hl1:w.heap.size+1<w1.heap.size:=by omega
 have B1:=Z9 ((((Below.refl w.heap.size w).alloc (Nat.le_refl _) _).alloc (by simp) _).trans (hb.mono (by simp;omega)))
 have Kb:=Z9 kb
 have Ko:=Z9 ko
 obtain ⟨c0,c1,c2,c3,c4,c5,c6,c7,c8,c9,c10⟩:=kb.c11
 obtain ⟨o0,o1,o2,o3,o4,o5,o6,o7,o8,o9,o10⟩:=ko.c11
 obtain ⟨of0,of1,of2,of3,of4,of5,of6,of7,of8,of9,of10⟩:=ko.f11
 clear hb kb ko
 go_wp2_with fail
 refine bodyPost_ret (v:= .tuple #[.agg #[.int .i64 0,.int .i64 0,.int .i64 0,.int .i64 0,.int .i64 0,.int .i64 0,.int .i64 0,.int .i64 0,.int .i64 0,.int .i64 0,.int .i64 0],.bool false]) (by simp [results,Tryz.results211,go_sem,o0,o1,o2,o3,o4,o5,o6,o7,o8,o9,o10]) rfl ⟨rfl,?_⟩
 iterate 11 (refine Below.setCell ?_ (by simp) _)
 exact uh B1
theorem FV {st be rk my gu lo hi hd ca ut wk:Int} (hg:Wh (st,be,rk,my,gu,lo,hi,hd,ca,ut,wk)=false) (hp:Zg (st,be,rk,my,gu,lo,hi,hd,ca,ut,wk)=true) (f:Value) (w:World):Calls Tryz.prog 211 #[.agg #[.int .i64 st,.int .i64 be,.int .i64 rk,.int .i64 my,.int .i64 gu,.int .i64 lo,.int .i64 hi,.int .i64 hd,.int .i64 ca,.int .i64 ut,.int .i64 wk],.bool false,f] w fun e w'=>e= .returned (.tuple #[.agg #[.int .i64 st,.int .i64 be,.int .i64 rk,.int .i64 my,.int .i64 gu,.int .i64 lo,.int .i64 hi,.int .i64 hd,.int .i64 ca,.int .i64 ut,.int .i64 wk],.bool false])/\Below w.heap.size w w':=by
 have Hg:=Z9 hg
 have Hp:=Z9 hp
 clear hg hp
 go_enter Tryz.func211,Tryz.ntmps211
 go_wp2_with fail
 refine (T0 (uh Hg) (uh Hp) _).mono ?_
 rintro e w1 ⟨rfl,hb⟩
 have kb:Blk w1 w.heap.size 43 #[.int .i64 st,.int .i64 be,.int .i64 rk,.int .i64 my,.int .i64 gu,.int .i64 lo,.int .i64 hi,.int .i64 hd,.int .i64 ca,.int .i64 ut,.int .i64 wk]:=((Blk.new w 43 #[.int .i64 st,.int .i64 be,.int .i64 rk,.int .i64 my,.int .i64 gu,.int .i64 lo,.int .i64 hi,.int .i64 hd,.int .i64 ca,.int .i64 ut,.int .i64 wk]).alloc _).below hb (by simp;omega)
 have ko:Blk w1 (w.heap.size+1) 43 #[.int .i64 0,.int .i64 0,.int .i64 0,.int .i64 0,.int .i64 0,.int .i64 0,.int .i64 0,.int .i64 0,.int .i64 0,.int .i64 0,.int .i64 0]:=by
  have k:=Blk.new (w.alloc (.cells #[.int .i64 st,.int .i64 be,.int .i64 rk,.int .i64 my,.int .i64 gu,.int .i64 lo,.int .i64 hi,.int .i64 hd,.int .i64 ca,.int .i64 ut,.int .i64 wk] 43)) 43 #[.int .i64 0,.int .i64 0,.int .i64 0,.int .i64 0,.int .i64 0,.int .i64 0,.int .i64 0,.int .i64 0,.int .i64 0,.int .i64 0,.int .i64 0]
  rw [World.size_alloc] at k
  exact k.below hb (by simp)
 have hsz:w.heap.size+2<=w1.heap.size:=by have:=hb.size;simp at this;omega
 have hl0:w.heap.size<w1.heap.size:=by omega
 have hl1:w.heap.size+1<w1.heap.size:=by omega
 have B1:=Z9 ((((Below.refl w.heap.size w).alloc (Nat.le_refl _) _).alloc (by simp) _).trans (hb.mono (by simp;omega)))
 have Kb:=Z9 kb
 have Ko:=Z9 ko
 obtain ⟨c0,c1,c2,c3,c4,c5,c6,c7,c8,c9,c10⟩:=kb.c11
 obtain ⟨o0,o1,o2,o3,o4,o5,o6,o7,o8,o9,o10⟩:=ko.c11
 obtain ⟨of0,of1,of2,of3,of4,of5,of6,of7,of8,of9,of10⟩:=ko.f11
 clear hb kb ko
 go_wp2_with fail
 refine bodyPost_ret (v:= .tuple #[.agg #[.int .i64 st,.int .i64 be,.int .i64 rk,.int .i64 my,.int .i64 gu,.int .i64 lo,.int .i64 hi,.int .i64 hd,.int .i64 ca,.int .i64 ut,.int .i64 wk],.bool false]) (by simp [results,Tryz.results211,go_sem,o0,o1,o2,o3,o4,o5,o6,o7,o8,o9,o10,hl1]) rfl ⟨rfl,?_⟩
 refine Below.alloc ?_ (by simp;omega) _
 iterate 11 (refine Below.setCell ?_ (by simp) _)
 exact uh B1
end Go.Proofs.YtjhijildaceadaaGreatDoor
