/- Part 26 of what the proof rests on. No condition but those that a theorem names. -/
import Derived.Test.YtffcgajndmhpkaaGreatDoorXw25
import Derived.Laws.EntriesVeiled
set_option maxHeartbeats 8000000
set_option maxRecDepth 100000
namespace Go.Proofs.YtffcgajndmhpkaaGreatDoor
open Go.ChangeShapes Go.WideShapes Go.ChangeAt Go.RowKit Go.Sort
set_option linter.unusedVariables false
theorem CI {ps:List Z6} {k:Nat} {p:Z6} (hp:Z7 ps k=p) (h:NV p=false):Wt ps k=false:=by unfold Wt;rw [hp];simp [h]
theorem CJ {ps:List Z6} {k:Nat} {p q:Z6} (hz:0<k) (hp:Z7 ps k=p) (hq:Z7 ps (k-1)=q) (h:ltB q p=false):Wt ps k=false:=by unfold Wt;rw [hp,hq];simp [h];omega
theorem CK {ps:List Z6} {k:Nat} {f z:Int} (hp:Z7 ps k=(f,z)) (h:0<=Ww (ps.take k) z):Wt ps k=false:=by unfold Wt;rw [hp];simp;intros;exact h
theorem CL {ps:List Z6} {k:Nat} {f z:Int} {q:Z6} (hz:0<k) (hp:Z7 ps k=(f,z)) (hq:Z7 ps (k-1)=q) (h1:NV (f,z)=true) (h2:ltB q (f,z)=true) (h:Ww (ps.take k) z<0):Wt ps k=true:=by unfold Wt;rw [hp,hq];simp [h1,h2,h]
theorem CH {ps:List Z6} {p:Z6} (hp:Z7 ps 0=p) (h:NV p=true):Wt ps 0=true:=by unfold Wt;rw [hp];simp [h,Ww]
theorem Us {w:World} {v:Value} {ps:List Z6} {who F:Int} (hF:Ww ps who=F) (h:IsPaces w v ps) :
  Calls Tryz.prog 291 #[v,.int .i64 who] w fun e w'=>e= .returned (.int .i64 F)/\Below w.heap.size w w':=by
 subst hF
 exact Kj who h
theorem Yx {w:World} {v:Value} {ps:List Z6} (h:IsPaces w v ps) :
  Calls Tryz.prog 257 #[v] w fun e w'=>e= .returned (.bool (YL ps))/\Below w.heap.size w w':=by
 have Hr2:=Z9 h
 obtain ⟨a,cap,rfl,hc,hm,hr⟩:=h
 have Hr:=Z9 hr
 clear hr
 by_cases hbig:100<ps.length
 ·go_enter Tryz.func257,Tryz.ntmps257
  go_wp2_with fail
  go_ret
  exact ⟨Z5 (Il hbig).symm,Below.refl _ _⟩
 go_enter Tryz.func257,Tryz.ntmps257
 go_wp2_with fail
 go_loopw [10] (fun i wr=> ∃ k:Nat,k<=ps.length/\i= .int .i64 k/\(∀ j,j<k->Wt ps j=true)/\Below w.heap.size w wr) (fun i _=>ps.length-(intOf i).toNat)
 case atStart=>exact ⟨0,Nat.zero_le _,rfl,fun j hj=>by omega,Below.refl _ _⟩
 case round=>
  obtain ⟨k,hk,rfl,hst,hb⟩:=hrel
  have Hst:=Z9 hst
  have Hb:=Z9 hb
  clear hst
  by_cases hlt:k<ps.length
  ·rcases uh Hr with h0 | ⟨b,off,rfl,hbw,hcl⟩
   ·rw [h0] at hlt;simp at hlt
   have hbr:b<wr.heap.size:=Nat.lt_of_lt_of_le hbw hb.size
   have hne:b ≠ wr.heap.size:=Nat.ne_of_lt hbr
   obtain ⟨c0,c1⟩:=hcl k hlt
   rw [<-hb.cell (p:=⟨b,off+k*2,none⟩) hbw] at c0
   rw [<-hb.cell (p:=⟨b,off+k*2+1,none⟩) hbw] at c1
   generalize hp:Z7 ps k=p at c0 c1
   have Hp:=Z9 hp
   clear hp
   obtain ⟨f,z⟩:=p
   simp only at c0 c1
   have Hip:=Z9 ((((uh Hr2).below hb).cut (n:=k) (by omega)).below ((Below.refl _ _).alloc (Nat.le_refl _) (.cells #[.int .i64 f,.int .i64 z] 151)))
   have d0:(wr.alloc (.cells #[.int .i64 f,.int .i64 z] 151)).cell? ⟨wr.heap.size,0,none⟩=some (.int .i64 f):=by simp
   have d1:(wr.alloc (.cells #[.int .i64 f,.int .i64 z] 151)).cell? ⟨wr.heap.size,1,none⟩=some (.int .i64 z):=by simp
   have k0:=cell_regrown d0
   have k1:=cell_regrown d1
   clear d0 d1
   obtain ⟨F,hF⟩:∃ F,Ww (ps.take k) z=F:=⟨_,rfl⟩
   have hFb:=C8 (ps.take k) z
   rw [hF] at hFb
   have HF:=Z9 hF
   clear hF
   cases hpb:NV (f,z)
   ·clear hcl
    go_wp2_with fail
    refine wq ?_
    repeat (go_big_quiet_step (first | exact Calls.regrown_of (V1 _ _ _) | exact Calls.regrown_of (Xe _ _ _ _ _) | exact Calls.regrown_of (Us (uh HF) ((uh Hip).below (below_regrown _ _ _)))))
    refine wpQuiet_nil ?_
    intro _ hw'
    obtain ⟨⟨dq,osq⟩,hw''⟩:=hw'
    subst hw''
    go_wp2_with fail
    go_ret
    exact ⟨Z5 (OF hlt (CI (uh Hp) hpb)).symm,(uh Hb).trans (((Below.refl _ _).alloc (uh Hb).size _).trans ((below_regrown _ _ _).mono (by simp;have:=(uh Hb).size;omega)))⟩
   ·by_cases hz:0<k
    ·have hd:decide (0<k)=true:=decide_eq_true hz
     obtain ⟨e0,e1⟩:=hcl (k-1) (by omega)
     rw [<-hb.cell (p:=⟨b,off+(k-1)*2,none⟩) hbw] at e0
     rw [<-hb.cell (p:=⟨b,off+(k-1)*2+1,none⟩) hbw] at e1
     generalize hq:Z7 ps (k-1)=q at e0 e1
     have Hq:=Z9 hq
     clear hq
     obtain ⟨f',z'⟩:=q
     simp only at e0 e1
     have m0:=cell_regrown (w:=wr.alloc (.cells #[.int .i64 f,.int .i64 z] 151)) (a:=⟨b,off+(k-1)*2,none⟩) (v:= .int .i64 f') (by rw [World.cell?_alloc_old _ _ _ hne];exact e0)
     have m1:=cell_regrown (w:=wr.alloc (.cells #[.int .i64 f,.int .i64 z] 151)) (a:=⟨b,off+(k-1)*2+1,none⟩) (v:= .int .i64 z') (by rw [World.cell?_alloc_old _ _ _ hne];exact e1)
     clear hcl e0 e1
     cases hab:ltB (f',z') (f,z)
     ·go_wp2_with fail
      refine wq ?_
      repeat (go_big_quiet_step (first | exact Calls.regrown_of (V1 _ _ _) | exact Calls.regrown_of (Xe _ _ _ _ _) | exact Calls.regrown_of (Us (uh HF) ((uh Hip).below (below_regrown _ _ _)))))
      refine wpQuiet_nil ?_
      intro _ hw'
      obtain ⟨⟨dq,osq⟩,hw''⟩:=hw'
      subst hw''
      go_wp2_with fail
      go_ret
      exact ⟨Z5 (OF hlt (CJ hz (uh Hp) (uh Hq) hab)).symm,(uh Hb).trans (((Below.refl _ _).alloc (uh Hb).size _).trans ((below_regrown _ _ _).mono (by simp;have:=(uh Hb).size;omega)))⟩
     ·by_cases hF0:F= -1
      ·subst hF0
       go_wp2_with fail
       refine wq ?_
       repeat (go_big_quiet_step (first | exact Calls.regrown_of (V1 _ _ _) | exact Calls.regrown_of (Xe _ _ _ _ _) | exact Calls.regrown_of (Us (uh HF) ((uh Hip).below (below_regrown _ _ _)))))
       refine wpQuiet_nil ?_
       intro _ hw'
       obtain ⟨⟨dq,osq⟩,hw''⟩:=hw'
       subst hw''
       go_wp2_with fail
       go_roundw
       case rel=>exact ⟨k+1,by omega,by go_num,YF (uh Hst) (CL hz (uh Hp) (uh Hq) hpb hab (by rw [uh HF];omega)),(uh Hb).trans (((Below.refl _ _).alloc (uh Hb).size _).trans ((below_regrown _ _ _).mono (by simp;have:=(uh Hb).size;omega)))⟩
       case measure=>exact ms
      ·have hF1:0<=F:=by omega
       have hF2:(F == -1)=false:=by simpa using hF0
       have hF3:(F != -1)=true:=by simpa using hF0
       clear hF0
       go_wp2_with fail
       refine wq ?_
       repeat (go_big_quiet_step (first | exact Calls.regrown_of (V1 _ _ _) | exact Calls.regrown_of (Xe _ _ _ _ _) | exact Calls.regrown_of (Us (uh HF) ((uh Hip).below (below_regrown _ _ _)))))
       refine wpQuiet_nil ?_
       intro _ hw'
       obtain ⟨⟨dq,osq⟩,hw''⟩:=hw'
       subst hw''
       go_wp2_with fail
       go_ret
       exact ⟨Z5 (OF hlt (CK (uh Hp) (by rw [uh HF];exact hF1))).symm,(uh Hb).trans (((Below.refl _ _).alloc (uh Hb).size _).trans ((below_regrown _ _ _).mono (by simp;have:=(uh Hb).size;omega)))⟩
    ·obtain rfl:k=0:=by omega
     obtain rfl:F= -1:=by simp at hFb;omega
     simp only [Nat.zero_mul,Nat.add_zero] at c0 c1 k0 k1
     clear hcl hz
     go_wp2_with fail
     refine wq ?_
     repeat (go_big_quiet_step (first | exact Calls.regrown_of (V1 _ _ _) | exact Calls.regrown_of (Xe _ _ _ _ _) | exact Calls.regrown_of (Us (uh HF) ((uh Hip).below (below_regrown _ _ _)))))
     refine wpQuiet_nil ?_
     intro _ hw'
     obtain ⟨⟨dq,osq⟩,hw''⟩:=hw'
     subst hw''
     go_wp2_with fail
     go_roundw
     case rel=>exact ⟨1,by omega,by go_num,YF (uh Hst) (CH (uh Hp) hpb),(uh Hb).trans (((Below.refl _ _).alloc (uh Hb).size _).trans ((below_regrown _ _ _).mono (by simp;have:=(uh Hb).size;omega)))⟩
     case measure=>exact ms
  ·obtain rfl:k=ps.length:=by omega
   go_wp2_with fail
   go_ret
   exact ⟨Z5 (Kn (by omega) (uh Hst)).symm,hb⟩
def Bb (n₀:Nat) (r:List Z6 × Bool) (e:Ending) (w':World):Prop:= ∃ v',e= .returned (.tuple #[v',.bool r.2])/\EntsAt n₀ w' v' r.1
theorem In {ps:List Z6} {e:Z6} (h:YL ps=false):TW ps e=([],false):=by unfold TW;rw [h];rfl
theorem Nf {ps:List Z6} {e:Z6} (h:YL ps=true) (h2:YL (VF ps e)=false):TW ps e=(ps,false):=by unfold TW;rw [h,h2];rfl
theorem P7 {ps:List Z6} {e:Z6} (h:YL ps=true) (h2:YL (VF ps e)=true):TW ps e=(VF ps e,true):=by unfold TW;rw [h,h2];rfl
theorem Oe {w:World} {v:Value} {ps:List Z6} (f z:Int) (h:IsPaces w v ps) :
  Calls Tryz.prog 256 #[v,.agg #[.int .i64 f,.int .i64 z]] w fun e w'=>Bb w.heap.size (TW ps (f,z)) e w'/\Below w.heap.size w w':=by
 have Hv:=Z9 h
 obtain ⟨a,cap,rfl,hc,hm,hr⟩:=h
 clear hr
 cases hq:YL ps
 ·rw [In hq]
  go_enter Tryz.func256,Tryz.ntmps256
  go_wp2_with fail
  refine (Yx ((uh Hv).below ((ba _ _)))).mono ?_
  rw [hq]
  rintro e w1 ⟨rfl,hb1⟩
  have B1:Hid (Below w.heap.size w w1):=Z9 (((ba _ _)).trans (hb1.mono (by simp)))
  clear hb1
  go_wp2_with fail
  go_ret2
  exact ⟨⟨_,rfl,Wh rfl (uh B1).size⟩,(uh B1).alloc (uh B1).size _⟩
 ·have hQ:=By hq
  have hlen:=hQ.len
  have HQ:=Z9 hQ
  clear hQ
  go_enter Tryz.func256,Tryz.ntmps256
  go_wp2_with fail
  refine (Yx ((uh Hv).below ((ba _ _)))).mono ?_
  rw [hq]
  rintro e w1 ⟨rfl,hb1⟩
  have hz1:w.heap.size+1<=w1.heap.size:=by have:=hb1.size;simpa using this
  have c0:w1.cell? ⟨w.heap.size,0,none⟩=some (.int .i64 f):=(hb1.cell (p:=⟨w.heap.size,0,none⟩) (by simp)).trans (by simp)
  have c1:w1.cell? ⟨w.heap.size,1,none⟩=some (.int .i64 z):=(hb1.cell (p:=⟨w.heap.size,1,none⟩) (by simp)).trans (by simp)
  have B1:Hid (Below w.heap.size w w1):=Z9 (((ba _ _)).trans (hb1.mono (by simp)))
  clear hb1
  go_wp2_with fail
  refine (GK ((uh Hv).below (uh B1)) (by omega)).mono ?_
  rintro e w2 ⟨bx,v2,rfl,hbx,hh2,hb2⟩
  have hlt1:w.heap.size<w1.heap.size:=by omega
  have d0:=(hb2.cell (p:=⟨w.heap.size,0,none⟩) hlt1).trans c0
  have d1:=(hb2.cell (p:=⟨w.heap.size,1,none⟩) hlt1).trans c1
  have hz2:=hb2.size
  have H2:=Z9 hh2
  have B2:Hid (Below w.heap.size w w2):=Z9 ((uh B1).trans (hb2.mono (by omega)))
  clear hb2 hh2 c0 c1
  go_wp2_with fail
  refine (LD f z (uh H2) (DO (uh HQ).ris) (by omega) hbx hz2).mono ?_
  rintro e w3 ⟨rfl,v3,hs,hh3,hto3,hpe3,hb3⟩
  have hz3:=hb3.size
  have hsl:hs.length=ps.length+1:=by have:=hpe3.length_eq;simpa using this
  have H3:=Z9 hh3
  have T3:=Z9 hto3
  have P3:=Z9 hpe3
  have B3:Hid (Below w.heap.size w w3):=Z9 ((uh B2).trans (hb3.mono (by omega)))
  clear hb3 hh3 hto3 hpe3 d0 d1
  go_wp2_with fail
  refine (Jn (uh H3) (uh T3) (by omega) hbx (by omega)).mono ?_
  rintro e w4 ⟨v4,qs,rfl,hi4,hris4,hpe4,hb4⟩
  obtain rfl:qs=VF ps (f,z):=Ix (uh HQ) hris4 (hpe4.trans (uh P3))
  have hz4:=hb4.size
  obtain ⟨a4,cap4,rfl⟩:=hi4.shape
  have H4:=Z9 hi4
  have B4:Hid (Below w.heap.size w w4):=Z9 ((uh B3).trans (hb4.mono (by omega)))
  clear hi4 hris4 hpe4 hb4 H2 H3 T3 P3
  go_wp2_with fail
  refine (Yx (uh H4).paces).mono ?_
  cases hq2:YL (VF ps (f,z))
  ·rintro e w5 ⟨rfl,hb5⟩
   have B5:Hid (Below w.heap.size w w5):=Z9 ((uh B4).trans (hb5.mono (by omega)))
   clear hb5
   go_wp2_with fail
   refine (NQ ((uh Hv).below (uh B5)) (by omega)).mono ?_
   rintro e w6 ⟨v6,rfl,hi6,hb6⟩
   obtain ⟨a6,cap6,rfl⟩:=hi6.shape
   have H6:=Z9 hi6
   have B6:Hid (Below w.heap.size w w6):=Z9 ((uh B5).trans (hb6.mono (uh B5).size))
   clear hi6 hb6
   go_wp2_with fail
   go_ret2
   rw [Nf hq hq2]
   exact ⟨⟨_,rfl,(uh H6).mono (uh B5).size⟩,uh B6⟩
  ·rintro e w5 ⟨rfl,hb5⟩
   have H5:=Z9 ((uh H4).later hb5)
   have B5:Hid (Below w.heap.size w w5):=Z9 ((uh B4).trans (hb5.mono (by omega)))
   clear hb5
   go_wp2_with fail
   go_ret2
   rw [P7 hq hq2]
   exact ⟨⟨_,rfl,(uh H5).mono (by omega)⟩,uh B5⟩
set_option maxRecDepth 100000
theorem KV {m:Z4} {b:Int} {k:Nat} (hk:k<(ZW (atB b) m.smiths m.smiths.length).length):∃ i:Nat,i<m.smiths.length/\Z8 (ZW (atB b) m.smiths m.smiths.length) k=(i:Int):=by
 obtain ⟨i,hi,e,_⟩:=(Xu (atB b) m.smiths _ m.smiths.length).1 (Uu hk)
 exact ⟨i,hi,e⟩
theorem Ik {w:World} {v0 v1 v2 v3 v4:Value} {m M:Z4} (b:Int) (h:Smy w v0 v1 v2 v3 v4 m) (hL:Loose M) (hM:M.smiths=m.smiths):Calls Tryz.prog 204 #[.agg #[v0,v1,v2,v3,v4,.int .i64 m.now],.int .i64 b] w fun e w'=> ∃ v',e= .returned v'/\EntsAt w.heap.size w' v' (atV m.smiths b m.smiths.length)/\Below w.heap.size w w':=by
 have Hv:=Z9 ((h.alloc (.cells #[v0,v1,v2,v3,v4,.int .i64 m.now] 32)).alloc (.cells #[] 151))
 have HV0:=Z9 h
 obtain ⟨a0,p0,a1,p1,a2,p2,a3,p3,a4,p4,rfl,rfl,rfl,rfl,rfl,_,_,_,_,_,_,_,_,_,_⟩:=h.five
 clear h
 have hl:m.smiths.length<=1000:=by rw [<-hM];have:=(XJ hL).smiths;omega
 have HL:Hid (∀ k,YL (WB m.smiths ((ZW (atB b) m.smiths m.smiths.length).take k))=true):=Z9 (fun k=>by have:=Ii hL b k;rw [hM] at this;exact this)
 clear hL hM
 have kb:Hid (Blk ((w.alloc (.cells (S6 a0 p0 a1 p1 a2 p2 a3 p3 a4 p4 m) 32)).alloc (.cells #[] 151)) w.heap.size 32 (S6 a0 p0 a1 p1 a2 p2 a3 p3 a4 p4 m)):=Z9 ((Blk.new w _ _).alloc _)
 have BB:Hid (Below w.heap.size w ((w.alloc (.cells (S6 a0 p0 a1 p1 a2 p2 a3 p3 a4 p4 m) 32)).alloc (.cells #[] 151))):=Z9 (((ba _ _)).alloc (by simp) _)
 have HE:Hid (EntsAt w.heap.size ((w.alloc (.cells (S6 a0 p0 a1 p1 a2 p2 a3 p3 a4 p4 m) 32)).alloc (.cells #[] 151)) (.slice (some ⟨w.heap.size+1,0,none⟩) 0 0) []):=Z9 (Wh (by simp) (by simp))
 go_enter Tryz.func204,Tryz.ntmps204
 go_upto_region 2 with fail
 generalize (w.alloc (.cells (S6 a0 p0 a1 p1 a2 p2 a3 p3 a4 p4 m) 32)).alloc (.cells #[] 151)=W at *
 obtain ⟨c0,c1,c2,c3,c4,c5⟩:=(uh kb).c6
 go_wp2_with fail
 refine (Tp b (uh Hv) hl).mono ?_
 rintro e w1 ⟨vn,rfl,hn,hb⟩
 obtain ⟨na,nc,rfl⟩:=RecAt.shape hn
 have HN0:=Z9 (RecAt.mono hn (uh BB).size)
 have Hv1:=Z9 ((uh Hv).below hb)
 have kb1:=Z9 ((uh kb).below hb (uh kb).lt)
 have BB1:=Z9 ((uh BB).trans (hb.mono (uh BB).size))
 have HE1:=Z9 ((uh HE).later hb)
 clear hb hn c0 c1 c2 c3 c4 c5 Hv kb BB HE
 have Hq:=Z9 (RV m.smiths b m.smiths.length)
 have Hwh:=Z9 (fun k hk=>KV (m:=m) (b:=b) (k:=k) hk)
 have Hpq:=HL
 clear HL
 have hwl:=WL (atB b) m.smiths m.smiths.length
 generalize ZW (atB b) m.smiths m.smiths.length=ws at *
 go_wp2_with fail
 go_loopw [5,13] (fun l i wr=> ∃ k:Nat,k<=ws.length/\i= .int .i64 k/\EntsAt w.heap.size wr l (WB m.smiths (ws.take k))/\NumsAt w.heap.size wr (.slice na ws.length nc) ws/\Blk wr w.heap.size 32 (S6 a0 p0 a1 p1 a2 p2 a3 p3 a4 p4 m)/\Smy wr (.slice a0 m.rooms.length p0) (.slice a1 m.guilds.length p1) (.slice a2 m.smiths.length p2) (.slice a3 m.desks.length p3) (.slice a4 m.paces.length p4) m/\Below w.heap.size w wr) (fun _ i _=>ws.length-(intOf i).toNat)
 case atStart=>exact ⟨0,Nat.zero_le _,rfl,uh HE1,uh HN0,uh kb1,uh Hv1,uh BB1⟩
 case round=>
  obtain ⟨k,hk,rfl,he,hn,hkb,hv,hb0⟩:=hrel
  obtain ⟨la,lc,rfl⟩:=EntsAt.shape he
  have HE:=Z9 he
  have HN:=Z9 hn
  have kb:=Z9 hkb
  have Hv:=Z9 hv
  have BB:=Z9 hb0
  clear he hn hkb hv hb0 HE1 HN0 kb1 Hv1 BB1
  by_cases hlt:k<ws.length
  ·have hlt1:(k:Int)<(ws.length:Int):=by omega
   obtain ⟨g,hga,_,_,hcl,_⟩:=RecAt.view Zb (by omega) (uh HN) rfl (by omega)
   cases hga
   have z0:=hcl k hlt 0 _ rfl
   simp only [Nat.mul_one,Nat.add_zero] at z0
   obtain ⟨i,hi,hiw⟩:=uh Hwh k hlt
   rw [hiw] at z0
   have hi1:(i:Int)<(m.smiths.length:Int):=by omega
   obtain ⟨_,_,hse,_,_,r2⟩:=(uh Hv).smiths
   cases hse
   rcases r2 with e0 | ⟨sb,off,rfl,hbw,hcs⟩
   ·rw [e0] at hi;simp at hi
   obtain ⟨_,_,_,_,_,_,_,d7,_⟩:=ZC hcs hi
   have HT:Hid (WB m.smiths (ws.take (k+1))=VF (WB m.smiths (ws.take k)) (XG (Z8 m.smiths i),(i:Int))):=Z9 (by rw [RD hlt,Rt,hiw];simp)
   have hq1:=uh Hpq k
   have hq2:=uh Hpq (k+1)
   rw [uh HT] at hq2
   have HQ:=Z9 (P7 hq1 hq2)
   clear hcl hcs hq1 hq2
   have e7:(Z8 m.smiths i).2.2.2.2.2.2.2.1=XG (Z8 m.smiths i):=rfl
   rw [e7] at d7
   clear e7
   generalize XG (Z8 m.smiths i)=hd at *
   have c2:=(uh kb).cell (i:=2) (v:= .slice (some ⟨sb,off,none⟩) m.smiths.length p2) rfl
   go_wp2_with fail
   refine (Oe hd (i:Int) (uh HE).paces).mono ?_
   rw [uh HQ]
   rintro e w2 ⟨⟨v',rfl,he⟩,hb⟩
   obtain ⟨ua,uc,rfl⟩:=EntsAt.shape he
   have HE2:=Z9 (he.mono (uh BB).size)
   replace HN:=Z9 (RecAt.later (uh HN) hb)
   replace kb:=bl kb hb
   replace Hv:=Z9 ((uh Hv).below hb)
   replace BB:=bt BB hb
   clear hb he c2 d7 z0
   go_wp2_with fail
   go_roundw
   case rel=>exact ⟨k+1,by omega,by go_num,by rw [uh HT];exact uh HE2,uh HN,uh kb,uh Hv,uh BB⟩
   case measure=>exact ms
  ·obtain rfl:k=ws.length:=by omega
   have HE3:Hid (EntsAt w.heap.size wr (.slice la (WB m.smiths (ws.take ws.length)).length lc) (atV m.smiths b m.smiths.length)):=Z9 (by
    have h9:=uh HE
    have e9:WB m.smiths (ws.take ws.length)=atV m.smiths b m.smiths.length:=by rw [List.take_length,uh Hq]
    rw [<-e9]
    exact h9)
   go_wp2_with fail
   go_ret
   exact ⟨_,rfl,uh HE3,uh BB⟩
theorem Km {w:World} {v0 v1 v2 v3 v4:Value} {m:Z4} (b:Int) (h:Smy w v0 v1 v2 v3 v4 m) (hL:Loose m):Calls Tryz.prog 204 #[.agg #[v0,v1,v2,v3,v4,.int .i64 m.now],.int .i64 b] w fun e w'=> ∃ v',e= .returned v'/\EntsAt w.heap.size w' v' (atV m.smiths b m.smiths.length)/\Below w.heap.size w w':=Ik b h hL rfl
theorem Em {w:World} {v0 v1 v2 v3 v4:Value} {m:Z4} {k:Nat} (h:Smy w v0 v1 v2 v3 v4 m) (hL:IW m) (hk:k<m.smiths.length) (hs:(Z8 m.smiths k).1 ≠ 0):Calls Tryz.prog 231 #[.agg #[v0,v1,v2,v3,v4,.int .i64 m.now],.int .i64 (k:Int)] w fun e w'=>e= .returned (.int .i64 (Zo m (k:Int)))/\Below w.heap.size w w':=by
 have hw:Zo m (k:Int)=RH m.guilds (Z8 m.smiths k):=rfl
 rw [hw]
 clear hw
 have Hg0:=Z9 h.guilds
 obtain ⟨a0,p0,rfl,_,_⟩:=IsRooms.shape h.rooms
 obtain ⟨a1,p1,rfl,_,_⟩:=IsRec.shape h.guilds
 obtain ⟨a2,p2,rfl,hc2,hm2,r2⟩:=h.smiths
 obtain ⟨a3,p3,rfl,_,_⟩:=IsRec.shape h.desks
 obtain ⟨a4,p4,rfl,_,_⟩:=IsRec.shape h.paces
 clear h
 obtain ⟨hg1,hpair⟩:=hL.each k hk hs
 rcases r2 with e0 | ⟨sb,off,rfl,hbw,hcl⟩
 ·rw [e0] at hk;simp at hk
 have hk1:(k:Int)<(m.smiths.length:Int):=by omega
 obtain ⟨d0,d1,d2,d3,d4,d5,d6,d7,d8,d9,d10⟩:=ZC hcl hk
 clear hcl hs hL
 generalize Z8 m.smiths k=ss at *
 obtain ⟨st,be,rk,my,gu,lo,hi,hd,ca,ut,wk⟩:=ss
 simp only at d0 d1 d2 d3 d4 d5 d6 d7 d8 d9 d10 hg1 hpair
 obtain ⟨nr,hnr⟩:∃ nr,VE (bnd m.guilds gu) lo hi=nr:=⟨_,rfl⟩
 have HW:Hid (Ub m.guilds gu lo hi=nr):=Z9 (by rw [<-hnr];exact MZ hg1 hpair)
 have HX:Hid (RH m.guilds (st,be,rk,my,gu,lo,hi,hd,ca,ut,wk)=min (max ut nr.1) nr.2):=Z9 (by rw [<-hnr];rfl)
 rw [uh HX]
 clear hpair hg1 HX hnr
 obtain ⟨nl,nh⟩:=nr
 dsimp only
 have hne:sb ≠ w.heap.size:=Nat.ne_of_lt hbw
 have hbw2:sb<w.heap.size+1:=by omega
 have BB:Hid (Below w.heap.size w ((w.alloc (.cells #[.slice a0 m.rooms.length p0,.slice a1 m.guilds.length p1,.slice (some ⟨sb,off,none⟩) m.smiths.length p2,.slice a3 m.desks.length p3,.slice a4 m.paces.length p4,.int .i64 m.now] 32)).alloc (.cells (I11 st be rk my gu lo hi hd ca ut wk) 39))):=Z9 (((ba _ _)).alloc (by simp) _)
 have ks:Hid (Blk ((w.alloc (.cells #[.slice a0 m.rooms.length p0,.slice a1 m.guilds.length p1,.slice (some ⟨sb,off,none⟩) m.smiths.length p2,.slice a3 m.desks.length p3,.slice a4 m.paces.length p4,.int .i64 m.now] 32)).alloc (.cells (I11 st be rk my gu lo hi hd ca ut wk) 39)) (w.heap.size+1) 39 (I11 st be rk my gu lo hi hd ca ut wk)):=Z9 (by
  have k9:=Blk.new (w.alloc (.cells #[.slice a0 m.rooms.length p0,.slice a1 m.guilds.length p1,.slice (some ⟨sb,off,none⟩) m.smiths.length p2,.slice a3 m.desks.length p3,.slice a4 m.paces.length p4,.int .i64 m.now] 32)) 39 (I11 st be rk my gu lo hi hd ca ut wk)
  rw [World.size_alloc] at k9
  exact k9)
 have kb:Hid (Blk ((w.alloc (.cells #[.slice a0 m.rooms.length p0,.slice a1 m.guilds.length p1,.slice (some ⟨sb,off,none⟩) m.smiths.length p2,.slice a3 m.desks.length p3,.slice a4 m.paces.length p4,.int .i64 m.now] 32)).alloc (.cells (I11 st be rk my gu lo hi hd ca ut wk) 39)) w.heap.size 32 #[.slice a0 m.rooms.length p0,.slice a1 m.guilds.length p1,.slice (some ⟨sb,off,none⟩) m.smiths.length p2,.slice a3 m.desks.length p3,.slice a4 m.paces.length p4,.int .i64 m.now]):=Z9 ((Blk.new w _ _).alloc _)
 have Hg2:=Z9 ((uh Hg0).below (uh BB))
 go_enter Tryz.func231,Tryz.ntmps231
 go_upto_region 2 with fail
 generalize (w.alloc (.cells #[.slice a0 m.rooms.length p0,.slice a1 m.guilds.length p1,.slice (some ⟨sb,off,none⟩) m.smiths.length p2,.slice a3 m.desks.length p3,.slice a4 m.paces.length p4,.int .i64 m.now] 32)).alloc (.cells (I11 st be rk my gu lo hi hd ca ut wk) 39)=W at *
 clear d0 d1 d2 d3 d4 d5 d6 d7 d8 d9 d10
 have c1:=(uh kb).cell (i:=1) (v:= .slice a1 m.guilds.length p1) rfl
 have s4:=(uh ks).cell (i:=4) (v:= .int .i64 gu) rfl
 have s5:=(uh ks).cell (i:=5) (v:= .int .i64 lo) rfl
 have s6:=(uh ks).cell (i:=6) (v:= .int .i64 hi) rfl
 go_wp2_with fail
 refine (Oh gu lo hi (uh Hg2)).mono ?_
 rw [uh HW]
 rintro e w1 ⟨rfl,hb⟩
 replace ks:=bl ks hb
 replace BB:=bt BB hb
 clear hb c1 s4 s5 s6 HW
 have s9:=(uh ks).cell (i:=9) (v:= .int .i64 ut) rfl
 go_wp2_with (go_at_call 258;refine (VR _ _ _ _).mono ?_;rintro e w' ⟨rfl,h9⟩;subst w')
 go_ret
 exact ⟨rfl,uh BB⟩
set_option maxRecDepth 100000
theorem IK {w:World} {v0 v1 v2 v3 v4:Value} {m:Z4} {b q:Int} (hq:Ze m b (-1)=q) (h:Smy w v0 v1 v2 v3 v4 m) (hW:IW m) (hl:m.smiths.length<=12):Calls Tryz.prog 182 #[.agg #[v0,v1,v2,v3,v4,.int .i64 m.now],.int .i64 b] w fun e w'=>e= .returned (.int .i64 q)/\Below w.heap.size w w':=by
 have Hq:=Z9 hq
 clear hq
 have HW:=Z9 hW
 clear hW
 obtain ⟨a0,p0,a1,p1,a2,p2,a3,p3,a4,p4,rfl,rfl,rfl,rfl,rfl,K⟩:=Bx.new h
 clear h
 go_enter Tryz.func182,Tryz.ntmps182
 go_upto_region 2 with fail
 generalize w.alloc (.cells (S6 a0 p0 a1 p1 a2 p2 a3 p3 a4 p4 m) 32)=W at *
 obtain ⟨c0,c1,c2,c3,c4,c5⟩:=K.cells
 go_wp2_with fail
 refine (Tp b K.smy (by omega)).mono ?_
 rintro e w1 ⟨vn,rfl,hn,hb⟩
 obtain ⟨na,nc,rfl⟩:=RecAt.shape hn
 have HN:=Z9 hn
 replace K:=K.next hb
 clear hb hn c0 c1 c2 c3 c4 c5
 have Hwh:=Z9 (fun k hk=>KV (m:=m) (b:=b) (k:=k) hk)
 have Hat:=Z9 (fun x hx=>(Xu (atB b) m.smiths x m.smiths.length).1 hx)
 have hwl:=WL (atB b) m.smiths m.smiths.length
 rw [<-IP] at Hq
 generalize ZW (atB b) m.smiths m.smiths.length=ws at *
 go_wp2_with fail
 go_loopw [5,12] (fun u i wr=> ∃ k:Nat,k<=ws.length/\i= .int .i64 k/\u= .int .i64 (VS m (ws.take k))/\Bx w wr w.heap.size a0 p0 a1 p1 a2 p2 a3 p3 a4 p4 m/\Below w1.heap.size w1 wr) (fun _ i _=>ws.length-(intOf i).toNat)
 case atStart=>exact ⟨0,Nat.zero_le _,rfl,rfl,K,Below.refl _ _⟩
 case round=>
  obtain ⟨k,hk,rfl,rfl,hK,hb0⟩:=hrel
  clear K
  have K:=hK
  have BB:=Z9 hb0
  clear hK hb0
  have hub:=Gj m (ws.take k)
  have htl:(ws.take k).length<=ws.length:=by simp;omega
  by_cases hlt:k<ws.length
  ·have hlt1:(k:Int)<(ws.length:Int):=by omega
   obtain ⟨g,hga,_,hgl,hcl,_⟩:=RecAt.view Zb (by omega) (uh HN) rfl (by omega)
   cases hga
   have z0:=hcl k hlt 0 _ rfl
   simp only [Nat.mul_one,Nat.add_zero] at z0
   have hgw:g<w1.heap.size:=hgl
   rw [<-(uh BB).cell (p:=⟨g,k,none⟩) hgw] at z0
   obtain ⟨i,hi,hiw⟩:=uh Hwh k hlt
   obtain ⟨_,_,hi2,hat⟩:=uh Hat _ (Uu hlt)
   have hpi:(Z8 m.smiths i).1 ≠ 0:=by
    rw [hiw] at hi2
    obtain rfl:=Int.ofNat.inj hi2
    intro e
    unfold atB at hat
    rw [e] at hat
    simp at hat
   clear hcl hi2 hat
   have HS:Hid (VS m (ws.take (k+1))=VS m (ws.take k)+Zo m (i:Int)):=Z9 (by rw [Fo m hlt,hiw])
   rw [hiw] at z0
   have hwb:=RI m (i:Int)
   have HC:=Z9 (fun (X:World) (hX:Smy X (.slice a0 m.rooms.length p0) (.slice a1 m.guilds.length p1) (.slice a2 m.smiths.length p2) (.slice a3 m.desks.length p3) (.slice a4 m.paces.length p4) m)=>Em hX (uh HW) hi hpi)
   generalize VS m (ws.take k)=us at *
   generalize Zo m (i:Int)=wa at *
   have hgr:g<wr.heap.size:=Nat.lt_of_lt_of_le hgw (uh BB).size
   obtain ⟨c0,c1,c2,c3,c4,c5⟩:=K.cells
   go_wp2_with fail
   refine ck (uh HC _ K.smy) fun w2 hb=> ?_
   replace K:=K.next hb
   replace BB:=bt BB hb
   clear hb c0 c1 c2 c3 c4 c5 z0
   have hlen12:(ws.length:Int)<=12:=by omega
   go_wp2_with fail
   go_roundw
   case rel=>exact ⟨k+1,by omega,by go_num,by rw [uh HS],K,uh BB⟩
   case measure=>exact ms
  ·obtain rfl:k=ws.length:=by omega
   rw [List.take_length] at *
   obtain rfl:q=VS m ws:=(uh Hq).symm
   go_wp2_with fail
   go_ret
   exact ⟨rfl,K.bb⟩
theorem LC (a:Option Addr) (n cap:Nat) (i:Int) (w:World):Calls Tryz.prog 178 #[.slice a n cap,.int .i64 i] w fun e w'=>e= .returned (.bool (XA n i))/\w'=w:=by
 by_cases h0:0<=i
 ·by_cases h1:i<(n:Int)
  all_goals
   go_enter Tryz.func178,Tryz.ntmps178
   go_wp2_with fail
   go_ret
   exact ⟨Z5 (by unfold XA;simp [h0,h1]),rfl⟩
 ·go_enter Tryz.func178,Tryz.ntmps178
  go_wp2_with fail
  go_ret
  exact ⟨Z5 (by unfold XA;simp;omega),rfl⟩
theorem PW {w:World} {v0 v1 v2 v3 v4:Value} {m:Z4} {r:Int} {q:Bool} (hq:Yu m r=q) (h:Smy w v0 v1 v2 v3 v4 m):Calls Tryz.prog 114 #[.agg #[v0,v1,v2,v3,v4,.int .i64 m.now],.int .i64 r] w fun e w'=>e= .returned (.bool q)/\Below w.heap.size w w':=by
 have Hq:Hid (XA m.rooms.length r=q):=Z9 (by rw [GJ];exact hq)
 clear hq
 obtain ⟨a0,p0,a1,p1,a2,p2,a3,p3,a4,p4,rfl,rfl,rfl,rfl,rfl,K⟩:=Bx.new h
 clear h
 go_enter Tryz.func114,Tryz.ntmps114
 go_wp2_with fail
 refine (LC _ _ _ r _).mono ?_
 rw [uh Hq]
 rintro e w1 ⟨rfl,h9⟩
 subst w1
 go_wp2_with fail
 go_ret
 exact ⟨rfl,K.bb⟩
theorem JD {w:World} {v0 v1 v2 v3 v4:Value} {m:Z4} {b:Int} {q:Bool} (hq:Tc m b=q) (h:Smy w v0 v1 v2 v3 v4 m):Calls Tryz.prog 181 #[.agg #[v0,v1,v2,v3,v4,.int .i64 m.now],.int .i64 b] w fun e w'=>e= .returned (.bool q)/\Below w.heap.size w w':=by
 have Hq:=Z9 hq
 clear hq
 obtain ⟨a0,p0,a1,p1,a2,p2,a3,p3,a4,p4,rfl,rfl,rfl,rfl,rfl,K⟩:=Bx.new h
 clear h
 go_enter Tryz.func181,Tryz.ntmps181
 go_wp2_with fail
 generalize w.alloc (.cells (S6 a0 p0 a1 p1 a2 p2 a3 p3 a4 p4 m) 32)=W at *
 refine ck (PO _ _ _ _ _ _ _ _ _ _ _ _ _ _ _ _ _) fun w2 hb=> ?_
 replace K:=K.next hb
 clear hb
 obtain ⟨qh,hqh⟩:∃ q,XA m.desks.length b=q:=⟨_,rfl⟩
 have Hh:=Z9 hqh
 clear hqh
 go_wp2_with fail
 refine (SO _ _ _ b _).mono ?_
 rw [uh Hh]
 rintro e w3 ⟨rfl,h9⟩
 subst w3
 cases qh
 ·obtain rfl:q=false:=by rw [<-uh Hq];unfold Tc;rw [uh Hh];rfl
  go_wp2_with fail
  go_ret
  exact ⟨rfl,K.bb⟩
 have hbb:0<=b/\b<(m.desks.length:Int):=by have:=uh Hh;unfold XA at this;simpa using this
 obtain ⟨k,rfl⟩:∃ k:Nat,b=k:=⟨b.toNat,by omega⟩
 have hk:k<m.desks.length:=by omega
 have hk1:(k:Int)<(m.desks.length:Int):=by omega
 obtain ⟨_,_,hde,_,_,r3⟩:=K.smy.desks
 cases hde
 rcases r3 with e0 | ⟨db,off,rfl,hbw,hcl⟩
 ·rw [e0] at hk;simp at hk
 obtain ⟨d0,d1,d2⟩:=Zp hcl hk
 have hq2:(Z8 m.desks k).1=q:=by rw [<-uh Hq];unfold Tc;rw [uh Hh,Int.toNat_natCast];rfl
 clear hcl Hq
 generalize Z8 m.desks k=dd at *
 obtain ⟨op,wo,mk⟩:=dd
 simp only at d0 d1 d2 hq2
 subst hq2
 obtain ⟨c0,c1,c2,c3,c4,c5⟩:=K.cells
 go_wp2_with fail
 refine ck (RP op wo mk _) fun w4 hb=> ?_
 replace K:=K.next hb
 clear hb c0 c1 c2 c3 c4 c5 d0 d1 d2
 go_wp2_with fail
 go_ret
 exact ⟨rfl,K.bb⟩
open Go.ChangeShapes Go.WideShapes Go.ChangeAt Go.RowKit Go.Sort Go.Shelf
set_option linter.unusedSimpArgs false
set_option maxRecDepth 100000
section
variable {F G : Nat → TypeId → Array Value → Prop} {w W : World} {R : Nat} {v0 v1 v2 v3 v4 : Value} {m : Z4} {qs : List (Z2 × Value)}
end
theorem GH {w W:World} {R:Nat} {v0 v1 v2 v3 v4:Value} {m:Z4} {qs:List (Z2 × Value)} {q:Int->Addr} (K:Nx w W R v0 v1 v2 v3 v4 m qs) (he:Errs w q) (hm:ZP m=true) (room pace:Int):Calls Tryz.prog 57 #[.pointer (some ⟨R,0,none⟩),.int .i64 room,.int .i64 pace] W fun e W'=>Chg w R q (Xb m room pace) (Xl m room pace) e W':=by
 have HM:=Z9 hm
 have HE:=Z9 he
 clear hm he
 obtain ⟨a0,p0,a1,p1,a2,p2,a3,p3,a4,p4,rfl,rfl,rfl,rfl,rfl⟩:=Ui K.full
 obtain ⟨qr,hqr⟩:∃ q,Yu m room=q:=⟨_,rfl⟩
 have Hr:=Z9 hqr
 clear hqr
 obtain ⟨c0,c1,c2,c3,c4,c5⟩:=K.cells
 go_enter Tryz.func57,Tryz.ntmps57
 go_wp2_with fail
 refine ck (PW (uh Hr) K.full.smy) fun w2 hb=> ?_
 replace K:=K.next hb
 clear hb c0 c1 c2 c3 c4 c5
 cases qr
 ·have hc0:Xl m room pace=1:=by unfold Xl;rw [uh Hr];rfl
  have x1:=((uh HE).below K.bb).c1
  go_wp2_with fail
  go_ret
  exact Chg.no K.bb hc0 (by omega)
 obtain ⟨r,rfl,hr⟩:=VG (uh Hr)
 have hr1:(r:Int)<(m.rooms.length:Int):=by omega
 obtain ⟨_,_,hre,_,_,r0⟩:=K.full.smy.rooms
 cases hre
 rcases r0 with e0 | ⟨rb,off,rfl,hbw,hcl⟩
 ·rw [e0] at hr;simp at hr
 obtain ⟨d0,pv,d1,hpv⟩:=hcl r hr
 obtain ⟨pa,pc,rfl,_,_,_⟩:=hpv
 obtain ⟨pl,hpl⟩:∃ q,(Z0 m.rooms r).2.length=q:=⟨_,rfl⟩
 have Hpl:=Z9 hpl
 rw [hpl] at d1
 obtain ⟨qp,hqp⟩:∃ q,XA pl pace=q:=⟨_,rfl⟩
 have Hqp:=Z9 hqp
 have Hin:Hid (inB pace 0 (((Z0 m.rooms ((r:Int)).toNat).2.length:Int)-1)=qp):=Z9 (by rw [Int.toNat_natCast,hpl,<-hqp,GJ])
 clear hcl hpl hqp d0
 obtain ⟨c0,c1,c2,c3,c4,c5⟩:=K.cells
 go_wp2_with fail
 refine (PV _ _ _ _ _).mono ?_
 rw [uh Hqp]
 rintro e w3 ⟨rfl,hw3⟩
 subst hw3
 clear d1 c0 c1 c2 c3 c4 c5
 cases qp
 ·have hc0:Xl m (r:Int) pace=3:=by unfold Xl;rw [uh Hr,uh Hin];rfl
  have x1:=((uh HE).below K.bb).c3
  go_wp2_with fail
  go_ret
  exact Chg.no K.bb hc0 (by omega)
 have hc0:Xl m (r:Int) pace=0:=by unfold Xl;rw [uh Hr,uh Hin];rfl
 have hx0:Xb m (r:Int) pace=Xq m r pace:=by unfold Xb;rw [Int.toNat_natCast]
 have Hc0:=Z9 hc0
 have Hx0:=Z9 hx0
 clear hc0 hx0
 have hpl:=XC (ZY (uh HM))
 have hr2:r<m.paces.length:=by omega
 have hr3:(r:Int)<(m.paces.length:Int):=by omega
 obtain ⟨g4,rfl,hg4,hg4w,hc4,hz4⟩:=RecAt.view Zb (by omega) K.full.paces rfl (show 0<m.paces.length by omega)
 have n0:=hc4 r hr2 0 _ rfl
 have fz:=hz4 r
 simp only [Nat.mul_one,Nat.add_zero] at n0
 have HK:=Z9 (K.putP rfl hr2 pace)
 clear hc4 hz4 hpl
 obtain ⟨_,_,_,_,c4,_⟩:=K.cells
 clear K
 go_wp2_with fail
 go_ret
 exact Chg.yes (uh HK) (uh Hc0) (uh Hx0)
end Go.Proofs.YtffcgajndmhpkaaGreatDoor
