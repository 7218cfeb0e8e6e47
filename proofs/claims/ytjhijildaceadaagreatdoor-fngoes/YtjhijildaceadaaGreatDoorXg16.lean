/- Part 16 of what the proof rests on. No condition but those that a theorem names. -/
import Derived.Test.YtjhijildaceadaaGreatDoorXg15
set_option maxHeartbeats 8000000
set_option maxRecDepth 100000
namespace Go.Proofs.YtjhijildaceadaaGreatDoor
open Go.ChangeShapes Go.WideShapes Go.ChangeAt Go.RowKit Go.Sort
set_option linter.unusedVariables false
theorem DL {ps:List Z6} {k:Nat} {p:Z6} (hp:Z7 ps k=p) (h:OE p=false):WA ps k=false:=by unfold WA;rw [hp];simp [h]
theorem DM {ps:List Z6} {k:Nat} {p q:Z6} (hz:0<k) (hp:Z7 ps k=p) (hq:Z7 ps (k-1)=q) (h:ltB q p=false):WA ps k=false:=by unfold WA;rw [hp,hq];simp [h];omega
theorem DN {ps:List Z6} {k:Nat} {f z:Int} (hp:Z7 ps k=(f,z)) (h:0<=WD (ps.take k) z):WA ps k=false:=by unfold WA;rw [hp];simp;intros;exact h
theorem DO {ps:List Z6} {k:Nat} {f z:Int} {q:Z6} (hz:0<k) (hp:Z7 ps k=(f,z)) (hq:Z7 ps (k-1)=q) (h1:OE (f,z)=true) (h2:ltB q (f,z)=true) (h:WD (ps.take k) z<0):WA ps k=true:=by unfold WA;rw [hp,hq];simp [h1,h2,h]
theorem DK {ps:List Z6} {p:Z6} (hp:Z7 ps 0=p) (h:OE p=true):WA ps 0=true:=by unfold WA;rw [hp];simp [h,WD]
theorem UN {w:World} {v:Value} {ps:List Z6} {who F:Int} (hF:WD ps who=F) (h:IsPaces w v ps) :
  Calls Tryz.prog 336 #[v,.int .i64 who] w fun e w'=>e= .returned (.int .i64 F)/\Below w.heap.size w w':=by
 subst hF
 exact Lk who h
theorem YB {w:World} {v:Value} {ps:List Z6} (h:IsPaces w v ps) :
  Calls Tryz.prog 295 #[v] w fun e w'=>e= .returned (.bool (YP ps))/\Below w.heap.size w w':=by
 have Hr2:=Z9 h
 obtain ⟨a,cap,rfl,hc,hm,hr⟩:=h
 have Hr:=Z9 hr
 clear hr
 by_cases hbig:100<ps.length
 ·go_enter Tryz.func295,Tryz.ntmps295
  go_wp2_with fail
  go_ret
  exact ⟨Z5 (Jd hbig).symm,Below.refl _ _⟩
 go_enter Tryz.func295,Tryz.ntmps295
 go_wp2_with fail
 go_loopw [10] (fun i wr=> ∃ k:Nat,k<=ps.length/\i= .int .i64 k/\(∀ j,j<k->WA ps j=true)/\Below w.heap.size w wr) (fun i _=>ps.length-(intOf i).toNat)
 case atStart=>exact ⟨0,Nat.zero_le _,rfl,fun j hj=>by omega,Below.refl _ _⟩
 case round=>
  obtain ⟨k,hk,rfl,hst,hb⟩:=hrel
  have Hst:=Z9 hst
  have Hb:=Z9 hb
  clear hst
  by_cases hlt:k<ps.length
  ·rcases uh Hr with h0 | ⟨b,off,rfl,hbw,hcl⟩
   ·rw [h0] at hlt;simp at hlt
   have hbr:b<wr.heap.size:=Nat.lt_of_lt_of_le hbw hb.size
   have hne:b ≠ wr.heap.size:=Nat.ne_of_lt hbr
   obtain ⟨c0,c1⟩:=hcl k hlt
   rw [<-hb.cell (p:=⟨b,off+k*2,none⟩) hbw] at c0
   rw [<-hb.cell (p:=⟨b,off+k*2+1,none⟩) hbw] at c1
   generalize hp:Z7 ps k=p at c0 c1
   have Hp:=Z9 hp
   clear hp
   obtain ⟨f,z⟩:=p
   simp only at c0 c1
   have Hip:=Z9 ((((uh Hr2).below hb).cut (n:=k) (by omega)).below ((Below.refl _ _).alloc (Nat.le_refl _) (.cells #[.int .i64 f,.int .i64 z] 94)))
   have d0:(wr.alloc (.cells #[.int .i64 f,.int .i64 z] 94)).cell? ⟨wr.heap.size,0,none⟩=some (.int .i64 f):=by simp
   have d1:(wr.alloc (.cells #[.int .i64 f,.int .i64 z] 94)).cell? ⟨wr.heap.size,1,none⟩=some (.int .i64 z):=by simp
   have k0:=cell_regrown d0
   have k1:=cell_regrown d1
   clear d0 d1
   obtain ⟨F,hF⟩:∃ F,WD (ps.take k) z=F:=⟨_,rfl⟩
   have hFb:=Ec (ps.take k) z
   rw [hF] at hFb
   have HF:=Z9 hF
   clear hF
   cases hpb:OE (f,z)
   ·clear hcl
    go_wp2_with fail
    refine wp_region_quiet_below (by kernel_rfl) (by kernel_rfl) ?_
    repeat (go_big_quiet_step (first | exact Calls.regrown_of (Wa _ _ _) | exact Calls.regrown_of (Xp _ _ _ _ _) | exact Calls.regrown_of (UN (uh HF) ((uh Hip).below (below_regrown _ _ _)))))
    refine wpQuiet_nil ?_
    intro _ hw'
    obtain ⟨⟨dq,osq⟩,hw''⟩:=hw'
    subst hw''
    go_wp2_with fail
    go_ret
    exact ⟨Z5 (Pj hlt (DL (uh Hp) hpb)).symm,(uh Hb).trans (((Below.refl _ _).alloc (uh Hb).size _).trans ((below_regrown _ _ _).mono (by simp;have:=(uh Hb).size;omega)))⟩
   ·by_cases hz:0<k
    ·have hd:decide (0<k)=true:=decide_eq_true hz
     obtain ⟨e0,e1⟩:=hcl (k-1) (by omega)
     rw [<-hb.cell (p:=⟨b,off+(k-1)*2,none⟩) hbw] at e0
     rw [<-hb.cell (p:=⟨b,off+(k-1)*2+1,none⟩) hbw] at e1
     generalize hq:Z7 ps (k-1)=q at e0 e1
     have Hq:=Z9 hq
     clear hq
     obtain ⟨f',z'⟩:=q
     simp only at e0 e1
     have m0:=cell_regrown (w:=wr.alloc (.cells #[.int .i64 f,.int .i64 z] 94)) (a:=⟨b,off+(k-1)*2,none⟩) (v:= .int .i64 f') (by rw [World.cell?_alloc_old _ _ _ hne];exact e0)
     have m1:=cell_regrown (w:=wr.alloc (.cells #[.int .i64 f,.int .i64 z] 94)) (a:=⟨b,off+(k-1)*2+1,none⟩) (v:= .int .i64 z') (by rw [World.cell?_alloc_old _ _ _ hne];exact e1)
     clear hcl e0 e1
     cases hab:ltB (f',z') (f,z)
     ·go_wp2_with fail
      refine wp_region_quiet_below (by kernel_rfl) (by kernel_rfl) ?_
      repeat (go_big_quiet_step (first | exact Calls.regrown_of (Wa _ _ _) | exact Calls.regrown_of (Xp _ _ _ _ _) | exact Calls.regrown_of (UN (uh HF) ((uh Hip).below (below_regrown _ _ _)))))
      refine wpQuiet_nil ?_
      intro _ hw'
      obtain ⟨⟨dq,osq⟩,hw''⟩:=hw'
      subst hw''
      go_wp2_with fail
      go_ret
      exact ⟨Z5 (Pj hlt (DM hz (uh Hp) (uh Hq) hab)).symm,(uh Hb).trans (((Below.refl _ _).alloc (uh Hb).size _).trans ((below_regrown _ _ _).mono (by simp;have:=(uh Hb).size;omega)))⟩
     ·by_cases hF0:F= -1
      ·subst hF0
       go_wp2_with fail
       refine wp_region_quiet_below (by kernel_rfl) (by kernel_rfl) ?_
       repeat (go_big_quiet_step (first | exact Calls.regrown_of (Wa _ _ _) | exact Calls.regrown_of (Xp _ _ _ _ _) | exact Calls.regrown_of (UN (uh HF) ((uh Hip).below (below_regrown _ _ _)))))
       refine wpQuiet_nil ?_
       intro _ hw'
       obtain ⟨⟨dq,osq⟩,hw''⟩:=hw'
       subst hw''
       go_wp2_with fail
       go_roundw
       case rel=>exact ⟨k+1,by omega,by go_num,Ys (uh Hst) (DO hz (uh Hp) (uh Hq) hpb hab (by rw [uh HF];omega)),(uh Hb).trans (((Below.refl _ _).alloc (uh Hb).size _).trans ((below_regrown _ _ _).mono (by simp;have:=(uh Hb).size;omega)))⟩
       case measure=>simp [intOf];omega
      ·have hF1:0<=F:=by omega
       have hF2:(F == -1)=false:=by simpa using hF0
       have hF3:(F != -1)=true:=by simpa using hF0
       clear hF0
       go_wp2_with fail
       refine wp_region_quiet_below (by kernel_rfl) (by kernel_rfl) ?_
       repeat (go_big_quiet_step (first | exact Calls.regrown_of (Wa _ _ _) | exact Calls.regrown_of (Xp _ _ _ _ _) | exact Calls.regrown_of (UN (uh HF) ((uh Hip).below (below_regrown _ _ _)))))
       refine wpQuiet_nil ?_
       intro _ hw'
       obtain ⟨⟨dq,osq⟩,hw''⟩:=hw'
       subst hw''
       go_wp2_with fail
       go_ret
       exact ⟨Z5 (Pj hlt (DN (uh Hp) (by rw [uh HF];exact hF1))).symm,(uh Hb).trans (((Below.refl _ _).alloc (uh Hb).size _).trans ((below_regrown _ _ _).mono (by simp;have:=(uh Hb).size;omega)))⟩
    ·obtain rfl:k=0:=by omega
     obtain rfl:F= -1:=by simp at hFb;omega
     simp only [Nat.zero_mul,Nat.add_zero] at c0 c1 k0 k1
     clear hcl hz
     go_wp2_with fail
     refine wp_region_quiet_below (by kernel_rfl) (by kernel_rfl) ?_
     repeat (go_big_quiet_step (first | exact Calls.regrown_of (Wa _ _ _) | exact Calls.regrown_of (Xp _ _ _ _ _) | exact Calls.regrown_of (UN (uh HF) ((uh Hip).below (below_regrown _ _ _)))))
     refine wpQuiet_nil ?_
     intro _ hw'
     obtain ⟨⟨dq,osq⟩,hw''⟩:=hw'
     subst hw''
     go_wp2_with fail
     go_roundw
     case rel=>exact ⟨1,by omega,by go_num,Ys (uh Hst) (DK (uh Hp) hpb),(uh Hb).trans (((Below.refl _ _).alloc (uh Hb).size _).trans ((below_regrown _ _ _).mono (by simp;have:=(uh Hb).size;omega)))⟩
     case measure=>simp [intOf];omega
  ·obtain rfl:k=ps.length:=by omega
   go_wp2_with fail
   go_ret
   exact ⟨Z5 (Lp (by omega) (uh Hst)).symm,hb⟩
def Ck (n₀:Nat) (r:List Z6 × Bool) (e:Ending) (w':World):Prop:= ∃ v',e= .returned (.tuple #[v',.bool r.2])/\EntsAt n₀ w' v' r.1
theorem Jf {ps:List Z6} {e:Z6} (h:YP ps=false):Uo ps e=([],false):=by unfold Uo;rw [h];rfl
theorem NY {ps:List Z6} {e:Z6} (h:YP ps=true) (h2:YP (Vi ps e)=false):Uo ps e=(ps,false):=by unfold Uo;rw [h,h2];rfl
theorem QI {ps:List Z6} {e:Z6} (h:YP ps=true) (h2:YP (Vi ps e)=true):Uo ps e=(Vi ps e,true):=by unfold Uo;rw [h,h2];rfl
theorem OR {w:World} {v:Value} {ps:List Z6} (f z:Int) (h:IsPaces w v ps) :
  Calls Tryz.prog 240 #[v,.agg #[.int .i64 f,.int .i64 z]] w fun e w'=>Ck w.heap.size (Uo ps (f,z)) e w'/\Below w.heap.size w w':=by
 have Hv:=Z9 h
 obtain ⟨a,cap,rfl,hc,hm,hr⟩:=h
 clear hr
 cases hq:YP ps
 ·rw [Jf hq]
  go_enter Tryz.func240,Tryz.ntmps240
  go_wp2_with fail
  refine (YB ((uh Hv).below ((Below.refl _ _).alloc (Nat.le_refl _) _))).mono ?_
  rw [hq]
  rintro e w1 ⟨rfl,hb1⟩
  have B1:Hid (Below w.heap.size w w1):=Z9 (((Below.refl _ _).alloc (Nat.le_refl _) _).trans (hb1.mono (by simp)))
  clear hb1
  go_wp2_with fail
  go_ret2
  exact ⟨⟨_,rfl,Wn rfl (uh B1).size⟩,(uh B1).alloc (uh B1).size _⟩
 ·have hQ:=CH hq
  have hlen:=hQ.len
  have HQ:=Z9 hQ
  clear hQ
  go_enter Tryz.func240,Tryz.ntmps240
  go_wp2_with fail
  refine (YB ((uh Hv).below ((Below.refl _ _).alloc (Nat.le_refl _) _))).mono ?_
  rw [hq]
  rintro e w1 ⟨rfl,hb1⟩
  have hz1:w.heap.size+1<=w1.heap.size:=by have:=hb1.size;simpa using this
  have c0:w1.cell? ⟨w.heap.size,0,none⟩=some (.int .i64 f):=(hb1.cell (p:=⟨w.heap.size,0,none⟩) (by simp)).trans (by simp)
  have c1:w1.cell? ⟨w.heap.size,1,none⟩=some (.int .i64 z):=(hb1.cell (p:=⟨w.heap.size,1,none⟩) (by simp)).trans (by simp)
  have B1:Hid (Below w.heap.size w w1):=Z9 (((Below.refl _ _).alloc (Nat.le_refl _) _).trans (hb1.mono (by simp)))
  clear hb1
  go_wp2_with fail
  refine (IE ((uh Hv).below (uh B1)) (by omega)).mono ?_
  rintro e w2 ⟨bx,v2,rfl,hbx,hh2,hb2⟩
  have hlt1:w.heap.size<w1.heap.size:=by omega
  have d0:=(hb2.cell (p:=⟨w.heap.size,0,none⟩) hlt1).trans c0
  have d1:=(hb2.cell (p:=⟨w.heap.size,1,none⟩) hlt1).trans c1
  have hz2:=hb2.size
  have H2:=Z9 hh2
  have B2:Hid (Below w.heap.size w w2):=Z9 ((uh B1).trans (hb2.mono (by omega)))
  clear hb2 hh2 c0 c1
  go_wp2_with fail
  refine (My f z (uh H2) (ES (uh HQ).ris) (by omega) hbx hz2).mono ?_
  rintro e w3 ⟨rfl,v3,hs,hh3,hto3,hpe3,hb3⟩
  have hz3:=hb3.size
  have hsl:hs.length=ps.length+1:=by have:=hpe3.length_eq;simpa using this
  have H3:=Z9 hh3
  have T3:=Z9 hto3
  have P3:=Z9 hpe3
  have B3:Hid (Below w.heap.size w w3):=Z9 ((uh B2).trans (hb3.mono (by omega)))
  clear hb3 hh3 hto3 hpe3 d0 d1
  go_wp2_with fail
  refine (J9 (uh H3) (uh T3) (by omega) hbx (by omega)).mono ?_
  rintro e w4 ⟨v4,qs,rfl,hi4,hris4,hpe4,hb4⟩
  obtain rfl:qs=Vi ps (f,z):=Jo (uh HQ) hris4 (hpe4.trans (uh P3))
  have hz4:=hb4.size
  obtain ⟨a4,cap4,rfl⟩:=hi4.shape
  have H4:=Z9 hi4
  have B4:Hid (Below w.heap.size w w4):=Z9 ((uh B3).trans (hb4.mono (by omega)))
  clear hi4 hris4 hpe4 hb4 H2 H3 T3 P3
  go_wp2_with fail
  refine (YB (uh H4).paces).mono ?_
  cases hq2:YP (Vi ps (f,z))
  ·rintro e w5 ⟨rfl,hb5⟩
   have B5:Hid (Below w.heap.size w w5):=Z9 ((uh B4).trans (hb5.mono (by omega)))
   clear hb5
   go_wp2_with fail
   refine (OB ((uh Hv).below (uh B5)) (by omega)).mono ?_
   rintro e w6 ⟨v6,rfl,hi6,hb6⟩
   obtain ⟨a6,cap6,rfl⟩:=hi6.shape
   have H6:=Z9 hi6
   have B6:Hid (Below w.heap.size w w6):=Z9 ((uh B5).trans (hb6.mono (uh B5).size))
   clear hi6 hb6
   go_wp2_with fail
   go_ret2
   rw [NY hq hq2]
   exact ⟨⟨_,rfl,(uh H6).mono (uh B5).size⟩,uh B6⟩
  ·rintro e w5 ⟨rfl,hb5⟩
   have H5:=Z9 ((uh H4).later hb5)
   have B5:Hid (Below w.heap.size w w5):=Z9 ((uh B4).trans (hb5.mono (by omega)))
   clear hb5
   go_wp2_with fail
   go_ret2
   rw [QI hq hq2]
   exact ⟨⟨_,rfl,(uh H5).mono (by omega)⟩,uh B5⟩
structure Bx (w W:World) (R:Nat) (a0:Option Addr) (p0:Nat) (a1:Option Addr) (p1:Nat) (a2:Option Addr) (p2:Nat) (a3:Option Addr) (p3:Nat) (a4:Option Addr) (p4:Nat) (m:Z4):Prop where
 smy:Smy W (.slice a0 m.rooms.length p0) (.slice a1 m.guilds.length p1) (.slice a2 m.smiths.length p2) (.slice a3 m.desks.length p3) (.slice a4 m.paces.length p4) m
 blk:Blk W R 32 (S6 a0 p0 a1 p1 a2 p2 a3 p3 a4 p4 m)
 bb:Below w.heap.size w W
section
variable {w W X : World} {R : Nat} {a0 a1 a2 a3 a4 : Option Addr} {p0 p1 p2 p3 p4 : Nat} {m : Z4}
theorem Bx.next (h:Bx w W R a0 p0 a1 p1 a2 p2 a3 p3 a4 p4 m) (hb:Below W.heap.size W X):Bx w X R a0 p0 a1 p1 a2 p2 a3 p3 a4 p4 m:=⟨h.smy.below hb,h.blk.below hb h.blk.lt,h.bb.trans (hb.mono h.bb.size)⟩
theorem Bx.alloc (h:Bx w W R a0 p0 a1 p1 a2 p2 a3 p3 a4 p4 m) (o:Obj):Bx w (W.alloc o) R a0 p0 a1 p1 a2 p2 a3 p3 a4 p4 m:=h.next ((Below.refl _ _).alloc (Nat.le_refl _) _)
theorem Bx.cells (h:Bx w W R a0 p0 a1 p1 a2 p2 a3 p3 a4 p4 m):W.cell? ⟨R,0,none⟩=some (.slice a0 m.rooms.length p0)/\W.cell? ⟨R,1,none⟩=some (.slice a1 m.guilds.length p1)/\W.cell? ⟨R,2,none⟩=some (.slice a2 m.smiths.length p2)/\W.cell? ⟨R,3,none⟩=some (.slice a3 m.desks.length p3)/\W.cell? ⟨R,4,none⟩=some (.slice a4 m.paces.length p4)/\W.cell? ⟨R,5,none⟩=some (.int .i64 m.now):=h.blk.c6
end
theorem Bx.new {w:World} {v0 v1 v2 v3 v4:Value} {m:Z4} (h:Smy w v0 v1 v2 v3 v4 m):∃ a0 p0 a1 p1 a2 p2 a3 p3 a4 p4,v0= .slice a0 m.rooms.length p0/\v1= .slice a1 m.guilds.length p1/\v2= .slice a2 m.smiths.length p2/\v3= .slice a3 m.desks.length p3/\v4= .slice a4 m.paces.length p4/\Bx w (w.alloc (.cells (S6 a0 p0 a1 p1 a2 p2 a3 p3 a4 p4 m) 32)) w.heap.size a0 p0 a1 p1 a2 p2 a3 p3 a4 p4 m:=by
 obtain ⟨a0,p0,a1,p1,a2,p2,a3,p3,a4,p4,rfl,rfl,rfl,rfl,rfl,_⟩:=h.five
 exact ⟨a0,p0,a1,p1,a2,p2,a3,p3,a4,p4,rfl,rfl,rfl,rfl,rfl,h.alloc _,Blk.new _ _ _,(Below.refl _ _).alloc (Nat.le_refl _) _⟩
theorem Bx.put {w W:World} {v0 v1 v2 v3 v4:Value} {m:Z4} (h:Smy W v0 v1 v2 v3 v4 m) (hb:Below w.heap.size w W):∃ a0 p0 a1 p1 a2 p2 a3 p3 a4 p4,v0= .slice a0 m.rooms.length p0/\v1= .slice a1 m.guilds.length p1/\v2= .slice a2 m.smiths.length p2/\v3= .slice a3 m.desks.length p3/\v4= .slice a4 m.paces.length p4/\Bx w (W.alloc (.cells (S6 a0 p0 a1 p1 a2 p2 a3 p3 a4 p4 m) 32)) W.heap.size a0 p0 a1 p1 a2 p2 a3 p3 a4 p4 m:=by
 obtain ⟨a0,p0,a1,p1,a2,p2,a3,p3,a4,p4,rfl,rfl,rfl,rfl,rfl,_⟩:=h.five
 exact ⟨a0,p0,a1,p1,a2,p2,a3,p3,a4,p4,rfl,rfl,rfl,rfl,rfl,h.alloc _,Blk.new _ _ _,hb.trans (((Below.refl _ _).alloc (Nat.le_refl _) _).mono hb.size)⟩
end Go.Proofs.YtjhijildaceadaaGreatDoor
namespace Go.Proofs.YtjhijildaceadaaGreatDoor
open Go.ChangeShapes Go.WideShapes Go.ChangeAt Go.RowKit Go.Sort
set_option linter.unusedVariables false
set_option maxRecDepth 100000
theorem Ft {m:Z4} {b:Int} {k:Nat} (hk:k<(ZX (atB b) m.smiths m.smiths.length).length):∃ i:Nat,i<m.smiths.length/\Z8 (ZX (atB b) m.smiths m.smiths.length) k=(i:Int):=by
 obtain ⟨i,hi,e,_⟩:=(WZ (atB b) m.smiths _ m.smiths.length).1 (Ta hk)
 exact ⟨i,hi,e⟩
theorem Jc {w:World} {v0 v1 v2 v3 v4:Value} {m M:Z4} (b:Int) (h:Smy w v0 v1 v2 v3 v4 m) (hL:Loose M) (hM:M.smiths=m.smiths):Calls Tryz.prog 178 #[.agg #[v0,v1,v2,v3,v4,.int .i64 m.now],.int .i64 b] w fun e w'=> ∃ v',e= .returned v'/\EntsAt w.heap.size w' v' (atV m.smiths b m.smiths.length)/\Below w.heap.size w w':=by
 have Hv:=Z9 ((h.alloc (.cells #[v0,v1,v2,v3,v4,.int .i64 m.now] 32)).alloc (.cells #[] 94))
 have HV0:=Z9 h
 obtain ⟨a0,p0,a1,p1,a2,p2,a3,p3,a4,p4,rfl,rfl,rfl,rfl,rfl,_,_,_,_,_,_,_,_,_,_⟩:=h.five
 clear h
 have hl:m.smiths.length<=1000:=by rw [<-hM];have:=(XO hL).smiths;omega
 have HL:Hid (∀ k,YP (WK m.smiths ((ZX (atB b) m.smiths m.smiths.length).take k))=true):=Z9 (fun k=>by have:=Ja hL b k;rw [hM] at this;exact this)
 clear hL hM
 have kb:Hid (Blk ((w.alloc (.cells (S6 a0 p0 a1 p1 a2 p2 a3 p3 a4 p4 m) 32)).alloc (.cells #[] 94)) w.heap.size 32 (S6 a0 p0 a1 p1 a2 p2 a3 p3 a4 p4 m)):=Z9 ((Blk.new w _ _).alloc _)
 have BB:Hid (Below w.heap.size w ((w.alloc (.cells (S6 a0 p0 a1 p1 a2 p2 a3 p3 a4 p4 m) 32)).alloc (.cells #[] 94))):=Z9 (((Below.refl _ _).alloc (Nat.le_refl _) _).alloc (by simp) _)
 have HE:Hid (EntsAt w.heap.size ((w.alloc (.cells (S6 a0 p0 a1 p1 a2 p2 a3 p3 a4 p4 m) 32)).alloc (.cells #[] 94)) (.slice (some ⟨w.heap.size+1,0,none⟩) 0 0) []):=Z9 (Wn (by simp) (by simp))
 go_enter Tryz.func178,Tryz.ntmps178
 go_upto_region 2 with fail
 generalize (w.alloc (.cells (S6 a0 p0 a1 p1 a2 p2 a3 p3 a4 p4 m) 32)).alloc (.cells #[] 94)=W at *
 obtain ⟨c0,c1,c2,c3,c4,c5⟩:=(uh kb).c6
 go_wp2_with fail
 refine (QT b (uh Hv) hl).mono ?_
 rintro e w1 ⟨vn,rfl,hn,hb⟩
 obtain ⟨na,nc,rfl⟩:=RecAt.shape hn
 have HN0:=Z9 (RecAt.mono hn (uh BB).size)
 have Hv1:=Z9 ((uh Hv).below hb)
 have kb1:=Z9 ((uh kb).below hb (uh kb).lt)
 have BB1:=Z9 ((uh BB).trans (hb.mono (uh BB).size))
 have HE1:=Z9 ((uh HE).later hb)
 clear hb hn c0 c1 c2 c3 c4 c5 Hv kb BB HE
 have Hq:=Z9 (Sx m.smiths b m.smiths.length)
 have Hwh:=Z9 (fun k hk=>Ft (m:=m) (b:=b) (k:=k) hk)
 have Hpq:=HL
 clear HL
 have hwl:=Wh (atB b) m.smiths m.smiths.length
 generalize ZX (atB b) m.smiths m.smiths.length=ws at *
 go_wp2_with fail
 go_loopw [5,13] (fun l i wr=> ∃ k:Nat,k<=ws.length/\i= .int .i64 k/\EntsAt w.heap.size wr l (WK m.smiths (ws.take k))/\NumsAt w.heap.size wr (.slice na ws.length nc) ws/\Blk wr w.heap.size 32 (S6 a0 p0 a1 p1 a2 p2 a3 p3 a4 p4 m)/\Smy wr (.slice a0 m.rooms.length p0) (.slice a1 m.guilds.length p1) (.slice a2 m.smiths.length p2) (.slice a3 m.desks.length p3) (.slice a4 m.paces.length p4) m/\Below w.heap.size w wr) (fun _ i _=>ws.length-(intOf i).toNat)
 case atStart=>exact ⟨0,Nat.zero_le _,rfl,uh HE1,uh HN0,uh kb1,uh Hv1,uh BB1⟩
 case round=>
  obtain ⟨k,hk,rfl,he,hn,hkb,hv,hb0⟩:=hrel
  obtain ⟨la,lc,rfl⟩:=EntsAt.shape he
  have HE:=Z9 he
  have HN:=Z9 hn
  have kb:=Z9 hkb
  have Hv:=Z9 hv
  have BB:=Z9 hb0
  clear he hn hkb hv hb0 HE1 HN0 kb1 Hv1 BB1
  by_cases hlt:k<ws.length
  ·have hlt1:(k:Int)<(ws.length:Int):=by omega
   obtain ⟨g,hga,_,_,hcl,_⟩:=RecAt.view YN (by omega) (uh HN) rfl (by omega)
   cases hga
   have z0:=hcl k hlt 0 _ rfl
   simp only [Nat.mul_one,Nat.add_zero] at z0
   obtain ⟨i,hi,hiw⟩:=uh Hwh k hlt
   rw [hiw] at z0
   have hi1:(i:Int)<(m.smiths.length:Int):=by omega
   obtain ⟨_,_,hse,_,_,r2⟩:=(uh Hv).smiths
   cases hse
   rcases r2 with e0 | ⟨sb,off,rfl,hbw,hcs⟩
   ·rw [e0] at hi;simp at hi
   obtain ⟨_,_,_,_,_,_,_,d7,_⟩:=ZK hcs hi
   have HT:Hid (WK m.smiths (ws.take (k+1))=Vi (WK m.smiths (ws.take k)) (XM (Z8 m.smiths i),(i:Int))):=Z9 (by rw [MT hlt,RZ,hiw];simp)
   have hq1:=uh Hpq k
   have hq2:=uh Hpq (k+1)
   rw [uh HT] at hq2
   have HQ:=Z9 (QI hq1 hq2)
   clear hcl hcs hq1 hq2
   have e7:(Z8 m.smiths i).2.2.2.2.2.2.2.1=XM (Z8 m.smiths i):=rfl
   rw [e7] at d7
   clear e7
   generalize XM (Z8 m.smiths i)=hd at *
   have c2:=(uh kb).cell (i:=2) (v:= .slice (some ⟨sb,off,none⟩) m.smiths.length p2) rfl
   go_wp2_with fail
   refine (OR hd (i:Int) (uh HE).paces).mono ?_
   rw [uh HQ]
   rintro e w2 ⟨⟨v',rfl,he⟩,hb⟩
   obtain ⟨ua,uc,rfl⟩:=EntsAt.shape he
   have HE2:=Z9 (he.mono (uh BB).size)
   replace HN:=Z9 (RecAt.later (uh HN) hb)
   replace kb:=bl kb hb
   replace Hv:=Z9 ((uh Hv).below hb)
   replace BB:=bt BB hb
   clear hb he c2 d7 z0
   go_wp2_with fail
   go_roundw
   case rel=>exact ⟨k+1,by omega,by go_num,by rw [uh HT];exact uh HE2,uh HN,uh kb,uh Hv,uh BB⟩
   case measure=>simp [intOf];omega
  ·obtain rfl:k=ws.length:=by omega
   have HE3:Hid (EntsAt w.heap.size wr (.slice la (WK m.smiths (ws.take ws.length)).length lc) (atV m.smiths b m.smiths.length)):=Z9 (by
    have h9:=uh HE
    have e9:WK m.smiths (ws.take ws.length)=atV m.smiths b m.smiths.length:=by rw [List.take_length,uh Hq]
    rw [<-e9]
    exact h9)
   go_wp2_with fail
   go_ret
   exact ⟨_,rfl,uh HE3,uh BB⟩
theorem Lo {w:World} {v0 v1 v2 v3 v4:Value} {m:Z4} (b:Int) (h:Smy w v0 v1 v2 v3 v4 m) (hL:Loose m):Calls Tryz.prog 178 #[.agg #[v0,v1,v2,v3,v4,.int .i64 m.now],.int .i64 b] w fun e w'=> ∃ v',e= .returned v'/\EntsAt w.heap.size w' v' (atV m.smiths b m.smiths.length)/\Below w.heap.size w w':=Jc b h hL rfl
theorem Fu {m:Z4} (who:Int):Xl m who=(Xo m.smiths.length who && !((Z8 m.smiths who.toNat).1 ==0)):=by unfold Xl;rw [Ei]
theorem Qw {w:World} {v0 v1 v2 v3 v4:Value} {m:Z4} {who:Int} {q:Bool} (hq:Xl m who=q) (h:Smy w v0 v1 v2 v3 v4 m):Calls Tryz.prog 190 #[.agg #[v0,v1,v2,v3,v4,.int .i64 m.now],.int .i64 who] w fun e w'=>e= .returned (.bool q)/\Below w.heap.size w w':=by
 rw [Fu] at hq
 have Hq:=Z9 hq
 clear hq
 obtain ⟨a0,p0,a1,p1,a2,p2,a3,p3,a4,p4,rfl,rfl,rfl,rfl,rfl,K⟩:=Bx.new h
 clear h
 go_enter Tryz.func190,Tryz.ntmps190
 go_wp2_with fail
 generalize w.alloc (.cells (S6 a0 p0 a1 p1 a2 p2 a3 p3 a4 p4 m) 32)=W at *
 obtain ⟨c0,c1,c2,c3,c4,c5⟩:=K.cells
 go_wp2_with fail
 refine (WM _ _ _ _ _ _ _ _ _ _ _ _ _ _ _ _ _).mono ?_
 rintro e w2 ⟨rfl,hb⟩
 replace K:=K.next hb
 clear hb c0 c1 c2 c3 c4 c5
 obtain ⟨qh,hqh⟩:∃ q,Xo m.smiths.length who=q:=⟨_,rfl⟩
 have Hh:=Z9 hqh
 clear hqh
 go_wp2_with fail
 refine (Mx _ _ _ who _).mono ?_
 rw [uh Hh]
 rintro e w3 ⟨rfl,h9⟩
 subst w3
 cases qh
 ·obtain rfl:q=false:=by rw [<-uh Hq,uh Hh];rfl
  go_wp2_with fail
  go_ret
  exact ⟨rfl,K.bb⟩
 have hwb:0<=who/\who<(m.smiths.length:Int):=by have:=uh Hh;unfold Xo at this;simpa using this
 obtain ⟨k,rfl⟩:∃ k:Nat,who=k:=⟨who.toNat,by omega⟩
 have hk:k<m.smiths.length:=by omega
 have hk1:(k:Int)<(m.smiths.length:Int):=by omega
 obtain ⟨_,_,hse,_,_,r2⟩:=K.smy.smiths
 cases hse
 rcases r2 with e0 | ⟨sb,off,rfl,hbw,hcl⟩
 ·rw [e0] at hk;simp at hk
 obtain ⟨d0,d1,d2,d3,d4,d5,d6,d7,d8,d9,d10⟩:=ZK hcl hk
 obtain ⟨_,_,c2,_,_,_⟩:=K.cells
 have HS:Hid (q= !((Z8 m.smiths k).1 ==0)):=Z9 (by rw [<-uh Hq,uh Hh,Int.toNat_natCast];rfl)
 clear hcl
 generalize Z8 m.smiths k=ss at *
 obtain ⟨st,be,rk,my,gu,lo,hi,hd,ca,ut,wk⟩:=ss
 simp only at d0 d1 d2 d3 d4 d5 d6 d7 d8 d9 d10
 go_wp2_with fail
 refine (W6 st be rk my gu lo hi hd ca ut wk _).mono ?_
 rintro e w4 ⟨rfl,hb⟩
 replace K:=K.next hb
 clear hb c2 d0 d1 d2 d3 d4 d5 d6 d7 d8 d9 d10
 obtain rfl:q= !(st ==0):=uh HS
 go_wp2_with fail
 go_ret
 exact ⟨rfl,K.bb⟩
theorem Vu (x:Int) (w:World):Calls Tryz.prog 226 #[.int .i64 x] w fun e w'=>e= .returned (.bool (inB x 0 1000000))/\w'=w:=by
 go_enter Tryz.func226,Tryz.ntmps226
 go_wp2_with (go_at_call 76;refine (Z1 _ _ _ _).mono ?_;rintro e w' ⟨rfl,rfl⟩)
 go_ret
 exact ⟨rfl,rfl⟩
theorem TU {w:World} {v:Value} {ps:List Z6} (b need:Int) (h:IsPaces w v ps) :
  Calls Tryz.prog 362 #[.agg #[.int .i64 b,v],.int .i64 need] w fun e w'=>e= .returned (.int .i64 (XN (b,ps) need))/\Below w.heap.size w w':=by
 have Hv:=Z9 h
 obtain ⟨a,cap,rfl,hc,hm,hrow⟩:=h
 clear hrow
 cases hr:Zu (b,ps)
 ·rw [Le hr]
  go_enter Tryz.func362,Tryz.ntmps362
  go_wp2_with fail
  refine (Y0 b ((uh Hv).below ((Below.refl _ _).alloc (Nat.le_refl _) _))).mono ?_
  rintro e w1 ⟨rfl,hb⟩
  have B1:Hid (Below w.heap.size w w1):=Z9 (((Below.refl _ _).alloc (Nat.le_refl _) _).trans (hb.mono (by simp)))
  clear hb
  go_wp2_with fail
  go_ret
  exact ⟨rfl,uh B1⟩
 cases hn:inB need 0 1000000
 ·rw [Lf hn]
  go_enter Tryz.func362,Tryz.ntmps362
  go_wp2_with fail
  refine (Y0 b ((uh Hv).below ((Below.refl _ _).alloc (Nat.le_refl _) _))).mono ?_
  rintro e w1 ⟨rfl,hb⟩
  have B1:Hid (Below w.heap.size w w1):=Z9 (((Below.refl _ _).alloc (Nat.le_refl _) _).trans (hb.mono (by simp)))
  clear hb
  go_wp2_with (go_at_call 226;refine (Vu _ _).mono ?_;rintro e w' ⟨rfl,rfl⟩)
  go_ret
  exact ⟨rfl,uh B1⟩
 rw [I8 hr hn]
 have Hr:=Z9 hr
 have hn':=hn
 obtain ⟨n0,n1⟩:=ZR hn'
 clear hn'
 go_enter Tryz.func362,Tryz.ntmps362
 go_wp2_with fail
 refine (Y0 b ((uh Hv).below ((Below.refl _ _).alloc (Nat.le_refl _) _))).mono ?_
 rintro e w1 ⟨rfl,hb⟩
 have x1:w1.cell? ⟨w.heap.size,1,none⟩=some (.slice a ps.length cap):=(hb.cell (p:=⟨w.heap.size,1,none⟩) (by simp)).trans (by simp)
 have B1:Hid (Below w.heap.size w w1):=Z9 (((Below.refl _ _).alloc (Nat.le_refl _) _).trans (hb.mono (by simp)))
 clear hb
 have hv1:=(uh Hv).below (uh B1)
 obtain ⟨a',cap',he,_,_,hrow⟩:=hv1
 cases he
 have hbd:=ML (uh Hr)
 simp only at hbd
 obtain ⟨_,_,hl1,hl4⟩:=hbd
 rcases hrow with h0 | ⟨bk,off,rfl,hbw,hcl⟩
 ·rw [h0] at hl1;simp at hl1
 have Hcl:=Z9 hcl
 clear hcl
 go_wp2_with (go_at_call 226;refine (Vu _ _).mono ?_;rintro e w' ⟨rfl,rfl⟩)
 clear hr hn
 go_loop [5] (fun i=> ∃ k:Nat,k+1<=ps.length/\i= .int .i64 k/\(∀ j,j<k->SW need (Z7 ps j)=false)) (fun i=>ps.length-(intOf i).toNat)
 case atStart=>exact ⟨0,by omega,rfl,fun j hj=>by omega⟩
 case round=>
  obtain ⟨k,hk,rfl,hlo⟩:=hrel
  have Hlo:=Z9 hlo
  clear hlo
  by_cases hlast:k+1=ps.length
  ·have Hp:=Z9 (Pc need ps k hk (uh Hlo) (.inl hlast))
   have hd:¬ (k:Int)+1<(ps.length:Int):=by omega
   go_wp2_with fail
   go_ret
   exact ⟨Zy (by rw [uh Hp]),uh B1⟩
  ·have hd:(k:Int)+1<(ps.length:Int):=by omega
   obtain ⟨c0,c1⟩:=uh Hcl k (by omega)
   have hpb:=Nv (uh Hr) (k:=k) (show k<ps.length by omega)
   simp only at hpb
   generalize hp:Z7 ps k=p at c0 c1 hpb
   have Hp:=Z9 hp
   clear hp
   obtain ⟨f,c⟩:=p
   simp only at c0 c1 hpb
   obtain ⟨f0,f1,_,_⟩:=hpb
   by_cases hen:4*f<5*need
   ·go_wp2_with fail
    go_round
    case rel=>exact ⟨k+1,by omega,by go_num,Ys (uh Hlo) (by rw [uh Hp];exact Ea hen)⟩
    case measure=>simp [intOf];omega
   ·have Hq:=Z9 (Pc need ps k hk (uh Hlo) (.inr (by rw [uh Hp];exact Eb (by simp only;omega))))
    go_wp2_with fail
    go_ret
    exact ⟨Zy (by rw [uh Hq]),uh B1⟩
theorem Qb {w:World} {v:Value} {ps:List Z6} (b pace work:Int) (h:IsPaces w v ps) :
  Calls Tryz.prog 361 #[.agg #[.int .i64 b,v],.int .i64 pace,.int .i64 work] w fun e w'=>e= .returned (.int .i64 (XL (b,ps) pace work))/\Below w.heap.size w w':=by
 have Hv:=Z9 h
 obtain ⟨a,cap,rfl,hc,hm,hrow⟩:=h
 clear hrow
 have hl:(ps.length:Int)<=9223372036854775807:=by omega
 cases hr:Zu (b,ps)
 ·rw [Qn hr]
  go_enter Tryz.func361,Tryz.ntmps361
  go_wp2_with fail
  refine (Y0 b ((uh Hv).below ((Below.refl _ _).alloc (Nat.le_refl _) _))).mono ?_
  rintro e w1 ⟨rfl,hb⟩
  have B1:Hid (Below w.heap.size w w1):=Z9 (((Below.refl _ _).alloc (Nat.le_refl _) _).trans (hb.mono (by simp)))
  clear hb
  go_wp2_with fail
  go_ret
  exact ⟨rfl,uh B1⟩
 cases hn:inB work 0 1000000
 ·rw [Qo hn]
  go_enter Tryz.func361,Tryz.ntmps361
  go_wp2_with fail
  refine (Y0 b ((uh Hv).below ((Below.refl _ _).alloc (Nat.le_refl _) _))).mono ?_
  rintro e w1 ⟨rfl,hb⟩
  have B1:Hid (Below w.heap.size w w1):=Z9 (((Below.refl _ _).alloc (Nat.le_refl _) _).trans (hb.mono (by simp)))
  clear hb
  go_wp2_with (go_at_call 226;refine (Vu _ _).mono ?_;rintro e w' ⟨rfl,rfl⟩)
  go_ret
  exact ⟨rfl,uh B1⟩
 cases hp:inB pace 0 ((ps.length:Int)-1)
 ·rw [Qp hp]
  go_enter Tryz.func361,Tryz.ntmps361
  go_wp2_with fail
  refine (Y0 b ((uh Hv).below ((Below.refl _ _).alloc (Nat.le_refl _) _))).mono ?_
  rintro e w1 ⟨rfl,hb⟩
  have x1:w1.cell? ⟨w.heap.size,1,none⟩=some (.slice a ps.length cap):=(hb.cell (p:=⟨w.heap.size,1,none⟩) (by simp)).trans (by simp)
  have B1:Hid (Below w.heap.size w w1):=Z9 (((Below.refl _ _).alloc (Nat.le_refl _) _).trans (hb.mono (by simp)))
  clear hb
  go_wp2_with (first | (go_at_call 226;refine (Vu _ _).mono ?_;rintro e w' ⟨rfl,rfl⟩) | (go_at_call 76;refine (Z1 _ _ _ _).mono ?_;rintro e w' ⟨rfl,rfl⟩))
  go_ret
  exact ⟨rfl,uh B1⟩
 rw [Ox hr hn hp]
 have hpp:=ZR hp
 obtain ⟨hp0,hp1⟩:=hpp
 obtain ⟨k,rfl⟩:=Int.eq_ofNat_of_zero_le hp0
 have hk:k<ps.length:=by omega
 rw [Int.toNat_natCast]
 simp only
 generalize hpk:Z7 ps k=p
 have Hpk:=Z9 hpk
 clear hpk
 obtain ⟨f,c⟩:=p
 simp only
 go_enter Tryz.func361,Tryz.ntmps361
 go_wp2_with fail
 refine (Y0 b ((uh Hv).below ((Below.refl _ _).alloc (Nat.le_refl _) _))).mono ?_
 rintro e w1 ⟨rfl,hb⟩
 have x1:w1.cell? ⟨w.heap.size,1,none⟩=some (.slice a ps.length cap):=(hb.cell (p:=⟨w.heap.size,1,none⟩) (by simp)).trans (by simp)
 have B1:Hid (Below w.heap.size w w1):=Z9 (((Below.refl _ _).alloc (Nat.le_refl _) _).trans (hb.mono (by simp)))
 clear hb
 have hv1:=(uh Hv).below (uh B1)
 obtain ⟨a',cap',he,_,_,hrow⟩:=hv1
 cases he
 rcases hrow with h0 | ⟨bk,off,rfl,hbw,hcl⟩
 ·rw [h0] at hk;simp at hk
 obtain ⟨c0,c1⟩:=hcl k hk
 clear hcl
 rw [uh Hpk] at c0 c1
 simp only at c0 c1
 go_wp2_with (first | (go_at_call 226;refine (Vu _ _).mono ?_;rintro e w' ⟨rfl,rfl⟩) | (go_at_call 76;refine (Z1 _ _ _ _).mono ?_;rintro e w' ⟨rfl,rfl⟩))
 go_quiet (exact Calls.quiet_of_same (PB _ _ _ _))
 go_wp2_with fail
 go_ret
 exact ⟨rfl,Xu (uh B1) _⟩
theorem Sb {w:World} {v:Value} {ps:List Z6} (b need work:Int) (h:IsPaces w v ps) :
  Calls Tryz.prog 332 #[.agg #[.int .i64 b,v],.int .i64 need,.int .i64 work] w fun e w'=>e= .returned (.int .i64 (MC (b,ps) need work))/\Below w.heap.size w w':=by
 have Hv:=Z9 h
 obtain ⟨a,cap,rfl,hc,hm,hrow⟩:=h
 clear hrow
 have k0:=cell_regrown (w:=w.alloc (.cells #[.int .i64 b,.slice a ps.length cap] 137)) (a:=⟨w.heap.size,0,none⟩) (v:= .int .i64 b) (by simp)
 have k1:=cell_regrown (w:=w.alloc (.cells #[.int .i64 b,.slice a ps.length cap] 137)) (a:=⟨w.heap.size,1,none⟩) (v:= .slice a ps.length cap) (by simp)
 have Ha:Hid (IsPaces (w.alloc (.cells #[.int .i64 b,.slice a ps.length cap] 137)) (.slice a ps.length cap) ps):=Z9 ((uh Hv).below ((Below.refl _ _).alloc (Nat.le_refl _) _))
 go_enter Tryz.func332,Tryz.ntmps332
 go_wp2_with fail
 refine wp_region_quiet_below (by kernel_rfl) (by kernel_rfl) ?_
 repeat (go_big_quiet_step (first | exact Calls.regrown_of (TU b need ((uh Ha).below (below_regrown _ _ _))) | exact Calls.regrown_of (Qb b _ work ((uh Ha).below (below_regrown _ _ _)))))
 refine wpQuiet_nil ?_
 intro _ hw'
 obtain ⟨⟨dq,osq⟩,hw''⟩:=hw'
 subst hw''
 go_wp2_with fail
 go_ret
 exact ⟨rfl,((Below.refl _ _).alloc (Nat.le_refl _) _).trans ((below_regrown _ _ _).mono (by simp))⟩
set_option linter.unusedSimpArgs false
set_option maxRecDepth 100000
theorem Pa {B g:Nat} {w:World} (hg:g=w.heap.size) (hB:B<=g):OwnHall B (w.alloc (.cells #[] 137)) (.slice (some ⟨g,0,none⟩) 0 0) []:=by
 subst hg
 exact ⟨⟨by simp [TG],.inr ⟨_,0,#[],rfl,hB,heap_alloc_new w _,Nat.le_refl _,Nat.zero_le _,by simp,by simp [TG]⟩⟩,fun _ h=>(by cases h),fun _ h=>(by cases h),List.Pairwise.nil⟩
theorem Iw {w:World} {v:Value} {ps:List Z6} (h:IsPaces w v ps) (hl:ps.length<=1000):Calls Tryz.prog 305 #[v] w fun e w'=> ∃ v',e= .returned v'/\PacesAt w.heap.size w' v' ps/\Below w.heap.size w w':=by
 have HR:=Z9 (IsPaces.rec (h.below ((Below.refl _ _).alloc (Nat.le_refl _) (.cells #[] 139))))
 obtain ⟨a,cap,rfl,hc,hm,hr⟩:=h
 clear hr
 go_enter Tryz.func305,Tryz.ntmps305
 go_wp2_with (at_builtin;refine ZO Fm rfl (.tmp 3) (.tmp 4) 260 Tryz.underlying260 rfl w.heap.size _ _ [] ps rfl rfl (Zh rfl (Nat.le_refl _)) (uh HR) (by simp;omega) (by simp) ?_;intro u9 w9 hp9 hg9 hat9;rw [List.nil_append] at hp9;have HP9:=Z9 hp9;have HG9:=Z9 hg9;clear hp9 hg9 hat9)
 have hb9:Below w.heap.size w w9:=((Below.refl _ _).alloc (Nat.le_refl _) _).trans ((Below.refl _ _).grown (uh HG9) (by simp) (fun i e=>by cases e;exact Nat.le_refl _))
 go_wp2_with fail
 go_ret
 exact ⟨_,rfl,uh HP9,hb9⟩
theorem OA {w:World} {v:Value} {rs:List Z2} (h:IsRooms w v rs) (hl:rs.length<=1000) (hp:∀ r ∈ rs,r.2.length<=1000) :
  Calls Tryz.prog 249 #[.agg #[v]] w fun e w'=> ∃ v' qs,e= .returned (.agg #[v'])/\qs.map (·.1)=rs/\OwnHall w.heap.size w' v' qs/\Below w.heap.size w w':=by
 obtain ⟨a,cap,rfl,hc,hm,hr⟩:=h
 have Hr:=Z9 hr
 have HP:=Z9 hp
 clear hr hp
 go_enter Tryz.func249,Tryz.ntmps249
 go_wp2_with fail
 go_loopw [3,10] (fun u i wr=> ∃ (k:Nat) (qs:List (Z2 × Value)) (ua:Option Addr) (uc:Nat),k<=rs.length/\i= .int .i64 k/\u= .slice ua k uc/\Blk wr (w.heap.size+1) 26 #[.slice none 0 0]/\OwnHall (w.heap.size+2) wr (.slice ua k uc) qs/\qs.map (·.1)=rs.take k/\Below w.heap.size w wr) (fun _ i _=>rs.length-(intOf i).toNat)
 case atStart=>
  refine ⟨0,[],_,_,Nat.zero_le _,rfl,rfl,?_,Pa (by simp) (by simp),rfl,(((Below.refl _ _).alloc (Nat.le_refl _) _).alloc (by simp) _).alloc (by simp;omega) _⟩
  have k:=Blk.new (w.alloc (.cells #[.slice a rs.length cap] 26)) 26 #[.slice none 0 0]
  rw [World.size_alloc] at k
  exact k.alloc _
 case round=>
  obtain ⟨k,qs,ua,uc,hk,rfl,rfl,kr,ho,hq,hb⟩:=hrel
  have hql:qs.length=k:=by have:=congrArg List.length hq;simp at this;omega
  have Hql:=Z9 hql
  clear hql
  have Kr:=Z9 kr
  have Ho:=Z9 ho
  have Hq:=Z9 hq
  have Hb:=Z9 hb
  have hsz:=kr.lt
  by_cases hlt:k<rs.length
  ·have hlt1:(k:Int)<(rs.length:Int):=by omega
   rcases uh Hr with e0 | ⟨b,off,rfl,hbw,hcl⟩
   ·rw [e0] at hlt;simp at hlt
   obtain ⟨c0,pv,c1,hpv⟩:=hcl k hlt
   rw [<-hb.cell (p:=⟨b,off+k*2,none⟩) hbw] at c0
   rw [<-hb.cell (p:=⟨b,off+k*2+1,none⟩) hbw] at c1
   have Hpv:=Z9 (hpv.below (hb.mono (Nat.le_refl _)))
   have hpl:=uh HP (ZW rs k) (by unfold ZW;simp [List.getD,hlt])
   have Htk:Hid (rs.take (k+1)=rs.take k++[ZW rs k]):=Z9 (by rw [List.take_succ_eq_append_getElem hlt];unfold ZW;simp [List.getD,hlt])
   generalize ZW rs k=r at *
   obtain ⟨n,ps⟩:=r
   simp only at c0 hpl hpv
   obtain ⟨pa,pc,rfl,_,_,_⟩:=hpv
   have hbw':b<wr.heap.size:=by have:=hb.size;omega
   clear hcl kr ho hq hb
   go_wp2_with fail
   clear c0 c1
   have hba:Below wr.heap.size wr (wr.alloc (.cells #[.int .i64 n,.slice pa ps.length pc] 137)):=(Below.refl _ _).alloc (Nat.le_refl _) _
   have KB:Hid (Blk (wr.alloc (.cells #[.int .i64 n,.slice pa ps.length pc] 137)) wr.heap.size 137 #[.int .i64 n,.slice pa ps.length pc]):=Z9 (Blk.new wr _ _)
   replace Kr:=bl Kr hba
   have HLB:Hid (∀ i,(Value.slice ua k uc).ownBlock=some i->i<wr.heap.size):=Z9 (fun i e=>((uh Ho).lt (.inl e)).2)
   replace Ho:=Z9 ((uh Ho).later hba)
   replace Hb:=Z9 ((uh Hb).trans (hba.mono (uh Hb).size))
   replace Hpv:=Z9 ((uh Hpv).below hba)
   have hsz2:w.heap.size+2<=(wr.alloc (.cells #[.int .i64 n,.slice pa ps.length pc] 137)).heap.size:=by have:=(uh Kr).lt;simp at this ⊢;omega
   clear hba
   generalize wr.alloc (.cells #[.int .i64 n,.slice pa ps.length pc] 137)=X at *
   generalize wr.heap.size=rb at *
   have s0:=(uh KB).cell (i:=0) (v:= .int .i64 n) rfl
   have s1:=(uh KB).cell (i:=1) (v:= .slice pa ps.length pc) rfl
   refine ZS (S:=fun w'=>w'.cell? ⟨rb,0,none⟩=some (.int .i64 n)/\w'.cell? ⟨rb,1,none⟩=some (.slice pa ps.length pc)) (by kernel_rfl) (List.cons_ne_nil _ _) (by kernel_rfl) ⟨s0,s1⟩ (fun hHeld=> ?_)
   simp only [List.dropLast_cons_cons,List.dropLast_singleton,List.length_cons,List.length_nil,Nat.zero_add,Nat.reduceAdd]
   (refine tk 0 rfl (by assumption) ?_;(try simp only [Act.put,sA,sZ,sS]))
   (refine tk 1 rfl (by assumption) ?_;(try simp only [Act.put,sA,sZ,sS]))
   (refine tk 2 rfl (by assumption) ?_;(try simp only [Act.put,sA,sZ,sS]))
   (refine tk 3 rfl (by assumption) ?_;(try simp only [Act.put,sA,sZ,sS]))
   (refine tk 4 rfl (by assumption) ?_;(try simp only [Act.put,sA,sZ,sS]))
   refine rd 5 rfl (fun K hK=> ?_)
   go_simp
   refine (Iw ((uh Hpv).below (Below.refl _ _).drew) hpl).mono ?_
   rintro e9 w4 ⟨v4,rfl,hp4,hb4⟩
   obtain ⟨pa4,pc4,rfl⟩:=PacesAt.shape hp4
   have X4:Below X.heap.size X w4:=(Below.refl X.heap.size X).drew.trans hb4
   have HO4:Hid (PacesAt X.heap.size w4 (.slice pa4 ps.length pc4) ps):=Z9 hp4
   have HX4:=Z9 X4
   have hz4:=X4.size
   have t0:=(X4.cell (p:=⟨rb,0,none⟩) (uh KB).lt).trans s0
   have t1:=(X4.cell (p:=⟨rb,1,none⟩) (uh KB).lt).trans s1
   clear hp4 hb4 X4
   refine hK.out _ _ ⟨t0,t1⟩ (fun hHeld=> ?_)
   clear hK K
   (try simp only [Act.put,sA,sZ,sS])
   (refine tk 6 rfl (by assumption) ?_;(try simp only [Act.put,sA,sZ,sS]))
   have KB5:=((uh KB).below (uh HX4) (uh KB).lt).alloc (.cells #[.int .i64 n,.slice pa4 ps.length pc4] 137)
   have u0:=KB5.cell (i:=0) (v:= .int .i64 n) rfl
   have u1:=KB5.cell (i:=1) (v:= .slice pa ps.length pc) rfl
   refine rd 7 rfl (fun K hK=> ?_)
   go_simp
   refine hK.out _ _ ⟨u0,u1⟩ (fun hHeld=> ?_)
   clear hK K
   (try simp only [Act.put,sA,sZ,sS])
   obtain ⟨v5,w5,hrun5,hown5,hg5,hat5⟩:=TR (w:=w4.alloc (.cells #[.int .i64 n,.slice pa4 ps.length pc4] 137)) (t:=24) (ty:=24) (base:=w.heap.size+2) (v:= .slice ua k uc) (n:=k) (xs:=TG qs) Tryz.underlying24 (World.ownsRow.alloc (by have h9:=((uh Ho).later (uh HX4)).row;rw [uh Hql] at h9;exact h9) _) (g:=w4.heap.size) (c:=1) (Zw w4 (i:=0) rfl) (Zw w4 (i:=1) rfl) rfl (by omega) (by simp;omega)
   obtain ⟨a5,c5,rfl⟩:=Np hown5
   have hn5:∀ i,(Value.slice ua k uc).ownBlock=some i->w.heap.size+2<=i/\i<X.heap.size:=fun i e=>(uh Ho).lt (.inl e)
   have hrbX:=(uh KB).lt
   have RB:Hid (∀ i,(Value.slice ua k uc).ownBlock=some i->i ≠ rb):=Z9 (fun i e e2=>by have:=uh HLB i e;omega)
   have KB6:=KB5.same (w':=w5) (hg5.block _ KB5.lt (fun e=>uh RB _ e.symm rfl))
   have y0:=KB6.cell (i:=0) (v:= .int .i64 n) rfl
   have y1:=KB6.cell (i:=1) (v:= .slice pa ps.length pc) rfl
   have HO5:=Z9 hown5
   have HG5:=Z9 hg5
   have HA5:=Z9 hat5
   have R5:=Z9 hrun5
   have X5:Hid (Below (w.heap.size+2) X w5):=Z9 (by
    have q1:Below X.heap.size X w4:=uh HX4
    have q2:Below w4.heap.size w4 (w4.alloc (.cells #[.int .i64 n,.slice pa4 ps.length pc4] 137)):=(Below.refl _ _).alloc (Nat.le_refl _) _
    have q3:Below (w.heap.size+2) (w4.alloc (.cells #[.int .i64 n,.slice pa4 ps.length pc4] 137)) w5:=(Below.refl _ _).grown (uh HG5) (by have:=q1.size;simp;omega) (fun i e=>((uh Ho).lt (.inl e)).1)
    exact ((q1.mono (by omega)).trans (q2.mono (by have:=q1.size;omega))).trans q3)
   have hp5:OwnHall (w.heap.size+2) w5 (.slice a5 (k+1) c5) (qs++[((n,ps),.slice pa4 ps.length pc4)]):=by
    have q1:OwnHall (w.heap.size+2) w4 (.slice ua k uc) qs:=(uh Ho).later (uh HX4)
    have q2:PacesAt X.heap.size w4 (.slice pa4 ps.length pc4) ps:=uh HO4
    have q3:PacesAt (w.heap.size+2) w4 (.slice pa4 ps.length pc4) ps:=q2.mono (by omega)
    refine OwnHall.push (w:=w4) (w1:=w5) (v:= .slice ua k uc) (o:= .cells #[.int .i64 n,.slice pa4 ps.length pc4] 137) q1 q3 ?_ ?_ ?_ (uh HG5) (uh HA5)
    ·intro b' e e'
     have h8:=(q2.lt e).1
     have h9:=((uh Ho).lt (.inl e')).2
     omega
    ·intro q hq' b' e e'
     have h8:=(q2.lt e').1
     have h9:=((uh Ho).lt (.inr ⟨q,hq',e⟩)).2
     omega
    ·rw [uh Hql];exact uh HO5
   have HP5:=Z9 hp5
   clear hp5 hown5 hg5 hat5 hrun5 KB5 KB6
   refine rd 8 rfl (fun K hK=> ?_)
   refine Xh rfl (.tmp 14) (.tmp 21) 24 rfl rfl rfl (uh R5) ?_
   refine hK.out _ _ ⟨y0,y1⟩ (fun hHeld=> ?_)
   clear hK K
   (try simp only [Act.put,sA,sZ,sS])
   refine wpAnyH_done (by kernel_rfl) ?_ _
   refine ZL rfl rfl ?_
   go_simp
   clear hHeld
   go_wp2_with fail
   go_roundw
   case rel=>
    exact ⟨k+1,qs++[((n,ps),.slice pa4 ps.length pc4)],a5,c5,by omega,by go_num,rfl,(uh Kr).below (uh X5) (by omega),uh HP5,by rw [List.map_append,uh Hq,uh Htk];rfl,(uh Hb).trans ((uh X5).mono (by omega))⟩
   case measure=>simp [intOf];omega
  ·obtain rfl:k=rs.length:=by omega
   have r0:=kr.cell (i:=0) rfl
   have r1:=kr.free 0
   go_wp2_with fail
   rw [List.take_length] at hq
   refine bodyPost_ret (v:= .agg #[.slice ua rs.length uc]) (by simp [results,Tryz.results249,go_sem, *]) rfl ⟨_,qs,rfl,hq,?_,?_⟩
   ·exact (ho.same fun i h0 hi=>heap_setCell_other _ _ _ _ (by show i ≠ w.heap.size+1;omega)).mono (by omega)
   ·exact hb.setCell (by show _<=w.heap.size+1;omega) _
def Vh (rs:List Z2):Z4:=⟨rs,[],[],List.replicate (ZY rs).toNat (true,-1,0),List.replicate rs.length 0,0⟩
end Go.Proofs.YtjhijildaceadaaGreatDoor
