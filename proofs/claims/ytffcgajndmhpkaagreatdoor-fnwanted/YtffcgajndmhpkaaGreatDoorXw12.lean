/- Part 12 of what the proof rests on. No condition but those that a theorem names. -/
import Derived.Test.YtffcgajndmhpkaaGreatDoorXw11
set_option maxHeartbeats 8000000
set_option maxRecDepth 100000
namespace Go.Proofs.YtffcgajndmhpkaaGreatDoor
open Go.ChangeShapes Go.WideShapes Go.ChangeAt Go.RowKit Go.Sort
set_option linter.unusedVariables false
variable {w w' w0 w1 w2 w3 w₀ wr W W' X A B C : World} {v v0 v1 v2 v3 v4 u u0 u1 u2 u3 u4 : Value} {m : Z4}
theorem DZ (a:Option Addr) (n cap k:Nat) (hk:k<=cap) (W:World):(Instr.slice 148 (.slice a n cap) none (some (.int .i64 k)) none).run Tryz.prog W= .ok (.slice a k cap) W:=by
 obtain ⟨i0,hi,hz0,hz1,hz2⟩:=info_parts Wk
 have hs:∀ W,(sizeOf 151).run Tryz.prog W= .ok 2 W:=fun W=>by simp [sizeOf,typeInfo,hi,hz1]
 have hb:∀ W,(Instr.sliceBounds true n cap none (some (.int .i64 k)) none).run Tryz.prog W= .ok (0,k,cap) W:=fun W=>by
  simp [Instr.sliceBounds,Instr.sliceBound,asIntOf]
  intro h;omega
 simp only [Instr.slice,Sem.run_bind,run_underlying Tryz.underlying148,Result.andThen,hb,hs,Sem.run_pure]
 simp
 cases a<;>simp [Addr.add]
def FK (a:Option Addr) (n cap k:Nat):Value:= .slice (if cap=k then a else a.map (·.add (k*2))) (n-k) (cap-k)
theorem Iv (a:Option Addr) (n cap k:Nat) (hk:k<=n) (W:World):(Instr.slice 148 (.slice a n cap) (some (.int .i64 k)) none none).run Tryz.prog W= .ok (FK a n cap k) W:=by
 obtain ⟨i0,hi,hz0,hz1,hz2⟩:=info_parts Wk
 have hs:∀ W,(sizeOf 151).run Tryz.prog W= .ok 2 W:=fun W=>by simp [sizeOf,typeInfo,hi,hz1]
 have hb:∀ W,(Instr.sliceBounds true n cap (some (.int .i64 k)) none none).run Tryz.prog W= .ok (k,n,cap) W:=fun W=>by
  simp [Instr.sliceBounds,Instr.sliceBound,asIntOf]
  intro h;omega
 simp only [Instr.slice,Sem.run_bind,run_underlying Tryz.underlying148,Result.andThen,hb,hs,Sem.run_pure]
 rfl
theorem J9 (ps:List Z6) (n k:Nat):Z7 (ps.drop n) k=Z7 ps (n+k):=by unfold Z7;simp [List.getD]
theorem IsPaces.from {a:Option Addr} {n cap:Nat} {ps:List Z6} (h:IsPaces w (.slice a n cap) ps) {k:Nat} (hk:k<=ps.length):IsPaces w (FK a n cap k) (ps.drop k):=by
 obtain ⟨a',cap',he,hc,hm,hr⟩:=h
 cases he
 refine ⟨_,cap-k,by unfold FK;rw [List.length_drop],by rw [List.length_drop];omega,by omega,?_⟩
 rcases hr with hr | ⟨b,off,rfl,hlt,hcl⟩
 ·exact .inl (by rw [hr];simp)
 ·by_cases hz:ps.length=k
  ·exact .inl (by rw [List.drop_eq_nil_iff];omega)
  ·rw [if_neg (by omega)]
   refine .inr ⟨b,off+k*2,by simp [Lb],hlt,fun j hj=> ?_⟩
   rw [List.length_drop] at hj
   rw [J9]
   have:=hcl (k+j) (by omega)
   rw [show off+(k+j)*2=off+k*2+j*2 by omega] at this
   exact this
theorem Jr (a:Option Addr) (n cap k:Nat):∃ a',FK a n cap k= .slice a' (n-k) (cap-k):=⟨_,rfl⟩
theorem EM  {ps:List Z6} (f z:Int) (h:IsPaces w v ps) (hl:ps.length<=900) :
  Calls Tryz.prog 186 #[v,.agg #[.int .i64 f,.int .i64 z]] w fun e w'=> ∃ v',e= .returned v'/\EntsAt w.heap.size w' v' (VF ps (f,z))/\Below w.heap.size w w':=by
 have Hv:=Z9 h
 obtain ⟨a,cap,rfl,hc,hm,hr⟩:=h
 have Hr:=Z9 hr
 clear hr
 go_enter Tryz.func186,Tryz.ntmps186
 go_wp2_with fail
 generalize hW:w.alloc (.cells #[.int .i64 f,.int .i64 z] 151)=W0
 have hs0:W0.heap.size=w.heap.size+1:=by rw [<-hW];simp
 have d0:W0.cell? ⟨w.heap.size,0,none⟩=some (.int .i64 f):=by rw [<-hW];simp
 have d1:W0.cell? ⟨w.heap.size,1,none⟩=some (.int .i64 z):=by rw [<-hW];simp
 have HB0:Hid (Below w.heap.size w W0):=Z9 (by rw [<-hW];exact (ba _ _))
 have D0:=Z9 d0
 have D1:=Z9 d1
 clear hW d0 d1
 go_loopw [5] (fun i wr=> ∃ k:Nat,k<=ps.length/\i= .int .i64 k/\(∀ j,j<k->ltB (Z7 ps j) (f,z)=true)/\Below W0.heap.size W0 wr) (fun i _=>ps.length-(intOf i).toNat)
 case atStart=>exact ⟨0,Nat.zero_le _,rfl,fun j hj=>by omega,Below.refl _ _⟩
 case round=>
  obtain ⟨k,hk,rfl,hst,hb⟩:=hrel
  have Hst:=Z9 hst
  have Hb:=Z9 hb
  have hszr:=hb.size
  have hlt0:w.heap.size<W0.heap.size:=by omega
  have g0:=(hb.cell (p:=⟨w.heap.size,0,none⟩) hlt0).trans (uh D0)
  have g1:=(hb.cell (p:=⟨w.heap.size,1,none⟩) hlt0).trans (uh D1)
  have k0:=cell_regrown g0
  have k1:=cell_regrown g1
  clear hst
  by_cases hgo:k<ps.length/\ltB (Z7 ps k) (f,z)=true
  ·obtain ⟨hlt,hab⟩:=hgo
   rcases uh Hr with h0 | ⟨b,off,rfl,hbw,hcl⟩
   ·rw [h0] at hlt;simp at hlt
   obtain ⟨c0,c1⟩:=hcl k hlt
   have hbB:=(uh HB0).trans (hb.mono (by omega))
   rw [<-hbB.cell (p:=⟨b,off+k*2,none⟩) hbw] at c0
   rw [<-hbB.cell (p:=⟨b,off+k*2+1,none⟩) hbw] at c1
   generalize hp:Z7 ps k=p at *
   obtain ⟨f',z'⟩:=p
   simp only at c0 c1
   have Hp:=Z9 hp
   have m0:=cell_regrown c0
   have m1:=cell_regrown c1
   have hd:decide (k<ps.length)=true:=decide_eq_true hlt
   clear hp hcl hb hbB g0 g1 c0 c1
   go_wp2_with fail
   refine wq ?_
   repeat (go_big_quiet_step (exact Calls.regrown_of (Ua _ _ _ _ _)))
   refine wpQuiet_nil ?_
   intro _ hw'
   obtain ⟨⟨dq,osq⟩,hw''⟩:=hw'
   subst hw''
   go_wp2_with fail
   go_roundw
   case rel=>exact ⟨k+1,by omega,by go_num,YF (uh Hst) (by rw [uh Hp];exact hab),(uh Hb).trans ((below_regrown _ _ _).mono (uh Hb).size)⟩
   case measure=>exact ms
  ·have HK:Hid (Ya (f,z) ps=k):=Z9 (Dp hk (uh Hst) (by
    by_cases e:k=ps.length
    ·exact .inl e
    ·right
     cases hq:ltB (Z7 ps k) (f,z)
     ·rfl
     ·exact absurd ⟨by omega,hq⟩ hgo))
   have HQ:Hid (ps.take k++[(f,z)]++ps.drop k=VF ps (f,z)):=Z9 (by unfold VF;rw [uh HK];simp)
   have hto:=DZ a ps.length cap k (by omega)
   have hfr:=Iv a ps.length cap k hk
   obtain ⟨ra,hra⟩:=Jr a ps.length cap k
   rw [hra] at hfr
   have Hfrom:Hid (IsPaces w (.slice ra (ps.length-k) (cap-k)) (ps.drop k)):=Z9 (by rw [<-hra];exact (uh Hv).from hk)
   have Hcut:Hid (IsPaces w (.slice a k cap) (ps.take k)):=Z9 ((uh Hv).cut hk)
   clear hra
   by_cases hlt:k<ps.length
   ·have hab:ltB (Z7 ps k) (f,z)=false:=by
     cases hq:ltB (Z7 ps k) (f,z)
     ·rfl
     ·exact absurd ⟨hlt,hq⟩ hgo
    rcases uh Hr with h0 | ⟨b,off,rfl,hbw,hcl⟩
    ·rw [h0] at hlt;simp at hlt
    obtain ⟨c0,c1⟩:=hcl k hlt
    have hbB:=(uh HB0).trans (hb.mono (by omega))
    rw [<-hbB.cell (p:=⟨b,off+k*2,none⟩) hbw] at c0
    rw [<-hbB.cell (p:=⟨b,off+k*2+1,none⟩) hbw] at c1
    generalize hp:Z7 ps k=p at *
    obtain ⟨f',z'⟩:=p
    simp only at c0 c1
    have m0:=cell_regrown c0
    have m1:=cell_regrown c1
    have hd:decide (k<ps.length)=true:=decide_eq_true hlt
    clear hp hcl hb hbB g0 g1 c0 c1 hgo
    go_wp2_with fail
    refine wq ?_
    repeat (go_big_quiet_step (exact Calls.regrown_of (Ua _ _ _ _ _)))
    refine wpQuiet_nil ?_
    intro w1 hw'
    have Hb1:Hid (Below W0.heap.size W0 w1):=Z9 (by obtain ⟨q,rfl⟩:=hw';exact (uh Hb).trans ((below_regrown _ _ _).mono (uh Hb).size))
    clear k0 k1 m0 m1
    go_wp2_with fail
    have B1:Hid (Below w.heap.size w w1):=Z9 ((uh HB0).trans ((uh Hb1).mono (by omega)))
    refine (TN ((uh Hfrom).below (uh B1)) (by simp;omega)).mono ?_
    rintro e w2 ⟨v2,rfl,hi2,hb2⟩
    obtain ⟨a2,cap2,hv2⟩:=hi2.shape
    rw [List.length_drop] at hv2
    subst hv2
    have hz1:=(uh Hb1).size
    have hz2:=hb2.size
    have Hb2:Hid (Below W0.heap.size W0 w2):=Z9 ((uh Hb1).trans (hb2.mono hz1))
    have e0:=((uh Hb2).cell (p:=⟨w.heap.size,0,none⟩) hlt0).trans (uh D0)
    have e1:=((uh Hb2).cell (p:=⟨w.heap.size,1,none⟩) hlt0).trans (uh D1)
    have B2:Hid (Below w.heap.size w w2):=Z9 ((uh HB0).trans ((uh Hb2).mono (by omega)))
    have Hi2:=Z9 hi2
    have HC:=Z9 ((uh Hcut).below (uh B2))
    clear hi2 hb2
    have hlt2:w.heap.size<w2.heap.size:=by omega
    have hkl:(ps.take k).length=k:=by simp;omega
    go_wp2_with fail
    go_region_law (first
     | (refine Yo rfl (.tmp 28) (.tmp 30) 148 Tryz.underlying148 rfl w2.heap.size _ _ (ps.take k) [(f,z)] rfl rfl (E3.later ((ba _ _))) (SJ rfl (Nat.le_refl _) (by omega)) (by simp;omega) (by simp;omega) ?_;intro v4 w4 hown4 hg4 hat4;have X4:Below w2.heap.size w2 w4:=(X3.alloc X3.size _).trans ((Below.refl _ _).grown hg4 (by simp;omega) (fun i e=>(E3.lt e).1)))
     | (refine Yo rfl (.tmp 28) (.tmp 30) 148 Tryz.underlying148 rfl w2.heap.size _ _ (ps.take k) [(f,z)] rfl rfl E3 ((SJ (w:=w2) rfl (Nat.le_refl _) (by omega)).below (((Below.refl _ _).drew).trans hb3)) (by simp;omega) (by omega) ?_;intro v4 w4 hown4 hg4 hat4;have X4:Below w2.heap.size w2 w4:=X3.trans ((Below.refl _ _).grown hg4 (by omega) (fun i e=>(E3.lt e).1)))
     | (refine Yo rfl (.tmp 31) (.tmp 32) 148 Tryz.underlying148 rfl w2.heap.size _ _ (ps.take k++[(f,z)]) (ps.drop k) rfl rfl hown4 ((uh Hi2).paces.below X4) (by simp;omega) (by have:=X4.size;omega) ?_;intro v5 w5 hown5 hg5 hat5)
     | (go_simp;go_at_call 235;refine (TN (ps:=ps.take k) ?_ (by simp;omega)).mono ?_;(exact (uh HC).below (by first | exact (Below.refl _ _).drew | exact ((ba _ _)).drew));rintro e w3 ⟨v3,rfl,hi3,hb3⟩;obtain ⟨a3,cap3,hv3⟩:=hi3.shape;rw [hkl] at hv3;subst hv3;have E3:=hi3.mono (n₁:=w2.heap.size) (by simp);have X3:Below w2.heap.size w2 w3:=(by first | exact ((Below.refl _ _).drew).trans (hb3.mono (by simp)) | exact (((ba _ _)).drew).trans (hb3.mono (by simp)));have hz3:=X3.size;have q0:=(X3.cell (p:=⟨w.heap.size,0,none⟩) hlt2).trans e0;have q1:=(X3.cell (p:=⟨w.heap.size,1,none⟩) hlt2).trans e1))
    all_goals
     have X5:Below w2.heap.size w2 w5:=X4.trans ((Below.refl _ _).grown hg5 X4.size (fun i e=>(hown4.lt e).1))
     rw [uh HQ] at hown5
     have HX5:=Z9 X5
     have HO5:=Z9 hown5
     clear hown5 hg5 hat5 X4 X5 hown4 hg4 hat4 X3 E3 hi3 hb3 q0 q1
     go_wp2_with fail
     go_ret
     exact ⟨_,rfl,(uh HO5).mono (uh B2).size,(uh B2).trans ((uh HX5).mono (uh B2).size)⟩
   ·have hd:decide (k<ps.length)=false:=decide_eq_false hlt
    clear hb g0 g1 hgo
    go_wp2_with fail
    refine wq ?_
    repeat (go_big_quiet_step (exact Calls.regrown_of (Ua _ _ _ _ _)))
    refine wpQuiet_nil ?_
    intro w1 hw'
    have Hb1:Hid (Below W0.heap.size W0 w1):=Z9 (by obtain ⟨q,rfl⟩:=hw';exact (uh Hb).trans ((below_regrown _ _ _).mono (uh Hb).size))
    clear k0 k1
    go_wp2_with fail
    have B1:Hid (Below w.heap.size w w1):=Z9 ((uh HB0).trans ((uh Hb1).mono (by omega)))
    refine (TN ((uh Hfrom).below (uh B1)) (by simp;omega)).mono ?_
    rintro e w2 ⟨v2,rfl,hi2,hb2⟩
    obtain ⟨a2,cap2,hv2⟩:=hi2.shape
    rw [List.length_drop] at hv2
    subst hv2
    have hz1:=(uh Hb1).size
    have hz2:=hb2.size
    have Hb2:Hid (Below W0.heap.size W0 w2):=Z9 ((uh Hb1).trans (hb2.mono hz1))
    have e0:=((uh Hb2).cell (p:=⟨w.heap.size,0,none⟩) hlt0).trans (uh D0)
    have e1:=((uh Hb2).cell (p:=⟨w.heap.size,1,none⟩) hlt0).trans (uh D1)
    have B2:Hid (Below w.heap.size w w2):=Z9 ((uh HB0).trans ((uh Hb2).mono (by omega)))
    have Hi2:=Z9 hi2
    have HC:=Z9 ((uh Hcut).below (uh B2))
    clear hi2 hb2
    have hlt2:w.heap.size<w2.heap.size:=by omega
    have hkl:(ps.take k).length=k:=by simp;omega
    go_wp2_with fail
    go_region_law (first
     | (refine Yo rfl (.tmp 28) (.tmp 30) 148 Tryz.underlying148 rfl w2.heap.size _ _ (ps.take k) [(f,z)] rfl rfl (E3.later ((ba _ _))) (SJ rfl (Nat.le_refl _) (by omega)) (by simp;omega) (by simp;omega) ?_;intro v4 w4 hown4 hg4 hat4;have X4:Below w2.heap.size w2 w4:=(X3.alloc X3.size _).trans ((Below.refl _ _).grown hg4 (by simp;omega) (fun i e=>(E3.lt e).1)))
     | (refine Yo rfl (.tmp 28) (.tmp 30) 148 Tryz.underlying148 rfl w2.heap.size _ _ (ps.take k) [(f,z)] rfl rfl E3 ((SJ (w:=w2) rfl (Nat.le_refl _) (by omega)).below (((Below.refl _ _).drew).trans hb3)) (by simp;omega) (by omega) ?_;intro v4 w4 hown4 hg4 hat4;have X4:Below w2.heap.size w2 w4:=X3.trans ((Below.refl _ _).grown hg4 (by omega) (fun i e=>(E3.lt e).1)))
     | (refine Yo rfl (.tmp 31) (.tmp 32) 148 Tryz.underlying148 rfl w2.heap.size _ _ (ps.take k++[(f,z)]) (ps.drop k) rfl rfl hown4 ((uh Hi2).paces.below X4) (by simp;omega) (by have:=X4.size;omega) ?_;intro v5 w5 hown5 hg5 hat5)
     | (go_simp;go_at_call 235;refine (TN (ps:=ps.take k) ?_ (by simp;omega)).mono ?_;(exact (uh HC).below (by first | exact (Below.refl _ _).drew | exact ((ba _ _)).drew));rintro e w3 ⟨v3,rfl,hi3,hb3⟩;obtain ⟨a3,cap3,hv3⟩:=hi3.shape;rw [hkl] at hv3;subst hv3;have E3:=hi3.mono (n₁:=w2.heap.size) (by simp);have X3:Below w2.heap.size w2 w3:=(by first | exact ((Below.refl _ _).drew).trans (hb3.mono (by simp)) | exact (((ba _ _)).drew).trans (hb3.mono (by simp)));have hz3:=X3.size;have q0:=(X3.cell (p:=⟨w.heap.size,0,none⟩) hlt2).trans e0;have q1:=(X3.cell (p:=⟨w.heap.size,1,none⟩) hlt2).trans e1))
    all_goals
     have X5:Below w2.heap.size w2 w5:=X4.trans ((Below.refl _ _).grown hg5 X4.size (fun i e=>(hown4.lt e).1))
     rw [uh HQ] at hown5
     have HX5:=Z9 X5
     have HO5:=Z9 hown5
     clear hown5 hg5 hat5 X4 X5 hown4 hg4 hat4 X3 E3 hi3 hb3 q0 q1
     go_wp2_with fail
     go_ret
     exact ⟨_,rfl,(uh HO5).mono (uh B2).size,(uh B2).trans ((uh HX5).mono (uh B2).size)⟩
theorem Sr  (b:Int) (h:Smy w v0 v1 v2 v3 v4 m) (hl:m.smiths.length<=800) :
  Calls Tryz.prog 121 #[.agg #[v0,v1,v2,v3,v4,.int .i64 m.now],.int .i64 b] w fun e w'=> ∃ v',e= .returned v'/\EntsAt w.heap.size w' v' (atV m.smiths b m.smiths.length)/\Below w.heap.size w w':=by
 obtain ⟨h0,h1,h2,h3,h4⟩:=h
 obtain ⟨a0,p0,rfl,hc0,hm0,_⟩:=h0
 obtain ⟨a1,p1,rfl,hc1,hm1,_⟩:=h1
 obtain ⟨a2,p2,rfl,hc2,hm2,r2⟩:=h2
 obtain ⟨a3,p3,rfl,hc3,hm3,_⟩:=h3
 obtain ⟨a4,p4,rfl,hc4,hm4,_⟩:=h4
 have R2:=Z9 r2
 clear r2
 have kb0:Hid (Blk ((w.alloc (.cells (S6 a0 p0 a1 p1 a2 p2 a3 p3 a4 p4 m) 32)).alloc (.cells #[] 151)) w.heap.size 32 (S6 a0 p0 a1 p1 a2 p2 a3 p3 a4 p4 m)):=Z9 ((Blk.new w _ _).alloc _)
 have BB0:Hid (Below w.heap.size w ((w.alloc (.cells (S6 a0 p0 a1 p1 a2 p2 a3 p3 a4 p4 m) 32)).alloc (.cells #[] 151))):=Z9 (((ba _ _)).alloc (by simp) _)
 have E0:Hid (EntsAt w.heap.size ((w.alloc (.cells (S6 a0 p0 a1 p1 a2 p2 a3 p3 a4 p4 m) 32)).alloc (.cells #[] 151)) (.slice (some ⟨w.heap.size+1,0,none⟩) 0 0) []):=Z9 (Wh (by simp) (by omega))
 go_enter Tryz.func121,Tryz.ntmps121
 go_wp2_with fail
 go_loopw [5,6] (fun q i wr=> ∃ k:Nat,k<=m.smiths.length/\i= .int .i64 k/\EntsAt w.heap.size wr q (atV m.smiths b k)/\Blk wr w.heap.size 32 (S6 a0 p0 a1 p1 a2 p2 a3 p3 a4 p4 m)/\Below w.heap.size w wr) (fun _ i _=>m.smiths.length-(intOf i).toNat)
 case atStart=>exact ⟨0,Nat.zero_le _,rfl,uh E0,uh kb0,uh BB0⟩
 case round=>
  obtain ⟨k,hk,rfl,he,kb1,hb1⟩:=hrel
  obtain ⟨qa,qcap,rfl⟩:=EntsAt.shape he
  have kb:=Z9 kb1
  have BB:=Z9 hb1
  have He:=Z9 he
  clear kb1 hb1 he kb0 BB0 E0
  have hal:=TD m.smiths b k
  have c2:=(uh kb).cell (i:=2) (v:= .slice a2 m.smiths.length p2) rfl
  by_cases hls:k<m.smiths.length
  ·rcases uh R2 with e0 | ⟨sb,off,rfl,hbw,hcl⟩
   ·rw [e0] at hls;simp at hls
   obtain ⟨d0,d1,d2,d3,d4,d5,d6,d7,d8,d9,d10⟩:=ZC hcl hls
   rw [<-(uh BB).cell (p:=⟨sb,off+k*11,none⟩) hbw] at d0
   rw [<-(uh BB).cell (p:=⟨sb,off+k*11+1,none⟩) hbw] at d1
   rw [<-(uh BB).cell (p:=⟨sb,off+k*11+2,none⟩) hbw] at d2
   rw [<-(uh BB).cell (p:=⟨sb,off+k*11+3,none⟩) hbw] at d3
   rw [<-(uh BB).cell (p:=⟨sb,off+k*11+4,none⟩) hbw] at d4
   rw [<-(uh BB).cell (p:=⟨sb,off+k*11+5,none⟩) hbw] at d5
   rw [<-(uh BB).cell (p:=⟨sb,off+k*11+6,none⟩) hbw] at d6
   rw [<-(uh BB).cell (p:=⟨sb,off+k*11+7,none⟩) hbw] at d7
   rw [<-(uh BB).cell (p:=⟨sb,off+k*11+8,none⟩) hbw] at d8
   rw [<-(uh BB).cell (p:=⟨sb,off+k*11+9,none⟩) hbw] at d9
   rw [<-(uh BB).cell (p:=⟨sb,off+k*11+10,none⟩) hbw] at d10
   clear hcl
   have S1:=Z9 (fun hs=>Qj (ss:=m.smiths) (b:=b) (k:=k) hs)
   have S2:=Z9 (fun h1 h2=>Sk (ss:=m.smiths) (b:=b) (k:=k) h1 h2)
   generalize Z8 m.smiths k=ss at *
   obtain ⟨st,be,rk,my,gu,lo,hi,hd,ca,ut,wk⟩:=ss
   simp only at d0 d1 d2 d3 d4 d5 d6 d7 d8 d9 d10
   have hl0:w.heap.size<wr.heap.size:=(uh kb).lt
   by_cases hbe:be=b
   rotate_left
   ·have hbn:(be ==b)=false:=by simpa using hbe
    go_wp2_with fail
    go_roundw
    case rel=>exact ⟨k+1,by omega,by go_num,by rw [uh S1 (fun h9=>hbe h9.1)];exact EntsAt.later (uh He) ((ba _ _)),(uh kb).alloc _,(uh BB).alloc (uh BB).size _⟩
    case measure=>exact ms
   subst hbe
   have hbn:(be ==be)=true:=by simp
   obtain ⟨ps,hps⟩:∃ q,ZR (st,be,rk,my,gu,lo,hi,hd,ca,ut,wk)=q:=⟨_,rfl⟩
   have Hps:=Z9 hps
   clear hps
   go_wp2_with fail
   clear c2 d0 d1 d2 d3 d4 d5 d6 d7 d8 d9 d10
   refine ck (YV (uh Hps) _) fun w2 hb=> ?_
   have ks:Hid (Blk w2 wr.heap.size 39 (I11 st be rk my gu lo hi hd ca ut wk)):=Z9 ((Blk.new wr _ _).below hb (by simp))
   replace kb:=Z9 (((uh kb).alloc (.cells (I11 st be rk my gu lo hi hd ca ut wk) 39)).below hb (by simp;omega))
   have hba:=((Below.refl wr.heap.size wr).alloc (Nat.le_refl _) (.cells (I11 st be rk my gu lo hi hd ca ut wk) 39)).trans (hb.mono (by simp))
   replace He:=Z9 (EntsAt.later (uh He) hba)
   replace BB:=bt BB hba
   clear hb hl0 hba
   have d7:=(uh ks).cell (i:=7) (v:= .int .i64 hd) rfl
   cases ps
   ·go_wp2_with fail
    go_roundw
    case rel=>exact ⟨k+1,by omega,by go_num,by rw [uh S1 (fun h9=>by have h8:=h9.2;rw [uh Hps] at h8;cases h8)];exact uh He,uh kb,uh BB⟩
    case measure=>exact ms
   go_wp2_with fail
   refine (EM hd (k:Int) (EntsAt.paces (uh He)) (by omega)).mono ?_
   rintro e w3 ⟨v3,rfl,he3,hb⟩
   have hsz:=(uh BB).size
   have he4:=EntsAt.mono he3 hsz
   replace kb:=bl kb hb
   replace BB:=Z9 ((uh BB).trans (hb.mono hsz))
   obtain ⟨qa3,qcap3,rfl⟩:=EntsAt.shape he4
   have He4:=Z9 he4
   clear hb he3 he4 d7
   go_wp2_with fail
   go_roundw
   case rel=>exact ⟨k+1,by omega,by go_num,by rw [uh S2 (by first | rfl | trivial) (uh Hps)];exact uh He4,uh kb,uh BB⟩
   case measure=>exact ms
  ·obtain rfl:k=m.smiths.length:=by omega
   go_wp2_with fail
   go_ret
   exact ⟨_,rfl,uh He,uh BB⟩
structure FD (m:Z4):Prop where
 guilds:Zw m.guilds=true
 lo:∀ i,i<m.smiths.length->(Z8 m.smiths i).1 ≠ 0-> -1<=(Z8 m.smiths i).2.2.2.2.1
 hi:∀ i,i<m.smiths.length->(Z8 m.smiths i).1 ≠ 0->(Z8 m.smiths i).2.2.2.2.1<m.guilds.length
theorem Gb {s:Z3} (h:ZR s=true):s.1 ≠ 0:=fun e=>by unfold ZR at h;rw [e] at h;cases h
theorem SU  {k:Nat} (h:Smy w v0 v1 v2 v3 v4 m) (hg:Zw m.guilds=true) (hk:k<m.smiths.length) (g0 : -1<=(Z8 m.smiths k).2.2.2.2.1) (g1:(Z8 m.smiths k).2.2.2.2.1<m.guilds.length) :
  Calls Tryz.prog 123 #[.agg #[v0,v1,v2,v3,v4,.int .i64 m.now],.int .i64 (k:Int)] w fun e w'=>e= .returned (.int .i64 (Zo m (k:Int)))/\Below w.heap.size w w':=by
 have hw:Zo m (k:Int)=RH m.guilds (Z8 m.smiths k):=rfl
 rw [hw]
 clear hw
 have Hv:=Z9 h
 obtain ⟨h0,h1,h2,h3,h4⟩:=h
 obtain ⟨a0,p0,rfl,hc0,hm0⟩:=IsRooms.shape h0
 obtain ⟨a1,p1,rfl,hc1,hm1⟩:=IsRec.shape h1
 obtain ⟨a2,p2,rfl,hc2,hm2,r2⟩:=h2
 obtain ⟨a3,p3,rfl,hc3,hm3⟩:=IsRec.shape h3
 obtain ⟨a4,p4,rfl,hc4,hm4⟩:=IsRec.shape h4
 clear h0 h1 h3 h4
 rcases r2 with e0 | ⟨sb,off,rfl,hbw,hcl⟩
 ·rw [e0] at hk;simp at hk
 obtain ⟨d0,d1,d2,d3,d4,d5,d6,d7,d8,d9,d10⟩:=ZC hcl hk
 clear hcl
 generalize Z8 m.smiths k=ss at *
 obtain ⟨st,be,rk,my,gu,lo,hi,hd,ca,ut,wk⟩:=ss
 simp only at d0 d1 d2 d3 d4 d5 d6 d7 d8 d9 d10 g0 g1
 have Hg:=Z9 hg
 clear hg
 go_enter Tryz.func123,Tryz.ntmps123
 go_wp2_with fail
 have BB:Hid (Below w.heap.size w ((w.alloc (.cells #[.slice a0 m.rooms.length p0,.slice a1 m.guilds.length p1,.slice (some ⟨sb,off,none⟩) m.smiths.length p2,.slice a3 m.desks.length p3,.slice a4 m.paces.length p4,.int .i64 m.now] 32)).alloc (.cells (I11 st be rk my gu lo hi hd ca ut wk) 39))):=Z9 (((ba _ _)).alloc (by simp) _)
 have Hv2:=Z9 ((uh Hv).below (uh BB)).guilds
 have ks:=Z9 (Blk.new (w.alloc (.cells #[.slice a0 m.rooms.length p0,.slice a1 m.guilds.length p1,.slice (some ⟨sb,off,none⟩) m.smiths.length p2,.slice a3 m.desks.length p3,.slice a4 m.paces.length p4,.int .i64 m.now] 32)) 39 (I11 st be rk my gu lo hi hd ca ut wk))
 simp only [World.size_alloc] at ks
 generalize (w.alloc (.cells #[.slice a0 m.rooms.length p0,.slice a1 m.guilds.length p1,.slice (some ⟨sb,off,none⟩) m.smiths.length p2,.slice a3 m.desks.length p3,.slice a4 m.paces.length p4,.int .i64 m.now] 32)).alloc (.cells (I11 st be rk my gu lo hi hd ca ut wk) 39)=W at *
 refine ck (P1 gu lo hi (uh Hv2) (LH (uh Hg) m.guilds.length gu (uh Hv2) g0 g1 g1)) fun w1 hb=> ?_
 replace ks:=bl ks hb
 replace BB:=bt BB hb
 have x9:=(uh ks).cell (i:=9) (v:= .int .i64 ut) rfl
 clear hb d0 d1 d2 d3 d4 d5 d6 d7 d8 d9 d10
 go_wp2_with (go_at_call 189;refine (Tx _ _ _ _).mono ?_;rintro e w' ⟨rfl,h9⟩;subst w')
 go_ret
 exact ⟨rfl,uh BB⟩
theorem IN (m:Z4) (but:Int) {q:List Z6} {k:Nat} (hk:k<q.length):Vs m but (q.take (k+1))=if (Z7 q k).2=but then Vs m but (q.take k) else Vs m but (q.take k)+Zo m (Z7 q k).2:=by
 have:q.take (k+1)=q.take k++[Z7 q k]:=by
  rw [List.take_succ_eq_append_getElem hk];unfold Z7;simp [List.getD,hk]
 rw [this,IM]
theorem V2  (b but:Int) (h:Smy w v0 v1 v2 v3 v4 m) (hG:FD m) (hl:m.smiths.length<=800) :
  Calls Tryz.prog 62 #[.agg #[v0,v1,v2,v3,v4,.int .i64 m.now],.int .i64 b,.int .i64 but] w fun e w'=>e= .returned (.int .i64 (Ze m b but))/\Below w.heap.size w w':=by
 have Hv:=Z9 (h.alloc (.cells #[v0,v1,v2,v3,v4,.int .i64 m.now] 32))
 obtain ⟨a0,p0,a1,p1,a2,p2,a3,p3,a4,p4,rfl,rfl,rfl,rfl,rfl,_,_,_,_,_,_,_,_,_,_⟩:=h.five
 clear h
 have HG:=Z9 hG
 clear hG
 go_enter Tryz.func62,Tryz.ntmps62
 go_wp2_with fail
 refine (Sr b (uh Hv) hl).mono ?_
 rintro e w1 ⟨v',rfl,he,hb⟩
 have kb:Hid (Blk w1 w.heap.size 32 (S6 a0 p0 a1 p1 a2 p2 a3 p3 a4 p4 m)):=Z9 ((Blk.new w _ _).below hb (by simp))
 have BB:Hid (Below w.heap.size w w1):=Z9 (((ba _ _)).trans (hb.mono (by simp)))
 replace Hv:=Z9 ((uh Hv).below hb)
 have hq:=TD m.smiths b m.smiths.length
 have hmem:=Yt m.smiths b
 have Hu:Hid (Ze m b but=Vs m but (atV m.smiths b m.smiths.length)):=Z9 rfl
 have hmq:∀ x ∈ atV m.smiths b m.smiths.length,∃ j:Nat,j<m.smiths.length/\ZR (Z8 m.smiths j)=true/\x.2=(j:Int):=fun x hx=>by
  obtain ⟨j,hj,_,hp,rfl⟩:=(hmem x m.smiths.length).1 hx
  exact ⟨j,hj,hp,rfl⟩
 have Hm:=Z9 hmq
 clear hmem hmq hb
 have hp:=EntsAt.paces he
 clear he
 generalize atV m.smiths b m.smiths.length=q at *
 obtain ⟨qa,qc,rfl,hqc,hqm,hr⟩:=hp
 have Hr:=Z9 hr
 clear hr
 go_wp2_with fail
 go_loopw [7,9] (fun n i wr=> ∃ k:Nat,k<=q.length/\i= .int .i64 k/\n= .int .i64 (Vs m but (q.take k))/\Below w1.heap.size w1 wr) (fun _ i _=>q.length-(intOf i).toNat)
 case atStart=>exact ⟨0,Nat.zero_le _,rfl,rfl,Below.refl _ _⟩
 case round=>
  obtain ⟨k,hk,rfl,rfl,hbr⟩:=hrel
  have hub:=KR m but (q.take k)
  have htl:(q.take k).length<=k:=by rw [List.length_take];omega
  by_cases hlt:k<q.length
  ·rcases uh Hr with e0 | ⟨eb,eo,rfl,hbw,hcl⟩
   ·rw [e0] at hlt;simp at hlt
   obtain ⟨c0,c1⟩:=hcl k hlt
   rw [<-hbr.cell (p:=⟨eb,eo+k*2,none⟩) hbw] at c0
   rw [<-hbr.cell (p:=⟨eb,eo+k*2+1,none⟩) hbw] at c1
   obtain ⟨j,hj,hjp,hje⟩:=uh Hm _ (XM hlt)
   have Hjp:=Z9 (Gb hjp)
   clear hjp
   have hst:=IN m but hlt
   have hwb:=RI m (j:Int)
   rw [hje] at c1 hst
   clear hje hcl
   generalize (Z7 q k).1=hd at *
   have Hst:=Z9 hst
   clear hst
   generalize Vs m but (q.take k)=u at *
   have u1:u<=1024*800:=by omega
   have kb1:=(uh kb).below hbr (uh kb).lt
   have Hv1:=Z9 ((uh Hv).below hbr)
   have Kb1:=Z9 kb1
   have Hbr:=Z9 hbr
   clear hbr kb1
   obtain ⟨x0,x1,x2,x3,x4,x5⟩:=(uh Kb1).c6
   by_cases hbut:(j:Int)=but
   ·have hbn:((j:Int) ==but)=true:=by simpa using hbut
    go_wp2_with fail
    go_roundw
    case rel=>exact ⟨k+1,by omega,by go_num,by rw [uh Hst,if_pos hbut],uh Hbr⟩
    case measure=>exact ms
   ·have hbn:((j:Int) ==but)=false:=by simpa using hbut
    have Hw:=Z9 (fun (W:World) (hW:Below wr.heap.size wr W)=>SU ((uh Hv1).below hW) (uh HG).guilds hj ((uh HG).lo j hj (uh Hjp)) ((uh HG).hi j hj (uh Hjp)))
    generalize Zo m (j:Int)=wa at *
    have y0:=cell_regrown x0
    have y1:=cell_regrown x1
    have y2:=cell_regrown x2
    have y3:=cell_regrown x3
    have y4:=cell_regrown x4
    have y5:=cell_regrown x5
    have z0:=cell_regrown c0
    have z1:=cell_regrown c1
    go_wp2_with fail
    refine wq ?_
    repeat (go_big_quiet_step (exact Calls.regrown_of (uh Hw _ (below_regrown _ _ _))))
    refine wpQuiet_nil ?_
    intro _ hw'
    obtain ⟨⟨dq,osq⟩,hw''⟩:=hw'
    subst hw''
    go_wp2_with fail
    go_roundw
    case rel=>exact ⟨k+1,by omega,by go_num,by rw [uh Hst,if_neg hbut],(uh Hbr).trans ((below_regrown _ _ _).mono (uh Hbr).size)⟩
    case measure=>exact ms
  ·obtain rfl:k=q.length:=by omega
   rw [List.take_length]
   go_wp2_with fail
   go_ret
   exact ⟨ZI (uh Hu).symm,(uh BB).trans (hbr.mono (uh BB).size)⟩
structure Sane (m:Z4):Prop where
 hall:Zh m.rooms=true
 desks:(m.desks.length:Int)=Z1 m.rooms
 guilded:FD m
 few:m.smiths.length<=12
theorem Sane.bench (h:Sane m) {b:Nat} (hb:b<m.desks.length):YN m.rooms (b:Int)=true:=EF h.hall (by omega) (by have:=h.desks;omega)
theorem Sane.eight (h:Sane m):m.desks.length<=8:=by have:=(Zy h.hall).2.2.2;have:=h.desks;omega
theorem Loose.sane (h:Loose m):Sane m:=by
 have hd:=h.head
 unfold Y2 at hd
 simp only [Bool.and_eq_true,decide_eq_true_eq] at hd
 obtain ⟨h1,h2,h3,h4,_⟩:=hd
 refine ⟨h1,h4,⟨h2,fun i hi hs=> ?_,fun i hi hs=>(h.limits hi hs).2.1⟩,h3⟩
 have hp:=(h.limits hi hs).1
 generalize Z8 m.smiths i=s at *
 obtain ⟨st,be,rk,my,gu,lo',hi',hd,ca,ut,wk⟩:=s
 exact (Zi hp).2.2.2.2.1.1
theorem Sane.with (h:Sane m) {k:Nat} (hk:k<m.smiths.length) (hs:(Z8 m.smiths k).1 ≠ 0) (b:Int):Sane (Tq m (k:Int) b):=by
 have hset:∀ i,Z8 (Tq m (k:Int) b).smiths i=if i=k then Q6 (Z8 m.smiths k) b else Z8 m.smiths i:=fun i=>by
  unfold Tq
  simp only [Int.toNat_natCast]
  exact ZK hk i
 refine ⟨h.hall,h.desks,⟨h.guilded.guilds,fun i hi hne=> ?_,fun i hi hne=> ?_⟩,by unfold Tq;simpa using h.few⟩
 ·have hi':i<m.smiths.length:=by unfold Tq at hi;simpa using hi
  rw [hset] at hne ⊢
  by_cases e:i=k
  ·rw [if_pos e];exact h.guilded.lo k hk hs
  ·rw [if_neg e] at hne ⊢;exact h.guilded.lo i hi' hne
 ·have hi':i<m.smiths.length:=by unfold Tq at hi;simpa using hi
  rw [hset] at hne ⊢
  by_cases e:i=k
  ·rw [if_pos e];exact h.guilded.hi k hk hs
  ·rw [if_neg e] at hne ⊢;exact h.guilded.hi i hi' hne
theorem Sane.few' (h:Sane m) (hp:m.paces.length<=1000):Few m:=by
 obtain ⟨r1,r2,r3,r4⟩:=Zy h.hall
 have hg:=(Wj h.guilded.guilds).2
 refine ⟨by omega,fun r hr=> ?_,by omega,by have:=h.few;omega,by have:=h.eight;omega,hp⟩
 have hrb:=List.all_eq_true.1 r3 r hr
 unfold Zt at hrb
 simp only [Bool.and_eq_true] at hrb
 have:=ZU hrb.2.1
 omega
theorem TM  {rs:List Z2} (n:Int) (h:IsRooms w v rs) (hbn:YN rs n=true) :
  Calls Tryz.prog 41 #[.agg #[v],.int .i64 n] w fun e w'=>e= .returned (.int .i64 (Yw rs n))/\Below w.heap.size w w':=by
 obtain ⟨a,cap,rfl,hc,hm,hr⟩:=h
 have Hr:=Z9 hr
 have H:=Z9 hbn
 have hh:=(WM hbn).1
 have hn0:=(WM hbn).2.1
 have hn1:n<12:=by have h1:=(WM hbn).2.2;have:=(Zy hh).2.2.2;omega
 have Hh:=Z9 hh
 have hl3:rs.length<=3:=(Zy hh).2.1
 clear hr hbn hh
 go_enter Tryz.func41,Tryz.ntmps41
 go_wp2_with fail
 go_loop [1,5] (fun q i=> ∃ r:Nat,r<=rs.length/\i= .int .i64 r/\q= .int .i64 (n-Z1 (rs.take r))/\(∀ j,j<r->Z1 (rs.take (j+1))<=n)) (fun _ i=>rs.length-(intOf i).toNat)
 case atStart=>exact ⟨0,Nat.zero_le _,rfl,by simp [Z1],fun j hj=>by omega⟩
 case round=>
  obtain ⟨r,hr,rfl,rfl,hl⟩:=hrel
  have hlt:=Uv (uh H) hr hl
  rcases uh Hr with e0 | ⟨b,off,rfl,hbw,hcl⟩
  ·rw [e0] at hlt;simp at hlt
  obtain ⟨c0,pv,c1,hip⟩:=hcl r hlt
  have hne:b ≠ w.heap.size:=Nat.ne_of_lt hbw
  have Hl:=Z9 hl
  have hb0:=XH (uh Hh) r hr
  have hb1:=XH (uh Hh) (r+1) hlt
  have Hs:=Z9 (Ys rs hlt)
  have HN:Hid (n<Z1 (rs.take (r+1))->Yw rs n=r):=Z9 (fun hx=>Ru hlt hx (uh Hl))
  have HM:Hid (Z1 (rs.take (r+1))<=n-> ∀ j,j<r+1->Z1 (rs.take (j+1))<=n):=Z9 (fun hx=>YF (uh Hl) hx)
  rw [Ys rs hlt] at hb1 HN HM
  generalize Z1 (rs.take r)=s at *
  generalize (Z0 rs r).1=rb at *
  clear hcl hip hl
  by_cases hq:rb<=n-s
  ·go_wp2_with fail
   go_round
   case rel=>exact ⟨r+1,by omega,by go_num,by rw [uh Hs];congr 1;omega,uh HM (by omega)⟩
   case measure=>exact ms
  ·go_wp2_with fail
   go_ret
   exact ⟨ZI (by rw [uh HN (by omega)]),(ba _ _)⟩
theorem JN  {rs:List Z2} (n:Int) (h:IsRooms w v rs) :
  Calls Tryz.prog 48 #[.agg #[v],.int .i64 n] w fun e w'=>e= .returned (.bool (YN rs n))/\Below w.heap.size w w':=by
 have Hv:=Z9 h
 obtain ⟨a,cap,rfl,hc,hm⟩:∃ a cap,v= .slice a rs.length cap/\rs.length<=cap/\cap<=9223372036854775807:=by obtain ⟨a,cap,rfl,hc,hm,_⟩:=h;exact ⟨a,cap,rfl,hc,hm⟩
 clear h
 cases h1:Zh rs
 ·have H2:=Z9 (GN (n:=n) h1)
  go_enter Tryz.func48,Tryz.ntmps48
  go_wp2_with fail
  refine ck (Xr ((uh Hv).alloc _)) fun w1 hb=> ?_
  have Hb:=Z9 hb
  clear hb
  go_wp2_with fail
  go_ret
  exact ⟨Z5 (uh H2).symm,((ba _ _)).trans ((uh Hb).mono (by simp))⟩
 ·have H2:Hid (YN rs n=inB n 0 (Z1 rs-1)):=Z9 (by unfold YN;rw [h1];rfl)
  have hbs:=XH h1 rs.length (Nat.le_refl _)
  rw [Vz] at hbs
  have H1:=Z9 h1
  go_enter Tryz.func48,Tryz.ntmps48
  go_wp2_with fail
  refine ck (Xr ((uh Hv).alloc _)) fun w1 hb=> ?_
  have hz:w.heap.size+1<=w1.heap.size:=by have:=hb.size;simpa using this
  have hbox:w1.cell? ⟨w.heap.size,0,none⟩=some (.slice a rs.length cap):=by rw [hb.cell (p:=⟨w.heap.size,0,none⟩) (by simp)];simp
  have hw1:=Z9 (((uh Hv).alloc _).below hb)
  have Hb:=Z9 hb
  clear hb
  go_wp2_with fail
  refine ck (UT (uh hw1) (Ud (uh H1))) fun w2 hb2=> ?_
  have Hb2:=Z9 hb2
  clear hb2
  generalize Z1 rs=s at *
  go_wp2_with fail
  refine (ZZ _ _ _ _).mono ?_
  rintro e w' ⟨rfl,rfl⟩
  go_wp2_with fail
  go_ret
  exact ⟨Z5 (uh H2).symm,((ba _ _)).trans (((uh Hb).trans ((uh Hb2).mono (uh Hb).size)).mono (by simp))⟩
theorem O2  {rs:List Z2} (n:Int) (h:IsRooms w v rs) :
  Calls Tryz.prog 13 #[.agg #[v],.int .i64 n] w fun e w'=>e= .returned (.int .i64 (MD rs n))/\Below w.heap.size w w':=by
 have Hv:=Z9 h
 obtain ⟨a,cap,rfl,hc,hm⟩:∃ a cap,v= .slice a rs.length cap/\rs.length<=cap/\cap<=9223372036854775807:=by obtain ⟨a,cap,rfl,hc,hm,_⟩:=h;exact ⟨a,cap,rfl,hc,hm⟩
 clear h
 cases h1:YN rs n
 ·have H2:=Z9 (CC h1)
  go_enter Tryz.func13,Tryz.ntmps13
  go_wp2_with fail
  refine ck (JN n ((uh Hv).alloc _)) fun w1 hb=> ?_
  have Hb:=Z9 hb
  clear hb
  go_wp2_with fail
  go_ret
  exact ⟨ZI (uh H2).symm,((ba _ _)).trans ((uh Hb).mono (by simp))⟩
 ·have H2:=Z9 (Gf h1)
  have H1:=Z9 h1
  go_enter Tryz.func13,Tryz.ntmps13
  go_wp2_with fail
  refine ck (JN n ((uh Hv).alloc _)) fun w1 hb=> ?_
  have hz:w.heap.size+1<=w1.heap.size:=by have:=hb.size;simpa using this
  have hbox:w1.cell? ⟨w.heap.size,0,none⟩=some (.slice a rs.length cap):=by rw [hb.cell (p:=⟨w.heap.size,0,none⟩) (by simp)];simp
  have hw1:=Z9 (((uh Hv).alloc _).below hb)
  have Hb:=Z9 hb
  clear hb
  go_wp2_with fail
  refine ck (TM n (uh hw1) (uh H1)) fun w2 hb2=> ?_
  have Hb2:=Z9 hb2
  clear hb2
  go_wp2_with fail
  go_ret
  exact ⟨ZI (uh H2).symm,((ba _ _)).trans (((uh Hb).trans ((uh Hb2).mono (uh Hb).size)).mono (by simp))⟩
theorem CD {a:Option Addr} {cap:Nat} {rs:List Z2} {r:Nat} (h:IsRooms w (.slice a rs.length cap) rs) (hr:r<rs.length) (hh:Zh rs=true) :
  ∃ b off a' cap',a=some ⟨b,off,none⟩/\b<w.heap.size/\w.cell? ⟨b,off+r*2+1,none⟩=some (.slice (some a') (Z0 rs r).2.length cap')/\1<=(Z0 rs r).2.length/\(Z0 rs r).2.length<=4/\a'.spot=none/\a'.block<w.heap.size/\w.cell? ⟨a'.block,a'.off+((Z0 rs r).2.length-1)*2,none⟩=some (.int .i64 (Vu (Z0 rs r).2)):=by
 obtain ⟨a0,cap0,he,hc,hm,hr'⟩:=h
 cases he
 rcases hr' with e0 | ⟨b,off,rfl,hbw,hcl⟩
 ·rw [e0] at hr;simp at hr
 obtain ⟨_,pv,c1,hip⟩:=hcl r hr
 have hb:=Rv (SD (Zy hh).2.2.1 hr)
 obtain ⟨pa,pcap,rfl,_,_,hp⟩:=hip
 rcases hp with e1 | ⟨b',off',rfl,hbw',hcl'⟩
 ·rw [e1] at hb;simp at hb
 ·exact ⟨b,off,⟨b',off',none⟩,pcap,rfl,hbw,c1,hb.2.2.1,hb.2.2.2,rfl,hbw',(hcl' _ (by omega)).1⟩
end Go.Proofs.YtffcgajndmhpkaaGreatDoor
