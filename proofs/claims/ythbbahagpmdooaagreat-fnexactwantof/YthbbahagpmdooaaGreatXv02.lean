/- Part 2 of what the proof rests on besides. No condition but those that a theorem names. -/
import Derived.Test.YthbbahagpmdooaaGreatXv01
set_option maxHeartbeats 8000000
set_option maxRecDepth 100000
namespace Go.Proofs.YthbbahagpmdooaaGreat
open Go.ChangeShapes Go.WideShapes Go.ChangeAt Go.RowKit Go.Sort
set_option linter.unusedVariables false
theorem Vf:(Tryz.prog.info? 41).map (fun i=>(i.zero,i.size,i.bytes))=some (some (.agg #[.int .i64 0,.int .i64 0,.int .i64 0,.int .i64 0,.int .i64 0,.int .i64 0,.int .i64 0,.int .i64 0,.int .i64 0,.int .i64 0,.int .i64 0]),11,88):=by kernel_rfl
theorem XI (a:Option Addr) (n cap:Nat) (left:Int) (hn:n<=9223372036854775807) (h0:0<=left) (h1:left<=1048576) (w:World) :
  Calls Tryz.prog 50 #[.slice a n cap,.int .i64 left] w fun e w'=>e= .returned (.int .i64 (szV n left))/\w'=w:=by
 by_cases h:left-n<0
 all_goals
  go_enter Tryz.func50,Tryz.ntmps50
  go_wp2
  go_ret
  exact ⟨Zx (by first | exact (Y9 (by omega)).symm | exact (Zc (by omega)).symm),rfl⟩
theorem Wn (x0:Int) (x1:Int) (x2:Int) (x3:Int) (x4:Int) (x5:Int) (x6:Int) (x7:Int) (x8:Int) (x9:Int) (x10:Int) (w:World) :
  Calls Tryz.prog 101 #[.agg #[.int .i64 x0,.int .i64 x1,.int .i64 x2,.int .i64 x3,.int .i64 x4,.int .i64 x5,.int .i64 x6,.int .i64 x7,.int .i64 x8,.int .i64 x9,.int .i64 x10],.agg #[.int .i64 x0,.int .i64 x1,.int .i64 x2,.int .i64 x3,.int .i64 x4,.int .i64 x5,.int .i64 x6,.int .i64 x7,.int .i64 x8,.int .i64 x9,.int .i64 x10]] w fun e w'=>e= .returned (.bool true)/\Below w.heap.size w w':=by
 go_enter Tryz.func101,Tryz.ntmps101
 go_wp2_with fail
 go_ret
 exact ⟨rfl,((Below.refl _ _).alloc (Nat.le_refl _) _).alloc (by simp) _⟩
theorem W8 {w:World} {v u:Value} {ps:List Z3} (hv:V2 w v ps) (hu:V2 w u ps) :
  Calls Tryz.prog 60 #[v,u] w fun e w'=>e= .returned (.bool true)/\Below w.heap.size w w':=by
 obtain ⟨a,cap,rfl,hc,hm,hr⟩:=hv
 obtain ⟨a',cap',rfl,hc',hm',hr'⟩:=hu
 have Hr:=Z9 hr
 have Hr':=Z9 hr'
 clear hr hr'
 go_enter Tryz.func60,Tryz.ntmps60
 go_wp2_with fail
 go_loopw [5] (fun i wr=> ∃ k:Nat,k<=ps.length/\i= .int .i64 k/\Below w.heap.size w wr) (fun i _=>ps.length-(intOf i).toNat)
 case atStart=>exact ⟨0,Nat.zero_le _,rfl,Below.refl _ _⟩
 case round=>
  obtain ⟨k,hk,rfl,hb⟩:=hrel
  have Hb:=Z9 hb
  by_cases hlt:k<ps.length
  ·rcases uh Hr with h0 | ⟨b,off,rfl,hbw,hcl⟩
   ·rw [h0] at hlt;simp at hlt
   rcases uh Hr' with h0 | ⟨b',off',rfl,hbw',hcl'⟩
   ·rw [h0] at hlt;simp at hlt
   obtain ⟨c0,c1,c2,c3,c4,c5,c6,c7,c8,c9,c10⟩:=ZI hcl hlt
   obtain ⟨d0,d1,d2,d3,d4,d5,d6,d7,d8,d9,d10⟩:=ZI hcl' hlt
   generalize Z8 ps k=p at *
   obtain ⟨x0,x1,x2,x3,x4,x5,x6,x7,x8,x9,x10⟩:=p
   simp only at c0 c1 c2 c3 c4 c5 c6 c7 c8 c9 c10 d0 d1 d2 d3 d4 d5 d6 d7 d8 d9 d10
   have k0:=cell_regrown ((hb.cell (p:=⟨b,off+k*11,none⟩) hbw).trans c0)
   have m0:=cell_regrown ((hb.cell (p:=⟨b',off'+k*11,none⟩) hbw').trans d0)
   have k1:=cell_regrown ((hb.cell (p:=⟨b,off+k*11+1,none⟩) hbw).trans c1)
   have m1:=cell_regrown ((hb.cell (p:=⟨b',off'+k*11+1,none⟩) hbw').trans d1)
   have k2:=cell_regrown ((hb.cell (p:=⟨b,off+k*11+2,none⟩) hbw).trans c2)
   have m2:=cell_regrown ((hb.cell (p:=⟨b',off'+k*11+2,none⟩) hbw').trans d2)
   have k3:=cell_regrown ((hb.cell (p:=⟨b,off+k*11+3,none⟩) hbw).trans c3)
   have m3:=cell_regrown ((hb.cell (p:=⟨b',off'+k*11+3,none⟩) hbw').trans d3)
   have k4:=cell_regrown ((hb.cell (p:=⟨b,off+k*11+4,none⟩) hbw).trans c4)
   have m4:=cell_regrown ((hb.cell (p:=⟨b',off'+k*11+4,none⟩) hbw').trans d4)
   have k5:=cell_regrown ((hb.cell (p:=⟨b,off+k*11+5,none⟩) hbw).trans c5)
   have m5:=cell_regrown ((hb.cell (p:=⟨b',off'+k*11+5,none⟩) hbw').trans d5)
   have k6:=cell_regrown ((hb.cell (p:=⟨b,off+k*11+6,none⟩) hbw).trans c6)
   have m6:=cell_regrown ((hb.cell (p:=⟨b',off'+k*11+6,none⟩) hbw').trans d6)
   have k7:=cell_regrown ((hb.cell (p:=⟨b,off+k*11+7,none⟩) hbw).trans c7)
   have m7:=cell_regrown ((hb.cell (p:=⟨b',off'+k*11+7,none⟩) hbw').trans d7)
   have k8:=cell_regrown ((hb.cell (p:=⟨b,off+k*11+8,none⟩) hbw).trans c8)
   have m8:=cell_regrown ((hb.cell (p:=⟨b',off'+k*11+8,none⟩) hbw').trans d8)
   have k9:=cell_regrown ((hb.cell (p:=⟨b,off+k*11+9,none⟩) hbw).trans c9)
   have m9:=cell_regrown ((hb.cell (p:=⟨b',off'+k*11+9,none⟩) hbw').trans d9)
   have k10:=cell_regrown ((hb.cell (p:=⟨b,off+k*11+10,none⟩) hbw).trans c10)
   have m10:=cell_regrown ((hb.cell (p:=⟨b',off'+k*11+10,none⟩) hbw').trans d10)
   clear hcl hcl' hb c0 c1 c2 c3 c4 c5 c6 c7 c8 c9 c10 d0 d1 d2 d3 d4 d5 d6 d7 d8 d9 d10
   go_wp2_with fail
   refine wp_region_quiet_below (by kernel_rfl) (by kernel_rfl) ?_
   repeat (go_big_quiet_step (exact Calls.regrown_of (Wn _ _ _ _ _ _ _ _ _ _ _ _)))
   refine wpQuiet_nil ?_
   intro _ hw'
   obtain ⟨⟨dq,osq⟩,hw''⟩:=hw'
   subst hw''
   go_wp2_with fail
   go_roundw
   case rel=>exact ⟨k+1,by omega,by go_num,(uh Hb).trans ((below_regrown _ _ _).mono (uh Hb).size)⟩
   case measure=>simp [intOf];omega
  ·go_wp2_with fail
   go_ret
   exact ⟨rfl,hb⟩
theorem WZ (x0:Int) (x1:Int) (x2:Int) (x3:Int) (x4:Int) (x5:Int) (x6:Int) (x7:Int) (x8:Int) (x9:Int) (x10:Int) (w:World) :
  Calls Tryz.prog 97 #[.agg #[.int .i64 x0,.int .i64 x1,.int .i64 x2,.int .i64 x3,.int .i64 x4,.int .i64 x5,.int .i64 x6,.int .i64 x7,.int .i64 x8,.int .i64 x9,.int .i64 x10]] w fun e w'=>e= .returned (.agg #[.int .i64 x0,.int .i64 x1,.int .i64 x2,.int .i64 x3,.int .i64 x4,.int .i64 x5,.int .i64 x6,.int .i64 x7,.int .i64 x8,.int .i64 x9,.int .i64 x10])/\Below w.heap.size w w':=by
 go_enter Tryz.func97,Tryz.ntmps97
 go_wp2_with fail
 exact bodyPost_ret (v:= .agg #[.int .i64 x0,.int .i64 x1,.int .i64 x2,.int .i64 x3,.int .i64 x4,.int .i64 x5,.int .i64 x6,.int .i64 x7,.int .i64 x8,.int .i64 x9,.int .i64 x10]) (by simp [results,Tryz.results97,go_sem]) rfl ⟨rfl,(((Below.refl _ _).alloc (Nat.le_refl _) _).alloc (by simp) _).alloc (by simp;omega) _⟩
theorem X9 {w:World} {v:Value} {ps:List Z3} (h:V2 w v ps) (hs:ps.length<=1048576) :
  Calls Tryz.prog 55 #[v] w fun e w'=> ∃ v',e= .returned v'/\SmithsAt w.heap.size w' v' ps/\Below w.heap.size w w':=by
 obtain ⟨a,cap,rfl,hc,hm,hr⟩:=h
 have Hr:=Z9 hr
 clear hr
 obtain ⟨i0,hi,hz0,hz1,hz2⟩:=info_parts Vf
 go_enter Tryz.func55,Tryz.ntmps55
 go_wp2_with (at_make;refine wpList_make_full _ rfl _ _ 28 rfl w.heap.size 41 i0 (.agg #[.int .i64 0,.int .i64 0,.int .i64 0,.int .i64 0,.int .i64 0,.int .i64 0,.int .i64 0,.int .i64 0,.int .i64 0,.int .i64 0,.int .i64 0]) 11 Tryz.underlying28 hi hz0 hz1 _ _ _ _ ps.length rfl rfl rfl rfl (by rw [hz2];omega) (by unfold maxLen;omega) (Nat.le_refl _) ?_;intro w0 hown hgrow)
 have Hown:Hid (SmithsAt w.heap.size w0 (.slice (some ⟨w.heap.size,0,none⟩) ps.length ps.length) (Zz ps (0,0,0,0,0,0,0,0,0,0,0) 0)):=Z9 (by
  rw [Hj ZQ (by omega) (0,0,0,0,0,0,0,0,0,0,0) (Value.agg #[.int .i64 0,.int .i64 0,.int .i64 0,.int .i64 0,.int .i64 0,.int .i64 0,.int .i64 0,.int .i64 0,.int .i64 0,.int .i64 0,.int .i64 0]).cells rfl ps.length] at hown
  rw [Zj]
  show w0.ownsRow _ _ _ _ (List.replicate ps.length _).length _
  rw [List.length_replicate]
  exact hown)
 have Hgr:=Z9 hgrow
 clear hown hgrow
 go_loopw [4] (fun i wr=> ∃ k:Nat,k<=ps.length/\i= .int .i64 k/\SmithsAt w.heap.size wr (.slice (some ⟨w.heap.size,0,none⟩) ps.length ps.length) (Zz ps (0,0,0,0,0,0,0,0,0,0,0) k)/\Below w.heap.size w wr) (fun i _=>ps.length-(intOf i).toNat)
 case atStart=>exact ⟨0,Nat.zero_le _,rfl,uh Hown,(Below.refl _ _).grown (uh Hgr) (Nat.le_refl _) (fun k e=>by cases e)⟩
 case round=>
  obtain ⟨k,hk,rfl,hown,hb⟩:=hrel
  have Hb:=Z9 hb
  by_cases hlt:k<ps.length
  ·rcases uh Hr with h0 | ⟨b,off,rfl,hbw,hcl⟩
   ·rw [h0] at hlt;simp at hlt
   obtain ⟨c0,c1,c2,c3,c4,c5,c6,c7,c8,c9,c10⟩:=ZI hcl hlt
   rw [<-hb.cell (p:=⟨b,off+k*11,none⟩) hbw] at c0
   rw [<-hb.cell (p:=⟨b,off+k*11+1,none⟩) hbw] at c1
   rw [<-hb.cell (p:=⟨b,off+k*11+2,none⟩) hbw] at c2
   rw [<-hb.cell (p:=⟨b,off+k*11+3,none⟩) hbw] at c3
   rw [<-hb.cell (p:=⟨b,off+k*11+4,none⟩) hbw] at c4
   rw [<-hb.cell (p:=⟨b,off+k*11+5,none⟩) hbw] at c5
   rw [<-hb.cell (p:=⟨b,off+k*11+6,none⟩) hbw] at c6
   rw [<-hb.cell (p:=⟨b,off+k*11+7,none⟩) hbw] at c7
   rw [<-hb.cell (p:=⟨b,off+k*11+8,none⟩) hbw] at c8
   rw [<-hb.cell (p:=⟨b,off+k*11+9,none⟩) hbw] at c9
   rw [<-hb.cell (p:=⟨b,off+k*11+10,none⟩) hbw] at c10
   have Ho:=Z9 hown
   have HS:=Z9 (Y6 (z:=((0,0,0,0,0,0,0,0,0,0,0):Z3)) hlt)
   generalize hp:Z8 ps k=p at *
   obtain ⟨x0,x1,x2,x3,x4,x5,x6,x7,x8,x9,x10⟩:=p
   simp only at c0 c1 c2 c3 c4 c5 c6 c7 c8 c9 c10
   clear hcl hb hown hp
   go_wp2_with fail
   refine (WZ _ _ _ _ _ _ _ _ _ _ _ _).mono ?_
   rintro e w1 ⟨rfl,hb1⟩
   have ho1:=RecAt.later (uh Ho) hb1
   have hfl:=Y5 (z:=((0,0,0,0,0,0,0,0,0,0,0):Z3)) hk
   obtain ⟨g,hg,_,_,hcells,hfz⟩:=RecAt.view ZQ (by omega) ho1 hfl.symm (by omega)
   cases hg
   have hq:=fun i u hu=>hcells k (by omega) i u hu
   generalize Z8 (Zz ps (0,0,0,0,0,0,0,0,0,0,0) k) k=old at hq
   have o0:=hq 0 _ rfl
   have f0:=hfz (k*11)
   have o1:=hq 1 _ rfl
   have f1:=hfz (k*11+1)
   have o2:=hq 2 _ rfl
   have f2:=hfz (k*11+2)
   have o3:=hq 3 _ rfl
   have f3:=hfz (k*11+3)
   have o4:=hq 4 _ rfl
   have f4:=hfz (k*11+4)
   have o5:=hq 5 _ rfl
   have f5:=hfz (k*11+5)
   have o6:=hq 6 _ rfl
   have f6:=hfz (k*11+6)
   have o7:=hq 7 _ rfl
   have f7:=hfz (k*11+7)
   have o8:=hq 8 _ rfl
   have f8:=hfz (k*11+8)
   have o9:=hq 9 _ rfl
   have f9:=hfz (k*11+9)
   have o10:=hq 10 _ rfl
   have f10:=hfz (k*11+10)
   simp only [Nat.add_zero] at o0
   have Hp2:=Z9 (RecAt.put ZQ (by omega) ho1 hfl.symm (j:=k) (by omega) (x0,x1,x2,x3,x4,x5,x6,x7,x8,x9,x10))
   have Hb1:=Z9 hb1
   have hsz:=hb1.size
   have hsz0:=(uh Hb).size
   clear ho1 hb1 hcells hq hfz hfl
   go_wp2_with fail
   go_roundw
   case rel=>exact ⟨k+1,by omega,by go_num,by have h9:=(uh Hp2).1;rw [uh HS] at h9;exact h9,((uh Hb).trans ((uh Hb1).mono hsz0)).trans (Zo (uh Hp2).2 (Nat.le_refl _) (by omega))⟩
   case measure=>simp [intOf];omega
  ·obtain rfl:k=ps.length:=by omega
   rw [Y3] at hown
   go_wp2_with fail
   go_ret
   exact ⟨_,rfl,hown,hb⟩
theorem U3:(Tryz.prog.info? 68).map (fun i=>(i.zero,i.size,i.bytes))=some (some (.agg #[.bool false,.int .i64 0,.int .i64 0]),3,24):=by kernel_rfl
theorem Wq (a:Option Addr) (n cap:Nat) (left:Int) (hn:n<=9223372036854775807) (h0:0<=left) (h1:left<=1048576) (w:World) :
  Calls Tryz.prog 51 #[.slice a n cap,.int .i64 left] w fun e w'=>e= .returned (.int .i64 (szV n left))/\w'=w:=by
 by_cases h:left-n<0
 all_goals
  go_enter Tryz.func51,Tryz.ntmps51
  go_wp2
  go_ret
  exact ⟨Zx (by first | exact (Y9 (by omega)).symm | exact (Zc (by omega)).symm),rfl⟩
theorem Vp (x0:Bool) (x1:Int) (x2:Int) (w:World) :
  Calls Tryz.prog 102 #[.agg #[.bool x0,.int .i64 x1,.int .i64 x2],.agg #[.bool x0,.int .i64 x1,.int .i64 x2]] w fun e w'=>e= .returned (.bool true)/\Below w.heap.size w w':=by
 go_enter Tryz.func102,Tryz.ntmps102
 go_wp2_with fail
 go_ret
 exact ⟨rfl,((Below.refl _ _).alloc (Nat.le_refl _) _).alloc (by simp) _⟩
theorem VT {w:World} {v u:Value} {ps:List Yl} (hv:U8 w v ps) (hu:U8 w u ps) :
  Calls Tryz.prog 61 #[v,u] w fun e w'=>e= .returned (.bool true)/\Below w.heap.size w w':=by
 obtain ⟨a,cap,rfl,hc,hm,hr⟩:=hv
 obtain ⟨a',cap',rfl,hc',hm',hr'⟩:=hu
 have Hr:=Z9 hr
 have Hr':=Z9 hr'
 clear hr hr'
 go_enter Tryz.func61,Tryz.ntmps61
 go_wp2_with fail
 go_loopw [5] (fun i wr=> ∃ k:Nat,k<=ps.length/\i= .int .i64 k/\Below w.heap.size w wr) (fun i _=>ps.length-(intOf i).toNat)
 case atStart=>exact ⟨0,Nat.zero_le _,rfl,Below.refl _ _⟩
 case round=>
  obtain ⟨k,hk,rfl,hb⟩:=hrel
  have Hb:=Z9 hb
  by_cases hlt:k<ps.length
  ·rcases uh Hr with h0 | ⟨b,off,rfl,hbw,hcl⟩
   ·rw [h0] at hlt;simp at hlt
   rcases uh Hr' with h0 | ⟨b',off',rfl,hbw',hcl'⟩
   ·rw [h0] at hlt;simp at hlt
   obtain ⟨c0,c1,c2⟩:=Zd hcl hlt
   obtain ⟨d0,d1,d2⟩:=Zd hcl' hlt
   generalize Z8 ps k=p at *
   obtain ⟨x0,x1,x2⟩:=p
   simp only at c0 c1 c2 d0 d1 d2
   have k0:=cell_regrown ((hb.cell (p:=⟨b,off+k*3,none⟩) hbw).trans c0)
   have m0:=cell_regrown ((hb.cell (p:=⟨b',off'+k*3,none⟩) hbw').trans d0)
   have k1:=cell_regrown ((hb.cell (p:=⟨b,off+k*3+1,none⟩) hbw).trans c1)
   have m1:=cell_regrown ((hb.cell (p:=⟨b',off'+k*3+1,none⟩) hbw').trans d1)
   have k2:=cell_regrown ((hb.cell (p:=⟨b,off+k*3+2,none⟩) hbw).trans c2)
   have m2:=cell_regrown ((hb.cell (p:=⟨b',off'+k*3+2,none⟩) hbw').trans d2)
   clear hcl hcl' hb c0 c1 c2 d0 d1 d2
   go_wp2_with fail
   refine wp_region_quiet_below (by kernel_rfl) (by kernel_rfl) ?_
   repeat (go_big_quiet_step (exact Calls.regrown_of (Vp _ _ _ _)))
   refine wpQuiet_nil ?_
   intro _ hw'
   obtain ⟨⟨dq,osq⟩,hw''⟩:=hw'
   subst hw''
   go_wp2_with fail
   go_roundw
   case rel=>exact ⟨k+1,by omega,by go_num,(uh Hb).trans ((below_regrown _ _ _).mono (uh Hb).size)⟩
   case measure=>simp [intOf];omega
  ·go_wp2_with fail
   go_ret
   exact ⟨rfl,hb⟩
theorem VA (x0:Bool) (x1:Int) (x2:Int) (w:World) :
  Calls Tryz.prog 98 #[.agg #[.bool x0,.int .i64 x1,.int .i64 x2]] w fun e w'=>e= .returned (.agg #[.bool x0,.int .i64 x1,.int .i64 x2])/\Below w.heap.size w w':=by
 go_enter Tryz.func98,Tryz.ntmps98
 go_wp2_with fail
 exact bodyPost_ret (v:= .agg #[.bool x0,.int .i64 x1,.int .i64 x2]) (by simp [results,Tryz.results98,go_sem]) rfl ⟨rfl,(((Below.refl _ _).alloc (Nat.le_refl _) _).alloc (by simp) _).alloc (by simp;omega) _⟩
theorem WE {w:World} {v:Value} {ps:List Yl} (h:U8 w v ps) (hs:ps.length<=1048576) :
  Calls Tryz.prog 56 #[v] w fun e w'=> ∃ v',e= .returned v'/\DesksAt w.heap.size w' v' ps/\Below w.heap.size w w':=by
 obtain ⟨a,cap,rfl,hc,hm,hr⟩:=h
 have Hr:=Z9 hr
 clear hr
 obtain ⟨i0,hi,hz0,hz1,hz2⟩:=info_parts U3
 go_enter Tryz.func56,Tryz.ntmps56
 go_wp2_with (at_make;refine wpList_make_full _ rfl _ _ 29 rfl w.heap.size 68 i0 (.agg #[.bool false,.int .i64 0,.int .i64 0]) 3 Tryz.underlying29 hi hz0 hz1 _ _ _ _ ps.length rfl rfl rfl rfl (by rw [hz2];omega) (by unfold maxLen;omega) (Nat.le_refl _) ?_;intro w0 hown hgrow)
 have Hown:Hid (DesksAt w.heap.size w0 (.slice (some ⟨w.heap.size,0,none⟩) ps.length ps.length) (Zz ps (false,0,0) 0)):=Z9 (by
  rw [Hj Zu (by omega) (false,0,0) (Value.agg #[.bool false,.int .i64 0,.int .i64 0]).cells rfl ps.length] at hown
  rw [Zj]
  show w0.ownsRow _ _ _ _ (List.replicate ps.length _).length _
  rw [List.length_replicate]
  exact hown)
 have Hgr:=Z9 hgrow
 clear hown hgrow
 go_loopw [4] (fun i wr=> ∃ k:Nat,k<=ps.length/\i= .int .i64 k/\DesksAt w.heap.size wr (.slice (some ⟨w.heap.size,0,none⟩) ps.length ps.length) (Zz ps (false,0,0) k)/\Below w.heap.size w wr) (fun i _=>ps.length-(intOf i).toNat)
 case atStart=>exact ⟨0,Nat.zero_le _,rfl,uh Hown,(Below.refl _ _).grown (uh Hgr) (Nat.le_refl _) (fun k e=>by cases e)⟩
 case round=>
  obtain ⟨k,hk,rfl,hown,hb⟩:=hrel
  have Hb:=Z9 hb
  by_cases hlt:k<ps.length
  ·rcases uh Hr with h0 | ⟨b,off,rfl,hbw,hcl⟩
   ·rw [h0] at hlt;simp at hlt
   obtain ⟨c0,c1,c2⟩:=Zd hcl hlt
   rw [<-hb.cell (p:=⟨b,off+k*3,none⟩) hbw] at c0
   rw [<-hb.cell (p:=⟨b,off+k*3+1,none⟩) hbw] at c1
   rw [<-hb.cell (p:=⟨b,off+k*3+2,none⟩) hbw] at c2
   have Ho:=Z9 hown
   have HS:=Z9 (Y6 (z:=((false,0,0):Yl)) hlt)
   generalize hp:Z8 ps k=p at *
   obtain ⟨x0,x1,x2⟩:=p
   simp only at c0 c1 c2
   clear hcl hb hown hp
   go_wp2_with fail
   refine (VA _ _ _ _).mono ?_
   rintro e w1 ⟨rfl,hb1⟩
   have ho1:=RecAt.later (uh Ho) hb1
   have hfl:=Y5 (z:=((false,0,0):Yl)) hk
   obtain ⟨g,hg,_,_,hcells,hfz⟩:=RecAt.view Zu (by omega) ho1 hfl.symm (by omega)
   cases hg
   have hq:=fun i u hu=>hcells k (by omega) i u hu
   generalize Z8 (Zz ps (false,0,0) k) k=old at hq
   have o0:=hq 0 _ rfl
   have f0:=hfz (k*3)
   have o1:=hq 1 _ rfl
   have f1:=hfz (k*3+1)
   have o2:=hq 2 _ rfl
   have f2:=hfz (k*3+2)
   simp only [Nat.add_zero] at o0
   have Hp2:=Z9 (RecAt.put Zu (by omega) ho1 hfl.symm (j:=k) (by omega) (x0,x1,x2))
   have Hb1:=Z9 hb1
   have hsz:=hb1.size
   have hsz0:=(uh Hb).size
   clear ho1 hb1 hcells hq hfz hfl
   go_wp2_with fail
   go_roundw
   case rel=>exact ⟨k+1,by omega,by go_num,by have h9:=(uh Hp2).1;rw [uh HS] at h9;exact h9,((uh Hb).trans ((uh Hb1).mono hsz0)).trans (Zo (uh Hp2).2 (Nat.le_refl _) (by omega))⟩
   case measure=>simp [intOf];omega
  ·obtain rfl:k=ps.length:=by omega
   rw [Y3] at hown
   go_wp2_with fail
   go_ret
   exact ⟨_,rfl,hown,hb⟩
open Go.ChangeShapes Go.WideShapes Go.ChangeAt Go.RowKit Go.Deep
section
variable {α : Type} {k : Nat} {enc : α → List Value} {H : Type} {en : TypeId × Value → H} {P : Program} {w : World} {base : Nat} {spare : Nat → Bool} {held : Bool}
theorem Xu {t:TypeId} {fs:Array Field} {fuel:Nat} {cs:List Value} {x:DataW H × List MemPlace} (hs:P.underlying t=some (.struct fs)) (hone:oneCellFields P fs=true) (hC:P.cellsOf t=k) (hfs:fs.size=k)
  (h:DataW.trod en P w base spare held fuel t cs=some x):cs.length=k/\ ∀ (i:Nat) (f:Field),fs[i]?=some f-> ∃ u n y,cs[i]?=some u/\DataW.trod en P w base spare held n f.type [u]=some y:=by
 obtain ⟨xs,n,_,_,hl,hxl,hf⟩:=DataW.trod_struct hs h
 rw [hC] at hl
 refine ⟨hl,fun i f hi=> ?_⟩
 have hlt:i<fs.size:=(Array.getElem?_eq_some_iff.1 hi).1
 obtain ⟨ho,hc⟩:=hone_of hone i f hi
 have g:=hf i f hi
 rw [ho,hc] at g
 have hd:(cs.drop i).take 1=[cs[i]'(by omega)]:=by rw [List.drop_eq_getElem_cons (by omega)];rfl
 rw [hd,List.getElem?_eq_getElem (by omega)] at g
 exact ⟨cs[i]'(by omega),n,_,List.getElem?_eq_getElem _,g⟩
theorem YN [Inhabited α] {t e:TypeId} {fs:Array Field} {fuel:Nat} {v:Value} {x:DataW H × List MemPlace}
  (ht:P.underlying t=some (.slice e)) (he:P.underlying e=some (.struct fs)) (ce:P.cellsOf e=k) (hfs:fs.size=k) (hone:oneCellFields P fs=true) (h0:0<k)
  (cl:∀ cs:List Value,cs.length=k->(∀ (i:Nat) (f:Field),fs[i]?=some f-> ∃ u n y,cs[i]?=some u/\DataW.trod en P w base spare held n f.type [u]=some y)-> ∃ x:α,enc x=cs)
  (h:DataW.trod en P w base spare held fuel t [v]=some x):∃ ps:List α,IsRec k enc w v ps:=by
 rcases open_slice ht h with ⟨hv,_⟩ | ⟨a,len,cap,m,n,D,Pl,hv,_,hl,hm,hmm,_,hx⟩
 ·cases hv
  exact ⟨[],none,0,rfl,Nat.le_refl _,by omega,.inl rfl⟩
 ·cases hv
  have hlm:len<=m:=by rw [hmm];split<;>omega
  have each:∀ i,i<len-> ∃ q:α,(enc q).length=k/\ ∀ j,j<k->w.cell? (a.add (i*k+j))=(enc q)[j]?:=by
   intro i hi
   obtain ⟨cs,h1,h2⟩:=hx i (by omega)
   rw [ce] at h1
   obtain ⟨_,hlen,hcell⟩:=World.cells?_some h1
   obtain ⟨h3,h4⟩:=Xu he hone ce hfs h2
   obtain ⟨q,hq⟩:=cl cs h3 h4
   refine ⟨q,by rw [hq];exact h3,fun j hj=> ?_⟩
   have:=hcell j hj
   rw [add_add] at this
   rw [hq];exact this
  obtain ⟨F,hF⟩:=choose_lt each
  have hlen:((List.range len).map F).length=len:=by simp
  refine ⟨(List.range len).map F,some a,cap,by rw [hlen],by rw [hlen];exact hl,by unfold maxLen at hm;omega,?_⟩
  by_cases hz:len=0
  ·exact .inl (by simp [hz])
  ·obtain ⟨hk0,hc0⟩:=hF 0 (by omega)
   have h00:=hc0 0 h0
   rw [List.getElem?_eq_getElem (by omega)] at h00
   have sp:=World.cell?_spot h00
   have hlt:=World.block_lt_of_cell? _ _ h00
   obtain ⟨b,off,spot⟩:=a
   have hspot:spot=none:=by simpa [Addr.add] using sp
   subst hspot
   refine .inr ⟨b,off,rfl,by simpa [Addr.add] using hlt,fun j hj i u hu=> ?_⟩
   rw [hlen] at hj
   have hat:Z8 ((List.range len).map F) j=F j:=by unfold Z8;simp [List.getD,hj]
   rw [hat] at hu
   obtain ⟨hk1,hc1⟩:=hF j hj
   have hi:i<k:=by
    rcases Nat.lt_or_ge i k with h | h
    ·exact h
    ·rw [List.getElem?_eq_none (by omega)] at hu;cases hu
   have:=hc1 i hi
   rw [hu,add_plain,<-Nat.add_assoc] at this
   exact this
end
end Go.Proofs.YthbbahagpmdooaaGreat
namespace Go.Proofs.YthbbahagpmdooaaGreat
open Go.ChangeShapes Go.WideShapes Go.ChangeAt Go.RowKit Go.Sort Go.Deep
set_option linter.unusedVariables false
theorem UM:(Tryz.prog.info? 2).map (fun i=>(i.zero,i.size,i.bytes))=some (some (.int .i64 0),1,8):=by kernel_rfl
theorem XB (a:Option Addr) (n cap:Nat) (left:Int) (hn:n<=9223372036854775807) (h0:0<=left) (h1:left<=1048576) (w:World) :
  Calls Tryz.prog 52 #[.slice a n cap,.int .i64 left] w fun e w'=>e= .returned (.int .i64 (szV n left))/\w'=w:=by
 by_cases h:left-n<0
 all_goals
  go_enter Tryz.func52,Tryz.ntmps52
  go_wp2
  go_ret
  exact ⟨Zx (by first | exact (Y9 (by omega)).symm | exact (Zc (by omega)).symm),rfl⟩
theorem X7 {w:World} {v:Value} {zs:List Int} (h:Js w v zs) (hs:zs.length<=1048576) :
  Calls Tryz.prog 57 #[v] w fun e w'=> ∃ v',e= .returned v'/\NumsAt w.heap.size w' v' zs/\Below w.heap.size w w':=by
 obtain ⟨a,cap,rfl,hc,hm,hr⟩:=h
 have Hr:=Z9 hr
 clear hr
 obtain ⟨i0,hi,hz0,hz1,hz2⟩:=info_parts UM
 go_enter Tryz.func57,Tryz.ntmps57
 go_wp2_with (at_make;refine wpList_make_full _ rfl _ _ 30 rfl w.heap.size 2 i0 (.int .i64 0) 1 Tryz.underlying30 hi hz0 hz1 _ _ _ _ zs.length rfl rfl rfl rfl (by rw [hz2];omega) (by unfold maxLen;omega) (Nat.le_refl _) ?_;intro w0 hown hgrow)
 have Hown:Hid (NumsAt w.heap.size w0 (.slice (some ⟨w.heap.size,0,none⟩) zs.length zs.length) (Zz zs 0 0)):=Z9 (by
  rw [Hj YT (by omega) (0:Int) (Value.int .i64 0).cells rfl zs.length] at hown
  rw [Zj]
  show w0.ownsRow _ _ _ _ (List.replicate zs.length _).length _
  rw [List.length_replicate]
  exact hown)
 have Hgr:=Z9 hgrow
 clear hown hgrow
 go_loopw [4] (fun i wr=> ∃ k:Nat,k<=zs.length/\i= .int .i64 k/\NumsAt w.heap.size wr (.slice (some ⟨w.heap.size,0,none⟩) zs.length zs.length) (Zz zs 0 k)/\Below w.heap.size w wr) (fun i _=>zs.length-(intOf i).toNat)
 case atStart=>exact ⟨0,Nat.zero_le _,rfl,uh Hown,(Below.refl _ _).grown (uh Hgr) (Nat.le_refl _) (fun k e=>by cases e)⟩
 case round=>
  obtain ⟨k,hk,rfl,hown,hb⟩:=hrel
  have Hb:=Z9 hb
  by_cases hlt:k<zs.length
  ·rcases uh Hr with h0 | ⟨b,off,rfl,hbw,hcl⟩
   ·rw [h0] at hlt;simp at hlt
   have c0:=FR hcl hlt
   rw [<-hb.cell (p:=⟨b,off+k,none⟩) hbw] at c0
   have HS:=Z9 (Y6 (z:=(0:Int)) hlt)
   have hfl:=Y5 (z:=(0:Int)) hk
   obtain ⟨g,hg,_,_,hcells,hfz⟩:=RecAt.view YT (by omega) hown hfl.symm (by omega)
   cases hg
   have o0:=hcells k (by omega) 0 _ rfl
   have f0:=hfz (k*1)
   simp only [Nat.mul_one,Nat.add_zero] at o0 f0
   have Hp2:=Z9 (RecAt.put YT (by omega) hown hfl.symm (j:=k) (by omega) (Z8 zs k))
   generalize Z8 zs k=z at *
   clear hcl hb hown hcells hfz hfl
   go_wp2_with fail
   go_roundw
   case rel=>exact ⟨k+1,by omega,by go_num,by have h9:=(uh Hp2).1;rw [uh HS] at h9;simpa [NF,Ug] using h9,(uh Hb).trans (Zo (by have h9:=(uh Hp2).2;simpa [NF,Ug] using h9) (Nat.le_refl _) (by have:=(uh Hb).size;omega))⟩
   case measure=>simp [intOf];omega
  ·obtain rfl:k=zs.length:=by omega
   rw [Y3] at hown
   go_wp2_with fail
   go_ret
   exact ⟨_,rfl,hown,hb⟩
theorem Vs {w:World} {v u:Value} {zs:List Int} (hv:Js w v zs) (hu:Js w u zs) :
  Calls Tryz.prog 62 #[v,u] w fun e w'=>e= .returned (.bool true)/\Below w.heap.size w w':=by
 obtain ⟨a,cap,rfl,hc,hm,hr⟩:=hv
 obtain ⟨a',cap',rfl,hc',hm',hr'⟩:=hu
 have Hr:=Z9 hr
 have Hr':=Z9 hr'
 clear hr hr'
 go_enter Tryz.func62,Tryz.ntmps62
 go_wp2_with fail
 go_loopw [5] (fun i wr=> ∃ k:Nat,k<=zs.length/\i= .int .i64 k/\Below w.heap.size w wr) (fun i _=>zs.length-(intOf i).toNat)
 case atStart=>exact ⟨0,Nat.zero_le _,rfl,Below.refl _ _⟩
 case round=>
  obtain ⟨k,hk,rfl,hb⟩:=hrel
  have Hb:=Z9 hb
  by_cases hlt:k<zs.length
  ·rcases uh Hr with h0 | ⟨b,off,rfl,hbw,hcl⟩
   ·rw [h0] at hlt;simp at hlt
   rcases uh Hr' with h0 | ⟨b',off',rfl,hbw',hcl'⟩
   ·rw [h0] at hlt;simp at hlt
   have c0:=FR hcl hlt
   have d0:=FR hcl' hlt
   rw [<-hb.cell (p:=⟨b,off+k,none⟩) hbw] at c0
   rw [<-hb.cell (p:=⟨b',off'+k,none⟩) hbw'] at d0
   generalize Z8 zs k=z at *
   clear hcl hcl' hb
   go_wp2_with fail
   go_quiet (fail)
   go_wp2_with fail
   go_roundw
   case rel=>exact ⟨k+1,by omega,by go_num,⟨(uh Hb).os,(uh Hb).tape,(uh Hb).output,(uh Hb).size,(uh Hb).block⟩⟩
   case measure=>simp [intOf];omega
  ·go_wp2_with fail
   go_ret
   exact ⟨rfl,hb⟩
def Ya (W:World) (a:Addr) (i:Nat) (q:Int):Prop:=W.cell? (a.add i)=some (.int .i64 q)
theorem Vh {H:Type} {enc:TypeId × Value->H} {W:World} {spare:Nat->Bool} {held:Bool} {n:Nat} {v:Value} {y:DataW H × List MemPlace}
  (h:DataW.trod enc Tryz.prog W 0 spare held n 30 [v]=some y):∃ zs,Js W v zs:=by
 rcases open_slice Tryz.underlying30 h with ⟨hv,_⟩ | ⟨a,len,cap,m,n',D,Pl,hv,_,hl,hm,hmm,_,hx⟩
 ·cases hv
  exact ⟨[],none,0,rfl,Nat.le_refl _,by omega,.inl rfl⟩
 ·cases hv
  have hlm:len<=m:=by rw [hmm];split<;>omega
  have ce:Tryz.prog.cellsOf 2=1:=by kernel_rfl
  have each:∀ i,i<len-> ∃ q:Int,Ya W a i q:=by
   intro i hi
   obtain ⟨cs,h1,h2⟩:=hx i (by omega)
   rw [ce] at h1
   obtain ⟨_,hlen,hcell⟩:=World.cells?_some h1
   obtain ⟨c,rfl⟩:∃ c,cs=[c]:=by
    match cs,hlen with
    | [c],_=>exact ⟨c,rfl⟩
   obtain ⟨z,hz,_⟩:=DataW.trod_int Tryz.underlying2 h2
   cases hz
   have:=hcell 0 (by omega)
   exact ⟨z,by simpa [Ya,Addr.add] using this⟩
  obtain ⟨F,hF⟩:=choose_lt each
  have hlen:((List.range len).map F).length=len:=by simp
  refine ⟨(List.range len).map F,some a,cap,by rw [hlen],by rw [hlen];exact hl,by unfold maxLen at hm;omega,?_⟩
  by_cases hz:len=0
  ·exact .inl (by simp [hz])
  ·have h0:W.cell? (a.add 0)=some (.int .i64 (F 0)):=by simpa [Ya] using hF 0 (by omega)
   have sp:=World.cell?_spot h0
   have hlt:=World.block_lt_of_cell? _ _ h0
   obtain ⟨b,off,spot⟩:=a
   have hspot:spot=none:=by simpa [Addr.add] using sp
   subst hspot
   refine .inr ⟨b,off,rfl,by simpa [Addr.add] using hlt,fun j hj i u hu=> ?_⟩
   rw [hlen] at hj
   have hat:Z8 ((List.range len).map F) j=F j:=by unfold Z8;simp [List.getD,hj]
   rw [hat] at hu
   have hi:i=0:=by
    rcases Nat.eq_zero_or_pos i with h | h
    ·exact h
    ·rw [List.getElem?_eq_none (by unfold Ug;simp;omega)] at hu;cases hu
   subst hi
   have hj2:=hF j hj
   unfold Ya at hj2
   rw [add_plain] at hj2
   simp only [Ug,List.getElem?_cons_zero,Option.some.injEq] at hu
   subst hu
   simpa using hj2
open Go.ChangeShapes Go.WideShapes Go.ChangeAt Go.RowKit Go.Sort
structure VQ (m:Z4):Prop where
 rooms:VO m.rooms
 guilds:m.guilds.length<=1048576
 smiths:m.smiths.length<=1048576
 desks:m.desks.length<=1048576
 paces:m.paces.length<=1048576
theorem RoomsFrom.below {n₀:Nat} {w w':World} {v:Value} {rs:List Z0} (h:RoomsFrom n₀ w v rs) (hb:Below w.heap.size w w'):RoomsFrom n₀ w' v rs:=by
 obtain ⟨a,cap,hv,hc,hm,hr⟩:=h
 refine ⟨a,cap,hv,hc,hm,?_⟩
 rcases hr with hr | ⟨b,off,ha,h0,hlt,hcl⟩
 ·exact .inl hr
 ·have hs:=hb.size
  refine .inr ⟨b,off,ha,h0,by omega,fun k hk=> ?_⟩
  obtain ⟨c0,pv,c1,hp,hj⟩:=hcl k hk
  exact ⟨(hb.cell (p:=⟨b,off+k*2,none⟩) hlt).trans c0,pv,(hb.cell (p:=⟨b,off+k*2+1,none⟩) hlt).trans c1,hp.below hb,hj⟩
theorem RoomsFrom.mono {n₀ n₁:Nat} {w:World} {v:Value} {rs:List Z0} (h:RoomsFrom n₀ w v rs) (hn:n₁<=n₀):RoomsFrom n₁ w v rs:=by
 obtain ⟨a,cap,hv,hc,hm,hr⟩:=h
 refine ⟨a,cap,hv,hc,hm,?_⟩
 rcases hr with hr | ⟨b,off,ha,h0,hlt,hcl⟩
 ·exact .inl hr
 ·refine .inr ⟨b,off,ha,by omega,hlt,fun k hk=> ?_⟩
  obtain ⟨c0,pv,c1,hp,hj⟩:=hcl k hk
  exact ⟨c0,pv,c1,hp,fun j e=>by have:=hj j e;omega⟩
structure OwnSmy (n₀:Nat) (w:World) (v0 v1 v2 v3 v4:Value) (m:Z4):Prop where
 rooms:RoomsFrom n₀ w v0 m.rooms
 guilds:GuildsAt n₀ w v1 m.guilds
 smiths:SmithsAt n₀ w v2 m.smiths
 desks:DesksAt n₀ w v3 m.desks
 paces:NumsAt n₀ w v4 m.paces
theorem OwnSmy.smy {n₀:Nat} {w:World} {v0 v1 v2 v3 v4:Value} {m:Z4} (h:OwnSmy n₀ w v0 v1 v2 v3 v4 m):Smy w v0 v1 v2 v3 v4 m:=⟨h.rooms.rooms,h.guilds.list,h.smiths.list,h.desks.list,h.paces.list⟩
theorem OwnSmy.mono {n₀ n₁:Nat} {w:World} {v0 v1 v2 v3 v4:Value} {m:Z4} (h:OwnSmy n₀ w v0 v1 v2 v3 v4 m) (hn:n₁<=n₀):OwnSmy n₁ w v0 v1 v2 v3 v4 m:=
 ⟨h.rooms.mono hn,RecAt.mono h.guilds hn,RecAt.mono h.smiths hn,RecAt.mono h.desks hn,RecAt.mono h.paces hn⟩
theorem OwnSmy.set {n₀:Nat} {w:World} {v0 v1 v2 v3 v4:Value} {m:Z4} (h:OwnSmy n₀ w v0 v1 v2 v3 v4 m) (g o:Nat) (u:Value) (hg:g<n₀):OwnSmy n₀ (w.setCell ⟨g,o,none⟩ u) v0 v1 v2 v3 v4 m:=
 ⟨h.rooms.set g o u hg,RecAt.set_old h.guilds g o u hg,RecAt.set_old h.smiths g o u hg,RecAt.set_old h.desks g o u hg,RecAt.set_old h.paces g o u hg⟩
end Go.Proofs.YthbbahagpmdooaaGreat
