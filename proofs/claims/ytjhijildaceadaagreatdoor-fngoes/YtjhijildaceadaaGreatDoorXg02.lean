/- Part 2 of what the proof rests on. No condition but those that a theorem names. -/
import Derived.Test.YtjhijildaceadaaGreatDoorXg01
import Derived.Lib.SmallJoins
set_option maxHeartbeats 8000000
set_option maxRecDepth 100000
namespace Go.Proofs.YtjhijildaceadaaGreatDoor
open Go.ChangeShapes Go.WideShapes Go.ChangeAt Go.RowKit Go.Sort
set_option linter.unusedVariables false
theorem Sq (f c:Int) (w:World):Calls Tryz.prog 373 #[.agg #[.int .i64 f,.int .i64 c]] w fun e w'=>e= .returned (.bool (Vb (f,c)))/\Below w.heap.size w w':=by
 cases h1:inB f 1 1024
 ·go_enter Tryz.func373,Tryz.ntmps373
  go_wp2_with fail
  refine (ZD _ _ _ _).mono ?_
  rintro e w' ⟨rfl,rfl⟩
  go_wp2_with fail
  go_ret
  exact ⟨Z5 (by unfold Vb;simp [h1]),(Below.refl _ _).alloc (Nat.le_refl _) _⟩
 ·go_enter Tryz.func373,Tryz.ntmps373
  go_wp2_with fail
  refine (ZD _ _ _ _).mono ?_
  rintro e w' ⟨rfl,rfl⟩
  go_wp2_with fail
  refine (ZD _ _ _ _).mono ?_
  rintro e w' ⟨rfl,rfl⟩
  go_wp2_with fail
  go_ret
  exact ⟨Z5 (by unfold Vb;simp [h1]),(Below.refl _ _).alloc (Nat.le_refl _) _⟩
theorem Ts (f c f' c':Int) (w:World):Calls Tryz.prog 374 #[.agg #[.int .i64 f,.int .i64 c],.agg #[.int .i64 f',.int .i64 c']] w fun e w'=>e= .returned (.bool (Sk (f,c) (f',c')))/\Below w.heap.size w w':=by
 by_cases h1:f'<f
 ·go_enter Tryz.func374,Tryz.ntmps374
  go_wp2_with fail
  all_goals
   go_ret
   exact ⟨Z5 (by unfold Sk;simp [h1]),((Below.refl _ _).alloc (Nat.le_refl _) _).alloc (by simp) _⟩
 ·go_enter Tryz.func374,Tryz.ntmps374
  go_wp2_with fail
  all_goals
   go_ret
   exact ⟨Z5 (by unfold Sk;simp;omega),((Below.refl _ _).alloc (Nat.le_refl _) _).alloc (by simp) _⟩
theorem DJ {ps:List Z6} {k:Nat} {p:Z6} (hp:Z7 ps k=p) (h:Vb p=false):XB ps k=false:=by unfold XB;rw [hp];simp [h]
theorem DH {ps:List Z6} {p:Z6} (hp:Z7 ps 0=p) (h:Vb p=true):XB ps 0=true:=by unfold XB;rw [hp];simp [h]
theorem Ij {ps:List Z6} {k:Nat} {p q:Z6} (hp:Z7 ps (k+1)=p) (hq:Z7 ps k=q) (h:Vb p=true):XB ps (k+1)=Sk p q:=by unfold XB;simp [hp,hq,h]
theorem Li {w:World} {v:Value} {ps:List Z6} (h:IsPaces w v ps) :
  Calls Tryz.prog 363 #[v] w fun e w'=>e= .returned (.bool (Um ps))/\Below w.heap.size w w':=by
 obtain ⟨a,cap,rfl,hc,hm,hr⟩:=h
 have Hr:=Z9 hr
 clear hr
 go_enter Tryz.func363,Tryz.ntmps363
 go_wp2_with fail
 go_loopw [7] (fun i wr=> ∃ k:Nat,k<=ps.length/\i= .int .i64 k/\(∀ j,j<k->XB ps j=true)/\Below w.heap.size w wr) (fun i _=>ps.length-(intOf i).toNat)
 case atStart=>exact ⟨0,Nat.zero_le _,rfl,fun j hj=>by omega,Below.refl _ _⟩
 case round=>
  obtain ⟨k,hk,rfl,hst,hb⟩:=hrel
  have Hst:=Z9 hst
  have Hb:=Z9 hb
  clear hst
  by_cases hlt:k<ps.length
  ·rcases uh Hr with h0 | ⟨b,off,rfl,hbw,hcl⟩
   ·rw [h0] at hlt;simp at hlt
   have hbr:b<wr.heap.size:=Nat.lt_of_lt_of_le hbw hb.size
   have hne:b ≠ wr.heap.size:=Nat.ne_of_lt hbr
   obtain ⟨c0,c1⟩:=hcl k hlt
   rw [<-hb.cell (p:=⟨b,off+k*2,none⟩) hbw] at c0
   rw [<-hb.cell (p:=⟨b,off+k*2+1,none⟩) hbw] at c1
   generalize hp:Z7 ps k=p at c0 c1
   have Hp:=Z9 hp
   clear hp
   obtain ⟨f,c⟩:=p
   simp only at c0 c1
   have d0:(wr.alloc (.cells #[.int .i64 f,.int .i64 c] 139)).cell? ⟨wr.heap.size,0,none⟩=some (.int .i64 f):=by simp
   have d1:(wr.alloc (.cells #[.int .i64 f,.int .i64 c] 139)).cell? ⟨wr.heap.size,1,none⟩=some (.int .i64 c):=by simp
   have k0:=cell_regrown d0
   have k1:=cell_regrown d1
   clear d0 d1
   cases hpb:Vb (f,c)
   ·clear hcl
    go_wp2_with fail
    refine wp_region_quiet_below (by kernel_rfl) (by kernel_rfl) ?_
    repeat (go_big_quiet_step (first | exact Calls.regrown_of (Sq _ _ _) | exact Calls.regrown_of (Ts _ _ _ _ _)))
    refine wpQuiet_nil ?_
    intro _ hw'
    obtain ⟨⟨dq,osq⟩,hw''⟩:=hw'
    subst hw''
    go_wp2_with fail
    go_ret
    exact ⟨Z5 (UL hlt (DJ (uh Hp) hpb)).symm,(uh Hb).trans (((Below.refl _ _).alloc (uh Hb).size _).trans ((below_regrown _ _ _).mono (by simp;have:=(uh Hb).size;omega)))⟩
   ·by_cases hz:0<k
    ·have hd:decide (0<k)=true:=decide_eq_true hz
     obtain ⟨e0,e1⟩:=hcl (k-1) (by omega)
     rw [<-hb.cell (p:=⟨b,off+(k-1)*2,none⟩) hbw] at e0
     rw [<-hb.cell (p:=⟨b,off+(k-1)*2+1,none⟩) hbw] at e1
     generalize hq:Z7 ps (k-1)=q at e0 e1
     have Hq:=Z9 hq
     clear hq
     obtain ⟨f',c'⟩:=q
     simp only at e0 e1
     have m0:=cell_regrown (w:=wr.alloc (.cells #[.int .i64 f,.int .i64 c] 139)) (a:=⟨b,off+(k-1)*2,none⟩) (v:= .int .i64 f') (by rw [World.cell?_alloc_old _ _ _ hne];exact e0)
     have m1:=cell_regrown (w:=wr.alloc (.cells #[.int .i64 f,.int .i64 c] 139)) (a:=⟨b,off+(k-1)*2+1,none⟩) (v:= .int .i64 c') (by rw [World.cell?_alloc_old _ _ _ hne];exact e1)
     clear hcl e0 e1
     cases hab:Sk (f,c) (f',c')
     all_goals
      go_wp2_with fail
      refine wp_region_quiet_below (by kernel_rfl) (by kernel_rfl) ?_
      repeat (go_big_quiet_step (first | exact Calls.regrown_of (Sq _ _ _) | exact Calls.regrown_of (Ts _ _ _ _ _)))
      refine wpQuiet_nil ?_
      intro _ hw'
      obtain ⟨⟨dq,osq⟩,hw''⟩:=hw'
      subst hw''
      go_wp2_with fail
     ·go_ret
      exact ⟨Z5 (UL hlt (by obtain ⟨m,rfl⟩:∃ m,k=m+1:=⟨k-1,by omega⟩;rw [Ij (uh Hp) (uh Hq) hpb];exact hab)).symm,(uh Hb).trans (((Below.refl _ _).alloc (uh Hb).size _).trans ((below_regrown _ _ _).mono (by simp;have:=(uh Hb).size;omega)))⟩
     ·have hs:XB ps k=true:=by obtain ⟨m,rfl⟩:∃ m,k=m+1:=⟨k-1,by omega⟩;rw [Ij (uh Hp) (uh Hq) hpb];exact hab
      go_roundw
      case rel=>exact ⟨k+1,by omega,by go_num,Ys (uh Hst) hs,(uh Hb).trans (((Below.refl _ _).alloc (uh Hb).size _).trans ((below_regrown _ _ _).mono (by simp;have:=(uh Hb).size;omega)))⟩
      case measure=>simp [intOf];omega
    ·obtain rfl:k=0:=by omega
     simp only [Nat.zero_mul,Nat.add_zero] at c0 c1
     clear hcl hz
     go_wp2_with fail
     refine wp_region_quiet_below (by kernel_rfl) (by kernel_rfl) ?_
     repeat (go_big_quiet_step (first | exact Calls.regrown_of (Sq _ _ _) | exact Calls.regrown_of (Ts _ _ _ _ _)))
     refine wpQuiet_nil ?_
     intro _ hw'
     obtain ⟨⟨dq,osq⟩,hw''⟩:=hw'
     subst hw''
     go_wp2_with fail
     go_roundw
     case rel=>exact ⟨1,by omega,by go_num,Ys (uh Hst) (DH (uh Hp) hpb),(uh Hb).trans (((Below.refl _ _).alloc (uh Hb).size _).trans ((below_regrown _ _ _).mono (by simp;have:=(uh Hb).size;omega)))⟩
     case measure=>simp [intOf];omega
  ·obtain rfl:k=ps.length:=by omega
   go_wp2_with fail
   go_ret
   exact ⟨Z5 (Lh (uh Hst)).symm,hb⟩
theorem Ib {b:Int} {ps:List Z6} (h:inB b 1 4=false):Zu (b,ps)=false:=by unfold Zu;simp [h]
theorem Ic {b:Int} {ps:List Z6} (h:inB ps.length 1 4=false):Zu (b,ps)=false:=by unfold Zu;simp [h]
theorem Ie {b:Int} {ps:List Z6} (h:inB b 1 4=true) (h2:inB ps.length 1 4=true):Zu (b,ps)=Um ps:=by unfold Zu;simp [h,h2]
theorem To {w:World} {v:Value} {ps:List Z6} (b:Int) (h:IsPaces w v ps) :
  Calls Tryz.prog 333 #[.agg #[.int .i64 b,v]] w fun e w'=>e= .returned (.bool (Zu (b,ps)))/\Below w.heap.size w w':=by
 have Hv:=Z9 h
 obtain ⟨a,cap,rfl,hc,hm,hr⟩:=h
 clear hr
 have hl:(ps.length:Int)<=9223372036854775807:=by omega
 cases h1:inB b 1 4
 ·go_enter Tryz.func333,Tryz.ntmps333
  go_wp2_with fail
  refine (ZD _ _ _ _).mono ?_
  rintro e w' ⟨rfl,rfl⟩
  go_wp2_with fail
  go_ret
  exact ⟨Z5 (Ib h1).symm,(Below.refl _ _).alloc (Nat.le_refl _) _⟩
 cases h2:inB ps.length 1 4
 ·go_enter Tryz.func333,Tryz.ntmps333
  go_wp2_with fail
  refine (ZD _ _ _ _).mono ?_
  rintro e w' ⟨rfl,rfl⟩
  go_wp2_with fail
  refine (ZD _ _ _ _).mono ?_
  rintro e w' ⟨rfl,rfl⟩
  go_wp2_with fail
  go_ret
  exact ⟨Z5 (Ic h2).symm,(Below.refl _ _).alloc (Nat.le_refl _) _⟩
 ·have H3:=Z9 (Ie h1 h2)
  go_enter Tryz.func333,Tryz.ntmps333
  go_wp2_with fail
  refine (ZD _ _ _ _).mono ?_
  rintro e w' ⟨rfl,rfl⟩
  go_wp2_with fail
  refine (ZD _ _ _ _).mono ?_
  rintro e w' ⟨rfl,rfl⟩
  go_wp2_with fail
  refine (Li ((uh Hv).below ((Below.refl _ _).alloc (Nat.le_refl _) _))).mono ?_
  rintro e w1 ⟨rfl,hb⟩
  go_wp2_with fail
  go_ret
  exact ⟨Z5 (uh H3).symm,((Below.refl _ _).alloc (Nat.le_refl _) _).trans (hb.mono (by simp))⟩
theorem Xu {B:Nat} {w w':World} (h:Below B w w') (n:Nat):Below B w (w'.drewN n):=⟨h.os,h.tape,h.output,h.size,h.block⟩
theorem Fg {ps:List Z6} {k:Nat} {f c:Int} (hp:Z7 ps k=(f,c)) (h:inB f 1 1024=false):XB ps k=false:=by unfold XB Vb;rw [hp];simp [h]
theorem Fh {ps:List Z6} {k:Nat} {f c:Int} (hp:Z7 ps k=(f,c)) (h:inB c 1 1024=false):XB ps k=false:=by unfold XB Vb;rw [hp];simp [h]
theorem DI {ps:List Z6} {k:Nat} {f c f' c':Int} (hp:Z7 ps k=(f,c)) (hz:0<k) (hq:Z7 ps (k-1)=(f',c')) (h1:inB f 1 1024=true) (h2:inB c 1 1024=true):XB ps k=(decide (f'<f) && decide (c'<c)):=by
 unfold XB Vb Sk;rw [hp,hq];simp [h1,h2];omega
theorem Fi {ps:List Z6} {f c:Int} (hp:Z7 ps 0=(f,c)) (h1:inB f 1 1024=true) (h2:inB c 1 1024=true):XB ps 0=true:=by unfold XB Vb;rw [hp];simp [h1,h2]
theorem Y0 {w:World} {v:Value} {ps:List Z6} (rb:Int) (h:IsPaces w v ps) :
  Calls Tryz.prog 239 #[.agg #[.int .i64 rb,v]] w fun e w'=>e= .returned (.bool (Zu (rb,ps)))/\Below w.heap.size w w':=by
 obtain ⟨a,cap,rfl,hc,hm,hr⟩:=h
 have Hr:=Z9 hr
 clear hr
 have hl:(ps.length:Int)<=9223372036854775807:=by omega
 cases h1:inB rb 1 4
 ·go_enter Tryz.func239,Tryz.ntmps239
  go_wp2_with fail
  refine (Z1 _ _ _ _).mono ?_
  rintro e w' ⟨rfl,rfl⟩
  go_wp2_with fail
  go_ret
  exact ⟨Z5 (Ib h1).symm,(Below.refl _ _).alloc (Nat.le_refl _) _⟩
 cases h2:inB ps.length 1 4
 ·go_enter Tryz.func239,Tryz.ntmps239
  go_wp2_with fail
  refine (Z1 _ _ _ _).mono ?_
  rintro e w' ⟨rfl,rfl⟩
  go_wp2_with fail
  refine (Z1 _ _ _ _).mono ?_
  rintro e w' ⟨rfl,rfl⟩
  go_wp2_with fail
  go_ret
  exact ⟨Z5 (Ic h2).symm,(Below.refl _ _).alloc (Nat.le_refl _) _⟩
 have H3:=Z9 (Ie h1 h2)
 go_enter Tryz.func239,Tryz.ntmps239
 go_wp2_with fail
 refine (Z1 _ _ _ _).mono ?_
 rintro e w' ⟨rfl,rfl⟩
 go_wp2_with fail
 refine (Z1 _ _ _ _).mono ?_
 rintro e w' ⟨rfl,rfl⟩
 go_wp2_with fail
 clear h1 h2
 go_loopw [3] (fun i wr=> ∃ k:Nat,k<=ps.length/\i= .int .i64 k/\(∀ j,j<k->XB ps j=true)/\Below (w.heap.size+1) (w.alloc (.cells #[.int .i64 rb,.slice a ps.length cap] 137)) wr) (fun i _=>ps.length-(intOf i).toNat)
 case atStart=>exact ⟨0,Nat.zero_le _,rfl,fun j hj=>by omega,Below.refl _ _⟩
 case round=>
  obtain ⟨k,hk,rfl,hst,hb⟩:=hrel
  have Hst:=Z9 hst
  have Hb:=Z9 hb
  clear hst
  have hsz:w.heap.size+1<=wr.heap.size:=by have:=hb.size;simpa using this
  have hbox:wr.cell? ⟨w.heap.size,1,none⟩=some (.slice a ps.length cap):=by rw [hb.cell (p:=⟨w.heap.size,1,none⟩) (by simp)];simp
  have hne0:w.heap.size ≠ wr.heap.size:=by omega
  by_cases hlt:k<ps.length
  ·rcases uh Hr with h0 | ⟨b,off,rfl,hbw,hcl⟩
   ·rw [h0] at hlt;simp at hlt
   have hbB:Below w.heap.size w wr:=((Below.refl _ _).alloc (Nat.le_refl _) _).trans (hb.mono (by omega))
   have hne:b ≠ wr.heap.size:=by omega
   have hne':b ≠ w.heap.size:=by omega
   obtain ⟨c0,c1⟩:=hcl k hlt
   rw [<-hbB.cell (p:=⟨b,off+k*2,none⟩) hbw] at c0
   rw [<-hbB.cell (p:=⟨b,off+k*2+1,none⟩) hbw] at c1
   generalize hp:Z7 ps k=p at c0 c1
   have Hp:=Z9 hp
   obtain ⟨f,c⟩:=p
   simp only at c0 c1
   clear hp hb
   cases h1:inB f 1 1024
   ·clear hcl
    go_wp2_with fail
    go_quiet (exact Calls.quiet_of_same (Z1 _ _ _ _))
    go_wp2_with fail
    go_ret
    exact ⟨Z5 (by rw [uh H3];exact (UL hlt (Fg (uh Hp) h1)).symm),((Below.refl _ _).alloc (Nat.le_refl _) _).trans ((Xu ((uh Hb).alloc hsz _) _).mono (by omega))⟩
   cases h2:inB c 1 1024
   ·clear hcl
    go_wp2_with fail
    go_quiet (exact Calls.quiet_of_same (Z1 _ _ _ _))
    go_wp2_with fail
    go_ret
    exact ⟨Z5 (by rw [uh H3];exact (UL hlt (Fh (uh Hp) h2)).symm),((Below.refl _ _).alloc (Nat.le_refl _) _).trans ((Xu ((uh Hb).alloc hsz _) _).mono (by omega))⟩
   by_cases hz:0<k
   ·have hd:decide (0<k)=true:=decide_eq_true hz
    obtain ⟨e0,e1⟩:=hcl (k-1) (by omega)
    rw [<-hbB.cell (p:=⟨b,off+(k-1)*2,none⟩) hbw] at e0
    rw [<-hbB.cell (p:=⟨b,off+(k-1)*2+1,none⟩) hbw] at e1
    generalize hq:Z7 ps (k-1)=q at e0 e1
    have Hq:=Z9 hq
    obtain ⟨f',c'⟩:=q
    simp only at e0 e1
    have q0:(wr.alloc (.cells #[.int .i64 f,.int .i64 c] 139)).cell? ⟨w.heap.size,1,none⟩=some (.slice (some ⟨b,off,none⟩) ps.length cap):=by rw [World.cell?_alloc_old _ _ _ hne0];exact hbox
    have q1:(wr.alloc (.cells #[.int .i64 f,.int .i64 c] 139)).cell? ⟨b,off+(k-1)*2,none⟩=some (.int .i64 f'):=by rw [World.cell?_alloc_old _ _ _ hne];exact e0
    have q2:(wr.alloc (.cells #[.int .i64 f,.int .i64 c] 139)).cell? ⟨b,off+(k-1)*2+1,none⟩=some (.int .i64 c'):=by rw [World.cell?_alloc_old _ _ _ hne];exact e1
    clear hcl hq e0 e1
    have Hs:=Z9 (DI (uh Hp) hz (uh Hq) h1 h2)
    by_cases g1:f<=f'
    ·have g1':decide (f<=f')=true:=decide_eq_true g1
     go_wp2_with fail
     go_quiet (exact Calls.quiet_of_same (Z1 _ _ _ _))
     go_wp2_with fail
     go_ret
     exact ⟨Z5 (by rw [uh H3];exact (UL hlt (by rw [uh Hs];simp;omega)).symm),((Below.refl _ _).alloc (Nat.le_refl _) _).trans ((Xu ((uh Hb).alloc hsz _) _).mono (by omega))⟩
    have g1':decide (f<=f')=false:=decide_eq_false g1
    by_cases g2:c<=c'
    ·have g2':decide (c<=c')=true:=decide_eq_true g2
     go_wp2_with fail
     go_quiet (exact Calls.quiet_of_same (Z1 _ _ _ _))
     go_wp2_with fail
     go_ret
     exact ⟨Z5 (by rw [uh H3];exact (UL hlt (by rw [uh Hs];simp;omega)).symm),((Below.refl _ _).alloc (Nat.le_refl _) _).trans ((Xu ((uh Hb).alloc hsz _) _).mono (by omega))⟩
    ·have g2':decide (c<=c')=false:=decide_eq_false g2
     go_wp2_with fail
     go_quiet (exact Calls.quiet_of_same (Z1 _ _ _ _))
     go_wp2_with fail
     go_roundw
     case rel=>exact ⟨k+1,by omega,by go_num,Ys (uh Hst) (by rw [uh Hs];simp;omega),Xu ((uh Hb).alloc hsz _) _⟩
     case measure=>simp [intOf];omega
   ·obtain rfl:k=0:=by omega
    simp only [Nat.zero_mul,Nat.add_zero] at c0 c1
    clear hcl hz
    go_wp2_with fail
    go_quiet (exact Calls.quiet_of_same (Z1 _ _ _ _))
    go_wp2_with fail
    go_roundw
    case rel=>exact ⟨1,by omega,by go_num,Ys (uh Hst) (Fi (uh Hp) h1 h2),Xu ((uh Hb).alloc hsz _) _⟩
    case measure=>simp [intOf];omega
  ·obtain rfl:k=ps.length:=by omega
   clear hb
   go_wp2_with fail
   go_ret
   exact ⟨Z5 (by rw [uh H3];exact (Lh (uh Hst)).symm),((Below.refl _ _).alloc (Nat.le_refl _) _).trans ((uh Hb).mono (by omega))⟩
def DS (rs:List Z2):Prop:= ∀ k,k<=rs.length->0<=ZY (rs.take k)/\ZY (rs.take k)<=1000000
theorem Mb {rs:List Z2} (h:rs.all Zu=true) (hl:rs.length<=3):DS rs:=fun k hk=>by have:=Te h k hk;omega
theorem QJ {w:World} {v:Value} {rs:List Z2} (h:IsRooms w v rs) :
  Calls Tryz.prog 283 #[v] w fun e w'=>e= .returned (.bool (rs.all Zu))/\Below w.heap.size w w':=by
 obtain ⟨a,cap,rfl,hc,hm,hr⟩:=h
 have Hr:=Z9 hr
 clear hr
 go_enter Tryz.func283,Tryz.ntmps283
 go_wp2_with fail
 go_loopw [7] (fun i wr=> ∃ k:Nat,k<=rs.length/\i= .int .i64 k/\(∀ j,j<k->Zu (ZW rs j)=true)/\Below w.heap.size w wr) (fun i _=>rs.length-(intOf i).toNat)
 case atStart=>exact ⟨0,Nat.zero_le _,rfl,fun j hj=>by omega,Below.refl _ _⟩
 case round=>
  obtain ⟨k,hk,rfl,hst,hb⟩:=hrel
  have Hst:=Z9 hst
  have Hb:=Z9 hb
  have hsz:=hb.size
  clear hst
  by_cases hlt:k<rs.length
  ·rcases uh Hr with h0 | ⟨b,off,rfl,hbw,hcl⟩
   ·rw [h0] at hlt;simp at hlt
   obtain ⟨c0,pv,c1,hip⟩:=hcl k hlt
   rw [<-hb.cell (p:=⟨b,off+k*2,none⟩) hbw] at c0
   rw [<-hb.cell (p:=⟨b,off+k*2+1,none⟩) hbw] at c1
   have Hip:=Z9 (hip.below hb)
   obtain ⟨pa,pcap,rfl,_⟩:=hip
   generalize hp:ZW rs k=p at *
   obtain ⟨rb,ps⟩:=p
   simp only at c0 c1
   have Hp:=Z9 hp
   clear hp hcl hb
   cases hrb:Zu (rb,ps)
   ·go_wp2_with fail
    refine (To rb ((uh Hip).below ((Below.refl _ _).alloc (Nat.le_refl _) _))).mono ?_
    rintro e w1 ⟨rfl,hb1⟩
    go_wp2_with fail
    go_ret
    exact ⟨Z5 (Ol hlt (by rw [uh Hp];exact hrb)).symm,((uh Hb).alloc hsz _).trans (hb1.mono (by simp;omega))⟩
   ·go_wp2_with fail
    refine (To rb ((uh Hip).below ((Below.refl _ _).alloc (Nat.le_refl _) _))).mono ?_
    rintro e w1 ⟨rfl,hb1⟩
    have Hb1:=Z9 hb1
    clear hb1
    go_wp2_with fail
    go_roundw
    case rel=>exact ⟨k+1,by omega,by go_num,Ys (uh Hst) (by rw [uh Hp];exact hrb),((uh Hb).alloc hsz _).trans ((uh Hb1).mono (by simp;omega))⟩
    case measure=>simp [intOf];omega
  ·obtain rfl:k=rs.length:=by omega
   go_wp2_with fail
   go_ret
   exact ⟨Z5 (Om (uh Hst)).symm,hb⟩
theorem SF {w:World} {v:Value} {rs:List Z2} (h:IsRooms w v rs) (ha:DS rs) :
  Calls Tryz.prog 284 #[v] w fun e w'=>e= .returned (.int .i64 (ZY rs))/\Below w.heap.size w w':=by
 obtain ⟨a,cap,rfl,hc,hm,hr⟩:=h
 have Hr:=Z9 hr
 have Ha:=Z9 ha
 clear hr ha
 go_enter Tryz.func284,Tryz.ntmps284
 go_wp2_with fail
 go_loopw [3,8] (fun s i wr=> ∃ k:Nat,k<=rs.length/\i= .int .i64 k/\s= .int .i64 (ZY (rs.take k))/\Below w.heap.size w wr) (fun _ i _=>rs.length-(intOf i).toNat)
 case atStart=>exact ⟨0,Nat.zero_le _,rfl,rfl,Below.refl _ _⟩
 case round=>
  obtain ⟨k,hk,rfl,rfl,hb⟩:=hrel
  have Hb:=Z9 hb
  have hsz:=hb.size
  by_cases hlt:k<rs.length
  ·rcases uh Hr with h0 | ⟨b,off,rfl,hbw,hcl⟩
   ·rw [h0] at hlt;simp at hlt
   obtain ⟨c0,pv,c1,hip⟩:=hcl k hlt
   rw [<-hb.cell (p:=⟨b,off+k*2,none⟩) hbw] at c0
   rw [<-hb.cell (p:=⟨b,off+k*2+1,none⟩) hbw] at c1
   obtain ⟨pa,pcap,rfl,_⟩:=hip
   have hs0:=uh Ha k hk
   have hs1:=uh Ha (k+1) hlt
   have Hs:=Z9 (Ye rs hlt)
   rw [Ye rs hlt] at hs1
   generalize ZY (rs.take k)=s at *
   generalize (ZW rs k).1=rb at *
   obtain ⟨s0,s1⟩:=hs0
   obtain ⟨s2,s3⟩:=hs1
   clear hcl hb
   go_wp2_with fail
   go_roundw
   case rel=>exact ⟨k+1,by omega,by go_num,by rw [uh Hs],(uh Hb).alloc hsz _⟩
   case measure=>simp [intOf];omega
  ·obtain rfl:k=rs.length:=by omega
   go_wp2_with fail
   go_ret
   exact ⟨Zy (by rw [TZ]),hb⟩
theorem GS {rs:List Z2} (h:inB rs.length 1 3=false):Ze rs=false:=by unfold Ze;simp [h]
theorem GU {rs:List Z2} (h:rs.all Zu=false):Ze rs=false:=by unfold Ze;rw [h];simp
theorem GV {rs:List Z2} (h:inB rs.length 1 3=true) (h2:rs.all Zu=true):Ze rs=decide (ZY rs<=8):=by unfold Ze;rw [h,h2];simp
theorem IsRooms.alloc {w:World} {v:Value} {rs:List Z2} (h:IsRooms w v rs) (o:Obj):IsRooms (w.alloc o) v rs:=h.below ((Below.refl _ _).alloc (Nat.le_refl _) _)
theorem Vp {w:World} {v:Value} {rs:List Z2} (h:IsRooms w v rs) :
  Calls Tryz.prog 228 #[.agg #[v]] w fun e w'=>e= .returned (.bool (Ze rs))/\Below w.heap.size w w':=by
 have Hv:=Z9 h
 obtain ⟨a,cap,rfl,hc,hm,hr⟩:=h
 clear hr
 have hl:(rs.length:Int)<=9223372036854775807:=by omega
 cases h1:inB rs.length 1 3
 ·go_enter Tryz.func228,Tryz.ntmps228
  go_wp2_with fail
  refine (ZD _ _ _ _).mono ?_
  rintro e w' ⟨rfl,rfl⟩
  go_wp2_with fail
  go_ret
  exact ⟨Z5 (GS h1).symm,(Below.refl _ _).alloc (Nat.le_refl _) _⟩
 cases h2:rs.all Zu
 ·have H2:=Z9 (GU h2)
  generalize hx:rs.all Zu=x at *
  have Hx:=Z9 hx
  clear hx
  subst h2
  go_enter Tryz.func228,Tryz.ntmps228
  go_wp2_with fail
  refine (ZD _ _ _ _).mono ?_
  rintro e w' ⟨rfl,rfl⟩
  go_wp2_with fail
  refine (QJ ((uh Hv).alloc _)).mono ?_
  rw [uh Hx]
  rintro e w1 ⟨rfl,hb⟩
  go_wp2_with fail
  go_ret
  exact ⟨Z5 (uh H2).symm,((Below.refl _ _).alloc (Nat.le_refl _) _).trans (hb.mono (by simp))⟩
 ·have H3:=Z9 (GV h1 h2)
  have Ha:=Z9 (Mb h2 (by have:=ZR h1;omega))
  generalize hx:rs.all Zu=x at *
  have Hx:=Z9 hx
  clear hx
  subst h2
  go_enter Tryz.func228,Tryz.ntmps228
  go_wp2_with fail
  refine (ZD _ _ _ _).mono ?_
  rintro e w' ⟨rfl,rfl⟩
  go_wp2_with fail
  refine (QJ ((uh Hv).alloc _)).mono ?_
  rw [uh Hx]
  rintro e w1 ⟨rfl,hb⟩
  have hz:w.heap.size+1<=w1.heap.size:=by have:=hb.size;simpa using this
  have hbox:w1.cell? ⟨w.heap.size,0,none⟩=some (.slice a rs.length cap):=by rw [hb.cell (p:=⟨w.heap.size,0,none⟩) (by simp)];simp
  have hw1:=Z9 (((uh Hv).alloc _).below hb)
  have Hb:=Z9 hb
  clear hb
  go_wp2_with fail
  refine (SF (uh hw1) (uh Ha)).mono ?_
  rintro e w2 ⟨rfl,hb2⟩
  have Hb2:=Z9 hb2
  clear hb2
  go_wp2_with fail
  go_ret
  exact ⟨Z5 (by rw [uh H3]),((Below.refl _ _).alloc (Nat.le_refl _) _).trans (((uh Hb).trans ((uh Hb2).mono (uh Hb).size)).mono (by simp))⟩
def V4 (rs:List Z2):Int:=if Ze rs=true then ZY rs else -1
theorem Sn {rs:List Z2} (h:Ze rs=true):V4 rs=ZY rs:=by unfold V4;rw [if_pos h]
theorem Oq {rs:List Z2} (h:Ze rs=false):V4 rs= -1:=by unfold V4;rw [h];rfl
theorem QV {rs:List Z2} (h:Ze rs=true):DS rs:=Mb (Zi h).2.2.1 (Zi h).2.1
theorem RN {w:World} {v:Value} {rs:List Z2} (h:IsRooms w v rs) :
  Calls Tryz.prog 232 #[.agg #[v]] w fun e w'=>e= .returned (.int .i64 (V4 rs))/\Below w.heap.size w w':=by
 have Hv:=Z9 h
 obtain ⟨a,cap,rfl,hc,hm,hr⟩:=h
 clear hr
 cases h1:Ze rs
 ·have H1:=Z9 h1
  clear h1
  go_enter Tryz.func232,Tryz.ntmps232
  go_wp2_with fail
  refine (Vp ((uh Hv).alloc _)).mono ?_
  rw [uh H1]
  rintro e w1 ⟨rfl,hb⟩
  go_wp2_with fail
  go_ret
  exact ⟨Zy (Oq (uh H1)).symm,((Below.refl _ _).alloc (Nat.le_refl _) _).trans (hb.mono (by simp))⟩
 ·have H1:=Z9 h1
  clear h1
  go_enter Tryz.func232,Tryz.ntmps232
  go_wp2_with fail
  refine (Vp ((uh Hv).alloc _)).mono ?_
  rw [uh H1]
  rintro e w1 ⟨rfl,hb⟩
  have hz:w.heap.size+1<=w1.heap.size:=by have:=hb.size;simpa using this
  have hbox:w1.cell? ⟨w.heap.size,0,none⟩=some (.slice a rs.length cap):=by rw [hb.cell (p:=⟨w.heap.size,0,none⟩) (by simp)];simp
  have hw1:=Z9 (((uh Hv).alloc _).below hb)
  have Hb:=Z9 hb
  clear hb
  go_wp2_with fail
  refine (SF (uh hw1) (QV (uh H1))).mono ?_
  rintro e w2 ⟨rfl,hb2⟩
  have Hb2:=Z9 hb2
  clear hb2
  go_wp2_with fail
  go_ret
  exact ⟨Zy (Sn (uh H1)).symm,((Below.refl _ _).alloc (Nat.le_refl _) _).trans (((uh Hb).trans ((uh Hb2).mono (uh Hb).size)).mono (by simp))⟩
theorem TA {w:World} {v:Value} {rs:List Z2} (h:IsRooms w v rs) (ha:DS rs) :
  Calls Tryz.prog 172 #[.agg #[v]] w fun e w'=>e= .returned (.int .i64 (ZY rs))/\Below w.heap.size w w':=by
 obtain ⟨a,cap,rfl,hc,hm,hr⟩:=h
 have Hr:=Z9 hr
 have Ha:=Z9 ha
 clear hr ha
 go_enter Tryz.func172,Tryz.ntmps172
 go_wp2_with fail
 go_loop [3,4] (fun s i=> ∃ k:Nat,k<=rs.length/\i= .int .i64 k/\s= .int .i64 (ZY (rs.take k))) (fun _ i=>rs.length-(intOf i).toNat)
 case atStart=>exact ⟨0,Nat.zero_le _,rfl,rfl⟩
 case round=>
  obtain ⟨k,hk,rfl,rfl⟩:=hrel
  by_cases hlt:k<rs.length
  ·rcases uh Hr with h0 | ⟨b,off,rfl,hbw,hcl⟩
   ·rw [h0] at hlt;simp at hlt
   obtain ⟨c0,pv,c1,hip⟩:=hcl k hlt
   have hne:b ≠ w.heap.size:=Nat.ne_of_lt hbw
   have hs0:=uh Ha k hk
   have hs1:=uh Ha (k+1) hlt
   have Hs:=Z9 (Ye rs hlt)
   rw [Ye rs hlt] at hs1
   generalize ZY (rs.take k)=s at *
   generalize (ZW rs k).1=rb at *
   obtain ⟨s0,s1⟩:=hs0
   obtain ⟨s2,s3⟩:=hs1
   clear hcl hip
   go_wp2_with fail
   go_round
   case rel=>exact ⟨k+1,by omega,by go_num,by rw [uh Hs]⟩
   case measure=>simp [intOf];omega
  ·obtain rfl:k=rs.length:=by omega
   go_wp2_with fail
   go_ret
   exact ⟨Zy (by first | rfl | rw [TZ]),(Below.refl _ _).alloc (Nat.le_refl _) _⟩
theorem VE {w:World} {v:Value} {rs:List Z2} (h:IsRooms w v rs) :
  Calls Tryz.prog 170 #[.agg #[v]] w fun e w'=>e= .returned (.bool (Ze rs))/\Below w.heap.size w w':=by
 have Hv:=Z9 h
 obtain ⟨a,cap,rfl,hc,hm,hr⟩:=h
 have Hr:=Z9 hr
 clear hr
 have hl:(rs.length:Int)<=9223372036854775807:=by omega
 go_enter Tryz.func170,Tryz.ntmps170
 go_wp2_with fail
 go_loopw [3] (fun i wr=> ∃ k:Nat,k<=rs.length/\i= .int .i64 k/\(∀ j,j<k->Zu (ZW rs j)=true)/\Below (w.heap.size+1) (w.alloc (.cells #[.slice a rs.length cap] 26)) wr) (fun i _=>rs.length-(intOf i).toNat)
 case atStart=>exact ⟨0,Nat.zero_le _,rfl,fun j hj=>by omega,Below.refl _ _⟩
 case round=>
  obtain ⟨k,hk,rfl,hst,hb⟩:=hrel
  have Hst:=Z9 hst
  have Hb:=Z9 hb
  have hsz:w.heap.size+1<=wr.heap.size:=by have:=hb.size;simpa using this
  have hbox:wr.cell? ⟨w.heap.size,0,none⟩=some (.slice a rs.length cap):=by rw [hb.cell (p:=⟨w.heap.size,0,none⟩) (by simp)];simp
  have hbB:Below w.heap.size w wr:=((Below.refl _ _).alloc (Nat.le_refl _) _).trans (hb.mono (by omega))
  clear hst
  by_cases hlt:k<rs.length
  ·rcases uh Hr with h0 | ⟨b,off,rfl,hbw,hcl⟩
   ·rw [h0] at hlt;simp at hlt
   obtain ⟨c0,pv,c1,hip⟩:=hcl k hlt
   rw [<-hbB.cell (p:=⟨b,off+k*2,none⟩) hbw] at c0
   rw [<-hbB.cell (p:=⟨b,off+k*2+1,none⟩) hbw] at c1
   have Hip:=Z9 (hip.below hbB)
   obtain ⟨pa,pcap,rfl,_⟩:=hip
   generalize hp:ZW rs k=p at *
   obtain ⟨rb,ps⟩:=p
   simp only at c0 c1
   have Hp:=Z9 hp
   have HbB:=Z9 hbB
   clear hp hcl hb hbB
   cases hrb:Zu (rb,ps)
   ·go_wp2_with fail
    refine (Y0 rb (uh Hip)).mono ?_
    rintro e w1 ⟨rfl,hb1⟩
    have Hb1:=Z9 hb1
    clear hb1
    go_wp2_with fail
    go_ret
    exact ⟨Z5 (GU (Ol hlt (by rw [uh Hp];exact hrb))).symm,(uh HbB).trans ((uh Hb1).mono (uh HbB).size)⟩
   ·go_wp2_with fail
    refine (Y0 rb (uh Hip)).mono ?_
    rintro e w1 ⟨rfl,hb1⟩
    have Hb1:=Z9 hb1
    clear hb1
    go_wp2_with fail
    go_roundw
    case rel=>exact ⟨k+1,by omega,by go_num,Ys (uh Hst) (by rw [uh Hp];exact hrb),(uh Hb).trans ((uh Hb1).mono hsz)⟩
    case measure=>simp [intOf];omega
  ·obtain rfl:k=rs.length:=by omega
   have h2:=Om (uh Hst)
   have HbB:=Z9 hbB
   have hw1:=Z9 ((uh Hv).below hbB)
   clear hb hbB
   cases h1:inB rs.length 1 3
   ·have H2:=Z9 (GS h1)
    clear h2
    go_wp2_with fail
    refine (Z1 _ _ _ _).mono ?_
    rintro e w' ⟨rfl,rfl⟩
    go_wp2_with fail
    go_ret
    exact ⟨Z5 (uh H2).symm,uh HbB⟩
   ·have H3:=Z9 (GV h1 h2)
    have Ha:=Z9 (Mb h2 (by have:=ZR h1;omega))
    clear h2
    go_wp2_with fail
    refine (Z1 _ _ _ _).mono ?_
    rintro e w' ⟨rfl,rfl⟩
    go_wp2_with fail
    refine (TA (uh hw1) (uh Ha)).mono ?_
    rintro e w2 ⟨rfl,hb2⟩
    have Hb2:=Z9 hb2
    clear hb2
    go_wp2_with fail
    go_ret
    exact ⟨Z5 (by rw [uh H3]),(uh HbB).trans ((uh Hb2).mono (uh HbB).size)⟩
theorem IsRooms.shape {w:World} {v:Value} {rs:List Z2} (h:IsRooms w v rs):∃ a cap,v= .slice a rs.length cap/\rs.length<=cap/\cap<=9223372036854775807:=by
 obtain ⟨a,cap,rfl,hc,hm,_⟩:=h;exact ⟨a,cap,rfl,hc,hm⟩
section
variable {α : Type} {t k : Nat} {enc : α → List Value}
def Vl (enc:α->List Value) (xs:List α):List Value:=xs.flatMap enc
theorem WH (hk:∀ x,(enc x).length=k):∀ xs:List α,(Vl enc xs).length=xs.length*k
 | []=>by simp [Vl]
 | x::xs=>by
  have ih:=WH hk xs
  unfold Vl at ih ⊢
  rw [List.flatMap_cons,List.length_append,ih,hk,List.length_cons,Nat.add_mul];omega
theorem Ke (xs ys:List α):Vl enc (xs++ys)=Vl enc xs++Vl enc ys:=by unfold Vl;rw [List.flatMap_append]
def Lv (L:List Value) (o:Nat):List Value->List Value
 | []=>L
 | u::us=>Lv (L.set o u) (o+1) us
def Ob (w:World) (g o:Nat):List Value->World
 | []=>w
 | u::us=>Ob (w.setCell ⟨g,o,none⟩ u) g (o+1) us
theorem Lx:∀ (us L:List Value) (o:Nat),(Lv L o us).length=L.length
 | [],L,o=>rfl
 | u::us,L,o=>by unfold Lv;rw [Lx us];simp
theorem Lw:∀ (us L:List Value) (o m:Nat),o+us.length<=L.length->(Lv L o us)[m]?=if o<=m/\m<o+us.length then us[m-o]? else L[m]?
 | [],L,o,m,h=>by unfold Lv;rw [if_neg (by simp)]
 | u::us,L,o,m,h=>by
  unfold Lv
  have ih:=Lw us (L.set o u) (o+1) m (by simp at h ⊢;omega)
  rw [ih]
  simp only [List.length_cons] at h ⊢
  by_cases h1:o+1<=m/\m<o+1+us.length
  ·rw [if_pos h1,if_pos (by omega),show m-o=(m-(o+1))+1 by omega];rfl
  ·rw [if_neg h1]
   by_cases h2:m=o
   ·subst h2;rw [if_pos (by omega),List.getElem?_set_self (by omega)];simp
   ·rw [if_neg (by omega),List.getElem?_set_ne (by omega)]
theorem La {B t n cap g sz:Nat} : ∀ (us:List Value) {w:World} {xs:List Value} (o:Nat),w.ownsRow B t sz (.slice (some ⟨g,0,none⟩) n cap) n xs->
  (Ob w g o us).ownsRow B t sz (.slice (some ⟨g,0,none⟩) n cap) n (Lv xs o us)/\w.grownBy (Ob w g o us) (some g)
 | [],w,xs,o,h=>⟨h,So _ _⟩
 | u::us,w,xs,o,h=>by
  obtain ⟨h1,h2⟩:=World.ownsRow.stored h o u
  obtain ⟨h3,h4⟩:=La us (o+1) h1
  exact ⟨h3,Tn h2 h4⟩
def RecAt (t k:Nat) (enc:α->List Value) (n₀:Nat) (w:World) (v:Value) (xs:List α):Prop:=w.ownsRow n₀ t k v xs.length (Vl enc xs)
theorem RecAt.lt {n₀:Nat} {w:World} {v:Value} {xs:List α} (h:RecAt t k enc n₀ w v xs) {i:Nat} (hi:v.ownBlock=some i):n₀<=i/\i<w.heap.size:=World.ownsRow.lt h i hi
theorem RecAt.mono {n₀ n₁:Nat} {w:World} {v:Value} {xs:List α} (h:RecAt t k enc n₀ w v xs) (hn:n₁<=n₀):RecAt t k enc n₁ w v xs:=UK h hn
theorem RecAt.same {n₀:Nat} {w w':World} {v:Value} {xs:List α} (h:RecAt t k enc n₀ w v xs) (hs:∀ i,v.ownBlock=some i->w'.heap[i]?=w.heap[i]?):RecAt t k enc n₀ w' v xs:=X8 h hs
theorem RecAt.later {n₀:Nat} {w w':World} {v:Value} {xs:List α} (h:RecAt t k enc n₀ w v xs) (hb:Below w.heap.size w w'):RecAt t k enc n₀ w' v xs:=h.same fun i hi=>hb.block i (h.lt hi).2
theorem RecAt.shape {n₀:Nat} {w:World} {v:Value} {xs:List α} (h:RecAt t k enc n₀ w v xs):∃ a cap,v= .slice a xs.length cap:=by
 rcases h.2 with ⟨rfl,hz⟩ | ⟨g,cap,cur,rfl,_⟩
 ·exact ⟨none,0,by rw [hz]⟩
 ·exact ⟨_,cap,rfl⟩
end
section
variable {α : Type} [Inhabited α] {t k : Nat} {enc : α → List Value}
def Z8 (xs:List α) (j:Nat):α:=xs.getD j default
theorem Nt {xs:List α} {j:Nat} (h:j<xs.length):Z8 xs j=xs[j]:=by unfold Z8;simp [List.getD,h]
theorem Ta {xs:List α} {j:Nat} (h:j<xs.length):Z8 xs j ∈ xs:=by rw [Nt h];exact List.getElem_mem h
theorem ZJ {xs:List α} {i:Nat} {x:α} (h:i<xs.length) (j:Nat):Z8 (xs.set i x) j=if j=i then x else Z8 xs j:=by
 unfold Z8
 by_cases e:j=i
 ·subst e;simp [List.getD,h]
 ·rw [if_neg e];simp [List.getD,Ne.symm e]
theorem WG (hk:∀ x,(enc x).length=k):∀ (xs:List α) (j:Nat),j<xs.length-> ∀ i,i<k->(Vl enc xs)[j*k+i]?=(enc (Z8 xs j))[i]?
 | x::xs,0,_,i,hi=>by
  unfold Vl Z8
  rw [List.flatMap_cons,Nat.zero_mul,Nat.zero_add,List.getElem?_append_left (by rw [hk];exact hi)];rfl
 | x::xs,j+1,h,i,hi=>by
  have ih:=WG hk xs j (by simpa using h) i hi
  unfold Vl Z8 at ih ⊢
  rw [List.flatMap_cons,List.getElem?_append_right (by rw [hk,Nat.add_mul];omega),hk,show (j+1)*k+i-k=j*k+i by rw [Nat.add_mul];omega,ih]
  rfl
theorem Ef (hk:∀ x,(enc x).length=k) (h0:0<k) (xs:List α) (j:Nat) (hj:j<xs.length) (x:α):Lv (Vl enc xs) (j*k) (enc x)=Vl enc (xs.set j x):=by
 have hl:=WH hk xs
 have hjk:j*k+k<=xs.length*k:=by rw [<-Nat.succ_mul];exact Nat.mul_le_mul_right k hj
 apply List.ext_getElem?
 intro m
 by_cases hm:m<xs.length*k
 ·have hd:m / k<xs.length:=(Nat.div_lt_iff_lt_mul h0).2 hm
  have hr:m%k<k:=Nat.mod_lt _ h0
  have he:m=m / k*k+m%k:=by rw [Nat.mul_comm];exact (Nat.div_add_mod m k).symm
  have hg:=WG hk (xs.set j x) (m / k) (by simpa using hd) (m%k) hr
  have hg0:=WG hk xs (m / k) hd (m%k) hr
  rw [<-he] at hg hg0
  rw [Lw _ _ _ _ (by rw [hl,hk];exact hjk),hg,hk,ZJ hj,hg0]
  by_cases e:m / k=j
  ·rw [if_pos e,if_pos (by rw [<-e];omega),show m-j*k=m%k by rw [<-e];omega]
  ·rw [if_neg e,if_neg]
   intro ⟨h1,h2⟩
   apply e
   exact Nat.div_eq_of_lt_le h1 (by rw [Nat.succ_mul];exact h2)
 ·rw [List.getElem?_eq_none (by rw [Lx,hl];omega),List.getElem?_eq_none (by rw [WH hk];simp;omega)]
def IsRec (k:Nat) (enc:α->List Value) (w:World) (v:Value) (xs:List α):Prop:=
 ∃ (a:Option Addr) (cap:Nat),v= .slice a xs.length cap/\xs.length<=cap/\cap<=9223372036854775807/\(xs=[]\/ ∃ b off,a=some ⟨b,off,none⟩/\b<w.heap.size/\
  ∀ j,j<xs.length-> ∀ i u,(enc (Z8 xs j))[i]?=some u->w.cell? ⟨b,off+j*k+i,none⟩=some u)
theorem IsRec.below {w w':World} {v:Value} {xs:List α} (h:IsRec k enc w v xs) (hb:Below w.heap.size w w'):IsRec k enc w' v xs:=by
 obtain ⟨a,cap,rfl,hc,hm,hr⟩:=h
 refine ⟨a,cap,rfl,hc,hm,?_⟩
 rcases hr with hr | ⟨b,off,rfl,hlt,hcl⟩
 ·exact .inl hr
 ·exact .inr ⟨b,off,rfl,Nat.lt_of_lt_of_le hlt hb.size,fun j hj i u hu=>(hb.cell (p:=⟨b,off+j*k+i,none⟩) hlt).trans (hcl j hj i u hu)⟩
theorem IsRec.shape {w:World} {v:Value} {xs:List α} (h:IsRec k enc w v xs):∃ a cap,v= .slice a xs.length cap/\xs.length<=cap/\cap<=9223372036854775807:=by
 obtain ⟨a,cap,rfl,hc,hm,_⟩:=h;exact ⟨a,cap,rfl,hc,hm⟩
theorem RecAt.recs (hk:∀ x,(enc x).length=k) (h0:0<k) {n₀:Nat} {w:World} {v:Value} {xs:List α} (h:RecAt t k enc n₀ w v xs):IsRec k enc w v xs:=by
 have h':=h
 rcases h.2 with ⟨rfl,hz⟩ | ⟨g,cap,cur,rfl,hb,hg,hnc,hcm,r⟩
 ·exact ⟨none,0,by rw [hz],by omega,by omega,.inl (List.eq_nil_of_length_eq_zero hz)⟩
 ·refine ⟨_,cap,rfl,hnc,by unfold maxLen at hcm;omega,.inr ⟨g,0,rfl,(Array.getElem?_eq_some_iff.1 hg).1,fun j hj i u hu=> ?_⟩⟩
  have hi:i<k:=by
   rcases Nat.lt_or_ge i k with h | h
   ·exact h
   ·rw [List.getElem?_eq_none (by rw [hk];exact h)] at hu;cases hu
  have hjk:j*k+k<=xs.length*k:=by rw [<-Nat.succ_mul];exact Nat.mul_le_mul_right k hj
  rw [Nat.zero_add,World.ownsRow.cellAt h' (j*k+i) (by omega),WG hk xs j hj i hi]
  exact hu
theorem RecAt.view (hk:∀ x,(enc x).length=k) (h0:0<k) {n₀ n cap:Nat} {w:World} {a:Option Addr} {xs:List α} (h:RecAt t k enc n₀ w (.slice a n cap) xs) (hn:n=xs.length) (hl:0<xs.length):∃ g,a=some ⟨g,0,none⟩/\n₀<=g/\g<w.heap.size/\
  (∀ j,j<xs.length-> ∀ i u,(enc (Z8 xs j))[i]?=some u->w.cell? ⟨g,j*k+i,none⟩=some u)/\(∀ o,w.frozen? ⟨g,o,none⟩=false):=by
 subst hn
 have h':=h
 rcases h.2 with ⟨hv,hz⟩ | ⟨g,cap',cur,hv,hb,hg,hnc,hcm,r⟩
 ·omega
 ·cases hv
  refine ⟨g,rfl,hb,(Array.getElem?_eq_some_iff.1 hg).1,fun j hj i u hu=> ?_,fun o=>World.ownsRow.frozenAt h' o⟩
  have hi:i<k:=by
   rcases Nat.lt_or_ge i k with h | h
   ·exact h
   ·rw [List.getElem?_eq_none (by rw [hk];exact h)] at hu;cases hu
  have hjk:j*k+k<=xs.length*k:=by rw [<-Nat.succ_mul];exact Nat.mul_le_mul_right k hj
  rw [World.ownsRow.cellAt h' (j*k+i) (by omega),WG hk xs j hj i hi]
  exact hu
theorem RecAt.put (hk:∀ x,(enc x).length=k) (h0:0<k) {n₀ n cap g:Nat} {w:World} {xs:List α} (h:RecAt t k enc n₀ w (.slice (some ⟨g,0,none⟩) n cap) xs) (hn:n=xs.length) {j:Nat} (hj:j<xs.length) (x:α) :
  RecAt t k enc n₀ (Ob w g (j*k) (enc x)) (.slice (some ⟨g,0,none⟩) n cap) (xs.set j x)/\w.grownBy (Ob w g (j*k) (enc x)) (some g):=by
 subst hn
 obtain ⟨h1,h2⟩:=La (enc x) (j*k) h
 rw [Ef hk h0 xs j hj x] at h1
 refine ⟨?_,h2⟩
 unfold RecAt
 rw [List.length_set]
 exact h1
end
end Go.Proofs.YtjhijildaceadaaGreatDoor
namespace Go.Proofs.YtjhijildaceadaaGreatDoor
open Go.ChangeShapes Go.WideShapes Go.ChangeAt Go.RowKit Go.Sort
set_option linter.unusedVariables false
section
variable {α : Type} {t k : Nat} {enc : α → List Value}
theorem FX [Inhabited α] (hk:∀ x,(enc x).length=k) (h0:0<k) (z:α) (zs:Array Value) (hz:zs.toList=enc z) (n:Nat):(madeCells zs (n*k)).toList=Vl enc (List.replicate n z):=by
 have hs:zs.size=k:=by rw [<-Array.length_toList,hz,hk]
 apply List.ext_getElem?
 intro m
 by_cases hm:m<n*k
 ·have hd:m / k<n:=(Nat.div_lt_iff_lt_mul h0).2 hm
  have hr:m%k<k:=Nat.mod_lt _ h0
  have he:m=m / k*k+m%k:=by rw [Nat.mul_comm];exact (Nat.div_add_mod m k).symm
  have hg:=WG hk (List.replicate n z) (m / k) (by simpa using hd) (m%k) hr
  rw [<-he] at hg
  have hrec:Z8 (List.replicate n z) (m / k)=z:=by unfold Z8;simp [List.getD,hd]
  rw [hg,hrec,<-hz]
  simp [madeCells,hm,hs,hr]
 ·rw [List.getElem?_eq_none (by simp [madeCells];omega),List.getElem?_eq_none (by rw [WH hk];simp;omega)]
end
end Go.Proofs.YtjhijildaceadaaGreatDoor
namespace Go.Proofs.YtjhijildaceadaaGreatDoor
open Go.ChangeShapes Go.WideShapes Go.ChangeAt Go.RowKit Go.Sort
set_option linter.unusedVariables false
abbrev ZF:=Int × Int × Int
def Xv (p:ZF):List Value:=[.int .i64 p.1,.int .i64 p.2.1,.int .i64 p.2.2]
theorem Yk (p:ZF):(Xv p).length=3:=rfl
abbrev XJ (w:World) (v:Value) (ps:List ZF):Prop:=IsRec 3 Xv w v ps
abbrev GuildsAt (n₀:Nat) (w:World) (v:Value) (ps:List ZF):Prop:=RecAt 90 3 Xv n₀ w v ps
theorem FN:(Tryz.prog.info? 90).map (fun i=>(i.zero,i.size,i.bytes))=some (some (.agg #[.int .i64 0,.int .i64 0,.int .i64 0]),3,24):=by kernel_rfl
theorem GuildsAt.list {n₀:Nat} {w:World} {v:Value} {ps:List ZF} (h:GuildsAt n₀ w v ps):XJ w v ps:=RecAt.recs Yk (by omega) h
theorem V7 {w:World} {b off:Nat} {ps:List ZF} (h:∀ j,j<ps.length-> ∀ i u,(Xv (Z8 ps j))[i]?=some u->w.cell? ⟨b,off+j*3+i,none⟩=some u) {j:Nat} (hj:j<ps.length) :
  w.cell? ⟨b,off+j*3,none⟩=some (.int .i64 (Z8 ps j).1)/\w.cell? ⟨b,off+j*3+1,none⟩=some (.int .i64 (Z8 ps j).2.1)/\w.cell? ⟨b,off+j*3+2,none⟩=some (.int .i64 (Z8 ps j).2.2):=
 ⟨h j hj 0 _ rfl,h j hj 1 _ rfl,h j hj 2 _ rfl⟩
abbrev Z3:=Int × Int × Int × Int × Int × Int × Int × Int × Int × Int × Int
def Z0 (p:Z3):List Value:=[.int .i64 p.1,.int .i64 p.2.1,.int .i64 p.2.2.1,.int .i64 p.2.2.2.1,.int .i64 p.2.2.2.2.1,.int .i64 p.2.2.2.2.2.1,.int .i64 p.2.2.2.2.2.2.1,.int .i64 p.2.2.2.2.2.2.2.1,.int .i64 p.2.2.2.2.2.2.2.2.1,.int .i64 p.2.2.2.2.2.2.2.2.2.1,.int .i64 p.2.2.2.2.2.2.2.2.2.2]
theorem ZZ (p:Z3):(Z0 p).length=11:=rfl
abbrev WB (w:World) (v:Value) (ps:List Z3):Prop:=IsRec 11 Z0 w v ps
abbrev SmithsAt (n₀:Nat) (w:World) (v:Value) (ps:List Z3):Prop:=RecAt 43 11 Z0 n₀ w v ps
theorem SmithsAt.list {n₀:Nat} {w:World} {v:Value} {ps:List Z3} (h:SmithsAt n₀ w v ps):WB w v ps:=RecAt.recs ZZ (by omega) h
theorem ZK {w:World} {b off:Nat} {ps:List Z3} (h:∀ j,j<ps.length-> ∀ i u,(Z0 (Z8 ps j))[i]?=some u->w.cell? ⟨b,off+j*11+i,none⟩=some u) {j:Nat} (hj:j<ps.length) :
  w.cell? ⟨b,off+j*11,none⟩=some (.int .i64 (Z8 ps j).1)/\w.cell? ⟨b,off+j*11+1,none⟩=some (.int .i64 (Z8 ps j).2.1)/\w.cell? ⟨b,off+j*11+2,none⟩=some (.int .i64 (Z8 ps j).2.2.1)/\w.cell? ⟨b,off+j*11+3,none⟩=some (.int .i64 (Z8 ps j).2.2.2.1)/\w.cell? ⟨b,off+j*11+4,none⟩=some (.int .i64 (Z8 ps j).2.2.2.2.1)/\w.cell? ⟨b,off+j*11+5,none⟩=some (.int .i64 (Z8 ps j).2.2.2.2.2.1)/\w.cell? ⟨b,off+j*11+6,none⟩=some (.int .i64 (Z8 ps j).2.2.2.2.2.2.1)/\w.cell? ⟨b,off+j*11+7,none⟩=some (.int .i64 (Z8 ps j).2.2.2.2.2.2.2.1)/\w.cell? ⟨b,off+j*11+8,none⟩=some (.int .i64 (Z8 ps j).2.2.2.2.2.2.2.2.1)/\w.cell? ⟨b,off+j*11+9,none⟩=some (.int .i64 (Z8 ps j).2.2.2.2.2.2.2.2.2.1)/\w.cell? ⟨b,off+j*11+10,none⟩=some (.int .i64 (Z8 ps j).2.2.2.2.2.2.2.2.2.2):=
 ⟨h j hj 0 _ rfl,h j hj 1 _ rfl,h j hj 2 _ rfl,h j hj 3 _ rfl,h j hj 4 _ rfl,h j hj 5 _ rfl,h j hj 6 _ rfl,h j hj 7 _ rfl,h j hj 8 _ rfl,h j hj 9 _ rfl,h j hj 10 _ rfl⟩
end Go.Proofs.YtjhijildaceadaaGreatDoor
