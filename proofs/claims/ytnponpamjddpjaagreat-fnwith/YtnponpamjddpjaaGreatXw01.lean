/- Part 1 of what the proof rests on besides. No condition but those that a theorem names. -/
import Derived.Test.YtnponpamjddpjaaGreatXt40
import Derived.Deep.RegionHeld
set_option maxHeartbeats 8000000
set_option maxRecDepth 100000
namespace Go.Proofs.YtnponpamjddpjaaGreat
open Go.ChangeShapes Go.WideShapes Go.ChangeAt Go.RowKit
set_option linter.unusedVariables false
theorem DR (x:Int) (w:World):Calls Tryz.prog 278 #[.int .i64 x] w fun e w'=>e= .returned (.bool (inB x 0 1000000000))/\w'=w:=by
 by_cases h1:0<=x
 ·by_cases h2:x<=1000000000
  all_goals
   go_enter Tryz.func278,Tryz.ntmps278
   go_wp2
   go_ret;exact ⟨Z5 (by first | exact (Zj h1 h2).symm | exact (Vd (by omega)).symm),rfl⟩
 ·go_enter Tryz.func278,Tryz.ntmps278
  go_wp2
  go_ret;exact ⟨Z5 (Vd (by omega)).symm,rfl⟩
theorem D2 (x:Int) (w:World):Calls Tryz.prog 279 #[.int .i64 x] w fun e w'=>e= .returned (.bool (inB x 1 1000000000))/\w'=w:=by
 by_cases h1:1<=x
 ·by_cases h2:x<=1000000000
  all_goals
   go_enter Tryz.func279,Tryz.ntmps279
   go_wp2
   go_ret;exact ⟨Z5 (by first | exact (Zj h1 h2).symm | exact (Vd (by omega)).symm),rfl⟩
 ·go_enter Tryz.func279,Tryz.ntmps279
  go_wp2
  go_ret;exact ⟨Z5 (Vd (by omega)).symm,rfl⟩
theorem Dy {p:Int->Bool} {zs:List Int} {k:Nat} {z:Int} (hlt:k<zs.length) (hz:zs.getD k 0=z) (ha:(zs.take k).all p=true) (hp:p z=true):(zs.take (k+1)).all p=true:=by
 rw [List.take_succ_eq_append_getElem hlt,List.all_append,ha]
 have:zs[k]=z:=by rw [<-hz];simp [List.getD,hlt]
 simp [this,hp]
theorem D7 {p:Int->Bool} {zs:List Int} {k:Nat} {z:Int} (hlt:k<zs.length) (hz:zs.getD k 0=z) (hp:p z=false):zs.all p=false:=by
 have:zs[k]=z:=by rw [<-hz];simp [List.getD,hlt]
 rw [List.all_eq_false];exact ⟨zs[k],List.getElem_mem hlt,by rw [this,hp];simp⟩
theorem El (b cap:Nat) (zs:List Int) (w:World) (hl:zs.length<=1000) (hc:∀ k,k<zs.length->w.cell? ⟨b,k,none⟩=some (.int .i64 (zs.getD k 0))) :
  Calls Tryz.prog 277 #[.func (Fn.func 278) #[] #[],.slice (some ⟨b,0,none⟩) zs.length cap] w fun e w'=>e= .returned (.bool (zs.all fun z=>inB z 0 1000000000))/\w'=w:=by
 go_enter Tryz.func277,Tryz.ntmps277
 go_wp2_with fail
 go_loop [9] (fun i=> ∃ k:Nat,k<=zs.length/\i= .int .i64 k/\((zs.take k).all fun z=>inB z 0 1000000000)=true) (fun i=>zs.length-(intOf i).toNat)
 case atStart=>exact ⟨0,Nat.zero_le _,rfl,by simp⟩
 case round=>
  obtain ⟨k,hk,rfl,hall⟩:=hrel
  by_cases hlt:k<zs.length
  ·have hcell:=hc k hlt
   have Ha:=Z9 hall;clear hall hc;generalize hz:zs.getD k 0=z at *;have Hz:=Z9 hz;clear hz;go_wp2_with fail;refine (DR _ _).mono ?_;rintro e w' ⟨rfl,rfl⟩;cases hp:inB z 0 1000000000
   ·go_wp2_with fail
    go_ret;exact ⟨Z5 (D7 hlt (uh Hz) hp).symm,rfl⟩
   ·go_wp2_with fail
    go_round
    case rel=>exact ⟨k+1,by omega,by go_num,Dy hlt (uh Hz) (uh Ha) hp⟩
    case measure=>simp [intOf];omega
  ·go_wp2_with fail
   go_ret;exact ⟨Z5 (by rw [<-hall,List.take_of_length_le (by omega)]),rfl⟩
theorem Es (b cap:Nat) (zs:List Int) (w:World) (hl:zs.length<=1000) (hc:∀ k,k<zs.length->w.cell? ⟨b,k,none⟩=some (.int .i64 (zs.getD k 0))) :
  Calls Tryz.prog 277 #[.func (Fn.func 279) #[] #[],.slice (some ⟨b,0,none⟩) zs.length cap] w fun e w'=>e= .returned (.bool (zs.all fun z=>inB z 1 1000000000))/\w'=w:=by
 go_enter Tryz.func277,Tryz.ntmps277
 go_wp2_with fail
 go_loop [9] (fun i=> ∃ k:Nat,k<=zs.length/\i= .int .i64 k/\((zs.take k).all fun z=>inB z 1 1000000000)=true) (fun i=>zs.length-(intOf i).toNat)
 case atStart=>exact ⟨0,Nat.zero_le _,rfl,by simp⟩
 case round=>
  obtain ⟨k,hk,rfl,hall⟩:=hrel
  by_cases hlt:k<zs.length
  ·have hcell:=hc k hlt
   have Ha:=Z9 hall;clear hall hc;generalize hz:zs.getD k 0=z at *;have Hz:=Z9 hz;clear hz;go_wp2_with fail;refine (D2 _ _).mono ?_;rintro e w' ⟨rfl,rfl⟩;cases hp:inB z 1 1000000000
   ·go_wp2_with fail
    go_ret;exact ⟨Z5 (D7 hlt (uh Hz) hp).symm,rfl⟩
   ·go_wp2_with fail
    go_round
    case rel=>exact ⟨k+1,by omega,by go_num,Dy hlt (uh Hz) (uh Ha) hp⟩
    case measure=>simp [intOf];omega
  ·go_wp2_with fail
   go_ret;exact ⟨Z5 (by rw [<-hall,List.take_of_length_le (by omega)]),rfl⟩
theorem DF {rs:List Z0} {n k:Nat} (h:k<n):ZV (rs.take n) k=ZV rs k:=by
 unfold ZV;simp [List.getD,h]
theorem IsRooms.taken {w:World} {a:Option Addr} {len cap:Nat} {rs:List Z0} (h:IsRooms w (.slice a len cap) rs) {n:Nat} (hn:n<=len):IsRooms w (.slice a n cap) (rs.take n):=by
 obtain ⟨a',cap',he,hc,hm,hr⟩:=h;cases he
 have hl:(rs.take n).length=n:=by simp;omega
 refine ⟨a,cap,by rw [hl],by omega,hm,?_⟩
 rcases hr with hr | ⟨b,off,rfl,hlt,hcl⟩
 ·exact .inl (by rw [hr];simp)
 ·refine .inr ⟨b,off,rfl,hlt,fun k hk=> ?_⟩
  rw [DF (by omega)];exact hcl k (by omega)
open Go.ChangeShapes Go.WideShapes Go.ChangeAt Go.RowKit Go.Sort
theorem Fy.taken {rs:List Z0} (h:Fy rs) (n:Nat):Fy (rs.take n):=fun k hk=>by
 have hk':k<=n/\k<=rs.length:=by simp at hk;omega
 rw [List.take_take,Nat.min_eq_left hk'.1];exact h k hk'.2
def isB (ps:List ZA) (g:Int):Bool:=Zh ps && inB g (-1) ((ps.length:Int)-1)
def Oh (ps:List ZA) (g lo hi:Int):Int × Int:=if isB ps g && Yl lo hi then QC (bnd ps g) lo hi else (-1,-1)
theorem DY {ps:List ZA} {g lo hi:Int} (h:(isB ps g && Yl lo hi)=false):Oh ps g lo hi=(-1,-1):=by unfold Oh;rw [h];rfl
theorem DZ {ps:List ZA} {g lo hi:Int} (h:isB ps g=true) (h':Yl lo hi=true):Oh ps g lo hi=QC (bnd ps g) lo hi:=by unfold Oh;rw [h,h'];rfl
theorem G6 (a lo hi l h:Int) (w:World):Calls Tryz.prog 192 #[.agg #[.int .i64 a,.int .i64 lo,.int .i64 hi],.int .i64 l,.int .i64 h] w
  fun e w'=>e= .returned (.tuple #[.int .i64 (QC (lo,hi) l h).1,.int .i64 (QC (lo,hi) l h).2])/\Below w.heap.size w w':=by
 unfold QC
 go_enter Tryz.func192,Tryz.ntmps192
 go_wp2_with (go_at_call 127;refine (Qx _ _ _ _).mono ?_;rintro e w' ⟨rfl,rfl⟩)
 go_ret2
 exact ⟨rfl,(Below.refl _ _).alloc (Nat.le_refl _) _⟩
theorem DI (a lo hi a' l h:Int) (w:World):Calls Tryz.prog 229 #[.agg #[.int .i64 a,.int .i64 lo,.int .i64 hi,.int .i64 a',.int .i64 l,.int .i64 h]] w
  fun e w'=>e= .returned (.agg #[.int .i64 a',.int .i64 (QC (lo,hi) l h).1,.int .i64 (QC (lo,hi) l h).2])/\Below w.heap.size w w':=by
 go_enter Tryz.func229,Tryz.ntmps229
 go_wp2_with fail;refine (G6 _ _ _ _ _ _).mono ?_;rintro e w1 ⟨rfl,hb1⟩
 have hz:w.heap.size+1<w1.heap.size:=by have:=hb1.size;simp at this;omega
 have Hb1:=Z9 hb1;obtain ⟨hc,hf⟩:=NR hb1;clear hb1;go_wp2_with fail;exact bodyPost_ret (v:= .agg #[.int .i64 a',.int .i64 (QC (lo,hi) l h).1,.int .i64 (QC (lo,hi) l h).2]) (by simp [results,Tryz.results229,go_sem,hc]) rfl
  ⟨rfl,((((((Below.refl _ _).alloc (Nat.le_refl _) _).alloc (by simp) _).trans ((uh Hb1).mono (by simp;omega))).setCell (by simp) _).setCell (by simp) _).setCell (by simp) _⟩
theorem D4 {ps:List ZA} (hg:Zh ps=true):∀ (n:Nat) (g:Int) {w:World} {v:Value},XI w v ps-> -1<=g->g<n->g<ps.length->
  Calls Tryz.prog 191 #[v,.int .i64 g] w fun e w'=> ∃ x,e= .returned (.agg #[.int .i64 x,.int .i64 (bnd ps g).1,.int .i64 (bnd ps g).2])/\Below w.heap.size w w':=by
 intro n
 induction n with
 | zero=>
  intro g w v h h0 h1 h2
  obtain rfl:g= -1:=by omega
  rw [Ld ps (by omega)];obtain ⟨a,cap,rfl,_⟩:=h
  go_enter Tryz.func191,Tryz.ntmps191
  go_wp2_with fail;exact bodyPost_ret (v:= .agg #[.int .i64 (-1),.int .i64 0,.int .i64 1024]) (by simp [results,Tryz.results191,go_sem]) rfl ⟨-1,rfl,(Below.refl _ _).alloc (Nat.le_refl _) _⟩
 | succ n ih=>
  intro g w v h h0 h1 h2
  by_cases hg0:g= -1
  ·subst hg0
   rw [Ld ps (by omega)];obtain ⟨a,cap,rfl,_⟩:=h
   go_enter Tryz.func191,Tryz.ntmps191
   go_wp2_with fail;exact bodyPost_ret (v:= .agg #[.int .i64 (-1),.int .i64 0,.int .i64 1024]) (by simp [results,Tryz.results191,go_sem]) rfl ⟨-1,rfl,(Below.refl _ _).alloc (Nat.le_refl _) _⟩
  ·obtain ⟨k,rfl⟩:∃ k:Nat,g=k:=⟨g.toNat,by omega⟩
   have hlt:k<ps.length:=by omega
   obtain ⟨a0,a1,_⟩:=SL hg (g:=(k:Int)) (by omega) h2;have hs:=FD hg (g:=(k:Int)) (by omega) h2;rw [show ((k:Int)).toNat=k by omega] at a0 a1 hs;rw [hs];clear hs;have Hi:=Z9 h;obtain ⟨a,cap,rfl,hc,hm,hr⟩:=h
   rcases hr with hz | ⟨b,off,rfl,hbw,hcl⟩
   ·rw [hz] at hlt;simp at hlt
   obtain ⟨c0,c1,c2⟩:=Wd hcl hlt;clear hcl;generalize hW:w.alloc (.cells #[.int .i64 0,.int .i64 0,.int .i64 0] 97)=W;have HB:Hid (Below w.heap.size w W):=Z9 (by rw [<-hW];exact (Below.refl _ _).alloc (Nat.le_refl _) _)
   have hsz:w.heap.size<W.heap.size:=by rw [<-hW];simp
   have hbW:b<W.heap.size:=by omega
   rw [<-(uh HB).cell (p:=⟨b,off+k*3,none⟩) hbw] at c0;rw [<-(uh HB).cell (p:=⟨b,off+k*3+1,none⟩) hbw] at c1;rw [<-(uh HB).cell (p:=⟨b,off+k*3+2,none⟩) hbw] at c2;have D:Hid ((∃ u,W.cell? ⟨w.heap.size,0,none⟩=some u)/\(∃ u,W.cell? ⟨w.heap.size,1,none⟩=some u)/\(∃ u,W.cell? ⟨w.heap.size,2,none⟩=some u)/\W.frozen? ⟨w.heap.size,0,none⟩=false/\W.frozen? ⟨w.heap.size,1,none⟩=false/\W.frozen? ⟨w.heap.size,2,none⟩=false):=
    Z9 (by rw [<-hW];exact ⟨⟨_,by simp;rfl⟩,⟨_,by simp;rfl⟩,⟨_,by simp;rfl⟩,by simp,by simp,by simp⟩)
   have HW:=Z9 hW;clear hW;have Hc:=Z9 (And.intro c0 (And.intro c1 c2));generalize hp:Z8 ps k=p at *;obtain ⟨x0,x1,x2⟩:=p;simp only at c0 c1 c2 a0 a1
   have ih':=fun (w:World) (v:Value) (h:XI w v ps)=>ih x0 h a0 (by omega) (by omega)
   have Ih:=Z9 ih';clear ih ih' hp
   go_enter Tryz.func191,Tryz.ntmps191
   go_wp2_with fail;rw [uh HW]
   go_region_with (first
    | (go_at_call 191;refine (uh Ih _ _ ?_).mono ?_;(first | exact (uh Hi).below (uh HB) | exact ((uh Hi).below (uh HB)).below ((Below.refl _ _).drew));rintro e w1 ⟨y,rfl,hb1⟩;have B1:Hid (Below W.heap.size W w1):=Z9 (by first | exact hb1 | exact ((Below.refl _ _).drew).trans (hb1.mono (by simp)));have e0:=((uh B1).cell (p:=⟨b,off+k*3,none⟩) hbW).trans (uh Hc).1;have e1:=((uh B1).cell (p:=⟨b,off+k*3+1,none⟩) hbW).trans (uh Hc).2.1;have e2:=((uh B1).cell (p:=⟨b,off+k*3+2,none⟩) hbW).trans (uh Hc).2.2;clear hb1)
    | (go_at_call 229;refine (DI _ _ _ _ _ _ _).mono ?_;rintro e w2 ⟨rfl,hb2⟩;have B2:Hid (Below W.heap.size W w2):=Z9 ((uh B1).trans (hb2.mono (uh B1).size));obtain ⟨⟨u0,q0⟩,⟨u1,q1⟩,⟨u2,q2⟩,f0,f1,f2⟩:=uh D;have d0:=((uh B2).cell (p:=⟨w.heap.size,0,none⟩) hsz).trans q0;have d1:=((uh B2).cell (p:=⟨w.heap.size,1,none⟩) hsz).trans q1;have d2:=((uh B2).cell (p:=⟨w.heap.size,2,none⟩) hsz).trans q2;have z0:=((uh B2).frozen (p:=⟨w.heap.size,0,none⟩) hsz).trans f0;have z1:=((uh B2).frozen (p:=⟨w.heap.size,1,none⟩) hsz).trans f1;have z2:=((uh B2).frozen (p:=⟨w.heap.size,2,none⟩) hsz).trans f2;clear hb2 q0 q1 q2 f0 f1 f2))
   all_goals
    go_wp2_with fail;exact bodyPost_ret (v:= .agg #[.int .i64 x0,.int .i64 (QC (bnd ps x0) x1 x2).1,.int .i64 (QC (bnd ps x0) x1 x2).2]) (by simp [results,Tryz.results191,go_sem,d0,d1,d2]) rfl
     ⟨x0,rfl,((((uh HB).trans ((uh B2).mono (by omega))).setCell (Nat.le_refl _) _).setCell (Nat.le_refl _) _).setCell (Nat.le_refl _) _⟩
theorem Ed {w:World} {v:Value} {ps:List ZA} (g lo hi:Int) (h:XI w v ps) :
  Calls Tryz.prog 126 #[v,.int .i64 g,.int .i64 lo,.int .i64 hi] w fun e w'=>e= .returned (.tuple #[.int .i64 (Oh ps g lo hi).1,.int .i64 (Oh ps g lo hi).2])/\Below w.heap.size w w':=by
 have Hi:=Z9 h;obtain ⟨a,cap,rfl,hc,hm,hr⟩:=h;clear hr;generalize hW:w.alloc (.cells #[.int .i64 g,.int .i64 lo,.int .i64 hi] 97)=W;have HB:Hid (Below w.heap.size w W):=Z9 (by rw [<-hW];exact (Below.refl _ _).alloc (Nat.le_refl _) _)
 have hsz:w.heap.size<W.heap.size:=by rw [<-hW];simp
 have D:Hid (W.cell? ⟨w.heap.size,0,none⟩=some (.int .i64 g)/\W.cell? ⟨w.heap.size,1,none⟩=some (.int .i64 lo)/\W.cell? ⟨w.heap.size,2,none⟩=some (.int .i64 hi)):=Z9 (by rw [<-hW];simp);have HW:=Z9 hW;clear hW
 have hsv:(Zh ps && Xt (g,lo,hi) ps.length)=(isB ps g && Yl lo hi):=by unfold Xt isB;rw [Bool.and_assoc]
 cases hG:Zh ps
 ·rw [DY (by rw [<-hsv,hG];rfl)]
  clear hsv
  go_enter Tryz.func126,Tryz.ntmps126
  go_wp2_with fail;rw [uh HW];refine (RG ((uh Hi).below (uh HB))).mono ?_;rw [hG];rintro e w1 ⟨rfl,hb1⟩;have B1:=Z9 ((uh HB).trans (hb1.mono (by omega)));clear hb1;go_wp2_with fail
  go_ret2
  exact ⟨rfl,uh B1⟩
 ·cases hQ:Xt (g,lo,hi) ps.length
  ·rw [DY (by rw [<-hsv,hG,hQ];rfl)]
   clear hsv
   go_enter Tryz.func126,Tryz.ntmps126
   go_wp2_with fail;rw [uh HW];refine (RG ((uh Hi).below (uh HB))).mono ?_;rw [hG];rintro e w1 ⟨rfl,hb1⟩;have d0:=(hb1.cell (p:=⟨w.heap.size,0,none⟩) hsz).trans (uh D).1;have d1:=(hb1.cell (p:=⟨w.heap.size,1,none⟩) hsz).trans (uh D).2.1;have d2:=(hb1.cell (p:=⟨w.heap.size,2,none⟩) hsz).trans (uh D).2.2;have B1:=Z9 ((uh HB).trans (hb1.mono (by omega)));clear hb1;go_wp2_with fail;refine (Lt _ _ _ _ _).mono ?_;rw [hQ];rintro e w2 ⟨rfl,hb2⟩;have B2:=Z9 ((uh B1).trans (hb2.mono (uh B1).size));clear hb2;go_wp2_with fail
   go_ret2
   exact ⟨rfl,uh B2⟩
  ·obtain ⟨g0,g1,g2⟩:=G0 hQ
   have hisB:isB ps g=true:=by unfold isB;rw [hG,Zj g0 (by simpa using g1)];rfl
   rw [DZ hisB g2];clear hsv hisB
   have hlt:g<ps.length:=by simp only at g1;omega
   simp only at g0
   go_enter Tryz.func126,Tryz.ntmps126
   go_wp2_with fail;rw [uh HW];refine (RG ((uh Hi).below (uh HB))).mono ?_;rw [hG];rintro e w1 ⟨rfl,hb1⟩;have d0:=(hb1.cell (p:=⟨w.heap.size,0,none⟩) hsz).trans (uh D).1;have d1:=(hb1.cell (p:=⟨w.heap.size,1,none⟩) hsz).trans (uh D).2.1;have d2:=(hb1.cell (p:=⟨w.heap.size,2,none⟩) hsz).trans (uh D).2.2;have B1:=Z9 ((uh HB).trans (hb1.mono (by omega)));clear hb1;go_wp2_with fail;refine (Lt _ _ _ _ _).mono ?_;rw [hQ];rintro e w2 ⟨rfl,hb2⟩;have B2:=Z9 ((uh B1).trans (hb2.mono (uh B1).size));clear hb2;go_wp2_with fail;refine (D4 hG (g+1).toNat g ((uh Hi).below (uh B2)) g0 (by omega) hlt).mono ?_;rintro e w3 ⟨x,rfl,hb3⟩;have B3:=Z9 ((uh B2).trans (hb3.mono (uh B2).size));clear hb3;go_wp2_with fail;refine (G6 _ _ _ _ _ _).mono ?_;rintro e w4 ⟨rfl,hb4⟩;have B4:=Z9 ((uh B3).trans (hb4.mono (uh B3).size));clear hb4;go_wp2_with fail
   go_ret2
   exact ⟨rfl,uh B4⟩
theorem DK {m:Z3} (h:ZK m=true):m.smiths.length<=12:=by
 unfold ZK YZ YS at h
 simp only [Bool.and_eq_true,decide_eq_true_eq] at h;exact h.1.1.2.2.1
set_option maxRecDepth 100000
theorem DP (a:Option Addr) (n cap:Nat) (i:Int) (w:World):Calls Tryz.prog 61 #[.slice a n cap,.int .i64 i] w fun e w'=>e= .returned (.bool (WJ n i))/\w'=w:=by
 by_cases h0:0<=i
 ·by_cases h1:i<(n:Int)
  all_goals
   go_enter Tryz.func61,Tryz.ntmps61
   go_wp2_with fail;go_ret;exact ⟨Z5 (by unfold WJ;simp [h0,h1]),rfl⟩
 ·go_enter Tryz.func61,Tryz.ntmps61
  go_wp2_with fail;go_ret;exact ⟨Z5 (by unfold WJ;simp;omega),rfl⟩
theorem CV {p:Int->Bool} (a b:Int) : [a,b].all p=(p a && p b):=by simp
theorem CU {p:Int->Bool} (a:Int) : [a].all p=p a:=by simp
theorem CX (W:World) (a b:Int) (bk:Nat) (hb:bk=W.heap.size):∀ k,k < [a,b].length->(W.alloc (.cells #[.int .i64 a,.int .i64 b] 2)).cell? ⟨bk,k,none⟩=some (.int .i64 ([a,b].getD k 0)):=by
 intro k hk
 rw [World.cell?_alloc_at _ _ _ _ hb]
 match k,hk with
 | 0,_=>rfl
 | 1,_=>rfl
theorem CW (W:World) (a:Int) (bk:Nat) (hb:bk=W.heap.size):∀ k,k < [a].length->(W.alloc (.cells #[.int .i64 a] 2)).cell? ⟨bk,k,none⟩=some (.int .i64 ([a].getD k 0)):=by
 intro k hk
 rw [World.cell?_alloc_at _ _ _ _ hb]
 match k,hk with
 | 0,_=>rfl
theorem U2 (a b:Int) (W:World) (bk:Nat) (hb:bk=W.heap.size):Calls Tryz.prog 277 #[.func (Fn.func 278) #[] #[],.slice (some ⟨bk,0,none⟩) 2 2] (W.alloc (.cells #[.int .i64 a,.int .i64 b] 2))
  fun e w'=>e= .returned (.bool (inB a 0 1000000000 && inB b 0 1000000000))/\w'=W.alloc (.cells #[.int .i64 a,.int .i64 b] 2):=by
 have h:=El bk 2 [a,b] (W.alloc (.cells #[.int .i64 a,.int .i64 b] 2)) (by simp) (CX W a b bk hb);rw [CV] at h;exact h
theorem Nq (a:Int) (W:World) (bk:Nat) (hb:bk=W.heap.size):Calls Tryz.prog 277 #[.func (Fn.func 279) #[] #[],.slice (some ⟨bk,0,none⟩) 1 1] (W.alloc (.cells #[.int .i64 a] 2))
  fun e w'=>e= .returned (.bool (inB a 1 1000000000))/\w'=W.alloc (.cells #[.int .i64 a] 2):=by
 have h:=Es bk 1 [a] (W.alloc (.cells #[.int .i64 a] 2)) (by simp) (CW W a bk hb);rw [CU] at h;exact h
theorem Eb (a b c:Int) (w:World):Calls Tryz.prog 245 #[.int .i64 a,.int .i64 b,.int .i64 c] w fun e w'=>e= .returned (.int .i64 (Xm a b c))/\Below w.heap.size w w':=by
 refine E7 a b c 0 1000000000 0 1000000000 1 1000000000 ?_ ?_ ?_ ?_
 ·intro ha
  have hv:Xm a b c= -1:=by simp [Xm,ha]
  rw [hv];clear hv
  go_enter Tryz.func245,Tryz.ntmps245
  go_wp2_with fail;refine (U2 a b _ _ rfl).mono ?_;rintro e w' ⟨rfl,rfl⟩;go_wp2_with fail;go_ret;exact ⟨rfl,(Below.refl _ _).alloc (Nat.le_refl _) _⟩
 ·intro ha hb
  have hv:Xm a b c= -1:=by simp [Xm,hb]
  rw [hv];clear hv
  go_enter Tryz.func245,Tryz.ntmps245
  go_wp2_with fail;refine (U2 a b _ _ rfl).mono ?_;rintro e w' ⟨rfl,rfl⟩;go_wp2_with fail;go_ret;exact ⟨rfl,(Below.refl _ _).alloc (Nat.le_refl _) _⟩
 ·intro ha hb hc
  have hv:Xm a b c= -1:=by simp [Xm,hc]
  rw [hv];clear hv
  go_enter Tryz.func245,Tryz.ntmps245
  go_wp2_with fail;refine (U2 a b _ _ rfl).mono ?_;rintro e w' ⟨rfl,rfl⟩;go_wp2_with fail;refine (Nq c _ _ (by simp)).mono ?_;rintro e w' ⟨rfl,rfl⟩;go_wp2_with fail;go_ret;exact ⟨rfl,((Below.refl _ _).alloc (Nat.le_refl _) _).alloc (by simp) _⟩
 ·intro ha hb hc
  have hv:Xm a b c=a*b / c:=by simp [Xm,ha,hb,hc]
  rw [hv];clear hv;obtain ⟨a0,a1⟩:=ZS ha;obtain ⟨b0,b1⟩:=ZS hb;obtain ⟨c0,c1⟩:=ZS hc;obtain ⟨m0,m1⟩:=EO a0 a1 b0 b1
  go_enter Tryz.func245,Tryz.ntmps245
  go_wp2_with fail;refine (U2 a b _ _ rfl).mono ?_;rintro e w' ⟨rfl,rfl⟩;go_wp2_with fail;refine (Nq c _ _ (by simp)).mono ?_;rintro e w' ⟨rfl,rfl⟩;go_wp2_with fail;go_ret;exact ⟨rfl,((Below.refl _ _).alloc (Nat.le_refl _) _).alloc (by simp) _⟩
theorem DQ (f need:Int) (w:World) (f0:0<=f) (f1:f<=1000000) (n0:0<=need) (n1:need<=2000000) :
  Calls Tryz.prog 280 #[.int .i64 f,.int .i64 need] w fun e w'=>e= .returned (.bool (decide (5*need<=4*f)))/\w'=w:=by
 go_enter Tryz.func280,Tryz.ntmps280
 go_wp2_with fail;go_ret;exact ⟨Z5 rfl,rfl⟩
def V2 (m:Z3) (who:Int):Int:=if ZK m && Vb m who then Ym m who else -1
def TQ (rs:List Z0) (n:Int):Bool:=Y4 rs && inB n 0 ((rs.length:Int)-1)
def Dl (lo hi:Int):Int:=(2:Int) ^ hi.toNat-2 ^ lo.toNat
def U4 (rs:List Z0) (n:Int):Int:=if TQ rs n=true then Dl (ZY (rs.take n.toNat)) (ZY (rs.take (n.toNat+1))) else -1
theorem C7 {rs:List Z0} {n:Int} (h:TQ rs n=true):U4 rs n=Dl (ZY (rs.take n.toNat)) (ZY (rs.take (n.toNat+1))):=by unfold U4;rw [if_pos h]
theorem Du {rs:List Z0} {n:Int} (h:TQ rs n=false):U4 rs n= -1:=by unfold U4;rw [h];rfl
theorem Dc {rs:List Z0} {n:Int} (h:Y4 rs=false):TQ rs n=false:=by unfold TQ;rw [h];rfl
theorem DU {rs:List Z0} {n:Int} (h:n<0\/rs.length<=n):TQ rs n=false:=by unfold TQ;rw [Vd (by omega)];simp
theorem PY {w:World} {v:Value} {rs:List Z0} (n:Int) (h:IsRooms w v rs) :
  Calls Tryz.prog 165 #[.agg #[v],.int .i64 n] w fun e w'=>e= .returned (.int .i64 (U4 rs n))/\Below w.heap.size w w':=by
 have Hv:=Z9 h
 obtain ⟨a,cap,rfl,hc,hm⟩:∃ a cap,v= .slice a rs.length cap/\rs.length<=cap/\cap<=9223372036854775807:=by obtain ⟨a,cap,rfl,hc,hm,_⟩:=h;exact ⟨a,cap,rfl,hc,hm⟩
 clear h;have Hb0:Hid (Below w.heap.size w (w.alloc (.cells #[.slice a rs.length cap] 26))):=Z9 ((Below.refl _ _).alloc (Nat.le_refl _) _);cases h1:Y4 rs
 ·have H2:=Z9 (Du (Dc (n:=n) h1))
  go_enter Tryz.func165,Tryz.ntmps165
  go_wp2_with fail;refine (Vt ((uh Hv).alloc _)).mono ?_;rintro e w1 ⟨rfl,hb⟩;have Hb:=Z9 hb;clear hb;go_wp2_with fail;go_ret;exact ⟨Zv (uh H2).symm,(uh Hb0).trans ((uh Hb).mono (by simp))⟩
 by_cases h2:n<0
 ·have H2:=Z9 (Du (DU (rs:=rs) (.inl h2)))
  go_enter Tryz.func165,Tryz.ntmps165
  go_wp2_with fail;refine (Vt ((uh Hv).alloc _)).mono ?_;rintro e w1 ⟨rfl,hb⟩;have Hb:=Z9 hb;clear hb;go_wp2_with fail;go_ret;exact ⟨Zv (uh H2).symm,(uh Hb0).trans ((uh Hb).mono (by simp))⟩
 by_cases h3:(rs.length:Int)<=n
 ·have H2:=Z9 (Du (DU (rs:=rs) (.inr h3)))
  go_enter Tryz.func165,Tryz.ntmps165
  go_wp2_with fail;refine (Vt ((uh Hv).alloc _)).mono ?_;rintro e w1 ⟨rfl,hb⟩
  have hbox:w1.cell? ⟨w.heap.size,0,none⟩=some (.slice a rs.length cap):=by rw [hb.cell (p:=⟨w.heap.size,0,none⟩) (by simp)];simp
  have Hb:=Z9 hb;clear hb;go_wp2_with fail;go_ret;exact ⟨Zv (uh H2).symm,(uh Hb0).trans ((uh Hb).mono (by simp))⟩
 have h4:TQ rs n=true:=by unfold TQ;rw [h1,Zj (by omega) (by omega)];rfl
 have H2:=Z9 (C7 h4);obtain ⟨r,rfl⟩:=Int.eq_ofNat_of_zero_le (show 0<=n by omega);have H1:=Z9 h1;have Ha:=Z9 (Rt h1);have hl3:rs.length<=3:=(Ze h1).2.1;have hb0:=Sd h1 r (by omega);have hb1:=Sd h1 (r+1) (by omega)
 go_enter Tryz.func165,Tryz.ntmps165
 go_wp2_with fail;refine (Vt ((uh Hv).alloc _)).mono ?_;rintro e w1 ⟨rfl,hb⟩
 have hbox:w1.cell? ⟨w.heap.size,0,none⟩=some (.slice a rs.length cap):=by rw [hb.cell (p:=⟨w.heap.size,0,none⟩) (by simp)];simp
 have k0:=cell_regrown hbox;have Hb:=Z9 hb;have Hw:=Z9 (((uh Hv).alloc _).below hb);clear hb h4;go_wp2_with fail;refine wp_region_quiet_below (by kernel_rfl) (by kernel_rfl) ?_
 repeat (go_big_quiet_step (first | exact Calls.regrown_of (SY (((uh Hw).below (below_regrown _ _ _)).taken (n:=r) (by omega)) ((uh Ha).taken _)) | exact Calls.regrown_of (SY (((uh Hw).below (below_regrown _ _ _)).taken (n:=r+1) (by omega)) ((uh Ha).taken _))))
 refine wpQuiet_nil ?_
 intro _ hw'
 obtain ⟨⟨dq,osq⟩,hw''⟩:=hw';subst hw'';rw [Int.toNat_natCast] at H2;generalize ZY (rs.take r)=s0 at *;generalize ZY (rs.take (r+1))=s1 at *;obtain ⟨x0,x1⟩:=hb0;obtain ⟨y0,y1⟩:=hb1;go_wp2_with fail
 go_quiet (fail)
 go_wp2_with fail;go_ret;refine ⟨Zv ?_,(uh Hb0).trans (((uh Hb).trans (Xr ((below_regrown _ _ _).mono (uh Hb).size) _)).mono (by simp))⟩;have p0:=Iz x0 x1;have p1:=Iz y0 y1;rw [uh H2,KW (x:=2 ^ s1.toNat) (by omega) (by omega),KW (x:=2 ^ s0.toNat) (by omega) (by omega),KW (x:=2 ^ s1.toNat-2 ^ s0.toNat) (by omega) (by omega)]
 rfl
theorem V1 {rs:List Z0} (h:rs.all Zq=true) {i:Nat} : ∀ d,i+d<=rs.length->ZY (rs.take i)<=ZY (rs.take (i+d))
 | 0,_=>Int.le_refl _
 | d+1,hd=>by
  have ih:=V1 h (i:=i) d (by omega);have hb:=Ny (QV h (j:=i+d) (by omega));rw [<-Nat.add_assoc,X9 rs (by omega)];omega
theorem Dn {rs:List Z0} {n:Int} (h:Xf rs n=true) {r:Nat} (hr:r<rs.length):WU rs n=r ↔ ZY (rs.take r)<=n/\n<ZY (rs.take (r+1)):=by
 have hb:=WA h;have ha:=(Ze hb.1).2.2.1
 have key:∀ d q:Nat,q+d=rs.length->(∀ j,j<q->ZY (rs.take (j+1))<=n)->ZY (rs.take (WU rs n))<=n/\n<ZY (rs.take (WU rs n+1)):=by
  intro d
  induction d with
  | zero=>intro q hq hl;have:=RP h (by omega) hl;omega
  | succ d ih=>
   intro q hq hl
   have hlt:=RP h (r:=q) (by omega) hl
   by_cases hc:n<ZY (rs.take (q+1))
   ·rw [My hlt hc hl]
    refine ⟨?_,hc⟩
    cases q with
    | zero=>simp [ZY];omega
    | succ q=>exact hl q (by omega)
   ·exact ih (q+1) (by omega) (Yn hl (by omega))
 constructor
 ·intro e;have:=key rs.length 0 (by omega) (fun j hj=>by omega);rwa [e] at this
 ·intro hx
  refine My hr hx.2 (fun j hj=> ?_);have:=V1 ha (i:=j+1) (r-(j+1)) (by omega);rw [show j+1+(r-(j+1))=r by omega] at this
  omega
theorem C0 {lo hi b:Int} (h0:0<=lo) (h1:lo<=hi) (h2:hi<=8) (hb0 : -1<=b) (hb1:b<=8):SQ (Dl lo hi) b=decide (lo<=b/\b<hi):=by
 have key:∀ b:Fin 10,∀ hi:Fin 9,∀ lo:Fin 9,lo.val<=hi.val->SQ (Dl lo.val hi.val) ((b.val:Int)-1)=decide ((lo.val:Int)<=(b.val:Int)-1/\(b.val:Int)-1<hi.val):=by decide +kernel
 have:=key ⟨(b+1).toNat,by omega⟩ ⟨hi.toNat,by omega⟩ ⟨lo.toNat,by omega⟩ (by show lo.toNat<=hi.toNat;omega);simp only [show ((lo.toNat:Nat):Int)=lo by omega,show ((hi.toNat:Nat):Int)=hi by omega,show (((b+1).toNat:Nat):Int)-1=b by omega] at this;exact this
def Lu (m:Z3):List Z6->Int
 | []=>0
 | e::q=>Ym m e.2+Lu m q
def V3 (m:Z3):List Int->Int
 | []=>0
 | x::q=>Ym m x+V3 m q
theorem DL (m:Z3) (a b:List Z6):Lu m (a++b)=Lu m a+Lu m b:=by
 induction a with
 | nil=>show Lu m b=0+Lu m b;omega
 | cons e a ih=>show Ym m e.2+Lu m (a++b)=Ym m e.2+Lu m a+Lu m b;omega
theorem C9 (m:Z3) (a b:List Int):V3 m (a++b)=V3 m a+V3 m b:=by
 induction a with
 | nil=>show V3 m b=0+V3 m b;omega
 | cons e a ih=>show Ym m e+V3 m (a++b)=Ym m e+V3 m a+V3 m b;omega
theorem Nr (m:Z3) (a:List Int) (x:Int):V3 m (a++[x])=V3 m a+Ym m x:=by rw [C9];show _+(Ym m x+0)=_;omega
theorem Dp (m:Z3):∀ a:List Int,0<=V3 m a/\V3 m a<=1024*a.length
 | []=>by simp [V3]
 | x::a=>by
  have ih:=Dp m a;have hw:=MP m x
  show 0<=Ym m x+V3 m a/\Ym m x+V3 m a<=1024*((a.length+1:Nat):Int)
  omega
theorem C8 (m:Z3) (q:List Z6) (e:Z6):Lu m (Vq q e)=Lu m q+Ym m e.2:=by
 have h:=DL m (q.take (XV e q)) (q.drop (XV e q));rw [List.take_append_drop] at h
 unfold Vq
 rw [DL,h]
 show _+(Ym m e.2+_)=_
 omega
theorem DW (m:Z3) (but:Int):∀ (q:List Z6) (n:Int),(∀ e ∈ q,e.2 ≠ but)->q.foldl (fun n e=>if e.2=but then n else n+Ym m e.2) n=n+Lu m q
 | [],n,_=>by show n=n+0;omega
 | e::q,n,h=>by
  have h0:=h e (by simp);have ih:=DW m but q (if e.2=but then n else n+Ym m e.2) (fun x hx=>h x (by simp [hx]));rw [List.foldl_cons,ih,if_neg h0]
  show _=n+(Ym m e.2+Lu m q)
  omega
theorem Dh (m:Z3) (b:Int):XD m b (-1)=Lu m (atV m.smiths b m.smiths.length):=by
 have:=DW m (-1) (atV m.smiths b m.smiths.length) 0 (fun e he=>by
  obtain ⟨i,_,_,_,rfl⟩:=(Yd m.smiths b e m.smiths.length).1 he
  show (i:Int) ≠ -1
  omega)
 unfold XD Vo
 omega
theorem Dk (b:Int) (s:Z4):atB b s=decide (s.2.1=b/\ZT s=true):=by
 unfold atB ZT
 rw [Bool.eq_iff_iff];simp only [Bool.and_eq_true,decide_eq_true_eq,beq_iff_eq];exact ⟨fun h=>⟨h.2,h.1⟩,fun h=>⟨h.2,h.1⟩⟩
theorem DX (m:Z3) (ss:List Z4) (b:Int):∀ k,V3 m (ZU (atB b) ss k)=Lu m (atV ss b k)
 | 0=>rfl
 | k+1=>by
  have ih:=DX m ss b k
  by_cases hat:(Z8 ss k).2.1=b/\ZT (Z8 ss k)=true
  ·rw [YH (by rw [Dk];exact decide_eq_true hat),Nr,Sb hat.1 hat.2,C8,ih]
  ·rw [Yc (by rw [Dk];exact decide_eq_false hat),O5 hat,ih]
theorem Mp (m:Z3) (b:Int):V3 m (ZU (atB b) m.smiths m.smiths.length)=XD m b (-1):=by rw [DX,Dh]
theorem Dg (m:Z3) {ws:List Int} {k:Nat} (h:k<ws.length):V3 m (ws.take (k+1))=V3 m (ws.take k)+Ym m (Z8 ws k):=by rw [NI h,Nr]
structure Wants (m:Z3):Prop where
 guilds:Zh m.guilds=true
 each:∀ i,i<m.smiths.length->(Z8 m.smiths i).1 ≠ 0->isB m.guilds (Z8 m.smiths i).2.2.2.2.1=true/\Yl (Z8 m.smiths i).2.2.2.2.2.1 (Z8 m.smiths i).2.2.2.2.2.2.1=true
theorem Loose.wants {m:Z3} (h:Loose m):Wants m:=by
 have hd:=h.head
 unfold YS at hd
 simp only [Bool.and_eq_true,decide_eq_true_eq] at hd;refine ⟨hd.2.1,fun i hi hs=> ?_⟩;obtain ⟨hp,hg,_⟩:=h.limits hi hs;have hgs:=hd.2.1;generalize Z8 m.smiths i=s at *;obtain ⟨st,be,rk,my,gu,lo,hi,hd,ca,ut,wk⟩:=s;obtain ⟨_,_,_,_,⟨g0,g5⟩,hpair,_⟩:=Zg hp;simp only at hg;exact ⟨by unfold isB;rw [hgs,Zj g0 (by omega)];rfl,hpair⟩
theorem DN (m:Z3) {k:Nat} (hk:k<m.smiths.length) (b:Int) (i:Nat):Z8 (T6 m (k:Int) b).smiths i=if i=k then Sa (Z8 m.smiths k) b else Z8 m.smiths i:=by
 unfold T6
 simp only [Int.toNat_natCast];exact ZH hk i
theorem Wants.with {m:Z3} (h:Wants m) {k:Nat} (hk:k<m.smiths.length) (hs:(Z8 m.smiths k).1 ≠ 0) (b:Int):Wants (T6 m (k:Int) b):=by
 refine ⟨h.guilds,fun i hi hne=> ?_⟩
 have hi':i<m.smiths.length:=by unfold T6 at hi;simpa using hi
 rw [DN m hk] at hne ⊢
 by_cases e:i=k
 ·rw [if_pos e];exact h.each k hk hs
 ·rw [if_neg e] at hne ⊢;exact h.each i hi' hne
def V4 (m:Z3) (b:Int):Bool:=WJ m.desks.length b && (Z8 m.desks b.toNat).1
def U3 (m:Z3) (bs:List Int):Int:=bs.foldl (fun n b=>if V4 m b then max n (XD m b (-1)) else n) 0
def U1 (m:Z3) (bs:List Int):Int:=bs.foldl (fun n b=>n+XD m b (-1)) 0
theorem Ef (m:Z3) (bs:List Int) (b:Int):U3 m (bs++[b])=if V4 m b then max (U3 m bs) (XD m b (-1)) else U3 m bs:=by unfold U3;rw [List.foldl_append];rfl
theorem Ek (m:Z3) (bs:List Int) (b:Int):U1 m (bs++[b])=U1 m bs+XD m b (-1):=by unfold U1;rw [List.foldl_append];rfl
theorem DD (m:Z3) (hl:m.smiths.length<=12):∀ (bs:List Int) (n:Int),0<=n->n<=12288->0<=bs.foldl (fun n b=>if V4 m b then max n (XD m b (-1)) else n) n/\bs.foldl (fun n b=>if V4 m b then max n (XD m b (-1)) else n) n<=12288
 | [],n,h0,h1=>⟨h0,h1⟩
 | b::bs,n,h0,h1=>by
  have hu:=MO m b (-1)
  refine DD m hl bs (if V4 m b then max n (XD m b (-1)) else n) ?_ ?_<;>split<;>omega
theorem C6 (m:Z3) (hl:m.smiths.length<=12) (bs:List Int):0<=U3 m bs/\U3 m bs<=12288:=DD m hl bs 0 (by omega) (by omega)
theorem DO (m:Z3) (hl:m.smiths.length<=12):∀ (bs:List Int) (n:Int),0<=n->0<=bs.foldl (fun n b=>n+XD m b (-1)) n/\bs.foldl (fun n b=>n+XD m b (-1)) n<=n+12288*bs.length
 | [],n,h0=>⟨h0,by simp⟩
 | b::bs,n,h0=>by
  have hu:=MO m b (-1);have ih:=DO m hl bs (n+XD m b (-1)) (by omega);refine ⟨ih.1,Int.le_trans ih.2 ?_⟩;simp only [List.length_cons,Int.natCast_add,Int.natCast_one]
  omega
theorem Db (m:Z3) (hl:m.smiths.length<=12) (bs:List Int):0<=U1 m bs/\U1 m bs<=12288*bs.length:=by
 have:=DO m hl bs 0 (by omega)
 unfold U1;omega
theorem DG {m:Z3} (h:Sane m) {r:Nat} (hr:r<m.rooms.length) {b:Nat} (hb:b<8):SQ (U4 m.rooms (r:Int)) (b:Int)=true ↔ b<m.desks.length/\(WU m.rooms b:Int)=(r:Int):=by
 have hR:TQ m.rooms (r:Int)=true:=by unfold TQ;rw [h.hall,Zj (by omega) (by omega)];rfl
 have ha:=(Ze h.hall).2.2.1;have h0:=Sd h.hall r (by omega);have h1:=Sd h.hall (r+1) (by omega);have hm:=V1 ha (i:=r) 1 (by omega);have hm0:=V1 ha (i:=r+1) (m.rooms.length-(r+1)) (by omega);rw [show r+1+(m.rooms.length-(r+1))=m.rooms.length by omega,List.take_length] at hm0;have h8:=h.eight;have hd:=h.desks;rw [C7 hR,Int.toNat_natCast,C0 h0.1 hm (by omega) (by omega) (by omega),decide_eq_true_iff]
 constructor
 ·intro hx
  have hbd:b<m.desks.length:=by omega
  exact ⟨hbd,by rw [(Dn (h.bench hbd) hr).2 hx]⟩
 ·rintro ⟨hbd,e⟩
  exact (Dn (h.bench hbd) hr).1 (by omega)
theorem DV {m:Z3} (h:Sane m) {r:Nat} (hr:r<m.rooms.length):∀ k:Nat,k<=m.desks.length->U3 m (UW (U4 m.rooms (r:Int)) k)=(Y2 m r k).1/\U1 m (UW (U4 m.rooms (r:Int)) k)=(Y2 m r k).2
 | 0,_=>⟨rfl,rfl⟩
 | k+1,hk=>by
  have ih:=DV h hr k (by omega);have h8:=h.eight;have hs:=DG h hr (b:=k) (by omega)
  by_cases e:(WU m.rooms k:Int)=(r:Int)
  ·rw [SD (hs.2 ⟨by omega,e⟩),Ef,Ek,ih.1,ih.2]
   have ho:V4 m (k:Int)=(Z8 m.desks k).1:=by
    unfold V4 WJ
    rw [Int.toNat_natCast,decide_eq_true (show (0:Int)<=(k:Int) by omega),decide_eq_true (show (k:Int)<(m.desks.length:Int) by omega)]
    simp
   rw [ho]
   show _=(if _ then _ else _:Int × Int).1/\_=(if _ then _ else _:Int × Int).2
   rw [if_pos e];exact ⟨rfl,rfl⟩
  ·have hn:SQ (U4 m.rooms (r:Int)) (k:Int)=false:=by
    cases hc:SQ (U4 m.rooms (r:Int)) (k:Int)
    ·rfl
    ·exact absurd (hs.1 hc).2 e
   rw [Tu hn]
   show _=(if _ then _ else _:Int × Int).1/\_=(if _ then _ else _:Int × Int).2
   rw [if_neg e];exact ih
theorem Df {m:Z3} (h:Sane m) {r:Nat} (hr:r<m.rooms.length):U3 m (L5 (U4 m.rooms (r:Int)))=(Y2 m r m.desks.length).1/\U1 m (L5 (U4 m.rooms (r:Int)))=(Y2 m r m.desks.length).2:=by
 have key:∀ d k:Nat,m.desks.length+d=k->k<=8->UW (U4 m.rooms (r:Int)) k=UW (U4 m.rooms (r:Int)) m.desks.length:=by
  intro d
  induction d with
  | zero=>intro k hk _;rw [<-hk];rfl
  | succ d ih=>
   intro k hk h8
   obtain ⟨j,rfl⟩:∃ j,k=j+1:=⟨k-1,by omega⟩
   have hn:SQ (U4 m.rooms (r:Int)) (j:Int)=false:=by
    cases hc:SQ (U4 m.rooms (r:Int)) (j:Int)
    ·rfl
    ·have:=((DG h hr (b:=j) (by omega)).1 hc).1;omega
   rw [Tu hn];exact ih j (by omega) (by omega)
 have h8:=h.eight;have e:=key (8-m.desks.length) 8 (by omega) (by omega)
 unfold L5
 rw [e];exact DV h hr m.desks.length (Nat.le_refl _)
def NL (m:Z3):Int:=if ZK m then Ng m else -1
def V6 (m:Z3) (who b:Int):Int:=if ZK m && (Vb m who && V4 m b) then Yp m who b else -1
structure Bx (w W:World) (R:Nat) (a0:Option Addr) (p0:Nat) (a1:Option Addr) (p1:Nat) (a2:Option Addr) (p2:Nat) (a3:Option Addr) (p3:Nat) (a4:Option Addr) (p4:Nat) (m:Z3):Prop where
 smy:Smy W (.slice a0 m.rooms.length p0) (.slice a1 m.guilds.length p1) (.slice a2 m.smiths.length p2) (.slice a3 m.desks.length p3) (.slice a4 m.paces.length p4) m
 blk:Blk W R 32 #[.slice a0 m.rooms.length p0,.slice a1 m.guilds.length p1,.slice a2 m.smiths.length p2,.slice a3 m.desks.length p3,.slice a4 m.paces.length p4,.int .i64 m.now]
 bb:Below w.heap.size w W
section
variable {w W X : World} {R : Nat} {a0 a1 a2 a3 a4 : Option Addr} {p0 p1 p2 p3 p4 : Nat} {m : Z3}
theorem Bx.next (h:Bx w W R a0 p0 a1 p1 a2 p2 a3 p3 a4 p4 m) (hb:Below W.heap.size W X):Bx w X R a0 p0 a1 p1 a2 p2 a3 p3 a4 p4 m:=⟨h.smy.below hb,h.blk.below hb h.blk.lt,h.bb.trans (hb.mono h.bb.size)⟩
theorem Bx.alloc (h:Bx w W R a0 p0 a1 p1 a2 p2 a3 p3 a4 p4 m) (o:Obj):Bx w (W.alloc o) R a0 p0 a1 p1 a2 p2 a3 p3 a4 p4 m:=h.next ((Below.refl _ _).alloc (Nat.le_refl _) _)
theorem Bx.drew (h:Bx w W R a0 p0 a1 p1 a2 p2 a3 p3 a4 p4 m):Bx w W.drew R a0 p0 a1 p1 a2 p2 a3 p3 a4 p4 m:=h.next (Below.refl _ _).drew
theorem Bx.cells (h:Bx w W R a0 p0 a1 p1 a2 p2 a3 p3 a4 p4 m):W.cell? ⟨R,0,none⟩=some (.slice a0 m.rooms.length p0)/\W.cell? ⟨R,1,none⟩=some (.slice a1 m.guilds.length p1)/\W.cell? ⟨R,2,none⟩=some (.slice a2 m.smiths.length p2)/\W.cell? ⟨R,3,none⟩=some (.slice a3 m.desks.length p3)/\W.cell? ⟨R,4,none⟩=some (.slice a4 m.paces.length p4)/\W.cell? ⟨R,5,none⟩=some (.int .i64 m.now):=h.blk.c6
end
theorem Bx.new {w:World} {v0 v1 v2 v3 v4:Value} {m:Z3} (h:Smy w v0 v1 v2 v3 v4 m):∃ a0 p0 a1 p1 a2 p2 a3 p3 a4 p4,v0= .slice a0 m.rooms.length p0/\v1= .slice a1 m.guilds.length p1/\v2= .slice a2 m.smiths.length p2/\v3= .slice a3 m.desks.length p3/\v4= .slice a4 m.paces.length p4/\Bx w (w.alloc (.cells #[.slice a0 m.rooms.length p0,.slice a1 m.guilds.length p1,.slice a2 m.smiths.length p2,.slice a3 m.desks.length p3,.slice a4 m.paces.length p4,.int .i64 m.now] 32)) w.heap.size a0 p0 a1 p1 a2 p2 a3 p3 a4 p4 m:=by
 obtain ⟨a0,p0,a1,p1,a2,p2,a3,p3,a4,p4,rfl,rfl,rfl,rfl,rfl,_⟩:=h.five;exact ⟨a0,p0,a1,p1,a2,p2,a3,p3,a4,p4,rfl,rfl,rfl,rfl,rfl,h.alloc _,Blk.new _ _ _,(Below.refl _ _).alloc (Nat.le_refl _) _⟩
theorem Bx.put {w W:World} {v0 v1 v2 v3 v4:Value} {m:Z3} (h:Smy W v0 v1 v2 v3 v4 m) (hb:Below w.heap.size w W):∃ a0 p0 a1 p1 a2 p2 a3 p3 a4 p4,v0= .slice a0 m.rooms.length p0/\v1= .slice a1 m.guilds.length p1/\v2= .slice a2 m.smiths.length p2/\v3= .slice a3 m.desks.length p3/\v4= .slice a4 m.paces.length p4/\Bx w (W.alloc (.cells #[.slice a0 m.rooms.length p0,.slice a1 m.guilds.length p1,.slice a2 m.smiths.length p2,.slice a3 m.desks.length p3,.slice a4 m.paces.length p4,.int .i64 m.now] 32)) W.heap.size a0 p0 a1 p1 a2 p2 a3 p3 a4 p4 m:=by
 obtain ⟨a0,p0,a1,p1,a2,p2,a3,p3,a4,p4,rfl,rfl,rfl,rfl,rfl,_⟩:=h.five;exact ⟨a0,p0,a1,p1,a2,p2,a3,p3,a4,p4,rfl,rfl,rfl,rfl,rfl,h.alloc _,Blk.new _ _ _,hb.trans (((Below.refl _ _).alloc (Nat.le_refl _) _).mono hb.size)⟩
end Go.Proofs.YtnponpamjddpjaaGreat
namespace Go.Proofs.YtnponpamjddpjaaGreat
open Go.ChangeShapes Go.WideShapes Go.ChangeAt Go.RowKit Go.Sort
set_option linter.unusedVariables false
set_option maxRecDepth 100000
theorem DM {w:World} {v0 v1 v2 v3 v4:Value} {m:Z3} {k:Nat} (h:Smy w v0 v1 v2 v3 v4 m) (hL:Wants m) (hk:k<m.smiths.length) (hs:(Z8 m.smiths k).1 ≠ 0):Calls Tryz.prog 63 #[.agg #[v0,v1,v2,v3,v4,.int .i64 m.now],.int .i64 (k:Int)] w fun e w'=>e= .returned (.int .i64 (Ym m (k:Int)))/\Below w.heap.size w w':=by
 have hw:Ym m (k:Int)=Qi m.guilds (Z8 m.smiths k):=rfl;rw [hw];clear hw;have Hg0:=Z9 h.guilds;obtain ⟨a0,p0,rfl,_,_⟩:=IsRooms.shape h.rooms;obtain ⟨a1,p1,rfl,_,_⟩:=IsRec.shape h.guilds;obtain ⟨a2,p2,rfl,hc2,hm2,r2⟩:=h.smiths;obtain ⟨a3,p3,rfl,_,_⟩:=IsRec.shape h.desks;obtain ⟨a4,p4,rfl,_,_⟩:=IsRec.shape h.paces;clear h;obtain ⟨hg1,hpair⟩:=hL.each k hk hs
 rcases r2 with e0 | ⟨sb,off,rfl,hbw,hcl⟩
 ·rw [e0] at hk;simp at hk
 have hk1:(k:Int)<(m.smiths.length:Int):=by omega
 obtain ⟨d0,d1,d2,d3,d4,d5,d6,d7,d8,d9,d10⟩:=ZD hcl hk;clear hcl hs hL;generalize Z8 m.smiths k=ss at *;obtain ⟨st,be,rk,my,gu,lo,hi,hd,ca,ut,wk⟩:=ss;simp only at d0 d1 d2 d3 d4 d5 d6 d7 d8 d9 d10 hg1 hpair;obtain ⟨nr,hnr⟩:∃ nr,QC (bnd m.guilds gu) lo hi=nr:=⟨_,rfl⟩;have HW:Hid (Oh m.guilds gu lo hi=nr):=Z9 (by rw [<-hnr];exact DZ hg1 hpair);have HX:Hid (Qi m.guilds (st,be,rk,my,gu,lo,hi,hd,ca,ut,wk)=min (max ut nr.1) nr.2):=Z9 (by rw [<-hnr];rfl);rw [uh HX];clear hpair hg1 HX hnr;obtain ⟨nl,nh⟩:=nr
 dsimp only
 have hne:sb ≠ w.heap.size:=Nat.ne_of_lt hbw
 have hbw2:sb<w.heap.size+1:=by omega
 have BB:Hid (Below w.heap.size w ((w.alloc (.cells #[.slice a0 m.rooms.length p0,.slice a1 m.guilds.length p1,.slice (some ⟨sb,off,none⟩) m.smiths.length p2,.slice a3 m.desks.length p3,.slice a4 m.paces.length p4,.int .i64 m.now] 32)).alloc (.cells #[.int .i64 st,.int .i64 be,.int .i64 rk,.int .i64 my,.int .i64 gu,.int .i64 lo,.int .i64 hi,.int .i64 hd,.int .i64 ca,.int .i64 ut,.int .i64 wk] 41))):=Z9 (((Below.refl _ _).alloc (Nat.le_refl _) _).alloc (by simp) _)
 have ks:Hid (Blk ((w.alloc (.cells #[.slice a0 m.rooms.length p0,.slice a1 m.guilds.length p1,.slice (some ⟨sb,off,none⟩) m.smiths.length p2,.slice a3 m.desks.length p3,.slice a4 m.paces.length p4,.int .i64 m.now] 32)).alloc (.cells #[.int .i64 st,.int .i64 be,.int .i64 rk,.int .i64 my,.int .i64 gu,.int .i64 lo,.int .i64 hi,.int .i64 hd,.int .i64 ca,.int .i64 ut,.int .i64 wk] 41)) (w.heap.size+1) 41 #[.int .i64 st,.int .i64 be,.int .i64 rk,.int .i64 my,.int .i64 gu,.int .i64 lo,.int .i64 hi,.int .i64 hd,.int .i64 ca,.int .i64 ut,.int .i64 wk]):=Z9 (by
  have k9:=Blk.new (w.alloc (.cells #[.slice a0 m.rooms.length p0,.slice a1 m.guilds.length p1,.slice (some ⟨sb,off,none⟩) m.smiths.length p2,.slice a3 m.desks.length p3,.slice a4 m.paces.length p4,.int .i64 m.now] 32)) 41 #[.int .i64 st,.int .i64 be,.int .i64 rk,.int .i64 my,.int .i64 gu,.int .i64 lo,.int .i64 hi,.int .i64 hd,.int .i64 ca,.int .i64 ut,.int .i64 wk];rw [World.size_alloc] at k9;exact k9)
 have kb:Hid (Blk ((w.alloc (.cells #[.slice a0 m.rooms.length p0,.slice a1 m.guilds.length p1,.slice (some ⟨sb,off,none⟩) m.smiths.length p2,.slice a3 m.desks.length p3,.slice a4 m.paces.length p4,.int .i64 m.now] 32)).alloc (.cells #[.int .i64 st,.int .i64 be,.int .i64 rk,.int .i64 my,.int .i64 gu,.int .i64 lo,.int .i64 hi,.int .i64 hd,.int .i64 ca,.int .i64 ut,.int .i64 wk] 41)) w.heap.size 32 #[.slice a0 m.rooms.length p0,.slice a1 m.guilds.length p1,.slice (some ⟨sb,off,none⟩) m.smiths.length p2,.slice a3 m.desks.length p3,.slice a4 m.paces.length p4,.int .i64 m.now]):=Z9 ((Blk.new w _ _).alloc _);have Hg2:=Z9 ((uh Hg0).below (uh BB))
 go_enter Tryz.func63,Tryz.ntmps63
 go_upto_region 2 with fail
 generalize (w.alloc (.cells #[.slice a0 m.rooms.length p0,.slice a1 m.guilds.length p1,.slice (some ⟨sb,off,none⟩) m.smiths.length p2,.slice a3 m.desks.length p3,.slice a4 m.paces.length p4,.int .i64 m.now] 32)).alloc (.cells #[.int .i64 st,.int .i64 be,.int .i64 rk,.int .i64 my,.int .i64 gu,.int .i64 lo,.int .i64 hi,.int .i64 hd,.int .i64 ca,.int .i64 ut,.int .i64 wk] 41)=W at *;clear d0 d1 d2 d3 d4 d5 d6 d7 d8 d9 d10;have c1:=(uh kb).cell (i:=1) (v:= .slice a1 m.guilds.length p1) rfl;have s4:=(uh ks).cell (i:=4) (v:= .int .i64 gu) rfl;have s5:=(uh ks).cell (i:=5) (v:= .int .i64 lo) rfl;have s6:=(uh ks).cell (i:=6) (v:= .int .i64 hi) rfl;go_wp2_with fail;refine (Ed gu lo hi (uh Hg2)).mono ?_;rw [uh HW];rintro e w1 ⟨rfl,hb⟩;replace ks:=bl ks hb;replace BB:=bt BB hb;clear hb c1 s4 s5 s6 HW;have s9:=(uh ks).cell (i:=9) (v:= .int .i64 ut) rfl
 go_wp2_with (go_at_call 127;refine (Qx _ _ _ _).mono ?_;rintro e w' ⟨rfl,h9⟩;subst w')
 go_ret;exact ⟨rfl,uh BB⟩
theorem Dw {w:World} {v0 v1 v2 v3 v4:Value} {m:Z3} {k:Nat} (h:Smy w v0 v1 v2 v3 v4 m) (hL:Loose m) (hk:k<m.smiths.length) (hs:(Z8 m.smiths k).1 ≠ 0):Calls Tryz.prog 63 #[.agg #[v0,v1,v2,v3,v4,.int .i64 m.now],.int .i64 (k:Int)] w fun e w'=>e= .returned (.int .i64 (Ym m (k:Int)))/\Below w.heap.size w w':=DM h hL.wants hk hs
theorem Ej {m:Z3} (who:Int):Vb m who=(WJ m.smiths.length who && !((Z8 m.smiths who.toNat).1 ==0)):=by unfold Vb;rw [EF]
theorem Ec {w:World} {v0 v1 v2 v3 v4:Value} {m:Z3} {who q:Int} (hq:V2 m who=q) (h:Smy w v0 v1 v2 v3 v4 m):Calls Tryz.prog 14 #[.agg #[v0,v1,v2,v3,v4,.int .i64 m.now],.int .i64 who] w fun e w'=>e= .returned (.int .i64 q)/\Below w.heap.size w w':=by
 have Hq:=Z9 hq;clear hq;have Hv:=Z9 (h.alloc (.cells #[v0,v1,v2,v3,v4,.int .i64 m.now] 32));obtain ⟨a0,p0,a1,p1,a2,p2,a3,p3,a4,p4,rfl,rfl,rfl,rfl,rfl,_,_,_,_,_,_,_,_,_,_⟩:=h.five;clear h;have kb:Hid (Blk (w.alloc (.cells #[.slice a0 m.rooms.length p0,.slice a1 m.guilds.length p1,.slice a2 m.smiths.length p2,.slice a3 m.desks.length p3,.slice a4 m.paces.length p4,.int .i64 m.now] 32)) w.heap.size 32 #[.slice a0 m.rooms.length p0,.slice a1 m.guilds.length p1,.slice a2 m.smiths.length p2,.slice a3 m.desks.length p3,.slice a4 m.paces.length p4,.int .i64 m.now]):=Z9 (Blk.new w _ _);have BB:Hid (Below w.heap.size w (w.alloc (.cells #[.slice a0 m.rooms.length p0,.slice a1 m.guilds.length p1,.slice a2 m.smiths.length p2,.slice a3 m.desks.length p3,.slice a4 m.paces.length p4,.int .i64 m.now] 32))):=Z9 ((Below.refl _ _).alloc (Nat.le_refl _) _);obtain ⟨ok,hok⟩:∃ q,ZK m=q:=⟨_,rfl⟩;have Hok:=Z9 hok;clear hok
 go_enter Tryz.func14,Tryz.ntmps14
 go_wp2_with fail;generalize w.alloc (.cells #[.slice a0 m.rooms.length p0,.slice a1 m.guilds.length p1,.slice a2 m.smiths.length p2,.slice a3 m.desks.length p3,.slice a4 m.paces.length p4,.int .i64 m.now] 32)=W at *;refine (Pw _ _ _ _ _ _ _ _ (uh Hok) (uh Hv)).mono ?_;rintro e w1 ⟨rfl,hb⟩;replace Hv:=Z9 ((uh Hv).below hb);replace kb:=bl kb hb;replace BB:=bt BB hb;clear hb;cases ok
 ·obtain rfl:q= -1:=by rw [<-uh Hq];unfold V2;rw [uh Hok];rfl
  go_wp2_with fail;go_ret;exact ⟨rfl,uh BB⟩
 obtain ⟨c0,c1,c2,c3,c4,c5⟩:=(uh kb).c6;go_wp2_with fail;refine (VS _ _ _ _ _ _ _ _ _ _ _ _ _ _ _ _ _).mono ?_;rintro e w2 ⟨rfl,hb⟩;replace Hv:=Z9 ((uh Hv).below hb);replace kb:=bl kb hb;replace BB:=bt BB hb;clear hb c0 c1 c2 c3 c4 c5;obtain ⟨qh,hqh⟩:∃ q,WJ m.smiths.length who=q:=⟨_,rfl⟩;have Hh:=Z9 hqh;clear hqh;go_wp2_with fail;refine (DP _ _ _ who _).mono ?_;rw [uh Hh];rintro e w3 ⟨rfl,h9⟩;subst w3;cases qh
 ·obtain rfl:q= -1:=by rw [<-uh Hq];unfold V2;rw [Ej,uh Hh];simp
  go_wp2_with fail;go_ret;exact ⟨rfl,uh BB⟩
 have hwb:0<=who/\who<(m.smiths.length:Int):=by have:=uh Hh;unfold WJ at this;simpa using this
 obtain ⟨k,rfl⟩:∃ k:Nat,who=k:=⟨who.toNat,by omega⟩
 have hk:k<m.smiths.length:=by omega
 have hk1:(k:Int)<(m.smiths.length:Int):=by omega
 obtain ⟨_,_,hse,_,_,r2⟩:=(uh Hv).smiths;cases hse
 rcases r2 with e0 | ⟨sb,off,rfl,hbw,hcl⟩
 ·rw [e0] at hk;simp at hk
 obtain ⟨d0,d1,d2,d3,d4,d5,d6,d7,d8,d9,d10⟩:=ZD hcl hk;have c2:=(uh kb).cell (i:=2) (v:= .slice (some ⟨sb,off,none⟩) m.smiths.length p2) rfl
 have HS:Hid (((Z8 m.smiths k).1 ≠ 0->q=Ym m (k:Int))/\((Z8 m.smiths k).1=0->q= -1)):=Z9 ⟨fun hne=>by
   rw [<-uh Hq];unfold V2;rw [uh Hok,Ej,uh Hh,Int.toNat_natCast];simp [hne],fun he=>by
   rw [<-uh Hq];unfold V2;rw [Ej,Int.toNat_natCast,he];simp⟩
 have HW:=Z9 (fun (hne:(Z8 m.smiths k).1 ≠ 0) (X:World) (hX:Below w2.heap.size w2 X)=>Dw ((uh Hv).below hX) (ZO (uh Hok)) hk hne);clear hcl;generalize Z8 m.smiths k=ss at *;obtain ⟨st,be,rk,my,gu,lo,hi,hd,ca,ut,wk⟩:=ss;simp only at d0 d1 d2 d3 d4 d5 d6 d7 d8 d9 d10;go_wp2_with fail;refine (WB st be rk my gu lo hi hd ca ut wk _).mono ?_;rintro e w4 ⟨rfl,hb⟩;have HB4:=Z9 hb;replace kb:=bl kb hb;replace BB:=bt BB hb;clear hb c2 d0 d1 d2 d3 d4 d5 d6 d7 d8 d9 d10
 by_cases hst:st=0
 ·subst hst
  obtain rfl:q= -1:=(uh HS).2 rfl;go_wp2_with fail;go_ret;exact ⟨rfl,uh BB⟩
 have n0:(st ==0)=false:=by simpa using hst
 rw [n0];obtain rfl:q=Ym m (k:Int):=(uh HS).1 hst;obtain ⟨c0,c1,c2,c3,c4,c5⟩:=(uh kb).c6;go_wp2_with fail;refine (uh HW hst _ (uh HB4)).mono ?_;rintro e w5 ⟨rfl,hb⟩;replace BB:=bt BB hb;clear hb c0 c1 c2 c3 c4 c5;go_wp2_with fail;go_ret;exact ⟨rfl,uh BB⟩
set_option maxRecDepth 100000
theorem Eh {w:World} {v0 v1 v2 v3 v4:Value} {m:Z3} {b q:Int} (hq:XD m b (-1)=q) (h:Smy w v0 v1 v2 v3 v4 m) (hW:Wants m) (hl:m.smiths.length<=12):Calls Tryz.prog 58 #[.agg #[v0,v1,v2,v3,v4,.int .i64 m.now],.int .i64 b] w fun e w'=>e= .returned (.int .i64 q)/\Below w.heap.size w w':=by
 have Hq:=Z9 hq;clear hq;have HW:=Z9 hW;clear hW;obtain ⟨a0,p0,a1,p1,a2,p2,a3,p3,a4,p4,rfl,rfl,rfl,rfl,rfl,K⟩:=Bx.new h;clear h
 go_enter Tryz.func58,Tryz.ntmps58
 go_upto_region 2 with fail
 generalize w.alloc (.cells #[.slice a0 m.rooms.length p0,.slice a1 m.guilds.length p1,.slice a2 m.smiths.length p2,.slice a3 m.desks.length p3,.slice a4 m.paces.length p4,.int .i64 m.now] 32)=W at *;obtain ⟨c0,c1,c2,c3,c4,c5⟩:=K.cells;go_wp2_with fail;refine (Rr b K.smy (by omega)).mono ?_;rintro e w1 ⟨vn,rfl,hn,hb⟩;obtain ⟨na,nc,rfl⟩:=RecAt.shape hn;have HN:=Z9 hn;replace K:=K.next hb;clear hb hn c0 c1 c2 c3 c4 c5;have Hwh:=Z9 (fun k hk=>GO (m:=m) (b:=b) (k:=k) hk);have Hat:=Z9 (fun x hx=>(Xc (atB b) m.smiths x m.smiths.length).1 hx);have hwl:=Wm (atB b) m.smiths m.smiths.length;rw [<-Mp] at Hq;generalize ZU (atB b) m.smiths m.smiths.length=ws at *;go_wp2_with fail
 go_loopw [5,12] (fun u i wr=> ∃ k:Nat,k<=ws.length/\i= .int .i64 k/\u= .int .i64 (V3 m (ws.take k))/\Bx w wr w.heap.size a0 p0 a1 p1 a2 p2 a3 p3 a4 p4 m/\Below w1.heap.size w1 wr) (fun _ i _=>ws.length-(intOf i).toNat)
 case atStart=>exact ⟨0,Nat.zero_le _,rfl,rfl,K,Below.refl _ _⟩
 case round=>
  obtain ⟨k,hk,rfl,rfl,hK,hb0⟩:=hrel;clear K;have K:=hK;have BB:=Z9 hb0;clear hK hb0;have hub:=Dp m (ws.take k)
  have htl:(ws.take k).length<=ws.length:=by simp;omega
  by_cases hlt:k<ws.length
  ·have hlt1:(k:Int)<(ws.length:Int):=by omega
   obtain ⟨g,hga,_,hgl,hcl,_⟩:=RecAt.view YJ (by omega) (uh HN) rfl (by omega);cases hga;have z0:=hcl k hlt 0 _ rfl;simp only [Nat.mul_one,Nat.add_zero] at z0;have hgw:g<w1.heap.size:=hgl;rw [<-(uh BB).cell (p:=⟨g,k,none⟩) hgw] at z0;obtain ⟨i,hi,hiw⟩:=uh Hwh k hlt;obtain ⟨_,_,hi2,hat⟩:=uh Hat _ (Tr hlt)
   have hpi:(Z8 m.smiths i).1 ≠ 0:=by
    rw [hiw] at hi2;obtain rfl:=Int.ofNat.inj hi2
    intro e
    unfold atB at hat
    rw [e] at hat
    simp at hat
   clear hcl hi2 hat;have HS:Hid (V3 m (ws.take (k+1))=V3 m (ws.take k)+Ym m (i:Int)):=Z9 (by rw [Dg m hlt,hiw]);rw [hiw] at z0;have hwb:=MP m (i:Int);have HC:=Z9 (fun (X:World) (hX:Smy X (.slice a0 m.rooms.length p0) (.slice a1 m.guilds.length p1) (.slice a2 m.smiths.length p2) (.slice a3 m.desks.length p3) (.slice a4 m.paces.length p4) m)=>DM hX (uh HW) hi hpi);generalize V3 m (ws.take k)=us at *;generalize Ym m (i:Int)=wa at *;have hgr:g<wr.heap.size:=Nat.lt_of_lt_of_le hgw (uh BB).size;obtain ⟨c0,c1,c2,c3,c4,c5⟩:=K.cells;go_wp2_with fail;refine (uh HC _ K.smy).mono ?_;rintro e w2 ⟨rfl,hb⟩;replace K:=K.next hb;replace BB:=bt BB hb;clear hb c0 c1 c2 c3 c4 c5 z0
   have hlen12:(ws.length:Int)<=12:=by omega
   go_wp2_with fail
   go_roundw
   case rel=>exact ⟨k+1,by omega,by go_num,by rw [uh HS],K,uh BB⟩
   case measure=>simp [intOf];omega
  ·obtain rfl:k=ws.length:=by omega
   rw [List.take_length] at *;obtain rfl:q=V3 m ws:=(uh Hq).symm;go_wp2_with fail;go_ret;exact ⟨rfl,K.bb⟩
theorem Ep {w:World} {v0 v1 v2 v3 v4:Value} {m:Z3} {b:Int} {q:Bool} (hq:V4 m b=q) (h:Smy w v0 v1 v2 v3 v4 m):Calls Tryz.prog 103 #[.agg #[v0,v1,v2,v3,v4,.int .i64 m.now],.int .i64 b] w fun e w'=>e= .returned (.bool q)/\Below w.heap.size w w':=by
 have Hq:=Z9 hq;clear hq;obtain ⟨a0,p0,a1,p1,a2,p2,a3,p3,a4,p4,rfl,rfl,rfl,rfl,rfl,K⟩:=Bx.new h;clear h
 go_enter Tryz.func103,Tryz.ntmps103
 go_wp2_with fail;generalize w.alloc (.cells #[.slice a0 m.rooms.length p0,.slice a1 m.guilds.length p1,.slice a2 m.smiths.length p2,.slice a3 m.desks.length p3,.slice a4 m.paces.length p4,.int .i64 m.now] 32)=W at *;refine (Lj _ _ _ _ _ _ _ _ _ _ _ _ _ _ _ _ _).mono ?_;rintro e w2 ⟨rfl,hb⟩;replace K:=K.next hb;clear hb;obtain ⟨qh,hqh⟩:∃ q,WJ m.desks.length b=q:=⟨_,rfl⟩;have Hh:=Z9 hqh;clear hqh;go_wp2_with fail;refine (Q8 _ _ _ b _).mono ?_;rw [uh Hh];rintro e w3 ⟨rfl,h9⟩;subst w3;cases qh
 ·obtain rfl:q=false:=by rw [<-uh Hq];unfold V4;rw [uh Hh];rfl
  go_wp2_with fail;go_ret;exact ⟨rfl,K.bb⟩
 have hbb:0<=b/\b<(m.desks.length:Int):=by have:=uh Hh;unfold WJ at this;simpa using this
 obtain ⟨k,rfl⟩:∃ k:Nat,b=k:=⟨b.toNat,by omega⟩
 have hk:k<m.desks.length:=by omega
 have hk1:(k:Int)<(m.desks.length:Int):=by omega
 obtain ⟨_,_,hde,_,_,r3⟩:=K.smy.desks;cases hde
 rcases r3 with e0 | ⟨db,off,rfl,hbw,hcl⟩
 ·rw [e0] at hk;simp at hk
 obtain ⟨d0,d1,d2⟩:=Zk hcl hk
 have hq2:(Z8 m.desks k).1=q:=by rw [<-uh Hq];unfold V4;rw [uh Hh,Int.toNat_natCast];rfl
 clear hcl Hq;generalize Z8 m.desks k=dd at *;obtain ⟨op,wo,mk⟩:=dd;simp only at d0 d1 d2 hq2;subst hq2;obtain ⟨c0,c1,c2,c3,c4,c5⟩:=K.cells;go_wp2_with fail;refine (Px op wo mk _).mono ?_;rintro e w4 ⟨rfl,hb⟩;replace K:=K.next hb;clear hb c0 c1 c2 c3 c4 c5 d0 d1 d2;go_wp2_with fail;go_ret;exact ⟨rfl,K.bb⟩
end Go.Proofs.YtnponpamjddpjaaGreat
