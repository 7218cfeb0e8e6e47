/- Part 9 of what the proof rests on. No condition but those that a theorem names. -/
import Derived.Test.YtjhijildaceadaaGreatDoorXg08
import Derived.Laws.StructEq
set_option maxHeartbeats 8000000
set_option maxRecDepth 100000
namespace Go.Proofs.YtjhijildaceadaaGreatDoor
open Go.ChangeShapes Go.WideShapes Go.ChangeAt Go.RowKit Go.Sort
set_option linter.unusedVariables false
theorem LJ {m:Z4} (h:Loose m) (k:Nat) (hk:k<=m.desks.length):Loose (Zo m k):=by
 obtain ⟨e1,e2,e3,e4,e5,e6⟩:=ZQ m k
 have hd:=fun j=>VJ m j k hk
 have hopen:∀ j,(Z8 (Zo m k).desks j).1=(Z8 m.desks j).1:=by
  intro j
  rw [hd j]
  split
  ·unfold Xs;split<;>rfl
  ·rfl
 have hmark:∀ j,j<m.desks.length->(-900000000000<=(Z8 (Zo m k).desks j).2.2/\(Z8 (Zo m k).desks j).2.2<=900000000000)/\(Z8 m.desks j).2.2<=(Z8 (Zo m k).desks j).2.2/\((Z8 (Zo m k).desks j).2.2<=(Z8 m.desks j).2.2\/ ∀ i,i<m.smiths.length->(Z8 m.smiths i).2.1=(j:Int)->ZT (Z8 m.smiths i)=true->(Z8 (Zo m k).desks j).2.2<=XM (Z8 m.smiths i)):=by
  intro j hj
  obtain ⟨k0,k1⟩:=Ti (h.desk j hj)
  rw [hd j]
  split
  ·unfold Xs
   split
   ·exact ⟨⟨k0,k1⟩,Int.le_refl _,.inl (Int.le_refl _)⟩
   ·rename_i e t hq
    obtain ⟨_,i,hi,hib,hip,rfl⟩:=Ua hq
    obtain ⟨_,_,_,_,hband⟩:=h.at hi hip
    obtain ⟨a0,a1,_⟩:=Vj hband
    have hm:=Nn (m:=(Z8 m.desks j).2.2) (f:=XM (Z8 m.smiths i)) (by omega) (by omega) a0 a1
    show (-900000000000<=ZI _ _/\ZI _ _<=900000000000)/\_<=ZI _ _/\(ZI _ _<=_\/_)
    rw [hm]
    refine ⟨by omega,by omega,?_⟩
    by_cases hc:XM (Z8 m.smiths i)<=(Z8 m.desks j).2.2
    ·left;omega
    ·right
     intro i' hi' hb' hp'
     have:=Qr hq hi' hb' hp'
     simp only at this
     show min (max (Z8 m.desks j).2.2 (XM (Z8 m.smiths i))) 900000000000<=_
     omega
  ·exact ⟨⟨k0,k1⟩,Int.le_refl _,.inl (Int.le_refl _)⟩
 refine ⟨?_,?_,?_,?_,?_,?_⟩
 ·have:=h.head
  unfold YW at this ⊢
  rw [e1,e2,e3,e4,e5,e6]
  exact this
 ·intro j hj
  have hj':j<m.desks.length:=by omega
  exact Zm (hmark j hj').1.1 (hmark j hj').1.2
 ·intro j hj
  have hj':j<m.paces.length:=by rw [e3] at hj;exact hj
  have:=h.pace j hj'
  unfold Xf at this ⊢
  rw [e1,e3]
  exact this
 ·intro i hi
  have hi':i<m.smiths.length:=by omega
  rw [Xx (m:=m) (by rw [e2]) (by rw [e6])]
  rw [Yo m hi']
  split
  ·rename_i hp
   exact ON (h.here i hi') hp.2 (by split<;>omega) (by split<;>omega)
  ·exact h.here i hi'
 ·intro i hi
  have hi':i<m.smiths.length:=by omega
  have ha:=XV m k i hi'
  unfold Yt
  show (!ZT (Z8 (Zo m k).smiths i) || _)=true
  rw [ha.2.1]
  cases hp:ZT (Z8 m.smiths i)
  ·rfl
  ·obtain ⟨b0,b1,ho,hm,hband⟩:=h.at hi' hp
   obtain ⟨a0,a1,a2,a3,a4,a5⟩:=Vj hband
   obtain ⟨⟨q0,q1⟩,q2,q3⟩:=hmark (Z8 m.smiths i).2.1.toNat (by omega)
   have hmay:(Z8 (Zo m k).smiths i).2.2.2.1=(Z8 m.smiths i).2.2.2.1:=by
    rw [Yo m hi'];split<;>rfl
   show (!true || ((Z8 (Zo m k).desks (Z8 (Zo m k).smiths i).2.1.toNat).1 && (Wl (Z8 (Zo m k).smiths i).2.2.2.1 (Z8 (Zo m k).smiths i).2.1 && XD (XM (Z8 (Zo m k).smiths i)) (Z8 (Zo m k).desks (Z8 (Zo m k).smiths i).2.1.toNat).2.2)))=true
   rw [ha.1,ha.2.2,hmay,hopen,ho,hm]
   rw [PS a0 a1 (by omega) (by omega) ?_ (by omega)]
   ·rfl
   ·rcases q3 with q3 | q3
    ·omega
    ·have:=q3 i hi' (by omega) hp
     omega
 ·obtain ⟨j,hj,ho⟩:=h.openD
  exact ⟨j,by omega,by rw [hopen];exact ho⟩
theorem EP {α:Type} [Inhabited α] {xs ys:List α} (hl:xs.length=ys.length) (h:∀ i,i<xs.length->Z8 xs i=Z8 ys i):xs=ys:=by
 apply List.ext_getElem hl
 intro i h1 h2
 have:=h i h1
 unfold Z8 at this
 rwa [List.getD_eq_getElem?_getD,List.getD_eq_getElem?_getD,List.getElem?_eq_getElem h1,List.getElem?_eq_getElem h2] at this
theorem Fl {ss:List Z3} {b:Int} {e:Z6} {t:List Z6} (h:atV ss b ss.length=e::t):(ZM ss (e::t)).set e.2.toNat (stS (Z8 (ZM ss (e::t)) e.2.toNat) 3)=ZM (ss.set e.2.toNat (stS (Z8 ss e.2.toNat) 3)) t:=by
 have hmem:∀ x ∈ e::t,0<=x.2/\x.2<ss.length:=fun x hx=>by
  rw [<-h] at hx
  obtain ⟨i,hi,_,_,rfl⟩:=(Yj ss b x ss.length).1 hx
  exact ⟨by show (0:Int)<=(i:Int);omega,by show (i:Int)<_;omega⟩
 have hw:=Ux ss b ss.length
 rw [h,List.pairwise_cons] at hw
 obtain ⟨he0,he1⟩:=hmem e (List.mem_cons_self ..)
 have hel:e.2.toNat<ss.length:=by omega
 have hse:∀ x ∈ t,0<=x.2/\x.2<(ss.set e.2.toNat (stS (Z8 ss e.2.toNat) 3)).length:=fun x hx=>by rw [List.length_set];exact hmem x (List.mem_cons_of_mem _ hx)
 refine EP (by rw [List.length_set,Yp,Yp,List.length_set]) fun i hi=> ?_
 rw [List.length_set,Yp] at hi
 rw [ZJ (by rw [Yp];exact hel)]
 obtain ⟨p1,p2⟩:=SD (e::t) ss i hmem
 obtain ⟨r1,r2⟩:=SD t (ss.set e.2.toNat (stS (Z8 ss e.2.toNat) 3)) i hse
 by_cases hie:i=e.2.toNat
 ·subst hie
  have hn:∀ x ∈ t,x.2 ≠ ((e.2.toNat:Nat):Int):=fun x hx e9=>hw.1 x hx (by omega)
  rw [if_pos rfl,r2 hn,ZJ hel,if_pos rfl,p1 ⟨e,List.mem_cons_self ..,by omega⟩]
  rfl
 ·rw [if_neg hie]
  by_cases hx:∃ x ∈ t,x.2=(i:Int)
  ·obtain ⟨x,hx,hxi⟩:=hx
   rw [p1 ⟨x,List.mem_cons_of_mem _ hx,hxi⟩,r1 ⟨x,hx,hxi⟩,ZJ hel,if_neg hie]
  ·have hn:∀ x ∈ t,x.2 ≠ (i:Int):=fun x hx' e9=>hx ⟨x,hx',e9⟩
   rw [p2 (fun x hx'=>by
    rcases List.mem_cons.1 hx' with rfl | hx'
    ·omega
    ·exact hn x hx'),r2 hn,ZJ hel,if_neg hie]
def ZE (m:Z4):Z4:=if YY m then ZV m else YM
theorem QK (x0 x1 x2 x3 x4 x5 x6 x7 x8 x9 x10 y0 y1 y2 y3 y4 y5 y6 y7 y8 y9 y10:Int) (w:World):(Op.equalIn 10000 43 (.agg (I11 x0 x1 x2 x3 x4 x5 x6 x7 x8 x9 x10)) (.agg (I11 y0 y1 y2 y3 y4 y5 y6 y7 y8 y9 y10))).run Tryz.prog w= .ok (VB (x0,x1,x2,x3,x4,x5,x6,x7,x8,x9,x10) (y0,y1,y2,y3,y4,y5,y6,y7,y8,y9,y10)) w:=by
 have u:=Tryz.underlying2
 have a:=Tryz.isAgg2
 have z:=Tryz.sizeOf2
 have hS:Tryz.prog.underlying 43=some (.struct (Tryz.prog.fieldsOf 43)):=by kernel_rfl
 have hp:Tryz.prog.stoodInHeld 43=false:=by kernel_rfl
 rw [show (10000:Nat)=9999+1 from rfl,run_equalIn_agg w 9999 43 _ _ hS hp]
 simp only [Program.fieldsOf,Tryz.underlying43]
 go_simp
 unfold VB
 by_cases h0:x0=y0
 rotate_left
 ·simp [h0]
 subst h0
 by_cases h1:x1=y1
 rotate_left
 ·simp [h1]
 subst h1
 by_cases h2:x2=y2
 rotate_left
 ·simp [h2]
 subst h2
 by_cases h3:x3=y3
 rotate_left
 ·simp [h3]
 subst h3
 by_cases h4:x4=y4
 rotate_left
 ·simp [h4]
 subst h4
 by_cases h5:x5=y5
 rotate_left
 ·simp [h5]
 subst h5
 by_cases h6:x6=y6
 rotate_left
 ·simp [h6]
 subst h6
 by_cases h7:x7=y7
 rotate_left
 ·simp [h7]
 subst h7
 by_cases h8:x8=y8
 rotate_left
 ·simp [h8]
 subst h8
 by_cases h9:x9=y9
 rotate_left
 ·simp [h9]
 subst h9
 by_cases h10:x10=y10
 rotate_left
 ·simp [h10]
 subst h10
 simp
theorem Rn (x0 x1 x2 x3 x4 x5 x6 x7 x8 x9 x10 y0 y1 y2 y3 y4 y5 y6 y7 y8 y9 y10:Int) (w:World):(binOp .eql 43 (.agg (I11 x0 x1 x2 x3 x4 x5 x6 x7 x8 x9 x10)) (.agg (I11 y0 y1 y2 y3 y4 y5 y6 y7 y8 y9 y10))).run Tryz.prog w= .ok (.bool (VB (x0,x1,x2,x3,x4,x5,x6,x7,x8,x9,x10) (y0,y1,y2,y3,y4,y5,y6,y7,y8,y9,y10))) w:=by
 rw [run_eql_struct,QK];rfl
theorem Tb (x0 x1 x2 x3 x4 x5 x6 x7 x8 x9 x10 y0 y1 y2 y3 y4 y5 y6 y7 y8 y9 y10:Int) (w:World):(binOp .neq 43 (.agg (I11 x0 x1 x2 x3 x4 x5 x6 x7 x8 x9 x10)) (.agg (I11 y0 y1 y2 y3 y4 y5 y6 y7 y8 y9 y10))).run Tryz.prog w= .ok (.bool (!VB (x0,x1,x2,x3,x4,x5,x6,x7,x8,x9,x10) (y0,y1,y2,y3,y4,y5,y6,y7,y8,y9,y10))) w:=by
 rw [run_neq_struct,QK];rfl
theorem Tq {r x:Int} (h:Zx r=x) (w:World):Calls Tryz.prog 210 #[.int .i64 r] w fun e w'=>e= .returned (.int .i64 x)/\w'=w:=by
 have:=Rd r w;rw [h] at this;exact this
theorem Zb {r x:Int} (h:Zx r=x) (w:World):Calls Tryz.prog 154 #[.int .i64 r] w fun e w'=>e= .returned (.int .i64 x)/\w'=w:=by
 have:=Rs r w;rw [h] at this;exact this
attribute [local go_sem ↓] Rn Tb
theorem XT (n:Int) (w:World):Calls Tryz.prog 189 #[.int .i64 n] w fun e w'=>e= .returned (.bool (inB n (-1000000000000) 1000000000000))/\w'=w:=by
 go_enter Tryz.func189,Tryz.ntmps189
 go_wp2_with (go_at_call 76;refine (Z1 _ _ _ _).mono ?_;rintro e w' ⟨rfl,rfl⟩)
 go_ret
 exact ⟨rfl,rfl⟩
theorem Zz (st be rk my gu lo hi hd ca ut wk:Int) (w:World):Calls Tryz.prog 98 #[.agg (I11 st be rk my gu lo hi hd ca ut wk)] w fun e w'=>e= .returned (.bool (ZG (st,be,rk,my,gu,lo,hi,hd,ca,ut,wk)))/\Below w.heap.size w w':=by
 by_cases hst:st=0
 ·subst hst
  unfold ZG
  rw [Pg rfl,Bool.or_false]
  obtain ⟨q,hq⟩:∃ q,V5 (0,be,rk,my,gu,lo,hi,hd,ca,ut,wk)=q:=⟨_,rfl⟩
  rw [hq]
  have hz:VB (0,be,rk,my,gu,lo,hi,hd,ca,ut,wk) (0,0,0,0,0,0,0,0,0,0,0)=q:=hq
  clear hq
  go_enter Tryz.func98,Tryz.ntmps98
  go_wp2_with fail
  go_ret
  exact ⟨rfl,(Below.refl _ _).alloc (Nat.le_refl _) _⟩
 ·have hne:(st ==0)=false:=by simpa using hst
  unfold ZG
  rw [Tm hst,Bool.false_or]
  unfold Zj
  simp only
  obtain ⟨x0,x1⟩:=UW rk
  obtain ⟨x,hx⟩:∃ x,Zx rk=x:=⟨_,rfl⟩
  rw [hx] at x0 x1 ⊢
  have Hw:=Z9 hx
  have hwr:IntKind.i64.wrap (x-1)=x-1:=by rw [IntKind.wrap_i64];omega
  clear hx hst
  cases h0:inB st 1 3
  ·go_enter Tryz.func98,Tryz.ntmps98
   go_wp2_with (first | (go_at_call 76;refine (Z1 _ _ _ _).mono ?_;rintro e w' ⟨rfl,rfl⟩) | (go_at_call 153;refine (Zg _ _).mono ?_;rintro e w' ⟨rfl,rfl⟩) | (go_at_call 81;refine (Y2 _ _ _).mono ?_;rintro e w' ⟨rfl,rfl⟩))
   go_ret
   exact ⟨rfl,(Below.refl _ _).alloc (Nat.le_refl _) _⟩
  cases h1:inB be 0 7
  ·go_enter Tryz.func98,Tryz.ntmps98
   go_wp2_with (first | (go_at_call 76;refine (Z1 _ _ _ _).mono ?_;rintro e w' ⟨rfl,rfl⟩) | (go_at_call 153;refine (Zg _ _).mono ?_;rintro e w' ⟨rfl,rfl⟩) | (go_at_call 81;refine (Y2 _ _ _).mono ?_;rintro e w' ⟨rfl,rfl⟩))
   go_ret
   exact ⟨rfl,(Below.refl _ _).alloc (Nat.le_refl _) _⟩
  cases h2:inB rk (-5) 5
  ·go_enter Tryz.func98,Tryz.ntmps98
   go_wp2_with (first | (go_at_call 76;refine (Z1 _ _ _ _).mono ?_;rintro e w' ⟨rfl,rfl⟩) | (go_at_call 153;refine (Zg _ _).mono ?_;rintro e w' ⟨rfl,rfl⟩) | (go_at_call 81;refine (Y2 _ _ _).mono ?_;rintro e w' ⟨rfl,rfl⟩))
   go_ret
   exact ⟨rfl,(Below.refl _ _).alloc (Nat.le_refl _) _⟩
  cases h3:inB my 1 255
  ·go_enter Tryz.func98,Tryz.ntmps98
   go_wp2_with (first | (go_at_call 76;refine (Z1 _ _ _ _).mono ?_;rintro e w' ⟨rfl,rfl⟩) | (go_at_call 153;refine (Zg _ _).mono ?_;rintro e w' ⟨rfl,rfl⟩) | (go_at_call 81;refine (Y2 _ _ _).mono ?_;rintro e w' ⟨rfl,rfl⟩))
   go_ret
   exact ⟨rfl,(Below.refl _ _).alloc (Nat.le_refl _) _⟩
  cases h4:inB gu (-1) 5
  ·go_enter Tryz.func98,Tryz.ntmps98
   go_wp2_with (first | (go_at_call 76;refine (Z1 _ _ _ _).mono ?_;rintro e w' ⟨rfl,rfl⟩) | (go_at_call 153;refine (Zg _ _).mono ?_;rintro e w' ⟨rfl,rfl⟩) | (go_at_call 81;refine (Y2 _ _ _).mono ?_;rintro e w' ⟨rfl,rfl⟩))
   go_ret
   exact ⟨rfl,(Below.refl _ _).alloc (Nat.le_refl _) _⟩
  cases h5:Yq lo hi
  ·go_enter Tryz.func98,Tryz.ntmps98
   go_wp2_with (first | (go_at_call 76;refine (Z1 _ _ _ _).mono ?_;rintro e w' ⟨rfl,rfl⟩) | (go_at_call 153;refine (Zg _ _).mono ?_;rintro e w' ⟨rfl,rfl⟩) | (go_at_call 81;refine (Y2 _ _ _).mono ?_;rintro e w' ⟨rfl,rfl⟩))
   go_ret
   exact ⟨rfl,(Below.refl _ _).alloc (Nat.le_refl _) _⟩
  cases h6:inB hd (-1000000000000) 1000000000000
  ·go_enter Tryz.func98,Tryz.ntmps98
   go_wp2_with (first | (go_at_call 76;refine (Z1 _ _ _ _).mono ?_;rintro e w' ⟨rfl,rfl⟩) | (go_at_call 153;refine (Zg _ _).mono ?_;rintro e w' ⟨rfl,rfl⟩) | (go_at_call 81;refine (Y2 _ _ _).mono ?_;rintro e w' ⟨rfl,rfl⟩))
   go_quiet (first | exact Calls.quiet_of_same (Z1 _ _ _ _) | exact Calls.quiet_of_same (XT _ _) | exact Calls.quiet_of_same (Zb (uh Hw) _) | exact Calls.quiet_of_same (YI _ _))
   go_wp2_with fail
   go_ret
   exact ⟨rfl,YS ((Below.refl _ _).alloc (Nat.le_refl _) _) _⟩
  cases h7:inB ca 0 (x-1)
  ·go_enter Tryz.func98,Tryz.ntmps98
   go_wp2_with (first | (go_at_call 76;refine (Z1 _ _ _ _).mono ?_;rintro e w' ⟨rfl,rfl⟩) | (go_at_call 153;refine (Zg _ _).mono ?_;rintro e w' ⟨rfl,rfl⟩) | (go_at_call 81;refine (Y2 _ _ _).mono ?_;rintro e w' ⟨rfl,rfl⟩))
   go_quiet (first | exact Calls.quiet_of_same (Z1 _ _ _ _) | exact Calls.quiet_of_same (XT _ _) | exact Calls.quiet_of_same (Zb (uh Hw) _) | exact Calls.quiet_of_same (YI _ _))
   go_wp2_with fail
   go_ret
   exact ⟨rfl,YS ((Below.refl _ _).alloc (Nat.le_refl _) _) _⟩
  cases h8:inB ut 0 1024
  ·go_enter Tryz.func98,Tryz.ntmps98
   go_wp2_with (first | (go_at_call 76;refine (Z1 _ _ _ _).mono ?_;rintro e w' ⟨rfl,rfl⟩) | (go_at_call 153;refine (Zg _ _).mono ?_;rintro e w' ⟨rfl,rfl⟩) | (go_at_call 81;refine (Y2 _ _ _).mono ?_;rintro e w' ⟨rfl,rfl⟩))
   go_quiet (first | exact Calls.quiet_of_same (Z1 _ _ _ _) | exact Calls.quiet_of_same (XT _ _) | exact Calls.quiet_of_same (Zb (uh Hw) _) | exact Calls.quiet_of_same (YI _ _))
   go_wp2_with fail
   go_ret
   exact ⟨rfl,YS ((Below.refl _ _).alloc (Nat.le_refl _) _) _⟩
  cases h9:inB wk 0 100000000000
  ·go_enter Tryz.func98,Tryz.ntmps98
   go_wp2_with (first | (go_at_call 76;refine (Z1 _ _ _ _).mono ?_;rintro e w' ⟨rfl,rfl⟩) | (go_at_call 153;refine (Zg _ _).mono ?_;rintro e w' ⟨rfl,rfl⟩) | (go_at_call 81;refine (Y2 _ _ _).mono ?_;rintro e w' ⟨rfl,rfl⟩))
   go_quiet (first | exact Calls.quiet_of_same (Z1 _ _ _ _) | exact Calls.quiet_of_same (XT _ _) | exact Calls.quiet_of_same (Zb (uh Hw) _) | exact Calls.quiet_of_same (YI _ _))
   go_wp2_with fail
   go_ret
   exact ⟨rfl,YS ((Below.refl _ _).alloc (Nat.le_refl _) _) _⟩
  go_enter Tryz.func98,Tryz.ntmps98
  go_wp2_with (first | (go_at_call 76;refine (Z1 _ _ _ _).mono ?_;rintro e w' ⟨rfl,rfl⟩) | (go_at_call 153;refine (Zg _ _).mono ?_;rintro e w' ⟨rfl,rfl⟩) | (go_at_call 81;refine (Y2 _ _ _).mono ?_;rintro e w' ⟨rfl,rfl⟩))
  go_quiet (first | exact Calls.quiet_of_same (Z1 _ _ _ _) | exact Calls.quiet_of_same (XT _ _) | exact Calls.quiet_of_same (Zb (uh Hw) _) | exact Calls.quiet_of_same (YI _ _))
  go_wp2_with fail
  go_ret
  exact ⟨rfl,YS ((Below.refl _ _).alloc (Nat.le_refl _) _) _⟩
end Go.Proofs.YtjhijildaceadaaGreatDoor
namespace Go.Proofs.YtjhijildaceadaaGreatDoor
open Go.ChangeShapes Go.WideShapes Go.ChangeAt Go.RowKit Go.Sort
set_option linter.unusedVariables false
theorem O0 (st be rk my gu lo hi hd ca ut wk:Int) (w:World):Calls Tryz.prog 77 #[.agg (I11 st be rk my gu lo hi hd ca ut wk)] w fun e w'=>
  e= .returned (.bool (ZT (st,be,rk,my,gu,lo,hi,hd,ca,ut,wk)))/\Below w.heap.size w w':=by
 unfold ZT
 simp only
 cases h2:(st ==2)
 all_goals
  go_enter Tryz.func77,Tryz.ntmps77
  go_wp2_with fail
  go_ret
  exact ⟨by first | rfl | (simp),(Below.refl _ _).alloc (Nat.le_refl _) _⟩
theorem Py (h m:Int) (w:World):Calls Tryz.prog 173 #[.int .i64 h,.int .i64 m] w fun e w'=>e= .returned (.bool (XD h m))/\w'=w:=by
 unfold XD
 cases h1:inB h (-1000000000000) 1000000000000
 ·go_enter Tryz.func173,Tryz.ntmps173
  go_wp2_with (first | (go_at_call 189;refine (XT _ _).mono ?_;rintro e w' ⟨rfl,rfl⟩) | (go_at_call 76;refine (Z1 _ _ _ _).mono ?_;rintro e w' ⟨rfl,rfl⟩))
  go_ret
  exact ⟨rfl,rfl⟩
 cases h2:inB m (-1000000000000) 1000000000000
 ·go_enter Tryz.func173,Tryz.ntmps173
  go_wp2_with (first | (go_at_call 189;refine (XT _ _).mono ?_;rintro e w' ⟨rfl,rfl⟩) | (go_at_call 76;refine (Z1 _ _ _ _).mono ?_;rintro e w' ⟨rfl,rfl⟩))
  go_ret
  exact ⟨rfl,rfl⟩
 obtain ⟨a0,a1⟩:=ZR h1
 obtain ⟨b0,b1⟩:=ZR h2
 go_enter Tryz.func173,Tryz.ntmps173
 go_wp2_with (first | (go_at_call 189;refine (XT _ _).mono ?_;rintro e w' ⟨rfl,rfl⟩) | (go_at_call 76;refine (Z1 _ _ _ _).mono ?_;rintro e w' ⟨rfl,rfl⟩))
 go_ret
 exact ⟨rfl,rfl⟩
theorem XS {w:World} {v:Value} {rs:List Z2} {q:Bool} (hq:Ze rs=q) (h:IsRooms w v rs):Calls Tryz.prog 170 #[.agg #[v]] w fun e w'=>e= .returned (.bool q)/\Below w.heap.size w w':=by
 have:=VE h;rw [hq] at this;exact this
theorem Ya {w:World} {v:Value} {ps:List ZF} {q:Bool} (hq:Zk ps=q) (h:XJ w v ps):Calls Tryz.prog 171 #[v] w fun e w'=>e= .returned (.bool q)/\Below w.heap.size w w':=by
 have:=Ro h;rw [hq] at this;exact this
theorem SZ {w:World} {v:Value} {rs:List Z2} {n:Int} (hn:ZY rs=n) (h:IsRooms w v rs) (ha:DS rs):Calls Tryz.prog 172 #[.agg #[v]] w fun e w'=>e= .returned (.int .i64 n)/\Below w.heap.size w w':=by
 have:=TA h ha;rw [hn] at this;exact this
theorem Es {x lo hi:Int} {q:Bool} (hq:inB x lo hi=q) (w:World):Calls Tryz.prog 76 #[.int .i64 x,.int .i64 lo,.int .i64 hi] w fun e w'=>e= .returned (.bool q)/\Below w.heap.size w w':=by
 have:=Z1 x lo hi w;rw [hq] at this
 exact this.mono fun e w' ⟨h1,h2⟩=>⟨h1,by rw [h2];exact Below.refl _ _⟩
theorem Of {st be rk my gu lo hi hd ca ut wk:Int} {q:Bool} (hq:ZG (st,be,rk,my,gu,lo,hi,hd,ca,ut,wk)=q) (w:World):Calls Tryz.prog 98 #[.agg (I11 st be rk my gu lo hi hd ca ut wk)] w fun e w'=>e= .returned (.bool q)/\Below w.heap.size w w':=by
 have:=Zz st be rk my gu lo hi hd ca ut wk w;rw [hq] at this;exact this
theorem YX {st be rk my gu lo hi hd ca ut wk:Int} {q:Bool} (hq:ZT (st,be,rk,my,gu,lo,hi,hd,ca,ut,wk)=q) (w:World):Calls Tryz.prog 77 #[.agg (I11 st be rk my gu lo hi hd ca ut wk)] w fun e w'=>e= .returned (.bool q)/\Below w.heap.size w w':=by
 have:=O0 st be rk my gu lo hi hd ca ut wk w;rw [hq] at this;exact this
theorem RP {s i:Int} {q:Bool} (hq:Wl s i=q) (h0:0<=s) (h1:s<=255) (h2:0<=i) (h3:i<=7) (w:World):Calls Tryz.prog 78 #[.int .i64 s,.int .i64 i] w fun e w'=>e= .returned (.bool q)/\Below w.heap.size w w':=by
 have:=Nj s i w h0 h1 h2 h3;rw [hq] at this
 exact this.mono fun e w' ⟨h1,h2⟩=>⟨h1,by rw [h2];exact Below.refl _ _⟩
theorem VS {h k:Int} {q:Bool} (hq:XD h k=q) (w:World):Calls Tryz.prog 173 #[.int .i64 h,.int .i64 k] w fun e w'=>e= .returned (.bool q)/\Below w.heap.size w w':=by
 have:=Py h k w;rw [hq] at this
 exact this.mono fun e w' ⟨h1,h2⟩=>⟨h1,by rw [h2];exact Below.refl _ _⟩
theorem Ue {w:World} {v0 v1 v2 v3 v4:Value} {m:Z4} (h:Smy w v0 v1 v2 v3 v4 m) :
  Calls Tryz.prog 84 #[.agg #[v0,v1,v2,v3,v4,.int .i64 m.now]] w fun e w'=>e= .returned (.bool (YY m))/\Below w.heap.size w w':=by
 have Hv:=Z9 (h.alloc (.cells #[v0,v1,v2,v3,v4,.int .i64 m.now] 32))
 obtain ⟨h0,h1,h2,h3,h4⟩:=h
 obtain ⟨a0,p0,rfl,hc0,hm0,r0⟩:=h0
 obtain ⟨a1,p1,rfl,hc1,hm1,_⟩:=h1
 obtain ⟨a2,p2,rfl,hc2,hm2,r2⟩:=h2
 obtain ⟨a3,p3,rfl,hc3,hm3,r3⟩:=h3
 obtain ⟨a4,p4,rfl,hc4,hm4,r4⟩:=h4
 have R0:=Z9 r0
 have R2:=Z9 r2
 have R3:=Z9 r3
 have R4:=Z9 r4
 clear r0 r2 r3 r4
 go_enter Tryz.func84,Tryz.ntmps84
 go_wp2_with fail
 obtain ⟨W,hW,BB,kb⟩:=K7 w 32 (S6 a0 p0 a1 p1 a2 p2 a3 p3 a4 p4 m)
 rw [hW]
 (try rw [hW] at Hv);clear hW
 have c0:=cell_regrown ((uh kb).cell (i:=0) (v:= .slice a0 m.rooms.length p0) rfl)
 have c1:=cell_regrown ((uh kb).cell (i:=1) (v:= .slice a1 m.guilds.length p1) rfl)
 have c2:=cell_regrown ((uh kb).cell (i:=2) (v:= .slice a2 m.smiths.length p2) rfl)
 have c3:=cell_regrown ((uh kb).cell (i:=3) (v:= .slice a3 m.desks.length p3) rfl)
 have c4:=cell_regrown ((uh kb).cell (i:=4) (v:= .slice a4 m.paces.length p4) rfl)
 have c5:=cell_regrown ((uh kb).cell (i:=5) (v:= .int .i64 m.now) rfl)
 cases h0:Ze m.rooms
 ·have Q0:=Z9 h0
  clear h0
  refine wp_region_quiet_below (by kernel_rfl) (by kernel_rfl) ?_
  repeat (go_big_quiet_step (first | exact Calls.regrown_of (XS (uh Q0) ((uh Hv).below (below_regrown _ _ _)).rooms)))
  refine wpQuiet_nil ?_
  intro W1 hw'
  have hb:Below W.heap.size W W1:=by
   obtain ⟨⟨dq,osq⟩,hw''⟩:=hw'
   subst hw''
   exact below_regrown _ _ _
  clear hw' c0 c1 c2 c3 c4 c5
  go_wp2_with fail
  go_ret
  exact ⟨Z5 (WX (by unfold YW;rw [uh Q0];rfl)).symm,(uh BB).trans (hb.mono (uh BB).size)⟩
 have Q0:=Z9 h0
 have QA:=Z9 (QV h0)
 clear h0
 cases h1:Zk m.guilds
 ·have Q1:=Z9 h1
  clear h1
  refine wp_region_quiet_below (by kernel_rfl) (by kernel_rfl) ?_
  repeat (go_big_quiet_step (first | exact Calls.regrown_of (XS (uh Q0) ((uh Hv).below (below_regrown _ _ _)).rooms) | exact Calls.regrown_of (Ya (uh Q1) ((uh Hv).below (below_regrown _ _ _)).guilds)))
  refine wpQuiet_nil ?_
  intro W1 hw'
  have hb:Below W.heap.size W W1:=by
   obtain ⟨⟨dq,osq⟩,hw''⟩:=hw'
   subst hw''
   exact below_regrown _ _ _
  clear hw' c0 c1 c2 c3 c4 c5
  go_wp2_with fail
  go_ret
  exact ⟨Z5 (WX (by unfold YW;rw [uh Q0,uh Q1];rfl)).symm,(uh BB).trans (hb.mono (uh BB).size)⟩
 have Q1:=Z9 h1
 clear h1
 by_cases h2:12<m.smiths.length
 ·have h2i:(12:Int)<(m.smiths.length:Int):=by omega
  have h2d:decide ((12:Int)<(m.smiths.length:Int))=true:=decide_eq_true h2i
  refine wp_region_quiet_below (by kernel_rfl) (by kernel_rfl) ?_
  repeat (go_big_quiet_step (first | exact Calls.regrown_of (XS (uh Q0) ((uh Hv).below (below_regrown _ _ _)).rooms) | exact Calls.regrown_of (Ya (uh Q1) ((uh Hv).below (below_regrown _ _ _)).guilds)))
  refine wpQuiet_nil ?_
  intro W1 hw'
  have hb:Below W.heap.size W W1:=by
   obtain ⟨⟨dq,osq⟩,hw''⟩:=hw'
   subst hw''
   exact below_regrown _ _ _
  clear hw' c0 c1 c2 c3 c4 c5
  go_wp2_with fail
  go_ret
  exact ⟨Z5 (WX (by unfold YW;rw [uh Q0,uh Q1];simp;intro h9;omega)).symm,(uh BB).trans (hb.mono (uh BB).size)⟩
 have h2i:¬ (12:Int)<(m.smiths.length:Int):=by omega
 have h2d:decide ((12:Int)<(m.smiths.length:Int))=false:=decide_eq_false h2i
 obtain ⟨n,hn⟩:∃ n,ZY m.rooms=n:=⟨_,rfl⟩
 have Q3:=Z9 hn
 clear hn
 by_cases h3:(m.desks.length:Int)=n
 rotate_left
 ·have h3b:((m.desks.length:Int) !=n)=true:=by simpa using h3
  refine wp_region_quiet_below (by kernel_rfl) (by kernel_rfl) ?_
  repeat (go_big_quiet_step (first | exact Calls.regrown_of (XS (uh Q0) ((uh Hv).below (below_regrown _ _ _)).rooms) | exact Calls.regrown_of (Ya (uh Q1) ((uh Hv).below (below_regrown _ _ _)).guilds) | exact Calls.regrown_of (SZ (uh Q3) ((uh Hv).below (below_regrown _ _ _)).rooms (uh QA))))
  refine wpQuiet_nil ?_
  intro W1 hw'
  have hb:Below W.heap.size W W1:=by
   obtain ⟨⟨dq,osq⟩,hw''⟩:=hw'
   subst hw''
   exact below_regrown _ _ _
  clear hw' c0 c1 c2 c3 c4 c5
  go_wp2_with fail
  go_ret
  exact ⟨Z5 (WX (by unfold YW;rw [uh Q0,uh Q1,uh Q3];simp [h3])).symm,(uh BB).trans (hb.mono (uh BB).size)⟩
 have h3b:((m.desks.length:Int) !=n)=false:=by simpa using h3
 by_cases h4:m.paces.length=m.rooms.length
 rotate_left
 ·have h4b:((m.paces.length:Int) !=(m.rooms.length:Int))=true:=by simp;omega
  refine wp_region_quiet_below (by kernel_rfl) (by kernel_rfl) ?_
  repeat (go_big_quiet_step (first | exact Calls.regrown_of (XS (uh Q0) ((uh Hv).below (below_regrown _ _ _)).rooms) | exact Calls.regrown_of (Ya (uh Q1) ((uh Hv).below (below_regrown _ _ _)).guilds) | exact Calls.regrown_of (SZ (uh Q3) ((uh Hv).below (below_regrown _ _ _)).rooms (uh QA))))
  refine wpQuiet_nil ?_
  intro W1 hw'
  have hb:Below W.heap.size W W1:=by
   obtain ⟨⟨dq,osq⟩,hw''⟩:=hw'
   subst hw''
   exact below_regrown _ _ _
  clear hw' c0 c1 c2 c3 c4 c5
  go_wp2_with fail
  go_ret
  exact ⟨Z5 (WX (by unfold YW;rw [uh Q0,uh Q1];simp [h4])).symm,(uh BB).trans (hb.mono (uh BB).size)⟩
 have h4b:((m.paces.length:Int) !=(m.rooms.length:Int))=false:=by simp;omega
 cases h5:inB m.now 0 1000000
 ·have Q5:=Z9 h5
  clear h5
  refine wp_region_quiet_below (by kernel_rfl) (by kernel_rfl) ?_
  repeat (go_big_quiet_step (first | exact Calls.regrown_of (XS (uh Q0) ((uh Hv).below (below_regrown _ _ _)).rooms) | exact Calls.regrown_of (Ya (uh Q1) ((uh Hv).below (below_regrown _ _ _)).guilds) | exact Calls.regrown_of (SZ (uh Q3) ((uh Hv).below (below_regrown _ _ _)).rooms (uh QA)) | exact Calls.regrown_of (Es (uh Q5) _)))
  refine wpQuiet_nil ?_
  intro W1 hw'
  have hb:Below W.heap.size W W1:=by
   obtain ⟨⟨dq,osq⟩,hw''⟩:=hw'
   subst hw''
   exact below_regrown _ _ _
  clear hw' c0 c1 c2 c3 c4 c5
  go_wp2_with fail
  go_ret
  exact ⟨Z5 (WX (by unfold YW;rw [uh Q0,uh Q1,uh Q3,uh Q5];simp)).symm,(uh BB).trans (hb.mono (uh BB).size)⟩
 have Q5:=Z9 h5
 clear h5
 have QH:Hid (YW m=true):=Z9 (by unfold YW;rw [uh Q0,uh Q1,uh Q3,uh Q5];simp [h3,h4];omega)
 refine wp_region_quiet_below (by kernel_rfl) (by kernel_rfl) ?_
 repeat (go_big_quiet_step (first | exact Calls.regrown_of (XS (uh Q0) ((uh Hv).below (below_regrown _ _ _)).rooms) | exact Calls.regrown_of (Ya (uh Q1) ((uh Hv).below (below_regrown _ _ _)).guilds) | exact Calls.regrown_of (SZ (uh Q3) ((uh Hv).below (below_regrown _ _ _)).rooms (uh QA)) | exact Calls.regrown_of (Es (uh Q5) _)))
 refine wpQuiet_nil ?_
 intro W1 hw'
 have hb:Below W.heap.size W W1:=by
  obtain ⟨⟨dq,osq⟩,hw''⟩:=hw'
  subst hw''
  exact below_regrown _ _ _
 clear hw' c0 c1 c2 c3 c4 c5
 replace kb:=bl kb hb
 replace Hv:=Z9 ((uh Hv).below hb)
 replace BB:=bt BB hb
 clear hb
 have H3:=Z9 h3
 have H4:=Z9 h4
 clear Hv Q0 Q1 Q3 Q5 QA h2d h3b h4b h3 h4
 have c3:=(uh kb).cell (i:=3) (v:= .slice a3 m.desks.length p3) rfl
 go_wp2_with fail
 clear c3
 go_loopw [3,4] (fun o i wr=> ∃ k:Nat,k<=m.desks.length/\o= .bool (U6 m k)/\i= .int .i64 k/\Wk m k=true/\Blk wr w.heap.size 32 (S6 a0 p0 a1 p1 a2 p2 a3 p3 a4 p4 m)/\Below w.heap.size w wr) (fun _ i _=>m.desks.length-(intOf i).toNat)
 case atStart=>exact ⟨0,Nat.zero_le _,rfl,rfl,rfl,uh kb,uh BB⟩
 case round=>
  obtain ⟨k,hk,rfl,rfl,hup,kb1,hb1⟩:=hrel
  clear kb BB
  have kb:=Z9 kb1
  have BB:=Z9 hb1
  have Hup:=Z9 hup
  clear kb1 hb1 hup
  obtain ⟨ob,hob⟩:∃ b,U6 m k=b:=⟨_,rfl⟩
  rw [hob]
  have Hob:=Z9 hob
  clear hob
  have c3:=(uh kb).cell (i:=3) (v:= .slice a3 m.desks.length p3) rfl
  by_cases hlt:k<m.desks.length
  ·rcases uh R3 with e0 | ⟨b,off,rfl,hbw,hcl⟩
   ·rw [e0] at hlt;simp at hlt
   obtain ⟨d0,d1,d2⟩:=Zp hcl hlt
   rw [<-(uh BB).cell (p:=⟨b,off+k*3,none⟩) hbw] at d0
   rw [<-(uh BB).cell (p:=⟨b,off+k*3+2,none⟩) hbw] at d2
   clear d1 hcl
   have HU:=Z9 (show Wk m (k+1)=(Wk m k && Wy (Z8 m.desks k)) from UX k)
   have HO:=Z9 (show U6 m (k+1)=(U6 m k || (Z8 m.desks k).1) from DT k)
   have HL:=Z9 (KS (m:=m) hlt)
   generalize Z8 m.desks k=dd at *
   obtain ⟨op,who,mk⟩:=dd
   simp only at d0 d2
   cases hmk:inB mk (-900000000000) 900000000000
   ·cases ob
    all_goals
     go_wp2_with (go_at_call 76;refine (Z1 _ _ _ _).mono ?_;rintro e w' ⟨rfl,h9⟩;subst w')
     go_ret
     exact ⟨Z5 (uh HL hmk).symm,uh BB⟩
   ·cases ob
    all_goals
     go_wp2_with (go_at_call 76;refine (Z1 _ _ _ _).mono ?_;rintro e w' ⟨rfl,h9⟩;subst w')
     go_roundw
     case rel=>exact ⟨k+1,by omega,by rw [uh HO,uh Hob];simp,by go_num,by rw [uh HU,uh Hup];exact hmk,uh kb,uh BB⟩
     case measure=>simp [intOf];omega
  ·obtain rfl:k=m.desks.length:=by omega
   have QD:=Hup
   clear Hup
   have c4:=(uh kb).cell (i:=4) (v:= .slice a4 m.paces.length p4) rfl
   go_wp2_with fail
   clear c3 c4
   go_loopw [5] (fun i wr=> ∃ k:Nat,k<=m.paces.length/\i= .int .i64 k/\WN m k=true/\Blk wr w.heap.size 32 (S6 a0 p0 a1 p1 a2 p2 a3 p3 a4 p4 m)/\Below w.heap.size w wr) (fun i _=>m.paces.length-(intOf i).toNat)
   case atStart=>exact ⟨0,Nat.zero_le _,rfl,rfl,uh kb,uh BB⟩
   case round=>
    obtain ⟨k,hk,rfl,hup,kb1,hb1⟩:=hrel
    clear kb BB
    have kb:=Z9 kb1
    have BB:=Z9 hb1
    have Hup:=Z9 hup
    clear kb1 hb1 hup
    have c0:=(uh kb).cell (i:=0) (v:= .slice a0 m.rooms.length p0) rfl
    have c4:=(uh kb).cell (i:=4) (v:= .slice a4 m.paces.length p4) rfl
    by_cases hlt:k<m.paces.length
    ·have hlr:k<m.rooms.length:=by have:=uh H4;omega
     rcases uh R4 with e0 | ⟨b,off,rfl,hbw,hcl⟩
     ·rw [e0] at hlt;simp at hlt
     rcases uh R0 with e0 | ⟨b',off',rfl,hbw',hcl'⟩
     ·rw [e0] at hlr;simp at hlr
     have d0:=O8 hcl hlt
     obtain ⟨_,pv,d1,hip⟩:=hcl' k hlr
     rw [<-(uh BB).cell (p:=⟨b,off+k,none⟩) hbw] at d0
     rw [<-(uh BB).cell (p:=⟨b',off'+k*2+1,none⟩) hbw'] at d1
     obtain ⟨pa,pcap,rfl,hpc,hpm,_⟩:=hip
     clear hcl hcl'
     have HU:=Z9 (show WN m (k+1)=(WN m k && Xf m k) from UX k)
     have HL:=Z9 (KT (m:=m) hlt)
     have HP:=Z9 (show Xf m k=inB (Z8 m.paces k) 0 (((ZW m.rooms k).2.length:Int)-1) from rfl)
     generalize Z8 m.paces k=z at *
     generalize (ZW m.rooms k).2.length=nl at *
     have hwr:IntKind.i64.wrap ((nl:Int)-1)=(nl:Int)-1:=by rw [IntKind.wrap_i64];omega
     cases hz:inB z 0 ((nl:Int)-1)
     ·go_wp2_with fail
      go_quiet (exact Calls.quiet_of_same (Z1 _ _ _ _))
      go_wp2_with fail
      go_ret
      exact ⟨Z5 (uh HL (by rw [uh HP];exact hz)).symm,YS (uh BB) _⟩
     ·go_wp2_with fail
      go_quiet (exact Calls.quiet_of_same (Z1 _ _ _ _))
      go_wp2_with fail
      go_roundw
      case rel=>exact ⟨k+1,by omega,by go_num,by rw [uh HU,uh Hup,uh HP,hz];rfl,(uh kb).drewN _,YS (uh BB) _⟩
      case measure=>simp [intOf];omega
    ·obtain rfl:k=m.paces.length:=by omega
     have QP:=Hup
     clear Hup
     have c2:=(uh kb).cell (i:=2) (v:= .slice a2 m.smiths.length p2) rfl
     go_wp2_with fail
     clear c0 c2 c4
     go_loopw [6] (fun i wr=> ∃ k:Nat,k<=m.smiths.length/\i= .int .i64 k/\WO m k=true/\Blk wr w.heap.size 32 (S6 a0 p0 a1 p1 a2 p2 a3 p3 a4 p4 m)/\Below w.heap.size w wr) (fun i _=>m.smiths.length-(intOf i).toNat)
     case atStart=>exact ⟨0,Nat.zero_le _,rfl,rfl,uh kb,uh BB⟩
     case round=>
      obtain ⟨k,hk,rfl,hup,kb1,hb1⟩:=hrel
      clear kb BB
      have kb:=Z9 kb1
      have BB:=Z9 hb1
      have Hup:=Z9 hup
      clear kb1 hb1 hup
      have c1:=(uh kb).cell (i:=1) (v:= .slice a1 m.guilds.length p1) rfl
      have c2:=(uh kb).cell (i:=2) (v:= .slice a2 m.smiths.length p2) rfl
      have c3:=(uh kb).cell (i:=3) (v:= .slice a3 m.desks.length p3) rfl
      by_cases hlt:k<m.smiths.length
      ·rcases uh R2 with e0 | ⟨b,off,rfl,hbw,hcl⟩
       ·rw [e0] at hlt;simp at hlt
       obtain ⟨d0,d1,d2,d3,d4,d5,d6,d7,d8,d9,d10⟩:=ZK hcl hlt
       rw [<-(uh BB).cell (p:=⟨b,off+k*11,none⟩) hbw] at d0
       rw [<-(uh BB).cell (p:=⟨b,off+k*11+1,none⟩) hbw] at d1
       rw [<-(uh BB).cell (p:=⟨b,off+k*11+2,none⟩) hbw] at d2
       rw [<-(uh BB).cell (p:=⟨b,off+k*11+3,none⟩) hbw] at d3
       rw [<-(uh BB).cell (p:=⟨b,off+k*11+4,none⟩) hbw] at d4
       rw [<-(uh BB).cell (p:=⟨b,off+k*11+5,none⟩) hbw] at d5
       rw [<-(uh BB).cell (p:=⟨b,off+k*11+6,none⟩) hbw] at d6
       rw [<-(uh BB).cell (p:=⟨b,off+k*11+7,none⟩) hbw] at d7
       rw [<-(uh BB).cell (p:=⟨b,off+k*11+8,none⟩) hbw] at d8
       rw [<-(uh BB).cell (p:=⟨b,off+k*11+9,none⟩) hbw] at d9
       rw [<-(uh BB).cell (p:=⟨b,off+k*11+10,none⟩) hbw] at d10
       clear hcl
       have HU:=Z9 (show WO m (k+1)=(WO m k && (YA m (Z8 m.smiths k) && Yt m (Z8 m.smiths k))) from UX k)
       have HL:=Z9 (MF (m:=m) hlt)
       generalize Z8 m.smiths k=ss at *
       obtain ⟨st,be,rk,my,gu,lo,hi,hd,ca,ut,wk⟩:=ss
       simp only at d0 d1 d2 d3 d4 d5 d6 d7 d8 d9 d10
       have hl0:w.heap.size<wr.heap.size:=(uh kb).lt
       go_wp2_with fail
       clear c1 c2 c3 d0 d1 d2 d3 d4 d5 d6 d7 d8 d9 d10
       obtain ⟨qs,hqs⟩:∃ q,ZG (st,be,rk,my,gu,lo,hi,hd,ca,ut,wk)=q:=⟨_,rfl⟩
       have Hqs:=Z9 hqs
       clear hqs
       refine (Of (uh Hqs) _).mono ?_
       rintro e w1 ⟨rfl,hb⟩
       have ks:Hid (Blk w1 wr.heap.size 43 (I11 st be rk my gu lo hi hd ca ut wk)):=Z9 ((Blk.new wr _ _).below hb (by simp))
       replace kb:=Z9 (((uh kb).alloc (.cells (I11 st be rk my gu lo hi hd ca ut wk) 43)).below hb (by simp;omega))
       replace BB:=Z9 ((((uh BB).alloc (uh BB).size (.cells (I11 st be rk my gu lo hi hd ca ut wk) 43))).trans (hb.mono (by simp;have:=(uh BB).size;omega)))
       clear hb hl0
       generalize wr.heap.size=sb at *
       have c1:=(uh kb).cell (i:=1) (v:= .slice a1 m.guilds.length p1) rfl
       have c3:=(uh kb).cell (i:=3) (v:= .slice a3 m.desks.length p3) rfl
       have d0:=(uh ks).cell (i:=0) (v:= .int .i64 st) rfl
       have d1:=(uh ks).cell (i:=1) (v:= .int .i64 be) rfl
       have d4:=(uh ks).cell (i:=4) (v:= .int .i64 gu) rfl
       cases qs
       ·go_wp2_with fail
        go_ret
        exact ⟨Z5 (uh HL (by unfold YA;rw [uh Hqs];rfl)).symm,uh BB⟩
       ·by_cases hst:st=0
        ·subst hst
         have hne:((0:Int) !=0)=false:=rfl
         go_wp2_with fail
         have Hps:Hid (ZT (0,be,rk,my,gu,lo,hi,hd,ca,ut,wk)=false):=Z9 rfl
         have e0:=cell_regrown ((uh ks).cell (i:=0) (v:= .int .i64 0) rfl)
         have e1:=cell_regrown ((uh ks).cell (i:=1) (v:= .int .i64 be) rfl)
         have e2:=cell_regrown ((uh ks).cell (i:=2) (v:= .int .i64 rk) rfl)
         have e3:=cell_regrown ((uh ks).cell (i:=3) (v:= .int .i64 my) rfl)
         have e4:=cell_regrown ((uh ks).cell (i:=4) (v:= .int .i64 gu) rfl)
         have e5:=cell_regrown ((uh ks).cell (i:=5) (v:= .int .i64 lo) rfl)
         have e6:=cell_regrown ((uh ks).cell (i:=6) (v:= .int .i64 hi) rfl)
         have e7:=cell_regrown ((uh ks).cell (i:=7) (v:= .int .i64 hd) rfl)
         have e8:=cell_regrown ((uh ks).cell (i:=8) (v:= .int .i64 ca) rfl)
         have e9:=cell_regrown ((uh ks).cell (i:=9) (v:= .int .i64 ut) rfl)
         have e10:=cell_regrown ((uh ks).cell (i:=10) (v:= .int .i64 wk) rfl)
         refine wp_region_quiet_below (by kernel_rfl) (by kernel_rfl) ?_
         repeat (go_big_quiet_step (first | exact Calls.regrown_of (YX (uh Hps) _)))
         refine wpQuiet_nil ?_
         intro W1 hw'
         have hb:Below w1.heap.size w1 W1:=by
          obtain ⟨⟨dq,osq⟩,hw''⟩:=hw'
          subst hw''
          exact below_regrown _ _ _
         clear hw'
         replace kb:=bl kb hb
         replace BB:=bt BB hb
         clear hb
         go_wp2_with fail
         go_roundw
         case rel=>exact ⟨k+1,by omega,by go_num,by rw [uh HU,uh Hup];unfold YA Yt;rw [uh Hqs,uh Hps];rfl,uh kb,uh BB⟩
         case measure=>simp [intOf];omega
        have hne:(st !=0)=true:=by simpa using hst
        by_cases hgu:(m.guilds.length:Int)<=gu
        ·go_wp2_with fail
         go_ret
         exact ⟨Z5 (uh HL (by unfold YA;rw [uh Hqs];simp [hst];intro h9;omega)).symm,uh BB⟩
        by_cases hbe:(m.desks.length:Int)<=be
        ·go_wp2_with fail
         go_ret
         exact ⟨Z5 (uh HL (by unfold YA;rw [uh Hqs];simp [hst];intro h9;omega)).symm,uh BB⟩
        go_wp2_with fail
        have Hh:Hid (YA m (st,be,rk,my,gu,lo,hi,hd,ca,ut,wk)=true):=Z9 (by unfold YA;rw [uh Hqs];simp;omega)
        obtain ⟨ps,hps⟩:∃ q,ZT (st,be,rk,my,gu,lo,hi,hd,ca,ut,wk)=q:=⟨_,rfl⟩
        have Hps:=Z9 hps
        clear hps
        have e0:=cell_regrown ((uh ks).cell (i:=0) (v:= .int .i64 st) rfl)
        have e1:=cell_regrown ((uh ks).cell (i:=1) (v:= .int .i64 be) rfl)
        have e2:=cell_regrown ((uh ks).cell (i:=2) (v:= .int .i64 rk) rfl)
        have e3:=cell_regrown ((uh ks).cell (i:=3) (v:= .int .i64 my) rfl)
        have e4:=cell_regrown ((uh ks).cell (i:=4) (v:= .int .i64 gu) rfl)
        have e5:=cell_regrown ((uh ks).cell (i:=5) (v:= .int .i64 lo) rfl)
        have e6:=cell_regrown ((uh ks).cell (i:=6) (v:= .int .i64 hi) rfl)
        have e7:=cell_regrown ((uh ks).cell (i:=7) (v:= .int .i64 hd) rfl)
        have e8:=cell_regrown ((uh ks).cell (i:=8) (v:= .int .i64 ca) rfl)
        have e9:=cell_regrown ((uh ks).cell (i:=9) (v:= .int .i64 ut) rfl)
        have e10:=cell_regrown ((uh ks).cell (i:=10) (v:= .int .i64 wk) rfl)
        have e11:=cell_regrown ((uh kb).cell (i:=3) (v:= .slice a3 m.desks.length p3) rfl)
        cases ps
        ·refine wp_region_quiet_below (by kernel_rfl) (by kernel_rfl) ?_
         repeat (go_big_quiet_step (first | exact Calls.regrown_of (YX (uh Hps) _)))
         refine wpQuiet_nil ?_
         intro W1 hw'
         have hb:Below w1.heap.size w1 W1:=by
          obtain ⟨⟨dq,osq⟩,hw''⟩:=hw'
          subst hw''
          exact below_regrown _ _ _
         clear hw'
         replace kb:=bl kb hb
         replace BB:=bt BB hb
         clear hb
         go_wp2_with fail
         go_roundw
         case rel=>exact ⟨k+1,by omega,by go_num,by rw [uh HU,uh Hup];rw [uh Hh];unfold Yt;rw [uh Hps];rfl,uh kb,uh BB⟩
         case measure=>simp [intOf];omega
        obtain ⟨b0,b1,b2,m0,m1,_⟩:=KA (uh Hh) (uh Hps)
        simp only at b0 b1 b2 m0 m1
        obtain ⟨j,rfl⟩:∃ j:Nat,be=j:=⟨be.toNat,by omega⟩
        have hj:j<m.desks.length:=by omega
        rcases uh R3 with e9 | ⟨b',off',rfl,hbw',hcl'⟩
        ·rw [e9] at hj;simp at hj
        obtain ⟨t0,_,t2⟩:=Zp hcl' hj
        rw [<-(uh BB).cell (p:=⟨b',off'+j*3,none⟩) hbw'] at t0
        rw [<-(uh BB).cell (p:=⟨b',off'+j*3+2,none⟩) hbw'] at t2
        clear hcl'
        have HS:=Z9 (show Yt m (st,(j:Int),rk,my,gu,lo,hi,hd,ca,ut,wk)=(!ZT (st,(j:Int),rk,my,gu,lo,hi,hd,ca,ut,wk) || ((Z8 m.desks j).1 && (Wl my j && XD hd (Z8 m.desks j).2.2))) from rfl)
        generalize Z8 m.desks j=dd at *
        obtain ⟨op,who,mk⟩:=dd
        simp only at t0 t2
        have t0:=cell_regrown t0
        have t2:=cell_regrown t2
        obtain ⟨qb,hqb⟩:∃ q,Wl my j=q:=⟨_,rfl⟩
        have Hbit:=Z9 hqb
        obtain ⟨qd,hqd⟩:∃ q,XD hd mk=q:=⟨_,rfl⟩
        have Hbd:=Z9 hqd
        clear hqb hqd
        have HS2:=uh HS
        simp only [uh Hps,uh Hbit,uh Hbd] at HS2
        have HS3:=Z9 HS2
        clear HS HS2
        cases op
        ·refine wp_region_quiet_below (by kernel_rfl) (by kernel_rfl) ?_
         repeat (go_big_quiet_step (first | exact Calls.regrown_of (YX (uh Hps) _) | exact Calls.regrown_of (RP (uh Hbit) (by omega) (by omega) (by omega) (by omega) _) | exact Calls.regrown_of (VS (uh Hbd) _)))
         refine wpQuiet_nil ?_
         intro W1 hw'
         have hb:Below w1.heap.size w1 W1:=by
          obtain ⟨⟨dq,osq⟩,hw''⟩:=hw'
          subst hw''
          exact below_regrown _ _ _
         clear hw'
         replace kb:=bl kb hb
         replace BB:=bt BB hb
         clear hb
         go_wp2_with fail
         go_ret
         exact ⟨Z5 (uh HL (by rw [uh HS3];simp)).symm,uh BB⟩
        cases qb
        ·refine wp_region_quiet_below (by kernel_rfl) (by kernel_rfl) ?_
         repeat (go_big_quiet_step (first | exact Calls.regrown_of (YX (uh Hps) _) | exact Calls.regrown_of (RP (uh Hbit) (by omega) (by omega) (by omega) (by omega) _) | exact Calls.regrown_of (VS (uh Hbd) _)))
         refine wpQuiet_nil ?_
         intro W1 hw'
         have hb:Below w1.heap.size w1 W1:=by
          obtain ⟨⟨dq,osq⟩,hw''⟩:=hw'
          subst hw''
          exact below_regrown _ _ _
         clear hw'
         replace kb:=bl kb hb
         replace BB:=bt BB hb
         clear hb
         go_wp2_with fail
         go_ret
         exact ⟨Z5 (uh HL (by rw [uh HS3];simp)).symm,uh BB⟩
        cases qd
        ·refine wp_region_quiet_below (by kernel_rfl) (by kernel_rfl) ?_
         repeat (go_big_quiet_step (first | exact Calls.regrown_of (YX (uh Hps) _) | exact Calls.regrown_of (RP (uh Hbit) (by omega) (by omega) (by omega) (by omega) _) | exact Calls.regrown_of (VS (uh Hbd) _)))
         refine wpQuiet_nil ?_
         intro W1 hw'
         have hb:Below w1.heap.size w1 W1:=by
          obtain ⟨⟨dq,osq⟩,hw''⟩:=hw'
          subst hw''
          exact below_regrown _ _ _
         clear hw'
         replace kb:=bl kb hb
         replace BB:=bt BB hb
         clear hb
         go_wp2_with fail
         go_ret
         exact ⟨Z5 (uh HL (by rw [uh HS3];simp)).symm,uh BB⟩
        refine wp_region_quiet_below (by kernel_rfl) (by kernel_rfl) ?_
        repeat (go_big_quiet_step (first | exact Calls.regrown_of (YX (uh Hps) _) | exact Calls.regrown_of (RP (uh Hbit) (by omega) (by omega) (by omega) (by omega) _) | exact Calls.regrown_of (VS (uh Hbd) _)))
        refine wpQuiet_nil ?_
        intro W1 hw'
        have hb:Below w1.heap.size w1 W1:=by
         obtain ⟨⟨dq,osq⟩,hw''⟩:=hw'
         subst hw''
         exact below_regrown _ _ _
        clear hw'
        replace kb:=bl kb hb
        replace BB:=bt BB hb
        clear hb
        go_wp2_with fail
        go_roundw
        case rel=>exact ⟨k+1,by omega,by go_num,by rw [uh HU,uh Hup];rw [uh Hh,uh HS3];rfl,uh kb,uh BB⟩
        case measure=>simp [intOf];omega
      ·obtain rfl:k=m.smiths.length:=by omega
       go_wp2_with fail
       go_ret
       exact ⟨Z5 (by rw [IZ (uh QH) (uh QD) (uh QP) (uh Hup)];exact (uh Hob).symm),uh BB⟩
end Go.Proofs.YtjhijildaceadaaGreatDoor
