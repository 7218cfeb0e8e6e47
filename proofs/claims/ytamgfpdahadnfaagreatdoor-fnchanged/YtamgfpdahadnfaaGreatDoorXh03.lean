/- Part 3 of what the proof rests on. No condition but those that a theorem names. -/
import Derived.Test.YtamgfpdahadnfaaGreatDoorXh02
set_option maxHeartbeats 8000000
set_option maxRecDepth 100000
namespace Go.Proofs.YtamgfpdahadnfaaGreatDoor
open Go.ChangeShapes Go.WideShapes Go.ChangeAt Go.RowKit Go.Sort
set_option linter.unusedVariables false
structure Two (p q:Option Nat) (w w':World):Prop where
 os:w'.os=w.os
 tape:w'.tape=w.tape
 output:w'.output=w.output
 size:w.heap.size<=w'.heap.size
 block:∀ k,k<w.heap.size->p ≠ some k->q ≠ some k->w'.heap[k]?=w.heap[k]?
section
variable {p q : Option Nat} {w w' w'' : World}
theorem Two.refl (p q:Option Nat) (w:World):Two p q w w:=⟨rfl,rfl,rfl,Z2 _,fun _ _ _ _=>rfl⟩
theorem Two.trans (h:Two p q w w') (k:Two p q w' w''):Two p q w w'':=
 ⟨k.os.trans h.os,k.tape.trans h.tape,k.output.trans h.output,XH h.size k.size,fun i hi hp hq=>(k.block i (Zf hi h.size) hp hq).trans (h.block i hi hp hq)⟩
theorem Two.of_below (h:Below w.heap.size w w'):Two p q w w':=⟨h.os,h.tape,h.output,h.size,fun i hi _ _=>h.block i hi⟩
theorem Two.of_set (w:World) {g:Nat} (hg:p=some g\/q=some g) (o:Nat) (u:Value):Two p q w (w.setCell ⟨g,o,none⟩ u):=
 ⟨rfl,rfl,rfl,by simp,fun i hi hp hq=>heap_setCell_other w _ i u (fun e=>by
  have e:i=g:=e;subst e
  rcases hg with h | h
  ·exact hp h
  ·exact hq h)⟩
theorem Two.below {B:Nat} (h:Two p q w w') (hB:B<=w.heap.size) (hp:∀ k,p=some k->B<=k) (hq:∀ k,q=some k->B<=k):Below B w w':=
 ⟨h.os,h.tape,h.output,h.size,fun i hi=>h.block i (Zf hi hB) (fun e=>by have:=hp i e;omega) (fun e=>by have:=hq i e;omega)⟩
theorem Blk.two {R:Nat} {t:TypeId} {cs:Array Value} (h:Blk w R t cs) (ht:Two p q w w') (hp:p ≠ some R) (hq:q ≠ some R):Blk w' R t cs:=h.same (ht.block R h.lt hp hq)
end
theorem OwnHall.same2 {n₀:Nat} {w w':World} {v:Value} {qs:List (ZZ × Value)} (h:OwnHall n₀ w v qs) (hs:∀ k,(v.ownBlock=some k\/ ∃ q ∈ qs,q.2.ownBlock=some k)->w'.heap[k]?=w.heap[k]?):OwnHall n₀ w' v qs:=
 ⟨Xm h.row (fun k e=>hs k (.inl e)),fun q hq=>Xm (h.pc q hq) (fun k e=>hs k (.inr ⟨q,hq,e⟩)),h.off,h.apart⟩
section
variable {n₀ n cap g : Nat} {w : World} {v0 v1 v2 v3 v4 : Value} {m : Z6} {qs : List (ZZ × Value)}
theorem FullSmy.putS (hf:FullSmy n₀ w v0 v1 (.slice (some ⟨g,0,none⟩) n cap) v3 v4 m qs) (hn:n=m.sm.length) {j i:Nat} (hj:j<m.sm.length) (hi:i<11) (u:Value) (x:Z3) (hx:ZU x=(ZU (Z8 m.sm j)).set i u) :
  FullSmy n₀ (w.setCell ⟨g,j*11+i,none⟩ u) v0 v1 (.slice (some ⟨g,0,none⟩) n cap) v3 v4 { m with sm:=m.sm.set j x } qs:=by
 have hb:(Value.slice (some ⟨g,0,none⟩) n cap).ownBlock=some g:=rfl;have hne:∀ k,k ≠ g->(w.setCell ⟨g,j*11+i,none⟩ u).heap[k]?=w.heap[k]?:=fun k hk=>heap_setCell_other w _ k u hk;refine ⟨hf.hall.same2 fun k e=>hne k fun e'=> ?_,hf.rm,RecAt.same hf.gd fun k e=>hne k fun e'=> ?_,(RecAt.put1 ZX (by omega) hf.sm hn hj hi u x hx).1,RecAt.same hf.dk fun k e=>hne k fun e'=> ?_,RecAt.same hf.pc fun k e=>hne k fun e'=> ?_,hf.h1,hf.h2,hf.h3,hf.h4,hf.a12,hf.a13,hf.a14,hf.a23,hf.a24,hf.a34⟩
 ·subst e'
  rcases e with e | ⟨q,hq,e⟩
  ·exact hf.h2.1 _ hb e
  ·exact hf.h2.2 q hq _ hb e
 ·subst e';exact hf.a12 _ e hb
 ·subst e';exact hf.a23 _ hb e
 ·subst e';exact hf.a24 _ hb e
theorem FullSmy.putD (hf:FullSmy n₀ w v0 v1 v2 (.slice (some ⟨g,0,none⟩) n cap) v4 m qs) (hn:n=m.dk.length) {j i:Nat} (hj:j<m.dk.length) (hi:i<3) (u:Value) (x:XQ) (hx:WG x=(WG (Z8 m.dk j)).set i u) :
  FullSmy n₀ (w.setCell ⟨g,j*3+i,none⟩ u) v0 v1 v2 (.slice (some ⟨g,0,none⟩) n cap) v4 { m with dk:=m.dk.set j x } qs:=by
 have hb:(Value.slice (some ⟨g,0,none⟩) n cap).ownBlock=some g:=rfl;have hne:∀ k,k ≠ g->(w.setCell ⟨g,j*3+i,none⟩ u).heap[k]?=w.heap[k]?:=fun k hk=>heap_setCell_other w _ k u hk;refine ⟨hf.hall.same2 fun k e=>hne k fun e'=> ?_,hf.rm,RecAt.same hf.gd fun k e=>hne k fun e'=> ?_,RecAt.same hf.sm fun k e=>hne k fun e'=> ?_,(RecAt.put1 Zu (by omega) hf.dk hn hj hi u x hx).1,RecAt.same hf.pc fun k e=>hne k fun e'=> ?_,hf.h1,hf.h2,hf.h3,hf.h4,hf.a12,hf.a13,hf.a14,hf.a23,hf.a24,hf.a34⟩
 ·subst e'
  rcases e with e | ⟨q,hq,e⟩
  ·exact hf.h3.1 _ hb e
  ·exact hf.h3.2 q hq _ hb e
 ·subst e';exact hf.a13 _ e hb
 ·subst e';exact hf.a23 _ e hb
 ·subst e';exact hf.a34 _ hb e
theorem FullSmy.putP (hf:FullSmy n₀ w v0 v1 v2 v3 (.slice (some ⟨g,0,none⟩) n cap) m qs) (hn:n=m.pc.length) {j:Nat} (hj:j<m.pc.length) (x:Int) :
  FullSmy n₀ (w.setCell ⟨g,j,none⟩ (.int .i64 x)) v0 v1 v2 v3 (.slice (some ⟨g,0,none⟩) n cap) { m with pc:=m.pc.set j x } qs:=by
 have hb:(Value.slice (some ⟨g,0,none⟩) n cap).ownBlock=some g:=rfl;have hne:∀ k,k ≠ g->(w.setCell ⟨g,j,none⟩ (.int .i64 x)).heap[k]?=w.heap[k]?:=fun k hk=>heap_setCell_other w _ k _ hk;have hput:=(RecAt.put1 (i:=0) YH (by omega) hf.pc hn hj (by omega) (.int .i64 x) x (by simp [Sn])).1;simp only [Nat.mul_one,Nat.add_zero] at hput;refine ⟨hf.hall.same2 fun k e=>hne k fun e'=> ?_,hf.rm,RecAt.same hf.gd fun k e=>hne k fun e'=> ?_,RecAt.same hf.sm fun k e=>hne k fun e'=> ?_,RecAt.same hf.dk fun k e=>hne k fun e'=> ?_,hput,hf.h1,hf.h2,hf.h3,hf.h4,hf.a12,hf.a13,hf.a14,hf.a23,hf.a24,hf.a34⟩
 ·subst e'
  rcases e with e | ⟨q,hq,e⟩
  ·exact hf.h4.1 _ hb e
  ·exact hf.h4.2 q hq _ hb e
 ·subst e';exact hf.a14 _ e hb
 ·subst e';exact hf.a24 _ e hb
 ·subst e';exact hf.a34 _ e hb
end
end Go.Proofs.YtamgfpdahadnfaaGreatDoor
namespace Go.Proofs.YtamgfpdahadnfaaGreatDoor
open Go.ChangeShapes Go.WideShapes Go.ChangeAt Go.RowKit Go.Sort
set_option linter.unusedVariables false
theorem FullSmy.putW {n₀ n cap g:Nat} {w:World} {v0 v1 v3 v4:Value} {m:Z6} {qs:List (ZZ × Value)} (hf:FullSmy n₀ w v0 v1 (.slice (some ⟨g,0,none⟩) n cap) v3 v4 m qs) (hn:n=m.sm.length) {j:Nat} (hj:j<m.sm.length) (x:Z3) :
  FullSmy n₀ (QG w g (j*11) (ZU x)) v0 v1 (.slice (some ⟨g,0,none⟩) n cap) v3 v4 { m with sm:=m.sm.set j x } qs:=by
 have hb:(Value.slice (some ⟨g,0,none⟩) n cap).ownBlock=some g:=rfl;obtain ⟨hput,hg⟩:=RecAt.put ZX (by omega) hf.sm hn hj x;have hne:∀ k,k<w.heap.size->k ≠ g->(QG w g (j*11) (ZU x)).heap[k]?=w.heap[k]?:=fun k hk hkg=>hg.block k hk (fun e=>hkg (by cases e;rfl));refine ⟨hf.hall.same2 fun k e=>hne k (hf.hall.lt e).2 fun e'=> ?_,hf.rm,RecAt.same hf.gd fun k e=>hne k (RecAt.lt hf.gd e).2 fun e'=> ?_,hput,RecAt.same hf.dk fun k e=>hne k (RecAt.lt hf.dk e).2 fun e'=> ?_,RecAt.same hf.pc fun k e=>hne k (RecAt.lt hf.pc e).2 fun e'=> ?_,hf.h1,hf.h2,hf.h3,hf.h4,hf.a12,hf.a13,hf.a14,hf.a23,hf.a24,hf.a34⟩
 ·subst e'
  rcases e with e | ⟨q,hq,e⟩
  ·exact hf.h2.1 _ hb e
  ·exact hf.h2.2 q hq _ hb e
 ·subst e';exact hf.a12 _ e hb
 ·subst e';exact hf.a23 _ hb e
 ·subst e';exact hf.a24 _ hb e
theorem MB (w:World) (g o:Nat) (c0 c1 c2 c3 c4 c5 c6 c7 c8 c9 c10:Value):QG w g o [c0,c1,c2,c3,c4,c5,c6,c7,c8,c9,c10]=((((((((((w.setCell ⟨g,o,none⟩ c0).setCell ⟨g,o+1,none⟩ c1).setCell ⟨g,o+2,none⟩ c2).setCell ⟨g,o+3,none⟩ c3).setCell ⟨g,o+4,none⟩ c4).setCell ⟨g,o+5,none⟩ c5).setCell ⟨g,o+6,none⟩ c6).setCell ⟨g,o+7,none⟩ c7).setCell ⟨g,o+8,none⟩ c8).setCell ⟨g,o+9,none⟩ c9).setCell ⟨g,o+10,none⟩ c10:=rfl
theorem AX (w:World) (g o:Nat) (t0 t1 t2 t3 t4 t5 t6 t7 t8 t9 t10:Int):((((((((((w.setCell ⟨g,o,none⟩ (.int .i64 t0)).setCell ⟨g,o+1,none⟩ (.int .i64 t1)).setCell ⟨g,o+2,none⟩ (.int .i64 t2)).setCell ⟨g,o+3,none⟩ (.int .i64 t3)).setCell ⟨g,o+4,none⟩ (.int .i64 t4)).setCell ⟨g,o+5,none⟩ (.int .i64 t5)).setCell ⟨g,o+6,none⟩ (.int .i64 t6)).setCell ⟨g,o+7,none⟩ (.int .i64 t7)).setCell ⟨g,o+8,none⟩ (.int .i64 t8)).setCell ⟨g,o+9,none⟩ (.int .i64 t9)).setCell ⟨g,o+10,none⟩ (.int .i64 t10)=QG w g o (ZU (t0,t1,t2,t3,t4,t5,t6,t7,t8,t9,t10)):=rfl
theorem MC {g R:Nat} {t:TypeId} {cs:Array Value} (hR:R ≠ g):∀ (l:List Value) {W:World} {o:Nat},Hid (Blk W R t cs)->Hid (Blk (QG W g o l) R t cs)
 | [],_,_,h=>h
 | u::l,W,o,h=>MC hR l (Z9 ((uh h).other (a:=⟨g,o,none⟩) hR u))
theorem EV {n g:Nat} {w:World} (hn:n<=g):∀ (l:List Value) {W:World} {o:Nat},Hid (Below n w W)->Hid (Below n w (QG W g o l))
 | [],_,_,h=>h
 | u::l,W,o,h=>EV hn l (Z9 ((uh h).setCell (p:=⟨g,o,none⟩) hn u))
open Go.ChangeShapes Go.WideShapes Go.ChangeAt Go.RowKit
def Vs (k:Nat):Int:=[1024,819,655,524,419,335].getD k 0
def U0 (k:Nat):Int:=[1024,1280,1600,2000,2500,3125].getD k 0
def Zl (r:Int):Int:=if inB r (-5) 5 then (if 0<=r then Vs r.toNat else U0 (-r).toNat) else 0
theorem Ev:∀ k:Fin 5,Vs (k.val+1)=Vs k.val*4 / 5/\0<=Vs k.val/\Vs k.val<=1024:=by decide
theorem Ee:∀ k:Fin 5,U0 (k.val+1)=U0 k.val*5 / 4/\0<=U0 k.val/\U0 k.val<=3125:=by decide
theorem GA {k:Nat} (h:k<5):Vs (k+1)=Vs k*4 / 5/\0<=Vs k/\Vs k<=1024:=Ev ⟨k,h⟩
theorem Gk {k:Nat} (h:k<5):U0 (k+1)=U0 k*5 / 4/\0<=U0 k/\U0 k<=3125:=Ee ⟨k,h⟩
theorem AM {r:Int} (h:inB r (-5) 5=true):r= -5\/r= -4\/r= -3\/r= -2\/r= -1\/r=0\/r=1\/r=2\/r=3\/r=4\/r=5:=by
 have:=ZO h;omega
theorem VO {r:Int} (h:inB r (-5) 5=false):Zl r=0:=by unfold Zl;simp [h]
theorem Ft {r:Int} (h:inB r (-5) 5=true) (h0:0<=r):Zl r=Vs r.toNat:=by unfold Zl;simp [h,h0]
theorem JE {r:Int} (h:inB r (-5) 5=true) (h0:¬ 0<=r):Zl r=U0 (-r).toNat:=by unfold Zl;simp [h,h0]
theorem YR (x:Int) (w:World):Calls Tryz.prog 102 #[.int .i64 x] w fun e w'=>e= .returned (.bool (inB x (-5) 5))/\w'=w:=by
 go_enter Tryz.func102,Tryz.ntmps102;go_wp2_with (go_at_call 59;refine (ZT _ _ _ _).mono ?_;rintro e w' ⟨rfl,rfl⟩)
 go_ret;exact ⟨rfl,rfl⟩
theorem O7 (r:Int) (w:World):Calls Tryz.prog 104 #[.int .i64 r] w fun e w'=>e= .returned (.int .i64 (Zl r))/\w'=w:=by
 cases hb:inB r (-5) 5
 ·rw [VO hb]
  go_enter Tryz.func104,Tryz.ntmps104;go_wp2_with (go_at_call 102;refine (YR _ _).mono ?_;rintro e w' ⟨rfl,rfl⟩)
  go_ret;exact ⟨rfl,rfl⟩
 ·obtain ⟨r0,r1⟩:=ZO hb
  by_cases h0:0<=r
  ·rw [Ft hb h0]
   obtain ⟨n,rfl⟩:=Int.eq_ofNat_of_zero_le h0;rw [Zz];go_enter Tryz.func104,Tryz.ntmps104;go_wp2_with (go_at_call 102;refine (YR _ _).mono ?_;rintro e w' ⟨rfl,rfl⟩)
   go_loop [0,3] (fun i s=> ∃ k:Nat,k<=n/\i= .int .i64 ((n:Int)-k)/\s= .int .i64 (Vs k)) (fun i _=>(intOf i).toNat)
   case atStart=>exact ⟨0,ZA _,by simp,rfl⟩
   case round=>
    obtain ⟨k,hk,rfl,rfl⟩:=hrel;by_cases hlt:k<n
    ·obtain ⟨hs,f1,f2⟩:=GA (k:=k) (by omega)
     have Hs:=Z9 hs;clear hs;generalize Vs k=z at *;go_wp2_with fail
     go_round
     case rel=>exact ⟨k+1,by omega,by go_num,by rw [uh Hs]⟩
     case measure=>exact ms
    ·obtain rfl:k=n:=by omega
     go_wp2_with fail
     go_loop [0,3] (fun i s=>i= .int .i64 0/\s= .int .i64 (Vs k)) (fun _ _=>0)
     case atStart=>exact ⟨by simp,rfl⟩
     case round=>
      obtain ⟨rfl,rfl⟩:=hrel;go_wp2_with fail;go_ret;exact ⟨rfl,rfl⟩
  ·rw [JE hb h0]
   obtain ⟨n,hn⟩:=Int.eq_ofNat_of_zero_le (show 0<= -r by omega);obtain rfl:r= -(n:Int):=by omega
   rw [show (-(-(n:Int))).toNat=n by omega];clear hn;go_enter Tryz.func104,Tryz.ntmps104;go_wp2_with (go_at_call 102;refine (YR _ _).mono ?_;rintro e w' ⟨rfl,rfl⟩)
   go_loop [0,3] (fun i s=>i= .int .i64 (-(n:Int))/\s= .int .i64 1024) (fun _ _=>0)
   case atStart=>exact ⟨rfl,rfl⟩
   case round=>
    obtain ⟨rfl,rfl⟩:=hrel;go_wp2_with fail
    go_loop [0,3] (fun i s=> ∃ k:Nat,k<=n/\i= .int .i64 ((k:Int)-n)/\s= .int .i64 (U0 k)) (fun i _=>(-(intOf i)).toNat)
    case atStart=>exact ⟨0,ZA _,by simp,rfl⟩
    case round=>
     obtain ⟨k,hk,rfl,rfl⟩:=hrel;by_cases hlt:k<n
     ·obtain ⟨hs,f1,f2⟩:=Gk (k:=k) (by omega)
      have Hs:=Z9 hs;clear hs;generalize U0 k=z at *;go_wp2_with fail
      go_round
      case rel=>exact ⟨k+1,by omega,by go_num,by rw [uh Hs]⟩
      case measure=>exact ms
     ·obtain rfl:k=n:=by omega
      go_wp2_with fail;go_ret;exact ⟨rfl,rfl⟩
theorem Gj {x y:Int} (h0:0<=x) (h1:x<=100000) (h:x*5 / 4=y) (w:World):Calls Tryz.prog 236 #[.int .i64 x] w fun e w'=>e= .returned (.int .i64 y)/\w'=w:=by
 subst h;go_enter Tryz.func236,Tryz.ntmps236
 go_wp2
 go_ret;exact ⟨rfl,rfl⟩
theorem GB {x y:Int} (h0:0<=x) (h1:x<=100000) (h:x*4 / 5=y) (w:World):Calls Tryz.prog 237 #[.int .i64 x] w fun e w'=>e= .returned (.int .i64 y)/\w'=w:=by
 subst h;go_enter Tryz.func237,Tryz.ntmps237
 go_wp2
 go_ret;exact ⟨rfl,rfl⟩
theorem OI (r:Int) (w:World):Calls Tryz.prog 190 #[.int .i64 r] w fun e w'=>e= .returned (.int .i64 (Zl r))/\w'=w:=by
 cases hb:inB r (-5) 5
 ·rw [VO hb]
  have hr:r < -5\/5<r:=by
   by_cases h1 : -5<=r
   ·by_cases h2:r<=5
    ·rw [Zn h1 h2] at hb;cases hb
    ·omega
   ·omega
  have e1:¬ r= -5:=by omega
  have e2:¬ r= -4:=by omega
  have e3:¬ r= -3:=by omega
  have e4:¬ r= -2:=by omega
  have e5:¬ r= -1:=by omega
  have e6:¬ r=0:=by omega
  have e7:¬ r=5:=by omega
  have e8:¬ r=4:=by omega
  have e9:¬ r=3:=by omega
  have e10:¬ r=2:=by omega
  have e11:¬ r=1:=by omega
  clear hb hr;go_enter Tryz.func190,Tryz.ntmps190;go_wp2_with fail;go_ret;exact ⟨rfl,rfl⟩
 ·rcases AM hb with rfl | rfl | rfl | rfl | rfl | rfl | rfl | rfl | rfl | rfl | rfl
  all_goals
   clear hb;go_enter Tryz.func190,Tryz.ntmps190
   go_wp2_with (first
    | (go_at_call 236;refine (Gj (by decide) (by decide) rfl _).mono ?_;rintro e w' ⟨rfl,rfl⟩)
    | (go_at_call 237;refine (GB (by decide) (by decide) rfl _).mono ?_;rintro e w' ⟨rfl,rfl⟩))
   go_ret;exact ⟨rfl,rfl⟩
def Wl (work weight carry:Int):Bool:=inB work 0 1000000000 && (inB weight 1 100000 && inB carry 0 (weight-1))
def SQ (work weight carry:Int):Int:=if Wl work weight carry then (1024*work+carry) / weight else -1
def SP (work weight carry:Int):Int:=if Wl work weight carry then (1024*work+carry)%weight else 0
theorem Ch {a b c:Int} (ha:inB a 0 1000000000=true) (hb:inB b 1 100000=true) (hc:inB c 0 (b-1)=true):Wl a b c=true:=by unfold Wl;simp [ha,hb,hc]
theorem EF {a b c:Int} (h:Wl a b c=true):0<=a/\a<=1000000000/\1<=b/\b<=100000/\0<=c/\c<b:=by
 unfold Wl at h;simp only [ZM] at h;obtain ⟨h1,h2,h3⟩:=h;have:=ZO h1;have:=ZO h2;have:=ZO h3;omega
theorem EE {a b c:Int} (a0:0<=a) (a1:a<=1000000000) (b0:1<=b) (b1:b<=100000) (c0:0<=c) (c1:c<b):Wl a b c=true:=Ch (Zn a0 a1) (Zn b0 b1) (Zn c0 (by omega))
theorem Kh {a b c:Int} (h:Wl a b c=true):SQ a b c=(1024*a+c) / b/\SP a b c=(1024*a+c)%b:=by unfold SQ SP;simp [h]
def Yx (lo hi:Int):Bool:=inB lo 0 1024 && inB hi 0 1024 && decide (lo<=hi)
theorem AF {lo hi:Int} (h:Yx lo hi=true):0<=lo/\lo<=1024/\0<=hi/\hi<=1024/\lo<=hi:=by
 unfold Yx at h;simp only [ZM,YW] at h;obtain ⟨⟨h1,h2⟩,h3⟩:=h;exact ⟨(ZO h1).1,(ZO h1).2,(ZO h2).1,(ZO h2).2,h3⟩
def Xj (g:Zt) (n:Int):Bool:=inB g.1 (-1) (n-1) && Yx g.2.1 g.2.2
theorem JM {g:Zt} {n:Int} (h:Xj g n=true) : -1<=g.1/\g.1<=n-1/\Yx g.2.1 g.2.2=true:=by
 unfold Xj at h;simp only [ZM] at h;exact ⟨(ZO h.1).1,(ZO h.1).2,h.2⟩
def TW (ps:List Zt) (k:Nat):Bool:=(List.range k).all fun i=>Xj (Z8 ps i) i
theorem Qo (ps:List Zt) (k:Nat):TW ps (k+1)=(TW ps k && Xj (Z8 ps k) k):=by unfold TW;rw [List.range_succ,List.all_append];simp
theorem zC {ps:List Zt} {k n:Nat} (hk:k<n) (h:Xj (Z8 ps k) k=false):TW ps n=false:=by
 unfold TW;rw [List.all_eq_false];exact ⟨k,List.mem_range.2 hk,by simp [h]⟩
theorem Iz {ps:List Zt} {k n:Nat} (h:TW ps n=true) (hk:k<n):Xj (Z8 ps k) k=true:=by
 unfold TW at h;exact List.all_eq_true.1 h k (List.mem_range.2 hk)
def Zk (ps:List Zt):Bool:=TW ps ps.length && decide (ps.length<=6)
theorem Vp {ps:List Zt} (h:Zk ps=true):TW ps ps.length=true/\ps.length<=6:=by
 unfold Zk at h;simpa using h
theorem OG {ps:List Zt} {k:Nat} (hk:k<ps.length) (h:Xj (Z8 ps k) k=false):Zk ps=false:=by unfold Zk;rw [zC hk h];rfl
theorem Ja {ps:List Zt} (h:6<ps.length):Zk ps=false:=by unfold Zk;simp;omega
theorem Su {ps:List Zt} (h:Zk ps=true) {g:Int} (h0:0<=g) (h1:g<ps.length) : -1<=(Z8 ps g.toNat).1/\(Z8 ps g.toNat).1<=g-1/\Yx (Z8 ps g.toNat).2.1 (Z8 ps g.toNat).2.2=true:=by
 have:=JM (Iz (Vp h).1 (k:=g.toNat) (by omega));rw [show ((g.toNat:Nat):Int)=g by omega] at this;exact this
def UN (b:Int × Int) (lo hi:Int):Int × Int:=(min (max lo b.1) b.2,min (max hi (min (max lo b.1) b.2)) b.2)
def Ox (ps:List Zt):Nat->Int->Int × Int
 | 0,_=>(0,1024)
 | n+1,g=>if g<0 then (0,1024) else UN (Ox ps n (Z8 ps g.toNat).1) (Z8 ps g.toNat).2.1 (Z8 ps g.toNat).2.2
def bnd (ps:List Zt) (g:Int):Int × Int:=Ox ps (g+1).toNat g
theorem Dq {b:Int × Int} {lo hi:Int} (h0:0<=b.1) (h1:b.1<=b.2) (h2:b.2<=1024):b.1<=(UN b lo hi).1/\(UN b lo hi).1<=(UN b lo hi).2/\(UN b lo hi).2<=b.2:=by
 unfold UN;refine ⟨?_,?_,?_⟩<;>simp only<;>omega
theorem CY (ps:List Zt):∀ (n:Nat) (g:Int),0<=(Ox ps n g).1/\(Ox ps n g).1<=(Ox ps n g).2/\(Ox ps n g).2<=1024
 | 0,g=>by unfold Ox;simp
 | n+1,g=>by
  unfold Ox
  split
  ·simp
  ·obtain ⟨h0,h1,h2⟩:=CY ps n (Z8 ps g.toNat).1
   obtain ⟨h3,h4,h5⟩:=Dq (lo:=(Z8 ps g.toNat).2.1) (hi:=(Z8 ps g.toNat).2.2) h0 h1 h2;exact ⟨by omega,h4,by omega⟩
theorem xQ (ps:List Zt) (g:Int):0<=(bnd ps g).1/\(bnd ps g).1<=(bnd ps g).2/\(bnd ps g).2<=1024:=CY ps _ g
theorem JI {ps:List Zt} (h:Zk ps=true):∀ (n m:Nat) (g:Int),g<n->g<m->g<ps.length->Ox ps n g=Ox ps m g
 | 0,0,g,_,_,_=>rfl
 | 0,m+1,g,h1,h2,h3=>by unfold Ox;rw [if_pos (by omega)]
 | n+1,0,g,h1,h2,h3=>by unfold Ox;rw [if_pos (by omega)]
 | n+1,m+1,g,h1,h2,h3=>by
  unfold Ox;by_cases h0:g<0
  ·rw [if_pos h0,if_pos h0]
  ·rw [if_neg h0,if_neg h0]
   obtain ⟨a0,a1,_⟩:=Su h (g:=g) (by omega) h3;rw [JI h n m (Z8 ps g.toNat).1 (by omega) (by omega) (by omega)]
theorem Pm (ps:List Zt) {g:Int} (h:g<0):bnd ps g=(0,1024):=by
 unfold bnd;rw [show (g+1).toNat=0 by omega];rfl
theorem FK {ps:List Zt} (h:Zk ps=true) {g:Int} (h0:0<=g) (h1:g<ps.length):bnd ps g=UN (bnd ps (Z8 ps g.toNat).1) (Z8 ps g.toNat).2.1 (Z8 ps g.toNat).2.2:=by
 obtain ⟨a0,a1,_⟩:=Su h h0 h1;unfold bnd;rw [show (g+1).toNat=g.toNat+1 by omega];show (if g<0 then (0,1024) else _)=_;rw [if_neg (by omega),JI h g.toNat ((Z8 ps g.toNat).1+1).toNat _ (by omega) (by omega) (by omega)]
def isB (ps:List Zt) (g:Int):Bool:=Zk ps && inB g (-1) ((ps.length:Int)-1)
def SX (ps:List Zt) (g lo hi:Int):Int × Int:=if isB ps g && Yx lo hi then UN (bnd ps g) lo hi else (-1,-1)
theorem Kw {ps:List Zt} {g lo hi:Int} (h:(isB ps g && Yx lo hi)=false):SX ps g lo hi=(-1,-1):=by unfold SX;rw [h];rfl
theorem Kx {ps:List Zt} {g lo hi:Int} (h:isB ps g=true) (h':Yx lo hi=true):SX ps g lo hi=UN (bnd ps g) lo hi:=by unfold SX;rw [h,h'];rfl
theorem zm {lo hi:Int} (h0:0<=lo) (h1:lo<=hi) (h2:hi<=1024):Yx lo hi=true:=by unfold Yx;rw [Zn h0 (by omega),Zn (by omega) h2];simp;omega
theorem Js {lo hi:Int} (h:lo<0\/hi<lo\/1024<hi):Yx lo hi=false:=by
 cases e:Yx lo hi
 ·rfl
 ·have:=AF e;omega
theorem Vg (lo hi:Int) (w:World):Calls Tryz.prog 139 #[.int .i64 lo,.int .i64 hi] w fun e w'=>e= .returned (.bool (Yx lo hi))/\w'=w:=by
 by_cases h1:0<=lo
 ·by_cases h2:lo<=hi
  ·by_cases h3:hi<=1024
   all_goals
    go_enter Tryz.func139,Tryz.ntmps139
    go_wp2
    go_ret;exact ⟨Z5 (by first | exact (zm h1 h2 h3).symm | exact (Js (by omega)).symm),rfl⟩
  ·go_enter Tryz.func139,Tryz.ntmps139
   go_wp2
   go_ret;exact ⟨Z5 (Js (by omega)).symm,rfl⟩
 ·go_enter Tryz.func139,Tryz.ntmps139
  go_wp2
  go_ret;exact ⟨Z5 (Js (by omega)).symm,rfl⟩
theorem Rp (a lo hi n:Int) (w:World):Calls Tryz.prog 225 #[.agg #[.int .i64 a,.int .i64 lo,.int .i64 hi],.int .i64 n] w fun e w'=>e= .returned (.bool (Xj (a,lo,hi) n))/\Below w.heap.size w w':=by
 by_cases h1 : -1<=a
 ·by_cases h2:a<n
  ·have hg:Xj (a,lo,hi) n=Yx lo hi:=by unfold Xj;rw [Zn h1 (by omega)];rfl
   rw [hg];clear hg;go_enter Tryz.func225,Tryz.ntmps225;go_wp2_with (go_at_call 139;refine (Vg _ _ _).mono ?_;rintro e w' ⟨rfl,rfl⟩)
   go_ret;exact ⟨rfl,(ba _ _)⟩
  ·have hg:Xj (a,lo,hi) n=false:=by unfold Xj;rw [Wv (.inr (by omega))];rfl
   rw [hg];clear hg;go_enter Tryz.func225,Tryz.ntmps225;go_wp2_with fail;go_ret;exact ⟨rfl,(ba _ _)⟩
 ·have hg:Xj (a,lo,hi) n=false:=by unfold Xj;rw [Wv (.inl (by omega))];rfl
  rw [hg];clear hg;go_enter Tryz.func225,Tryz.ntmps225;go_wp2_with fail;go_ret;exact ⟨rfl,(ba _ _)⟩
theorem Wi {w:World} {v:Value} {ps:List Zt} (h:XG w v ps) :
  Calls Tryz.prog 176 #[v] w fun e w'=>e= .returned (.bool (Zk ps))/\Below w.heap.size w w':=by
 obtain ⟨a,cap,rfl,hc,hm,hr⟩:=h;have Hr:=Z9 hr;clear hr;by_cases hbig:6<ps.length
 ·go_enter Tryz.func176,Tryz.ntmps176
  go_wp2_with fail;go_ret;exact ⟨Z5 (Ja hbig).symm,Z1 _ _⟩
 go_enter Tryz.func176,Tryz.ntmps176;go_wp2_with fail
 go_loopw [10] (fun i wr=> ∃ k:Nat,k<=ps.length/\i= .int .i64 k/\TW ps k=true/\Below w.heap.size w wr) (fun i _=>ps.length-(intOf i).toNat)
 case atStart=>exact ⟨0,ZA _,rfl,rfl,Z1 _ _⟩
 case round=>
  obtain ⟨k,hk,rfl,hst,hb⟩:=hrel;have Hst:=Z9 hst;have Hb:=Z9 hb;clear hst;by_cases hlt:k<ps.length
  ·rcases uh Hr with h0 | ⟨b,off,rfl,hbw,hcl⟩
   ·rw [h0] at hlt;simp at hlt
   have hbr:b<wr.heap.size:=Zf hbw hb.size;obtain ⟨c0,c1,c2⟩:=VT hcl hlt;rw [<-hb.cell (p:=⟨b,off+k*3,none⟩) hbw] at c0;rw [<-hb.cell (p:=⟨b,off+k*3+1,none⟩) hbw] at c1;rw [<-hb.cell (p:=⟨b,off+k*3+2,none⟩) hbw] at c2;generalize hp:Z8 ps k=p at c0 c1 c2;have Hp:=Z9 hp;clear hp;obtain ⟨x0,x1,x2⟩:=p;simp only at c0 c1 c2;have hsz:=hb.size;clear hcl hb;go_wp2_with fail;refine ck (Rp _ _ _ _ _) fun w1 hb1=> ?_;have Hb1:=Z9 ((uh Hb).trans (((Z1 _ _).alloc hsz _).trans (hb1.mono (by simp;omega))));clear hb1;cases hg:Xj (x0,x1,x2) k
   ·go_wp2_with fail
    go_ret;exact ⟨Z5 (OG hlt (by rw [uh Hp];exact hg)).symm,uh Hb1⟩
   ·go_wp2_with fail
    go_roundw
    case rel=>exact ⟨k+1,by omega,by go_num,by rw [Qo,uh Hst,uh Hp,hg];rfl,uh Hb1⟩
    case measure=>exact ms
  ·obtain rfl:k=ps.length:=by omega
   go_wp2_with fail;go_ret;exact ⟨Z5 (by unfold Zk;rw [uh Hst];simp;omega),hb⟩
theorem PD (a lo hi l h:Int) (w:World):Calls Tryz.prog 290 #[.agg #[.int .i64 a,.int .i64 lo,.int .i64 hi],.int .i64 l,.int .i64 h] w
  fun e w'=>e= .returned (.tuple #[.int .i64 (UN (lo,hi) l h).1,.int .i64 (UN (lo,hi) l h).2])/\Below w.heap.size w w':=by
 unfold UN;go_enter Tryz.func290,Tryz.ntmps290;go_wp2_with (go_at_call 259;refine (U1 _ _ _ _).mono ?_;rintro e w' ⟨rfl,rfl⟩)
 go_ret2
 exact ⟨rfl,(ba _ _)⟩
theorem Il (a lo hi a' l h:Int) (w:World):Calls Tryz.prog 305 #[.agg #[.int .i64 a,.int .i64 lo,.int .i64 hi,.int .i64 a',.int .i64 l,.int .i64 h]] w
  fun e w'=>e= .returned (.agg #[.int .i64 a',.int .i64 (UN (lo,hi) l h).1,.int .i64 (UN (lo,hi) l h).2])/\Below w.heap.size w w':=by
 go_enter Tryz.func305,Tryz.ntmps305;go_wp2_with fail;refine ck (PD _ _ _ _ _ _) fun w1 hb1=> ?_;have hz:w.heap.size+1<w1.heap.size:=by have:=hb1.size;simp at this;omega
 have Hb1:=Z9 hb1;obtain ⟨hc,hf⟩:=Ln hb1;clear hb1;go_wp2_with fail
 exact ZS (v:= .agg #[.int .i64 a',.int .i64 (UN (lo,hi) l h).1,.int .i64 (UN (lo,hi) l h).2]) (by simp [results,Tryz.results305,go_sem,hc]) rfl
  ⟨rfl,((((((ba _ _)).alloc (by simp) _).trans ((uh Hb1).mono (by simp;omega))).setCell (by simp) _).setCell (by simp) _).setCell (by simp) _⟩
theorem K6 {ps:List Zt} (hg:Zk ps=true):∀ (n:Nat) (g:Int) {w:World} {v:Value},XG w v ps-> -1<=g->g<n->g<ps.length->
  Calls Tryz.prog 289 #[v,.int .i64 g] w fun e w'=> ∃ x,e= .returned (.agg #[.int .i64 x,.int .i64 (bnd ps g).1,.int .i64 (bnd ps g).2])/\Below w.heap.size w w':=by
 intro n
 induction n with
 | zero=>
  intro g w v h h0 h1 h2;obtain rfl:g= -1:=by omega
  rw [Pm ps (by omega)];obtain ⟨a,cap,rfl,_⟩:=h;go_enter Tryz.func289,Tryz.ntmps289;go_wp2_with fail;exact ZS (v:= .agg #[.int .i64 (-1),.int .i64 0,.int .i64 1024]) (by simp [results,Tryz.results289,go_sem]) rfl ⟨-1,rfl,(ba _ _)⟩
 | succ n ih=>
  intro g w v h h0 h1 h2;by_cases hg0:g= -1
  ·subst hg0
   rw [Pm ps (by omega)];obtain ⟨a,cap,rfl,_⟩:=h;go_enter Tryz.func289,Tryz.ntmps289;go_wp2_with fail;exact ZS (v:= .agg #[.int .i64 (-1),.int .i64 0,.int .i64 1024]) (by simp [results,Tryz.results289,go_sem]) rfl ⟨-1,rfl,(ba _ _)⟩
  ·obtain ⟨k,rfl⟩:∃ k:Nat,g=k:=⟨g.toNat,by omega⟩
   have hlt:k<ps.length:=by omega
   obtain ⟨a0,a1,_⟩:=Su hg (g:=(k:Int)) (by omega) h2;have hs:=FK hg (g:=(k:Int)) (by omega) h2;rw [show ((k:Int)).toNat=k by omega] at a0 a1 hs;rw [hs];clear hs;have Hi:=Z9 h;obtain ⟨a,cap,rfl,hc,hm,hr⟩:=h
   rcases hr with hz | ⟨b,off,rfl,hbw,hcl⟩
   ·rw [hz] at hlt;simp at hlt
   obtain ⟨c0,c1,c2⟩:=VT hcl hlt;clear hcl;generalize hW:w.alloc (.cells #[.int .i64 0,.int .i64 0,.int .i64 0] 75)=W;have HB:Hid (Below w.heap.size w W):=Z9 (by rw [<-hW];exact (ba _ _));have hsz:w.heap.size<W.heap.size:=by rw [<-hW];simp
   have hbW:b<W.heap.size:=by omega
   rw [<-(uh HB).cell (p:=⟨b,off+k*3,none⟩) hbw] at c0;rw [<-(uh HB).cell (p:=⟨b,off+k*3+1,none⟩) hbw] at c1;rw [<-(uh HB).cell (p:=⟨b,off+k*3+2,none⟩) hbw] at c2
   have D:Hid ((∃ u,W.cell? ⟨w.heap.size,0,none⟩=some u)/\(∃ u,W.cell? ⟨w.heap.size,1,none⟩=some u)/\(∃ u,W.cell? ⟨w.heap.size,2,none⟩=some u)/\W.frozen? ⟨w.heap.size,0,none⟩=false/\W.frozen? ⟨w.heap.size,1,none⟩=false/\W.frozen? ⟨w.heap.size,2,none⟩=false):=
    Z9 (by rw [<-hW];exact ⟨⟨_,by simp;rfl⟩,⟨_,by simp;rfl⟩,⟨_,by simp;rfl⟩,by simp,by simp,by simp⟩)
   have HW:=Z9 hW;clear hW;have Hc:=Z9 (And.intro c0 (And.intro c1 c2));generalize hp:Z8 ps k=p at *;obtain ⟨x0,x1,x2⟩:=p;simp only at c0 c1 c2 a0 a1;have ih':=fun (w:World) (v:Value) (h:XG w v ps)=>ih x0 h a0 (by omega) (by omega);have Ih:=Z9 ih';clear ih ih' hp;go_enter Tryz.func289,Tryz.ntmps289;go_wp2_with fail;rw [uh HW]
   go_region_with (first
    | (go_at_call 289;refine (uh Ih _ _ ?_).mono ?_;(first | exact (uh Hi).below (uh HB) | exact ((uh Hi).below (uh HB)).below ((Z1 _ _).drew));rintro e w1 ⟨y,rfl,hb1⟩;have B1:Hid (Below W.heap.size W w1):=Z9 (by first | exact hb1 | exact ((Z1 _ _).drew).trans (hb1.mono (by simp)));have e0:=((uh B1).cell (p:=⟨b,off+k*3,none⟩) hbW).trans (uh Hc).1;have e1:=((uh B1).cell (p:=⟨b,off+k*3+1,none⟩) hbW).trans (uh Hc).2.1;have e2:=((uh B1).cell (p:=⟨b,off+k*3+2,none⟩) hbW).trans (uh Hc).2.2;clear hb1)
    | (go_at_call 305;refine (Il _ _ _ _ _ _ _).mono ?_;rintro e w2 ⟨rfl,hb2⟩;have B2:Hid (Below W.heap.size W w2):=Z9 ((uh B1).trans (hb2.mono (uh B1).size));obtain ⟨⟨u0,q0⟩,⟨u1,q1⟩,⟨u2,q2⟩,f0,f1,f2⟩:=uh D;have d0:=((uh B2).cell (p:=⟨w.heap.size,0,none⟩) hsz).trans q0;have d1:=((uh B2).cell (p:=⟨w.heap.size,1,none⟩) hsz).trans q1;have d2:=((uh B2).cell (p:=⟨w.heap.size,2,none⟩) hsz).trans q2;have z0:=((uh B2).frozen (p:=⟨w.heap.size,0,none⟩) hsz).trans f0;have z1:=((uh B2).frozen (p:=⟨w.heap.size,1,none⟩) hsz).trans f1;have z2:=((uh B2).frozen (p:=⟨w.heap.size,2,none⟩) hsz).trans f2;clear hb2 q0 q1 q2 f0 f1 f2))
   all_goals
    go_wp2_with fail
    exact ZS (v:= .agg #[.int .i64 x0,.int .i64 (UN (bnd ps x0) x1 x2).1,.int .i64 (UN (bnd ps x0) x1 x2).2]) (by simp [results,Tryz.results289,go_sem,d0,d1,d2]) rfl
     ⟨x0,rfl,((((uh HB).trans ((uh B2).mono (by omega))).setCell (Z2 _) _).setCell (Z2 _) _).setCell (Z2 _) _⟩
theorem L5 {w:World} {v:Value} {ps:List Zt} (g lo hi:Int) (h:XG w v ps) :
  Calls Tryz.prog 268 #[v,.int .i64 g,.int .i64 lo,.int .i64 hi] w fun e w'=>e= .returned (.tuple #[.int .i64 (SX ps g lo hi).1,.int .i64 (SX ps g lo hi).2])/\Below w.heap.size w w':=by
 have Hi:=Z9 h;obtain ⟨a,cap,rfl,hc,hm,hr⟩:=h;clear hr;generalize hW:w.alloc (.cells #[.int .i64 g,.int .i64 lo,.int .i64 hi] 75)=W;have HB:Hid (Below w.heap.size w W):=Z9 (by rw [<-hW];exact (ba _ _));have hsz:w.heap.size<W.heap.size:=by rw [<-hW];simp
 have D:Hid (W.cell? ⟨w.heap.size,0,none⟩=some (.int .i64 g)/\W.cell? ⟨w.heap.size,1,none⟩=some (.int .i64 lo)/\W.cell? ⟨w.heap.size,2,none⟩=some (.int .i64 hi)):=Z9 (by rw [<-hW];simp);have HW:=Z9 hW;clear hW;have hsv:(Zk ps && Xj (g,lo,hi) ps.length)=(isB ps g && Yx lo hi):=by unfold Xj isB;rw [Bool.and_assoc]
 cases hG:Zk ps
 ·rw [Kw (by rw [<-hsv,hG];rfl)]
  clear hsv;go_enter Tryz.func268,Tryz.ntmps268;go_wp2_with fail;rw [uh HW];refine (Wi ((uh Hi).below (uh HB))).mono ?_;rw [hG];rintro e w1 ⟨rfl,hb1⟩;have B1:=Z9 ((uh HB).trans (hb1.mono (by omega)));clear hb1;go_wp2_with fail
  go_ret2
  exact ⟨rfl,uh B1⟩
 ·cases hQ:Xj (g,lo,hi) ps.length
  ·rw [Kw (by rw [<-hsv,hG,hQ];rfl)]
   clear hsv;go_enter Tryz.func268,Tryz.ntmps268;go_wp2_with fail;rw [uh HW];refine (Wi ((uh Hi).below (uh HB))).mono ?_;rw [hG];rintro e w1 ⟨rfl,hb1⟩;have d0:=(hb1.cell (p:=⟨w.heap.size,0,none⟩) hsz).trans (uh D).1;have d1:=(hb1.cell (p:=⟨w.heap.size,1,none⟩) hsz).trans (uh D).2.1;have d2:=(hb1.cell (p:=⟨w.heap.size,2,none⟩) hsz).trans (uh D).2.2;have B1:=Z9 ((uh HB).trans (hb1.mono (by omega)));clear hb1;go_wp2_with fail;refine (Rp _ _ _ _ _).mono ?_;rw [hQ];rintro e w2 ⟨rfl,hb2⟩;have B2:=Z9 ((uh B1).trans (hb2.mono (uh B1).size));clear hb2;go_wp2_with fail
   go_ret2
   exact ⟨rfl,uh B2⟩
  ·obtain ⟨g0,g1,g2⟩:=JM hQ
   have hisB:isB ps g=true:=by unfold isB;rw [hG,Zn g0 (by simpa using g1)];rfl
   rw [Kx hisB g2];clear hsv hisB;have hlt:g<ps.length:=by simp only at g1;omega
   simp only at g0;go_enter Tryz.func268,Tryz.ntmps268;go_wp2_with fail;rw [uh HW];refine (Wi ((uh Hi).below (uh HB))).mono ?_;rw [hG];rintro e w1 ⟨rfl,hb1⟩;have d0:=(hb1.cell (p:=⟨w.heap.size,0,none⟩) hsz).trans (uh D).1;have d1:=(hb1.cell (p:=⟨w.heap.size,1,none⟩) hsz).trans (uh D).2.1;have d2:=(hb1.cell (p:=⟨w.heap.size,2,none⟩) hsz).trans (uh D).2.2;have B1:=Z9 ((uh HB).trans (hb1.mono (by omega)));clear hb1;go_wp2_with fail;refine (Rp _ _ _ _ _).mono ?_;rw [hQ];rintro e w2 ⟨rfl,hb2⟩;have B2:=Z9 ((uh B1).trans (hb2.mono (uh B1).size));clear hb2;go_wp2_with fail;refine (K6 hG (g+1).toNat g ((uh Hi).below (uh B2)) g0 (by omega) hlt).mono ?_;rintro e w3 ⟨x,rfl,hb3⟩;have B3:=Z9 ((uh B2).trans (hb3.mono (uh B2).size));clear hb3;go_wp2_with fail;refine ck (PD _ _ _ _ _ _) fun w4 hb4=> ?_;have B4:=Z9 ((uh B3).trans (hb4.mono (uh B3).size));clear hb4;go_wp2_with fail
   go_ret2
   exact ⟨rfl,uh B4⟩
theorem Yn {B:Nat} {w w':World} (h:Below B w w') (n:Nat):Below B w (w'.drewN n):=⟨h.os,h.tape,h.output,h.size,h.block⟩
theorem Yb (x:Int) (w:World):Calls Tryz.prog 105 #[.int .i64 x] w fun e w'=>e= .returned (.bool (inB x 0 1024))/\w'=w:=by
 go_enter Tryz.func105,Tryz.ntmps105;go_wp2_with (go_at_call 59;refine (ZT _ _ _ _).mono ?_;rintro e w' ⟨rfl,rfl⟩)
 go_ret;exact ⟨rfl,rfl⟩
theorem YI (lo hi:Int) (w:World):Calls Tryz.prog 78 #[.int .i64 lo,.int .i64 hi] w fun e w'=>e= .returned (.bool (Yx lo hi))/\w'=w:=by
 cases h1:inB lo 0 1024
 ·have hp:Yx lo hi=false:=by unfold Yx;rw [h1];rfl
  rw [hp];clear hp;go_enter Tryz.func78,Tryz.ntmps78;go_wp2_with (go_at_call 105;refine (Yb _ _).mono ?_;rintro e w' ⟨rfl,rfl⟩)
  go_ret;exact ⟨rfl,rfl⟩
 ·cases h2:inB hi 0 1024
  ·have hp:Yx lo hi=false:=by unfold Yx;rw [h1,h2];rfl
   rw [hp];clear hp;go_enter Tryz.func78,Tryz.ntmps78;go_wp2_with (go_at_call 105;refine (Yb _ _).mono ?_;rintro e w' ⟨rfl,rfl⟩)
   go_ret;exact ⟨rfl,rfl⟩
  ·have hp:Yx lo hi=decide (lo<=hi):=by unfold Yx;rw [h1,h2];rfl
   rw [hp];clear hp;by_cases h3:lo<=hi
   all_goals
    go_enter Tryz.func78,Tryz.ntmps78;go_wp2_with (go_at_call 105;refine (Yb _ _).mono ?_;rintro e w' ⟨rfl,rfl⟩)
    go_ret;exact ⟨Z5 (by first | (simp;done) | (simp;omega)),rfl⟩
theorem O3 {w:World} {v:Value} {ps:List Zt} (h:XG w v ps) :
  Calls Tryz.prog 115 #[v] w fun e w'=>e= .returned (.bool (Zk ps))/\Below w.heap.size w w':=by
 obtain ⟨a,cap,rfl,hc,hm,hr⟩:=h;have Hr:=Z9 hr;clear hr;go_enter Tryz.func115,Tryz.ntmps115;go_wp2_with fail
 go_loopw [3] (fun i wr=> ∃ k:Nat,k<=ps.length/\i= .int .i64 k/\TW ps k=true/\Below w.heap.size w wr) (fun i _=>ps.length-(intOf i).toNat)
 case atStart=>exact ⟨0,ZA _,rfl,rfl,Z1 _ _⟩
 case round=>
  obtain ⟨k,hk,rfl,hst,hb⟩:=hrel;have Hst:=Z9 hst;have Hb:=Z9 hb;clear hst;by_cases hlt:k<ps.length
  ·rcases uh Hr with h0 | ⟨b,off,rfl,hbw,hcl⟩
   ·rw [h0] at hlt;simp at hlt
   obtain ⟨c0,c1,c2⟩:=VT hcl hlt;rw [<-hb.cell (p:=⟨b,off+k*3,none⟩) hbw] at c0;rw [<-hb.cell (p:=⟨b,off+k*3+1,none⟩) hbw] at c1;rw [<-hb.cell (p:=⟨b,off+k*3+2,none⟩) hbw] at c2;generalize hp:Z8 ps k=p at c0 c1 c2;have Hp:=Z9 hp;clear hp;obtain ⟨x0,x1,x2⟩:=p;simp only at c0 c1 c2;clear hcl hb;have hg:Xj (x0,x1,x2) k=(inB x0 (-1) ((k:Int)-1) && Yx x1 x2):=rfl;have Hg:=Z9 hg;clear hg;cases h1:inB x0 (-1) ((k:Int)-1)
   ·go_wp2_with fail
    go_quiet (first | exact Yg (ZT _ _ _ _) | exact Yg (YI _ _ _));go_wp2_with fail;go_ret;exact ⟨Z5 (OG hlt (by rw [uh Hp,uh Hg,h1];rfl)).symm,Yn (uh Hb) _⟩
   cases h2:Yx x1 x2
   ·go_wp2_with fail
    go_quiet (first | exact Yg (ZT _ _ _ _) | exact Yg (YI _ _ _));go_wp2_with fail;go_ret;exact ⟨Z5 (OG hlt (by rw [uh Hp,uh Hg,h1,h2];rfl)).symm,Yn (uh Hb) _⟩
   ·go_wp2_with fail
    go_quiet (first | exact Yg (ZT _ _ _ _) | exact Yg (YI _ _ _));go_wp2_with fail;go_roundw
    case rel=>exact ⟨k+1,by omega,by go_num,by rw [Qo,uh Hst,uh Hp,uh Hg,h1,h2];rfl,Yn (uh Hb) _⟩
    case measure=>exact ms
  ·obtain rfl:k=ps.length:=by omega
   by_cases hbig:ps.length<=6
   all_goals
    go_wp2_with fail;go_ret;exact ⟨Z5 (by unfold Zk;rw [uh Hst];simp;omega),hb⟩
theorem N8 {ps:List Zt} (g:Int) (lo hi:Int) {w:World} {v:Value} (h:XG w v ps)
  (hB:Calls Tryz.prog 263 #[v,.int .i64 g] w fun e w'=>e= .returned (.tuple #[.int .i64 (bnd ps g).1,.int .i64 (bnd ps g).2])/\Below w.heap.size w w') :
  Calls Tryz.prog 219 #[v,.int .i64 g,.int .i64 lo,.int .i64 hi] w fun e w'=>e= .returned (.tuple #[.int .i64 (UN (bnd ps g) lo hi).1,.int .i64 (UN (bnd ps g) lo hi).2])/\Below w.heap.size w w':=by
 have HB:=Z9 hB;clear hB;obtain ⟨a,cap,rfl,_⟩:=h;unfold UN;go_enter Tryz.func219,Tryz.ntmps219;go_wp2_with fail;refine ck (uh HB) fun w1 hb1=> ?_;go_wp2_with (go_at_call 220;refine (Sc _ _ _ _).mono ?_;rintro e w' ⟨rfl,rfl⟩)
 go_ret2
 exact ⟨rfl,hb1⟩
theorem Jg {ps:List Zt} (hg:Zk ps=true):∀ (n:Nat) (g:Int) {w:World} {v:Value},XG w v ps-> -1<=g->g<n->g<ps.length->
  Calls Tryz.prog 263 #[v,.int .i64 g] w fun e w'=>e= .returned (.tuple #[.int .i64 (bnd ps g).1,.int .i64 (bnd ps g).2])/\Below w.heap.size w w':=by
 intro n
 induction n with
 | zero=>
  intro g w v h h0 h1 h2;obtain rfl:g= -1:=by omega
  rw [Pm ps (by omega)];obtain ⟨a,cap,rfl,_⟩:=h;go_enter Tryz.func263,Tryz.ntmps263;go_wp2_with fail
  go_ret2
  exact ⟨rfl,Z1 _ _⟩
 | succ n ih=>
  intro g w v h h0 h1 h2;by_cases hg0:g<0
  ·obtain rfl:g= -1:=by omega
   rw [Pm ps (by omega)];obtain ⟨a,cap,rfl,_⟩:=h;go_enter Tryz.func263,Tryz.ntmps263;go_wp2_with fail
   go_ret2
   exact ⟨rfl,Z1 _ _⟩
  ·obtain ⟨k,rfl⟩:∃ k:Nat,g=k:=⟨g.toNat,by omega⟩
   have hlt:k<ps.length:=by omega
   obtain ⟨a0,a1,_⟩:=Su hg (g:=(k:Int)) (by omega) h2;have hs:=FK hg (g:=(k:Int)) (by omega) h2;rw [show ((k:Int)).toNat=k by omega] at a0 a1 hs;rw [hs];clear hs;have Hi:=Z9 h;obtain ⟨a,cap,rfl,hc,hm,hr⟩:=h
   rcases hr with hz | ⟨b,off,rfl,hbw,hcl⟩
   ·rw [hz] at hlt;simp at hlt
   obtain ⟨c0,c1,c2⟩:=VT hcl hlt;clear hcl;generalize hp:Z8 ps k=p at *;obtain ⟨x0,x1,x2⟩:=p;simp only at c0 c1 c2 a0 a1;have k0:=ZW c0;have k1:=ZW c1;have k2:=ZW c2;have ih':=fun (w':World) (h:XG w' (.slice (some ⟨b,off,none⟩) ps.length cap) ps)=>N8 x0 x1 x2 h (ih x0 h a0 (by omega) (by omega));have Ih:=Z9 ih';clear ih ih' hp;go_enter Tryz.func263,Tryz.ntmps263;go_wp2_with fail;refine wq ?_
   repeat (go_big_quiet_step (exact ZY (uh Ih _ ((uh Hi).below (Z0 _ _ _)))))
   refine wpQuiet_nil ?_;intro _ hw';obtain ⟨⟨dq,osq⟩,hw''⟩:=hw';subst hw'';go_wp2_with fail
   go_ret2
   exact ⟨rfl,Z0 _ _ _⟩
def Zh (x:Z3):Bool:=
 inB x.1 1 3 && (inB x.2.1 0 7 && (inB x.2.2.1 (-5) 5 && (inB x.2.2.2.1 1 255 && (inB x.2.2.2.2.1 (-1) 5 && (Yx x.2.2.2.2.2.1 x.2.2.2.2.2.2.1 && (inB x.2.2.2.2.2.2.2.1 (-1000000000000) 1000000000000 &&
  (inB x.2.2.2.2.2.2.2.2.1 0 (Zl x.2.2.1-1) && (inB x.2.2.2.2.2.2.2.2.2.1 0 1024 && inB x.2.2.2.2.2.2.2.2.2.2 0 100000000000))))))))
def Vf:Z3:=(0,0,0,0,0,0,0,0,0,0,0)
def Tq (x y:Z3):Bool:=x.1 ==y.1 && (x.2.1 ==y.2.1 && (x.2.2.1 ==y.2.2.1 && (x.2.2.2.1 ==y.2.2.2.1 && (x.2.2.2.2.1 ==y.2.2.2.2.1 && (x.2.2.2.2.2.1 ==y.2.2.2.2.2.1 && (x.2.2.2.2.2.2.1 ==y.2.2.2.2.2.2.1 && (x.2.2.2.2.2.2.2.1 ==y.2.2.2.2.2.2.2.1 && (x.2.2.2.2.2.2.2.2.1 ==y.2.2.2.2.2.2.2.2.1 && (x.2.2.2.2.2.2.2.2.2.1 ==y.2.2.2.2.2.2.2.2.2.1 && (x.2.2.2.2.2.2.2.2.2.2 ==y.2.2.2.2.2.2.2.2.2.2))))))))))
theorem MA (x:Z3):Tq x x=true:=by unfold Tq;simp
theorem AT {x y:Z3} (h:Tq x y=true):x=y:=by
 obtain ⟨x0,x1,x2,x3,x4,x5,x6,x7,x8,x9,x10⟩:=x;obtain ⟨y0,y1,y2,y3,y4,y5,y6,y7,y8,y9,y10⟩:=y;unfold Tq at h;simp only [ZM,beq_iff_eq] at h;obtain ⟨rfl,rfl,rfl,rfl,rfl,rfl,rfl,rfl,rfl,rfl,rfl⟩:=h;rfl
def Wt (x:Z3):Bool:=Tq x Vf
def Zx (x:Z3):Bool:=Wt x || Zh x
theorem Vw (r:Int):0<=Zl r/\Zl r<=3125:=by
 cases h:inB r (-5) 5
 ·rw [VO h];omega
 ·rcases AM h with rfl | rfl | rfl | rfl | rfl | rfl | rfl | rfl | rfl | rfl | rfl<;>decide
theorem WB {r:Int} (h:inB r (-5) 5=true):335<=Zl r:=by
 rcases AM h with rfl | rfl | rfl | rfl | rfl | rfl | rfl | rfl | rfl | rfl | rfl<;>decide
theorem Ol (r:Int):(Zl r !=0)=inB r (-5) 5:=by
 cases h:inB r (-5) 5
 ·rw [VO h];rfl
 ·have:=WB h
  simp;omega
theorem Zi {st be rk my gu lo hi hd ca ut wk:Int} (h:Zh (st,be,rk,my,gu,lo,hi,hd,ca,ut,wk)=true):(1<=st/\st<=3)/\(0<=be/\be<=7)/\inB rk (-5) 5=true/\(1<=my/\my<=255)/\(-1<=gu/\gu<=5)/\Yx lo hi=true/\(-1000000000000<=hd/\hd<=1000000000000)/\(0<=ca/\ca<=Zl rk-1)/\(0<=ut/\ut<=1024)/\(0<=wk/\wk<=100000000000):=by
 unfold Zh at h;simp only [ZM] at h;obtain ⟨h0,h1,h2,h3,h4,h5,h6,h7,h8,h9⟩:=h;exact ⟨ZO h0,ZO h1,h2,ZO h3,ZO h4,h5,ZO h6,ZO h7,ZO h8,ZO h9⟩
theorem Wa {x:Z3} (h:Wt x=true):x=Vf:=AT h
theorem Ea:Wt Vf=true:=MA _
theorem Rn {x:Z3} (h:x.1 ≠ 0):Wt x=false:=by
 cases hg:Wt x
 ·rfl
 ·exact absurd (show x.1=0 by rw [Wa hg];rfl) h
theorem Mp {x:Z3} (h:x.1=0):Zh x=false:=by
 unfold Zh;rw [h];rfl
def Mq (x:Z3) (work:Int):Z3:=
 (x.1,x.2.1,x.2.2.1,x.2.2.2.1,x.2.2.2.2.1,x.2.2.2.2.2.1,x.2.2.2.2.2.2.1,x.2.2.2.2.2.2.2.1+SQ work (Zl x.2.2.1) x.2.2.2.2.2.2.2.2.1,SP work (Zl x.2.2.1) x.2.2.2.2.2.2.2.2.1,x.2.2.2.2.2.2.2.2.2.1,x.2.2.2.2.2.2.2.2.2.2+work)
def Qh (x:Z3) (rank:Int):Z3:=
 (x.1,x.2.1,rank,x.2.2.2.1,x.2.2.2.2.1,x.2.2.2.2.2.1,x.2.2.2.2.2.2.1,x.2.2.2.2.2.2.2.1,x.2.2.2.2.2.2.2.2.1%Zl rank,x.2.2.2.2.2.2.2.2.2.1,x.2.2.2.2.2.2.2.2.2.2)
def WR (x:Z3) (work:Int):Z3 × Bool:=
 if Zh x then (if inB work 0 100000 && Zh (Mq x work) then (Mq x work,true) else (x,false)) else (if Wt x then x else Vf,false)
def Zr (x:Z3) (rank:Int):Z3 × Bool:=
 if Zh x then (if inB rank (-5) 5 then (Qh x rank,true) else (x,false)) else (if Wt x then x else Vf,false)
theorem SL {x:Z3} {rank:Int} (h:Zh x=true) (hr:inB rank (-5) 5=true):Zh (Qh x rank)=true:=by
 obtain ⟨st,be,rk,my,gu,lo,hi,hd,ca,ut,wk⟩:=x;have hp:=WB hr;have hc:inB (ca%Zl rank) 0 (Zl rank-1)=true:=Zn (Int.emod_nonneg _ (by omega)) (by have:=Int.emod_lt_of_pos ca (show 0<Zl rank by omega);omega);unfold Zh at h ⊢;simp only [ZM] at h;obtain ⟨h0,h1,h2,h3,h4,h5,h6,h7,h8,h9⟩:=h;simp only [Qh,h0,h1,h3,h4,h5,h6,h8,h9,hr,hc,Bool.and_self]
theorem AZ {work W ca:Int} (w0:0<=work) (w1:work<=100000) (r0:335<=W) (r1:W<=3125) (c0:0<=ca) (c1:ca<=W-1) :
  Wl work W ca=true/\0<=SQ work W ca/\SQ work W ca<=400000/\0<=SP work W ca/\SP work W ca<=W-1/\SQ work W ca*W+SP work W ca=1024*work+ca:=by
 have hk:Wl work W ca=true:=EE w0 (by omega) (by omega) (by omega) c0 (by omega);obtain ⟨e1,e2⟩:=Kh hk;rw [e1,e2];have hd:=Int.emod_add_mul_ediv (1024*work+ca) W;have m0:=Int.emod_nonneg (1024*work+ca) (show W ≠ 0 by omega);have m1:=Int.emod_lt_of_pos (1024*work+ca) (show 0<W by omega);have q0:0<=(1024*work+ca) / W:=Int.ediv_nonneg (by omega) (by omega)
 have q1:(1024*work+ca) / W<=400000:=by
  refine Int.le_of_lt_add_one (Int.ediv_lt_of_lt_mul (by omega) ?_);have:(335:Int)*400001<=W*400001:=Int.mul_le_mul_of_nonneg_right r0 (by omega);have e:(400000+1)*W=W*400001:=by rw [Int.mul_comm];rfl
  rw [e];omega
 refine ⟨hk,q0,q1,m0,by omega,?_⟩;rw [Int.mul_comm];omega
theorem TD (s:Int) (w:World):Calls Tryz.prog 194 #[.int .i64 s] w fun e w'=>e= .returned (.bool (inB s 0 255))/\w'=w:=by
 by_cases h1:0<=s
 ·by_cases h2:s<=255
  all_goals
   go_enter Tryz.func194,Tryz.ntmps194
   go_wp2
   go_ret;exact ⟨Z5 (by first | exact (Zn h1 h2).symm | exact (Wv (by omega)).symm),rfl⟩
 ·go_enter Tryz.func194,Tryz.ntmps194
  go_wp2
  go_ret;exact ⟨Z5 (Wv (by omega)).symm,rfl⟩
theorem U6 (i:Int) (w:World):Calls Tryz.prog 195 #[.int .i64 i] w fun e w'=>e= .returned (.bool (inB i 0 7))/\w'=w:=by
 by_cases h1:0<=i
 ·by_cases h2:i<8
  all_goals
   go_enter Tryz.func195,Tryz.ntmps195
   go_wp2
   go_ret;exact ⟨Z5 (by first | exact (Zn h1 (by omega)).symm | exact (Wv (by omega)).symm),rfl⟩
 ·go_enter Tryz.func195,Tryz.ntmps195
  go_wp2
  go_ret;exact ⟨Z5 (Wv (by omega)).symm,rfl⟩
def WI (s i:Int):Bool:=decide (s / 2 ^ i.toNat%2=1)
def Vt (s i:Int):Bool:=inB s 0 255 && inB i 0 7 && WI s i
theorem Ai (n:Int):bits .and .i64 n 1=n%2:=by
 have h1:(BitVec.ofInt 64 1).toNat=2 ^ 1-1:=by decide
 have key:(BitVec.ofInt 64 n &&& BitVec.ofInt 64 1).toNat=(n%((2 ^ 64:Nat):Int)).toNat%2 ^ 1:=by
  rw [BitVec.toNat_and,BitVec.toNat_ofInt,h1,Nat.and_two_pow_sub_one_eq_mod]
 show IntKind.i64.wrap ((BitVec.ofInt 64 n &&& BitVec.ofInt 64 1).toNat:Nat)=n%2;rw [key,IntKind.wrap_i64];omega
theorem zN (s i:Int):(bits .and .i64 (s / 2 ^ i.toNat) 1 ==1)=WI s i:=by rw [Ai];unfold WI;rfl
theorem EA {s i:Int} (h:inB s 0 255=false\/inB i 0 7=false):Vt s i=false:=by unfold Vt;rcases h with h | h<;>simp [h]
theorem Au {s i:Int} (hs:inB s 0 255=true) (hi:inB i 0 7=true):Vt s i=WI s i:=by unfold Vt;simp [hs,hi]
theorem JZ (s i:Int) (w:World) (hs:0<=s) (hs2:s<=255) (hi:0<=i) (hi2:i<=7):Calls Tryz.prog 60 #[.int .i64 s,.int .i64 i] w fun e w'=>e= .returned (.bool (WI s i))/\w'=w:=by
 go_enter Tryz.func60,Tryz.ntmps60
 go_wp2
 go_ret;exact ⟨Z5 (zN s i),rfl⟩
theorem Wb (s i:Int) (w:World):Calls Tryz.prog 136 #[.int .i64 s,.int .i64 i] w fun e w'=>e= .returned (.bool (Vt s i))/\w'=w:=by
 by_cases hb:inB s 0 255=true
 ·obtain ⟨hs,hs2⟩:=ZO hb
  by_cases hc:inB i 0 7=true
  ·obtain ⟨hi,hi2⟩:=ZO hc
   go_enter Tryz.func136,Tryz.ntmps136;go_wp2_with (first | (go_at_call 194;refine (TD _ _).mono ?_;rintro e w' ⟨rfl,rfl⟩) | (go_at_call 195;refine (U6 _ _).mono ?_;rintro e w' ⟨rfl,rfl⟩))
   go_ret;exact ⟨Z5 ((zN s i).trans (Au hb hc).symm),rfl⟩
  ·have hc':inB i 0 7=false:=by simpa using hc
   go_enter Tryz.func136,Tryz.ntmps136;go_wp2_with (first | (go_at_call 194;refine (TD _ _).mono ?_;rintro e w' ⟨rfl,rfl⟩) | (go_at_call 195;refine (U6 _ _).mono ?_;rintro e w' ⟨rfl,rfl⟩))
   go_ret;exact ⟨Z5 (EA (.inr hc')).symm,rfl⟩
 ·have hb':inB s 0 255=false:=by simpa using hb
  go_enter Tryz.func136,Tryz.ntmps136;go_wp2_with (first | (go_at_call 194;refine (TD _ _).mono ?_;rintro e w' ⟨rfl,rfl⟩) | (go_at_call 195;refine (U6 _ _).mono ?_;rintro e w' ⟨rfl,rfl⟩))
  go_ret;exact ⟨Z5 (EA (.inl hb')).symm,rfl⟩
def ZL (s:Z3):Bool:=s.1 ==2 || s.1 ==3
def WE (had Xy:Int):Bool:=inB had (-1000000000000) 1000000000000 && (inB Xy (-1000000000000) 1000000000000 && inB (had-Xy) (-20000) 63000)
def Vy (d:XQ):Bool:=inB d.2.2 (-900000000000) 900000000000
def V4 (m:Z6) (j:Nat):Bool:=inB (Z8 m.pc j) 0 (((ZR m.rm j).2.length:Int)-1)
def XV (m:Z6) (s:Z3):Bool:=Zx s && (s.1 ==0 || (decide (s.2.2.2.2.1<m.gd.length) && decide (s.2.1<m.dk.length)))
def XL (m:Z6) (s:Z3):Bool:= !ZL s || ((Z8 m.dk s.2.1.toNat).1 && (WI s.2.2.2.1 s.2.1 && WE s.2.2.2.2.2.2.2.1 (Z8 m.dk s.2.1.toNat).2.2))
def YD (m:Z6):Bool:=Y2 m.rm && (Zk m.gd && (decide (m.sm.length<=12) && (decide ((m.dk.length:Int)=ZV m.rm) && (decide (m.pc.length=m.rm.length) && inB m.now 0 1000000))))
def Vk (m:Z6) (k:Nat):Bool:=(List.range k).all fun j=>Vy (Z8 m.dk j)
def TJ (m:Z6) (k:Nat):Bool:=(List.range k).any fun j=>(Z8 m.dk j).1
def VM (m:Z6) (k:Nat):Bool:=(List.range k).all fun j=>V4 m j
def VN (m:Z6) (k:Nat):Bool:=(List.range k).all fun j=>XV m (Z8 m.sm j) && XL m (Z8 m.sm j)
def Yv (m:Z6):Bool:=YD m && (Vk m m.dk.length && (VM m m.pc.length && (VN m m.sm.length && TJ m m.dk.length)))
theorem Tz {p:Nat->Bool} (k:Nat):(List.range (k+1)).all p=((List.range k).all p && p k):=by rw [List.range_succ,List.all_append];simp
theorem zE {p:Nat->Bool} (k:Nat):(List.range (k+1)).any p=((List.range k).any p || p k):=by rw [List.range_succ,List.any_append];simp
theorem P2 {p:Nat->Bool} {k n:Nat} (hk:k<n) (h:p k=false):(List.range n).all p=false:=by
 rw [List.all_eq_false];exact ⟨k,List.mem_range.2 hk,by simp [h]⟩
theorem IT {p:Nat->Bool} {k n:Nat} (h:(List.range n).all p=true) (hk:k<n):p k=true:=List.all_eq_true.1 h k (List.mem_range.2 hk)
theorem VW {m:Z6} (h:YD m=false):Yv m=false:=by unfold Yv;rw [h];rfl
theorem GF {m:Z6} {k:Nat} (hk:k<m.dk.length) (h:Vy (Z8 m.dk k)=false):Yv m=false:=by
 unfold Yv Vk;rw [P2 hk h];simp
theorem GG {m:Z6} {k:Nat} (hk:k<m.pc.length) (h:V4 m k=false):Yv m=false:=by
 unfold Yv VM;rw [P2 (p:=fun j=>V4 m j) hk h];simp
theorem Jl {m:Z6} {k:Nat} (hk:k<m.sm.length) (h:(XV m (Z8 m.sm k) && XL m (Z8 m.sm k))=false):Yv m=false:=by
 unfold Yv VN;rw [P2 (p:=fun j=>XV m (Z8 m.sm j) && XL m (Z8 m.sm j)) hk h];simp
theorem Ex {m:Z6} (h1:YD m=true) (h2:Vk m m.dk.length=true) (h3:VM m m.pc.length=true) (h4:VN m m.sm.length=true):Yv m=TJ m m.dk.length:=by
 unfold Yv;rw [h1,h2,h3,h4];rfl
theorem Gl {m:Z6} {s:Z3} (h:XV m s=true) (hp:ZL s=true):0<=s.2.1/\s.2.1<m.dk.length/\s.2.1<=7/\1<=s.2.2.2.1/\s.2.2.2.1<=255/\s.2.2.2.2.1<m.gd.length:=by
 obtain ⟨st,be,rk,my,gu,lo,hi,hd,ca,ut,wk⟩:=s
 have hst:st ≠ 0:=by
  intro e;subst e;cases hp
 unfold XV at h;simp only [ZM,Bool.or_eq_true,YW] at h;obtain ⟨h1,h2⟩:=h
 rcases h2 with h2 | ⟨h2,h3⟩
 ·exact absurd (by simpa using h2) hst
 ·have hs:Zx (st,be,rk,my,gu,lo,hi,hd,ca,ut,wk)=Zh (st,be,rk,my,gu,lo,hi,hd,ca,ut,wk):=by unfold Zx;rw [Rn hst,Bool.false_or]
  rw [hs] at h1;obtain ⟨_,⟨b0,b1⟩,_,⟨m0,m1⟩,_⟩:=Zi h1;exact ⟨b0,h3,b1,m0,m1,h2⟩
def Xz (ss:List Z3) (b:Int):Nat->Option (Int × Bool)
 | 0=>some (-1,false)
 | k+1=>match Xz ss b k with
  | none=>none
  | some (wk,wt)=>if (Z8 ss k).2.1=b/\ZL (Z8 ss k)=true then (if (Z8 ss k).1=2 then some (wk,true) else if 0<=wk then none else some ((k:Int),wt)) else some (wk,wt)
def Ya (m:Z6) (b:Nat):Bool:=match Xz m.sm b m.sm.length with
 | none=>false
 | some (wk,wt)=>(Z8 m.dk b).2.1 ==wk && !(wt && decide (wk<0))
def ZI (m:Z6):Bool:=Yv m && (List.range m.dk.length).all (Ya m)
def ltB (a b:Z4):Bool:=decide (a.1<b.1\/(a.1=b.1/\a.2<b.2))
theorem Ar {a b:Z4} : ltB a b=true ↔ (a.1<b.1\/(a.1=b.1/\a.2<b.2)):=by unfold ltB;exact decide_eq_true_iff
theorem J1 {a b:Z4} : ltB a b=false ↔ ¬ (a.1<b.1\/(a.1=b.1/\a.2<b.2)):=by unfold ltB;exact decide_eq_false_iff_not
theorem PA (a:Z4):ltB a a=false:=by rw [J1];omega
theorem QW {a b:Z4} (h:ltB a b=true):ltB b a=false:=by rw [Ar] at h;rw [J1];omega
theorem SC {a b c:Z4} (h:ltB b a=false) (k:ltB c b=false):ltB c a=false:=by rw [J1] at *;omega
theorem ye {a b c:Z4} (h:ltB a b=true) (k:ltB b c=true):ltB a c=true:=by rw [Ar] at *;omega
theorem yd {a b:Z4} (h:ltB b a=false) (k:ltB a b=false):a=b:=by
  rw [J1] at *;obtain ⟨a1,a2⟩:=a;obtain ⟨b1,b2⟩:=b;simp only at h k;rw [show a1=b1 by omega,show a2=b2 by omega]
def swp (ps:List Z4) (i j:Nat):List Z4:=(ps.set i (Z7 ps j)).set j (Z7 ps i)
theorem zA (ps:List Z4) (i j:Nat):(swp ps i j).length=ps.length:=by simp [swp]
theorem Ml {ps:List Z4} {i:Nat} {x:Z4} (h:i<ps.length) (k:Nat):Z7 (ps.set i x) k=if k=i then x else Z7 ps k:=by
  unfold Z7;by_cases e:k=i
  · subst e;simp [List.getD,h]
  · rw [if_neg e];simp [List.getD,Ne.symm e]
theorem RS {ps:List Z4} {i j:Nat} (hi:i<ps.length) (hj:j<ps.length) (k:Nat):Z7 (swp ps i j) k=if k=j then Z7 ps i else if k=i then Z7 ps j else Z7 ps k:=by
  unfold swp;rw [Ml (by simpa using hj),Ml hi]
theorem RT {ps:List Z4} {i j:Nat} (hi:i<ps.length) (hj:j<ps.length):(swp ps i j).Perm ps:=by
  have:=List.set_set_perm hi hj;unfold swp Z7;simpa [List.getD,hi,hj] using this
def HeapTo (ps:List Z4) (n:Nat):Prop:= ∀ k,0<k->k<n->ltB (Z7 ps k) (Z7 ps ((k-1) / 2))=false
def UpTo (ps:List Z4) (n j:Nat):Prop:=
  (∀ k,0<k->k<n->k ≠ j->ltB (Z7 ps k) (Z7 ps ((k-1) / 2))=false)/\
  (∀ k,0<k->k<n->(k-1) / 2=j->0<j->ltB (Z7 ps k) (Z7 ps ((j-1) / 2))=false)
def DnTo (ps:List Z4) (n i0 i:Nat):Prop:=
  (∀ k,0<k->k<n->(k-1) / 2 ≠ i->(k ≠ i0\/i ≠ i0)->ltB (Z7 ps k) (Z7 ps ((k-1) / 2))=false)/\
  (∀ k,0<k->k<n->(k-1) / 2=i->0<i->ltB (Z7 ps k) (Z7 ps ((i-1) / 2))=false)
theorem UpTo.done {ps:List Z4} {n j:Nat} (h:UpTo ps n j) (hd:j=0\/ltB (Z7 ps j) (Z7 ps ((j-1) / 2))=false):HeapTo ps n:=fun k h0 hn=>by
  by_cases e:k=j
  · subst e
    rcases hd with hd | hd
    · omega
    · exact hd
  · exact h.1 k h0 hn e
theorem UpTo.step {ps:List Z4} {n j:Nat} (h:UpTo ps n j) (hj0:0<j) (hj:j<n) (hn:n<=ps.length) (hl:ltB (Z7 ps j) (Z7 ps ((j-1) / 2))=true):UpTo (swp ps ((j-1) / 2) j) n ((j-1) / 2):=by
  have hi:(j-1) / 2<j:=by omega
  have at':=fun k=>RS (ps:=ps) (i:=(j-1) / 2) (j:=j) (by omega) (by omega) k;generalize hi':(j-1) / 2=i at *;have hp:ltB (Z7 ps i) (Z7 ps j)=false:=QW hl;refine ⟨fun k k0 kn kne=> ?_,fun k k0 kn kp i0=> ?_⟩
  · rw [at' k,at' ((k-1) / 2)]
    by_cases e1:k=j
    · subst e1
      rw [if_pos rfl,hi',if_neg (by omega),if_pos rfl];exact hp
    · rw [if_neg e1,if_neg kne]
      by_cases e2:(k-1) / 2=j
      · rw [if_pos e2]
        have:=h.2 k k0 kn e2 hj0
        rwa [hi'] at this
      · rw [if_neg e2]
        by_cases e3:(k-1) / 2=i
        · rw [if_pos e3]
          have:=h.1 k k0 kn e1;rw [e3] at this;exact SC hp this
        · rw [if_neg e3]
          exact h.1 k k0 kn e1
  · rw [at' k,at' ((i-1) / 2),if_neg (by omega:(i-1) / 2 ≠ j),if_neg (by omega:(i-1) / 2 ≠ i)]
    by_cases e1:k=j
    · rw [if_pos e1]
      exact h.1 i i0 (by omega) (by omega)
    · rw [if_neg e1,if_neg (by omega)]
      have h1:=h.1 k k0 kn e1;rw [kp] at h1;exact SC (h.1 i i0 (by omega) (by omega)) h1
theorem DnTo.still {ps:List Z4} {n i:Nat} (h:DnTo ps n i i) (hd:∀ k,0<k->k<n->(k-1) / 2=i->ltB (Z7 ps k) (Z7 ps i)=false):UpTo ps n i:=
  ⟨fun k k0 kn kne=>by
    by_cases e:(k-1) / 2=i
    · rw [e];exact hd k k0 kn e
    · exact h.1 k k0 kn e (.inl kne),h.2⟩
theorem DnTo.moved {ps:List Z4} {n i0 i:Nat} (h:DnTo ps n i0 i) (hm:i ≠ i0) (hd:∀ k,0<k->k<n->(k-1) / 2=i->ltB (Z7 ps k) (Z7 ps i)=false):HeapTo ps n:=fun k k0 kn=>by
  by_cases e:(k-1) / 2=i
  · rw [e];exact hd k k0 kn e
  · exact h.1 k k0 kn e (.inr hm)
theorem DnTo.step {ps : List Z4} {n i0 i j : Nat} (h : DnTo ps n i0 i) (hi0 : i0 ≤ i) (hj0 : 0 < j) (hji : (j - 1) / 2 = i) (hj : j < n) (hn : n ≤ ps.length) (hl : ltB (Z7 ps j) (Z7 ps i) = true)
    (hm : ∀ k, 0 < k → k < n → (k - 1) / 2 = i → ltB (Z7 ps k) (Z7 ps j) = false) : DnTo (swp ps i j) n i0 j := by
  have at' := fun k => RS (ps := ps) (i := i) (j := j) (by omega) (by omega) k;have hp : ltB (Z7 ps i) (Z7 ps j) = false := QW hl;refine ⟨fun k k0 kn kne _ => ?_, fun k k0 kn kp _ => ?_⟩
  · rw [at' k, at' ((k - 1) / 2), if_neg kne]
    by_cases e1 : k = j
    · subst e1
      rw [if_pos rfl, if_pos hji];exact hp
    · rw [if_neg e1]
      by_cases e2 : k = i
      · subst e2
        rw [if_pos rfl, if_neg (by omega)];exact h.2 j hj0 hj hji k0
      · rw [if_neg e2]
        by_cases e3 : (k - 1) / 2 = i
        · rw [if_pos e3]
          exact hm k k0 kn e3
        · rw [if_neg e3]
          exact h.1 k k0 kn e3 (by omega)
  · rw [at' k, at' ((j - 1) / 2), hji, if_neg (by omega : k ≠ j), if_neg (by omega : k ≠ i), if_neg (by omega : i ≠ j), if_pos rfl]
    have := h.1 k k0 kn (by omega) (by omega)
    rwa [kp] at this
theorem HeapTo.least {ps:List Z4} {n:Nat} (h:HeapTo ps n):∀ k,k<n->ltB (Z7 ps k) (Z7 ps 0)=false:=by
  intro k
  induction k using Nat.strongRecOn with
  | ind k ih=>
    intro hk;by_cases e:k=0
    · subst e;exact PA _
    · exact SC (ih ((k-1) / 2) (by omega) (by omega)) (h k (by omega) hk)
theorem Qy {ps qs:List Z4} {k:Nat} (h:k<ps.length):Z7 (ps++qs) k=Z7 ps k:=by unfold Z7;simp [List.getD,List.getElem?_append_left h]
theorem Va {ps:List Z4} {n k:Nat} (h:k<n):Z7 (ps.take n) k=Z7 ps k:=by unfold Z7;simp [List.getD,h]
theorem HeapTo.push {ps:List Z4} (e:Z4) (h:HeapTo ps ps.length):UpTo (ps++[e]) (ps.length+1) ps.length:=
  ⟨fun k k0 kn kne=>by rw [Qy (by omega),Qy (by omega)];exact h k k0 (by omega),fun k k0 kn kp h0=>by omega⟩
theorem HeapTo.swap {ps:List Z4} {n i:Nat} (h:HeapTo ps (n+1)) (hl:ps.length=n+1) (hi:i<n):DnTo (swp ps i n) n i i:=by
  have at':=fun k=>RS (ps:=ps) (i:=i) (j:=n) (by omega) (by omega) k;refine ⟨fun k k0 kn kne kd=> ?_,fun k k0 kn kp i0=> ?_⟩
  · rw [at' k,at' ((k-1) / 2),if_neg (by omega),if_neg (by omega),if_neg (by omega),if_neg kne]
    exact h k k0 (by omega)
  · rw [at' k,at' ((i-1) / 2),if_neg (by omega),if_neg (by omega),if_neg (by omega),if_neg (by omega)]
    have h1:=h k k0 (by omega);rw [kp] at h1;exact SC (h i i0 (by omega)) h1
abbrev Ris (ps:List Z4):Prop:=ps.Pairwise fun a b=>ltB b a=false
theorem yr {ps qs:List Z4} (h:Ris ps) (k:Ris qs) (hp:ps.Perm qs):ps=qs:=
  hp.eq_of_pairwise (le:=fun a b=>ltB b a=false) (fun _ _ _ _ h1 h2=>yd h1 h2) h k
theorem AP {ps:List Z4} (h:Ris ps):HeapTo ps ps.length:=fun k k0 kn=>by
  have hk:(k-1) / 2<k:=by omega
  have:=List.pairwise_iff_getElem.1 h ((k-1) / 2) k (by omega) kn hk;unfold Z7;simpa [List.getD,kn,(by omega:(k-1) / 2<ps.length)] using this
theorem AQ {ps : List Z4} {x : Z4} (h : Ris ps) (hx : ∀ y ∈ ps, ltB x y = false) : Ris (ps ++ [x]) := by
  unfold Ris; rw [List.pairwise_append]
  exact ⟨h, by simp, fun a ha b hb => by obtain rfl : b = x := by simpa using hb
                                         exact hx a ha⟩
theorem MS {ps:List Z4} {n:Nat} (h:ps.length=n+1):ps.take n++[Z7 ps n]=ps:=by
  have e:Z7 ps n=ps[n]:=by unfold Z7;simp [List.getD,h]
  rw [e,<-List.take_succ_eq_append_getElem (by omega),List.take_of_length_le (by omega)]
theorem WZ {ps:List Z4} {k:Nat} (h:k<ps.length):Z7 ps k ∈ ps:=by unfold Z7;simp [List.getD,h]
theorem SD {ps:List Z4} {x:Z4} (h:x ∈ ps):∃ k,k<ps.length/\Z7 ps k=x:=by
  obtain ⟨k,hk,rfl⟩:=List.getElem_of_mem h;exact ⟨k,hk,by unfold Z7;simp [List.getD,hk]⟩
def LA (p:Z4):Bool:=inB p.1 (-1000000000000) 1000000000000 && inB p.2 0 99
def VD (ps:List Z4) (who:Int):Int:=match ps.findIdx? (fun p=>p.2 ==who) with
  | some k=>k
  | none=> -1
def Vz (ps:List Z4) (k:Nat):Bool:=LA (Z7 ps k) && ((k ==0 || ltB (Z7 ps (k-1)) (Z7 ps k)) && decide (VD (ps.take k) (Z7 ps k).2<0))
def Yf (ps:List Z4):Bool:=decide (ps.length<=100) && (List.range ps.length).all (Vz ps)
def XJ (e:Z4):List Z4->Nat
  | []=>0
  | p::ps=>if ltB p e then XJ e ps+1 else 0
def Vb (ps:List Z4) (e:Z4):List Z4:=ps.take (XJ e ps)++e::ps.drop (XJ e ps)
def SM (ps:List Z4) (e:Z4):List Z4 × Bool:=if Yf ps then if Yf (Vb ps e) then (Vb ps e,true) else (ps,false) else ([],false)
def Sq (ps:List Z4):Z4 × Bool:=if Yf ps && decide (0<ps.length) then (Z7 ps 0,true) else ((0,0),false)
theorem LD {ps:List Z4} {who:Int} (h:∀ j,j<ps.length->(Z7 ps j).2 ≠ who):VD ps who= -1:=by
  unfold VD;rw [List.findIdx?_eq_none_iff.2];intro p hp;obtain ⟨k,hk,rfl⟩:=SD hp;simpa using h k hk
theorem D8 {ps:List Z4} {who:Int} {k:Nat} (hk:k<ps.length) (h:(Z7 ps k).2=who) (hn:∀ j,j<k->(Z7 ps j).2 ≠ who):VD ps who=k:=by
  have e:∀ j (hj:j<ps.length),Z7 ps j=ps[j]:=fun j hj=>by unfold Z7;simp [List.getD,hj]
  unfold VD;rw [List.findIdx?_eq_some_iff_getElem.2 ⟨hk,by rw [<-e k hk];simpa using h,fun j hj=>by rw [<-e j (by omega)];simpa using hn j hj⟩]
theorem NQ (ps:List Z4) (who:Int):(VD ps who= -1/\ ∀ j,j<ps.length->(Z7 ps j).2 ≠ who)\/ ∃ k:Nat,VD ps who=k/\k<ps.length/\(Z7 ps k).2=who/\ ∀ j,j<k->(Z7 ps j).2 ≠ who:=by
  have e:∀ j (hj:j<ps.length),Z7 ps j=ps[j]:=fun j hj=>by unfold Z7;simp [List.getD,hj]
  cases hf:ps.findIdx? (fun p=>p.2 ==who) with
  | none=>
    left;refine ⟨by unfold VD;rw [hf],fun j hj=> ?_⟩;have:=List.findIdx?_eq_none_iff.1 hf _ (WZ hj);simpa using this
  | some k=>
    right;obtain ⟨hk,h1,h2⟩:=List.findIdx?_eq_some_iff_getElem.1 hf;refine ⟨k,by unfold VD;rw [hf],hk,by rw [e k hk];simpa using h1,fun j hj=> ?_⟩;have:=h2 j hj;rw [e j (by omega)];simpa using this
theorem zX (ps:List Z4) (who:Int) : -1<=VD ps who/\VD ps who<ps.length:=by
  rcases NQ ps who with ⟨h,_⟩ | ⟨k,h,hk,_⟩<;>omega
theorem G9 {ps:List Z4} (hl:ps.length<=100) (h:∀ j,j<ps.length->Vz ps j=true):Yf ps=true:=by
  unfold Yf;simp only [ZM,YW,List.all_eq_true];exact ⟨hl,fun j hj=>h j (List.mem_range.1 hj)⟩
theorem Mr {ps:List Z4} {j:Nat} (hj:j<ps.length) (h:Vz ps j=false):Yf ps=false:=by
  unfold Yf;rw [Bool.and_eq_false_iff];right;rw [List.all_eq_false];exact ⟨j,List.mem_range.2 hj,by simp [h]⟩
theorem EL {ps:List Z4} (hl:100<ps.length):Yf ps=false:=by
  unfold Yf;rw [Bool.and_eq_false_iff];left;exact Xr (by omega)
theorem Co {ps:List Z4} (h:Yf ps=true):ps.length<=100/\ ∀ j,j<ps.length->Vz ps j=true:=by
  unfold Yf at h;simp only [ZM,YW,List.all_eq_true] at h;exact ⟨h.1,fun j hj=>h.2 j (List.mem_range.2 hj)⟩
theorem MQ {ps : List Z4} {k : Nat} (h : Vz ps k = true) : LA (Z7 ps k) = true ∧ (0 < k → ltB (Z7 ps (k - 1)) (Z7 ps k) = true) ∧ VD (ps.take k) (Z7 ps k).2 < 0 := by
  unfold Vz at h; simp only [ZM, Bool.or_eq_true, YW, beq_iff_eq] at h
  exact ⟨h.1, fun h0 => by rcases h.2.1 with e | e; · omega
                           · exact e, h.2.2⟩
structure IsQ (ps:List Z4):Prop where
  len:ps.length<=100
  ent:∀ p ∈ ps,LA p=true
  ord:ps.Pairwise fun a b=>ltB a b=true
  who:ps.Pairwise fun a b=>a.2 ≠ b.2
theorem yo {ps:List Z4} (h:∀ k,0<k->k<ps.length->ltB (Z7 ps (k-1)) (Z7 ps k)=true):∀ i j,i<j->j<ps.length->ltB (Z7 ps i) (Z7 ps j)=true:=by
  intro i j
  induction j with
  | zero=>intro h;omega
  | succ j ih=>
    intro hij hj;have h1:=h (j+1) (by omega) hj;by_cases e:i=j
    · subst e;simpa using h1
    · exact ye (ih (by omega) (by omega)) (by simpa using h1)
theorem xX {ps:List Z4} (h:Yf ps=true):IsQ ps:=by
  obtain ⟨hl,hs⟩:=Co h;have e:∀ j (hj:j<ps.length),Z7 ps j=ps[j]:=fun j hj=>by unfold Z7;simp [List.getD,hj]
  refine ⟨hl,fun p hp=> ?_,?_,?_⟩
  · obtain ⟨k,hk,rfl⟩:=SD hp
    exact (MQ (hs k hk)).1
  · rw [List.pairwise_iff_getElem]
    intro i j hi hj hij;rw [<-e i hi,<-e j hj];exact yo (fun k k0 kn=>(MQ (hs k kn)).2.1 k0) i j hij hj
  · rw [List.pairwise_iff_getElem]
    intro i j hi hj hij;rw [<-e i hi,<-e j hj];have h3:=(MQ (hs j hj)).2.2
    rcases NQ (ps.take j) (Z7 ps j).2 with ⟨_,h4⟩ | ⟨k,h4,_⟩
    · have:=h4 i (by simp;omega)
      rwa [Va hij] at this
    · omega
theorem EM {ps:List Z4} (h:IsQ ps):Yf ps=true:=by
  have e:∀ j (hj:j<ps.length),Z7 ps j=ps[j]:=fun j hj=>by unfold Z7;simp [List.getD,hj]
  refine G9 h.len fun j hj=> ?_;unfold Vz;simp only [ZM,Bool.or_eq_true,YW,beq_iff_eq];refine ⟨h.ent _ (WZ hj),?_,?_⟩
  · by_cases h0:j=0
    · exact .inl h0
    · right
      rw [e j hj,e (j-1) (by omega)];exact List.pairwise_iff_getElem.1 h.ord (j-1) j (by omega) hj (by omega)
  · rw [LD (fun i hi=> ?_)]
    · omega
    · have hi':i<j:=by simp at hi;omega
      rw [Va hi',e i (by omega),e j hj];exact List.pairwise_iff_getElem.1 h.who i j (by omega) hj hi'
theorem IsQ.ris {ps:List Z4} (h:IsQ ps):Ris ps:=h.ord.imp fun hab=>QW hab
theorem Mf (e:Z4):∀ ps:List Z4,XJ e ps<=ps.length
  | []=>Z2 _
  | p::ps=>by have:=Mf e ps;unfold XJ;split<;>simp<;>omega
theorem Mg (e:Z4):∀ (ps:List Z4) (k:Nat),k<XJ e ps->ltB (Z7 ps k) e=true
  | [],k,h=>by simp [XJ] at h
  | p::ps,k,h=>by
    unfold XJ at h
    split at h
    · cases k with
      | zero=>simpa [Z7] using ‹ltB p e=true›
      | succ k=>
        have:=Mg e ps k (by omega);simpa [Z7] using this
    · omega
theorem Me (e:Z4):∀ (ps:List Z4),XJ e ps<ps.length->ltB (Z7 ps (XJ e ps)) e=false
  | [],h=>by simp at h
  | p::ps,h=>by
    unfold XJ at h ⊢;by_cases hp:ltB p e=true
    · rw [if_pos hp] at h ⊢
      have:=Me e ps (by simpa using h);simpa [Z7] using this
    · rw [if_neg hp] at h ⊢
      simpa [Z7] using hp
theorem Ao {e:Z4} {ps:List Z4} {k:Nat} (hk:k<=ps.length) (h:∀ j,j<k->ltB (Z7 ps j) e=true) (hn:k=ps.length\/ltB (Z7 ps k) e=false):XJ e ps=k:=by
  rcases Nat.lt_trichotomy (XJ e ps) k with h1 | h1 | h1
  · have h2:=Me e ps (by omega)
    rw [h _ h1] at h2;cases h2
  · exact h1
  · rcases hn with hn | hn
    · have:=Mf e ps;omega
    · have:=Mg e ps k h1
      rw [hn] at this;cases this
theorem Q2 (ps:List Z4) (e:Z4):(Vb ps e).Perm (ps++[e]):=by
  unfold Vb;have h1:(ps.take (XJ e ps)++e::ps.drop (XJ e ps)).Perm (e::(ps.take (XJ e ps)++ps.drop (XJ e ps))):=List.perm_middle;rw [List.take_append_drop] at h1;exact h1.trans (List.perm_append_comm (l₁:=[e]) (l₂:=ps))
theorem AI (ps:List Z4) (e:Z4):(Vb ps e).length=ps.length+1:=by have:=(Q2 ps e).length_eq;simpa using this
theorem G6 {ps:List Z4} (h:Ris ps) (e:Z4):Ris (Vb ps e):=by
  have hle:=Mf e ps
  have hdr:∀ y ∈ ps.drop (XJ e ps),ltB y e=false:=fun y hy=>by
    obtain ⟨k,hk,rfl⟩:=List.getElem_of_mem hy;have hk':XJ e ps+k<ps.length:=by simp at hk;omega
    rw [List.getElem_drop];have h0:=Me e ps (by omega);have e0:Z7 ps (XJ e ps)=ps[XJ e ps]'(by omega):=by unfold Z7;simp [List.getD,(by omega:XJ e ps<ps.length)]
    rw [e0] at h0;by_cases hz:k=0
    · subst hz;simpa using h0
    · have h1:=List.pairwise_iff_getElem.1 h (XJ e ps) (XJ e ps+k) (by omega) hk' (by omega)
      exact SC h0 h1
  have hta:∀ y ∈ ps.take (XJ e ps),ltB y e=true:=fun y hy=>by
    obtain ⟨k,hk,rfl⟩:=List.getElem_of_mem hy;have hk':k<XJ e ps:=by simp at hk;omega
    have:=Mg e ps k hk';rw [List.getElem_take];unfold Z7 at this;simpa [List.getD,(by omega:k<ps.length)] using this
  unfold Vb Ris;rw [List.pairwise_append,List.pairwise_cons];refine ⟨h.sublist (List.take_sublist _ _),⟨fun y hy=>hdr y hy,h.sublist (List.drop_sublist _ _)⟩,fun a ha b hb=> ?_⟩
  rcases List.mem_cons.1 hb with rfl | hb
  · exact QW (hta a ha)
  · exact SC (QW (hta a ha)) (hdr b hb)
theorem E7 {ps qs:List Z4} {e:Z4} (h:IsQ ps) (hq:Ris qs) (hp:qs.Perm (ps++[e])):qs=Vb ps e:=
  yr hq (G6 h.ris e) (hp.trans (Q2 ps e).symm)
def atV (ss:List Z3) (b:Int):Nat->List Z4
 | 0=>[]
 | k+1=>if (Z8 ss k).2.1=b/\ZL (Z8 ss k)=true then Vb (atV ss b k) ((Z8 ss k).2.2.2.2.2.2.2.1,(k:Int)) else atV ss b k
theorem Si (ss:List Z3) (b:Int):∀ k,(atV ss b k).length<=k
 | 0=>Z2 _
 | k+1=>by
  have:=Si ss b k;unfold atV
  split
  ·rw [AI];omega
  ·omega
theorem TA {ss:List Z3} {b:Int} {k:Nat} (h:¬ ((Z8 ss k).2.1=b/\ZL (Z8 ss k)=true)):atV ss b (k+1)=atV ss b k:=by rw [atV,if_neg h]
theorem UH {ss:List Z3} {b:Int} {k:Nat} (h1:(Z8 ss k).2.1=b) (h2:ZL (Z8 ss k)=true):atV ss b (k+1)=Vb (atV ss b k) ((Z8 ss k).2.2.2.2.2.2.2.1,(k:Int)):=by rw [atV,if_pos ⟨h1,h2⟩]
def Ug (m:Z6) (b:Int):Bool:=inB b 0 ((m.dk.length:Int)-1)
def Xq (s:Z3):Int:=s.2.2.2.2.2.2.2.1
theorem AJ {ps:List Z4} {x e:Z4} : e ∈ Vb ps x ↔ e ∈ ps\/e=x:=by
 rw [(Q2 ps x).mem_iff];simp
theorem XF (ss:List Z3) (b:Int) (e:Z4):∀ k,e ∈ atV ss b k ↔ ∃ i:Nat,i<k/\(Z8 ss i).2.1=b/\ZL (Z8 ss i)=true/\e=(Xq (Z8 ss i),(i:Int))
 | 0=>by simp [atV]
 | k+1=>by
  have ih:=XF ss b e k;by_cases h:(Z8 ss k).2.1=b/\ZL (Z8 ss k)=true
  ·rw [UH h.1 h.2,AJ,ih]
   constructor
   ·rintro (⟨i,hi,h1,h2,h3⟩ | h3)
    ·exact ⟨i,by omega,h1,h2,h3⟩
    ·exact ⟨k,by omega,h.1,h.2,h3⟩
   ·rintro ⟨i,hi,h1,h2,h3⟩
    by_cases hik:i=k
    ·subst hik;exact .inr h3
    ·exact .inl ⟨i,by omega,h1,h2,h3⟩
  ·rw [TA h,ih]
   constructor
   ·rintro ⟨i,hi,h1,h2,h3⟩
    exact ⟨i,by omega,h1,h2,h3⟩
   ·rintro ⟨i,hi,h1,h2,h3⟩
    by_cases hik:i=k
    ·subst hik;exact absurd ⟨h1,h2⟩ h
    ·exact ⟨i,by omega,h1,h2,h3⟩
theorem M5 (ss:List Z3) (b:Int):∀ k,Ris (atV ss b k)
 | 0=>List.Pairwise.nil
 | k+1=>by
  by_cases h:(Z8 ss k).2.1=b/\ZL (Z8 ss k)=true
  ·rw [UH h.1 h.2];exact G6 (M5 ss b k) _
  ·rw [TA h];exact M5 ss b k
theorem S0 (ss:List Z3) (b:Int):∀ k,(atV ss b k).Pairwise fun x y=>x.2 ≠ y.2
 | 0=>List.Pairwise.nil
 | k+1=>by
  by_cases h:(Z8 ss k).2.1=b/\ZL (Z8 ss k)=true
  ·rw [UH h.1 h.2]
   refine (Q2 (atV ss b k) _).symm.pairwise ?_ (fun h=>Ne.symm h);rw [List.pairwise_append];refine ⟨S0 ss b k,by simp,fun x hx y hy=> ?_⟩;obtain rfl:y=_:=by simpa using hy
   obtain ⟨i,hi,_,_,rfl⟩:=(XF ss b x k).1 hx;show (i:Int) ≠ (k:Int);omega
  ·rw [TA h];exact S0 ss b k
def Alike (ss ss':List Z3) (k:Nat):Prop:= ∀ i,i<k->(Z8 ss' i).2.1=(Z8 ss i).2.1/\ZL (Z8 ss' i)=ZL (Z8 ss i)/\Xq (Z8 ss' i)=Xq (Z8 ss i)
theorem Ov {ss ss':List Z3} (b:Int):∀ k,Alike ss ss' k->atV ss' b k=atV ss b k
 | 0,_=>rfl
 | k+1,h=>by
  have ih:=Ov b k (fun i hi=>h i (by omega));obtain ⟨h1,h2,h3⟩:=h k (by omega);unfold atV;rw [h1,h2,ih,show (Z8 ss' k).2.2.2.2.2.2.2.1=(Z8 ss k).2.2.2.2.2.2.2.1 from h3]
def WW (ss:List Z3) (b:Int):Int:=match atV ss b ss.length with
 | []=> -1
 | h::_=>h.2
theorem Sp {ss:List Z3} {b:Int} {e:Z4} {t:List Z4} (h:atV ss b ss.length=e::t):WW ss b=e.2/\ ∃ i:Nat,i<ss.length/\(Z8 ss i).2.1=b/\ZL (Z8 ss i)=true/\e=(Xq (Z8 ss i),(i:Int)):=by
 refine ⟨by unfold WW;rw [h],?_⟩;exact (XF ss b e ss.length).1 (by rw [h];simp)
theorem NR {ss:List Z3} {b:Int} {e:Z4} {t:List Z4} (h:atV ss b ss.length=e::t) {i:Nat} (hi:i<ss.length) (h1:(Z8 ss i).2.1=b) (h2:ZL (Z8 ss i)=true):e.1<=Xq (Z8 ss i):=by
 have hm:(Xq (Z8 ss i),(i:Int)) ∈ atV ss b ss.length:=(XF ss b _ ss.length).2 ⟨i,hi,h1,h2,rfl⟩;have hr:=M5 ss b ss.length;rw [h] at hm hr
 rcases List.mem_cons.1 hm with he | ht
 ·rw [<-he];exact Int.le_refl _
 ·have:=(List.pairwise_cons.1 hr).1 _ ht
  rw [J1] at this;simp only at this;omega
def Wf (x:Int):Bool:=inB x (-1000000000000) 1000000000000
def Vi (h m:Int):Bool:=(Wf h && Wf m) && inB (h-m) (-20000) 63000
def YL (h m:Int):Int:=if Wf m then max h (m-20000) else h
def Zq (h f t:Int):Int:=if Wf h && (Wf f && Wf t) then h-f+t else h
def Zv (m f:Int):Int:=if Wf m && Wf f then min (max m f) 900000000000 else m
theorem Rq {x:Int} (h:Wf x=true) : -1000000000000<=x/\x<=1000000000000:=ZO h
theorem C9 (x y:Int):([x,y].all fun z=>inB z (-1000000000000) 1000000000000)=(Wf x && Wf y):=by simp [Wf]
theorem yD (x y z:Int):([x,y,z].all fun z=>inB z (-1000000000000) 1000000000000)=(Wf x && (Wf y && Wf z)):=by simp [Wf]
theorem yY (h m:Int):([h].all fun z=>inB z (m-20000) (m+63000))=inB (h-m) (-20000) 63000:=by
 simp only [List.all_cons,List.all_nil,Bool.and_true];unfold inB
 congr 1
 exact propext ⟨fun h=>by omega,fun h=>by omega⟩
theorem LJ {x:Int} (h0 : -1000000000000<=x) (h1:x<=1000000000000):Wf x=true:=Zn h0 h1
theorem Ax {h f t:Int} (h0 : -1000000000000<=h) (h1:h<=1000000000000) (f0 : -1000000000000<=f) (f1:f<=1000000000000) (t0 : -1000000000000<=t) (t1:t<=1000000000000):Zq h f t=h-f+t:=by
 unfold Zq;rw [LJ h0 h1,LJ f0 f1,LJ t0 t1];rfl
theorem J3 {m f:Int} (m0 : -1000000000000<=m) (m1:m<=1000000000000) (f0 : -1000000000000<=f) (f1:f<=1000000000000):Zv m f=min (max m f) 900000000000:=by
 unfold Zv;rw [LJ m0 m1,LJ f0 f1];rfl
end Go.Proofs.YtamgfpdahadnfaaGreatDoor
