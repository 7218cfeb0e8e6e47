/- Part 13 of what the proof rests on. No condition but those that a theorem names. -/
import Derived.Test.YtnponpamjddpjaaGreatXt12
set_option maxHeartbeats 8000000
set_option maxRecDepth 100000
namespace Go.Proofs.YtnponpamjddpjaaGreat
open Go.ChangeShapes Go.WideShapes Go.ChangeAt Go.RowKit
set_option linter.unusedVariables false
variable {m : Z3}
def Tg (need:Int) (p:Z6):Bool:=decide (5*need<=4*p.1)
def Sp (need:Int):List Z6->Nat
 | []=>0
 | [_]=>0
 | p::q::ps=>if Tg need p then 0 else Sp need (q::ps)+1
def XM (r:Z0) (need:Int):Int:=if Zq r && inB need 0 1000000 then Sp need r.2 else -1
def XK (r:Z0) (pace work:Int):Int:=if Zq r && (inB work 0 1000000 && inB pace 0 (r.2.length-1)) then Xm (Z7 r.2 pace.toNat).2 work (Z7 r.2 pace.toNat).1 else -1
def Np (r:Z0) (need work:Int):Int:=XK r (XM r need) work
theorem Me (p:Z6) (ps:List Z6):Z7 (p::ps) 0=p:=rfl
theorem Mg (p:Z6) (ps:List Z6) (k:Nat):Z7 (p::ps) (k+1)=Z7 ps k:=by unfold Z7;simp [List.getD]
theorem FK {need:Int} {p:Z6} (h:5*need<=4*p.1):Tg need p=true:=decide_eq_true h
theorem FJ {need:Int} {p:Z6} (h:4*p.1<5*need):Tg need p=false:=decide_eq_false (by omega)
theorem PL (need:Int):∀ (ps:List Z6) (k:Nat),k+1<=ps.length->(∀ j,j<k->Tg need (Z7 ps j)=false)->(k+1=ps.length\/Tg need (Z7 ps k)=true)->Sp need ps=k
 | [],k,hk,_,_=>by simp at hk
 | [p],k,hk,_,_=>by simp at hk;subst hk;rfl
 | p::q::ps,0,_,_,he=>by
  rcases he with he | he
  ·simp at he
  ·rw [Me] at he;simp [Sp,he]
 | p::q::ps,k+1,hk,hlo,he=>by
  have h0:=hlo 0 (by omega)
  rw [Me] at h0
  have ih:=PL need (q::ps) k (by simp at hk ⊢;omega) (fun j hj=>by have:=hlo (j+1) (by omega);rwa [Mg] at this) (by
   rcases he with he | he
   ·left;simp at he ⊢;omega
   ·right;rwa [Mg] at he)
  simp [Sp,h0,ih]
theorem Mj (need:Int):∀ ps:List Z6,1<=ps.length->Sp need ps+1<=ps.length
 | [],h=>by simp at h
 | [p],_=>by simp [Sp]
 | p::q::ps,_=>by
  have ih:=Mj need (q::ps) (by simp)
  unfold Sp;split<;>simp at ih ⊢;omega
theorem Ok {r:Z0} (h:Zq r=true) {k:Nat} (hk:k<r.2.length):1<=(Z7 r.2 k).1/\(Z7 r.2 k).1<=1024/\1<=(Z7 r.2 k).2/\(Z7 r.2 k).2<=1024:=by
 unfold Zq at h;simp only [Bool.and_eq_true] at h
 have h1:=Od h.2.2 hk
 unfold Xy Vi at h1;simp only [Bool.and_eq_true] at h1
 have a:=ZS h1.1.1;have b:=ZS h1.1.2
 omega
theorem Mh {r:Z0} {need:Int} (h:Zq r=false):XM r need= -1:=by unfold XM;simp [h]
theorem Mi {r:Z0} {need:Int} (h:inB need 0 1000000=false):XM r need= -1:=by unfold XM;simp [h]
theorem Kj {r:Z0} {need:Int} (h:Zq r=true) (h2:inB need 0 1000000=true):XM r need=Sp need r.2:=by unfold XM;simp [h,h2]
theorem QX {r:Z0} {pace work:Int} (h:Zq r=false):XK r pace work= -1:=by unfold XK;simp [h]
theorem QY {r:Z0} {pace work:Int} (h:inB work 0 1000000=false):XK r pace work= -1:=by unfold XK;simp [h]
theorem QZ {r:Z0} {pace work:Int} (h:inB pace 0 (r.2.length-1)=false):XK r pace work= -1:=by unfold XK;simp [h]
theorem Pb {r:Z0} {pace work:Int} (h:Zq r=true) (h2:inB work 0 1000000=true) (h3:inB pace 0 (r.2.length-1)=true):XK r pace work=Xm (Z7 r.2 pace.toNat).2 work (Z7 r.2 pace.toNat).1:=by unfold XK;simp [h,h2,h3]
theorem Ir {a b c:Int} (a0:0<=a) (a1:a<=1000000000) (b0:0<=b) (b1:b<=1000000000) (c0:1<=c) (c1:c<=1000000000):Xm a b c=a*b / c:=by
 unfold Xm;rw [Zj a0 a1,Zj b0 b1,Zj c0 c1];rfl
theorem Li (r:Z0) (pace work:Int) : -1<=XK r pace work/\XK r pace work<=1024000000:=by
 cases h:Zq r
 ·rw [QX h];omega
 cases h2:inB work 0 1000000
 ·rw [QY h2];omega
 cases h3:inB pace 0 (r.2.length-1)
 ·rw [QZ h3];omega
 rw [Pb h h2 h3]
 have hb:=ZS h2;have hp:=ZS h3
 have hr:=Ok h (k:=pace.toNat) (by omega)
 generalize Z7 r.2 pace.toNat=p at *
 rw [Ir (by omega) (by omega) (by omega) (by omega) (by omega) (by omega)]
 have m0:0<=p.2*work:=Int.mul_nonneg (by omega) (by omega)
 have m1:p.2*work<=1024*1000000:=Int.mul_le_mul (by omega) (by omega) (by omega) (by omega)
 have d0:=Int.ediv_nonneg m0 (show 0<=p.1 by omega)
 have d1:=Int.ediv_le_self p.1 m0
 omega
theorem Yt (x:Int) (w:World):Calls Tryz.prog 167 #[.int .i64 x] w fun e w'=>e= .returned (.bool (inB x 0 1000000))/\w'=w:=by
 go_enter Tryz.func167,Tryz.ntmps167
 go_wp2_with (go_at_call 128;refine (ZZ _ _ _ _).mono ?_;rintro e w' ⟨rfl,rfl⟩)
 go_ret
 exact ⟨rfl,rfl⟩
def amt (x:Int):Bool:=inB x 0 1000000
def VX (w u f:Int):Bool:=(amt w && (amt u && amt f)) && decide (5*(w+u)<=4*f)
def PG (u f:Int):Bool:=(amt u && amt f) && !decide (5*u<=4*f)
def U9 (u f:Int):Int:=if amt u && amt f then f-u else -1000001
theorem Gb (u f:Int):decide (4*f<5*u)= !decide (5*u<=4*f):=by
 by_cases h:5*u<=4*f
 ·rw [decide_eq_true h,decide_eq_false (by omega)];rfl
 ·rw [decide_eq_false h,decide_eq_true (by omega)];rfl
theorem VE (x u f:Int) (w:World):Calls Tryz.prog 304 #[.int .i64 x,.int .i64 u,.int .i64 f] w fun e w'=>e= .returned (.bool (VX x u f))/\w'=w:=by
 cases hx:inB x 0 1000000
 ·go_enter Tryz.func304,Tryz.ntmps304
  go_wp2_with (go_at_call 167;refine (Yt _ _).mono ?_;rintro e w' ⟨rfl,rfl⟩)
  go_ret
  exact ⟨Z5 (by simp [VX,amt,hx]),rfl⟩
 ·cases hu:inB u 0 1000000
  ·go_enter Tryz.func304,Tryz.ntmps304
   go_wp2_with (go_at_call 167;refine (Yt _ _).mono ?_;rintro e w' ⟨rfl,rfl⟩)
   go_ret
   exact ⟨Z5 (by simp [VX,amt,hx,hu]),rfl⟩
  ·cases hf:inB f 0 1000000
   ·go_enter Tryz.func304,Tryz.ntmps304
    go_wp2_with (go_at_call 167;refine (Yt _ _).mono ?_;rintro e w' ⟨rfl,rfl⟩)
    go_ret
    exact ⟨Z5 (by simp [VX,amt,hx,hu,hf]),rfl⟩
   ·obtain ⟨x0,x1⟩:=ZS hx
    obtain ⟨u0,u1⟩:=ZS hu
    obtain ⟨f0,f1⟩:=ZS hf
    go_enter Tryz.func304,Tryz.ntmps304
    go_wp2_with (go_at_call 167;refine (Yt _ _).mono ?_;rintro e w' ⟨rfl,rfl⟩)
    go_ret
    exact ⟨Z5 (by simp [VX,amt,hx,hu,hf]),rfl⟩
theorem QO (u f:Int) (w:World):Calls Tryz.prog 308 #[.int .i64 u,.int .i64 f] w fun e w'=>e= .returned (.bool (PG u f))/\w'=w:=by
 cases hu:inB u 0 1000000
 ·go_enter Tryz.func308,Tryz.ntmps308
  go_wp2_with (go_at_call 167;refine (Yt _ _).mono ?_;rintro e w' ⟨rfl,rfl⟩)
  go_ret
  exact ⟨Z5 (by simp [PG,amt,hu]),rfl⟩
 ·cases hf:inB f 0 1000000
  ·go_enter Tryz.func308,Tryz.ntmps308
   go_wp2_with (go_at_call 167;refine (Yt _ _).mono ?_;rintro e w' ⟨rfl,rfl⟩)
   go_ret
   exact ⟨Z5 (by simp [PG,amt,hu,hf]),rfl⟩
  ·obtain ⟨u0,u1⟩:=ZS hu
   obtain ⟨f0,f1⟩:=ZS hf
   go_enter Tryz.func308,Tryz.ntmps308
   go_wp2_with (go_at_call 167;refine (Yt _ _).mono ?_;rintro e w' ⟨rfl,rfl⟩)
   go_ret
   exact ⟨Z5 (by simp [PG,amt,hu,hf,Gb]),rfl⟩
theorem QN (u f:Int) (w:World):Calls Tryz.prog 300 #[.int .i64 u,.int .i64 f] w fun e w'=>e= .returned (.int .i64 (U9 u f))/\w'=w:=by
 cases hu:inB u 0 1000000
 ·go_enter Tryz.func300,Tryz.ntmps300
  go_wp2_with (go_at_call 167;refine (Yt _ _).mono ?_;rintro e w' ⟨rfl,rfl⟩)
  go_ret
  exact ⟨Zv (by simp [U9,amt,hu]),rfl⟩
 ·cases hf:inB f 0 1000000
  ·go_enter Tryz.func300,Tryz.ntmps300
   go_wp2_with (go_at_call 167;refine (Yt _ _).mono ?_;rintro e w' ⟨rfl,rfl⟩)
   go_ret
   exact ⟨Zv (by simp [U9,amt,hu,hf]),rfl⟩
  ·obtain ⟨u0,u1⟩:=ZS hu
   obtain ⟨f0,f1⟩:=ZS hf
   go_enter Tryz.func300,Tryz.ntmps300
   go_wp2_with (go_at_call 167;refine (Yt _ _).mono ?_;rintro e w' ⟨rfl,rfl⟩)
   go_ret
   exact ⟨Zv (by simp [U9,amt,hu,hf]),rfl⟩
open Go.ChangeShapes Go.WideShapes Go.ChangeAt Go.RowKit Go.Sort
def Qi (gs:List ZA) (s:Z4):Int:=min (max s.2.2.2.2.2.2.2.2.2.1 (QC (bnd gs s.2.2.2.2.1) s.2.2.2.2.2.1 s.2.2.2.2.2.2.1).1) (QC (bnd gs s.2.2.2.2.1) s.2.2.2.2.2.1 s.2.2.2.2.2.2.1).2
def Ym (m:Z3) (who:Int):Int:=Qi m.guilds (Z8 m.smiths who.toNat)
theorem GN (gs:List ZA) (s:Z4):0<=Qi gs s/\Qi gs s<=1024:=by
 obtain ⟨b0,b1,b2⟩:=ED gs s.2.2.2.2.1
 obtain ⟨n0,n1,n2⟩:=Jl (lo:=s.2.2.2.2.2.1) (hi:=s.2.2.2.2.2.2.1) b0 b1 b2
 unfold Qi
 omega
theorem MP (m:Z3) (who:Int):0<=Ym m who/\Ym m who<=1024:=GN _ _
def Vo (m:Z3) (but:Int) (q:List Z6):Int:=q.foldl (fun n e=>if e.2=but then n else n+Ym m e.2) 0
theorem KQ (m:Z3) (but:Int) (q:List Z6) (e:Z6):Vo m but (q++[e])=if e.2=but then Vo m but q else Vo m but q+Ym m e.2:=by
 unfold Vo;rw [List.foldl_append];rfl
theorem MM (m:Z3) (but:Int):∀ (q:List Z6) (n:Int),0<=n->0<=q.foldl (fun n e=>if e.2=but then n else n+Ym m e.2) n/\q.foldl (fun n e=>if e.2=but then n else n+Ym m e.2) n<=n+1024*q.length
 | [],n,h=>⟨h,by simp⟩
 | e::q,n,h=>by
  have hw:=MP m e.2
  have ih:=MM m but q (if e.2=but then n else n+Ym m e.2) (by split<;>omega)
  refine ⟨ih.1,Int.le_trans ih.2 ?_⟩
  simp only [List.length_cons,Int.natCast_add,Int.natCast_one]
  split<;>omega
theorem MN (m:Z3) (but:Int) (q:List Z6):0<=Vo m but q/\Vo m but q<=1024*q.length:=by
 have:=MM m but q 0 (by omega)
 unfold Vo;omega
def XD (m:Z3) (b but:Int):Int:=Vo m but (atV m.smiths b m.smiths.length)
theorem MO (m:Z3) (b but:Int):0<=XD m b but/\XD m b but<=1024*m.smiths.length:=by
 have h:=MN m but (atV m.smiths b m.smiths.length)
 have hl:=Uh m.smiths b m.smiths.length
 unfold XD
 refine ⟨h.1,Int.le_trans h.2 ?_⟩
 omega
def Y2 (m:Z3) (room:Int):Nat->Int × Int
 | 0=>(0,0)
 | k+1=>if (WU m.rooms k:Int)=room then ((if (Z8 m.desks k).1 then max (Y2 m room k).1 (XD m k (-1)) else (Y2 m room k).1),(Y2 m room k).2+XD m k (-1)) else Y2 m room k
theorem RZ (m:Z3) (room:Int) (hl:m.smiths.length<=12):∀ k:Nat,(0<=(Y2 m room k).1/\(Y2 m room k).1<=12288)/\0<=(Y2 m room k).2/\(Y2 m room k).2<=12288*k
 | 0=>by simp [Y2]
 | k+1=>by
  have ih:=RZ m room hl k
  have hu:=MO m k (-1)
  unfold Y2
  split
  ·simp only
   constructor
   ·split<;>omega
   ·push_cast;omega
  ·push_cast;omega
def Rx (m:Z3) (room:Nat):Int:=Np (ZV m.rooms room) (Y2 m room m.desks.length).1 (Y2 m room m.desks.length).2
def UZ (m:Z3):Nat->Int
 | 0=>0
 | k+1=>UZ m k+Rx m k
def Ng (m:Z3):Int:=UZ m m.rooms.length
theorem NU (m:Z3):∀ k:Nat,-(k:Int)<=UZ m k/\UZ m k<=1024000000*k
 | 0=>by simp [UZ]
 | k+1=>by
  have ih:=NU m k
  have hc:=Li (ZV m.rooms k) (XM (ZV m.rooms k) (Y2 m k m.desks.length).1) (Y2 m k m.desks.length).2
  unfold UZ Rx Np
  push_cast
  omega
def Sa (s:Z4) (b:Int):Z4:=(2,b,s.2.2)
def T6 (m:Z3) (who b:Int):Z3:={ m with smiths:=m.smiths.set who.toNat (Sa (Z8 m.smiths who.toNat) b) }
def Yp (m:Z3) (who b:Int):Int:=Ng (T6 m who b)
def Yg (m:Z3) (who:Int) (b:Nat):Bool:=(Z8 m.desks b).1 && Wu (Z8 m.smiths who.toNat).2.2.2.1 b
def NV (m:Z3) (who:Int) (b:Nat):Bool:=Yg m who b && VX (Ym m who) (XD m b who) (YR m.rooms b)
def Vr (m:Z3) (who:Int):Nat->List Int
 | 0=>[]
 | k+1=>if NV m who k then Vr m who k++[(k:Int)] else Vr m who k
def Yf (m:Z3) (who:Int):List Int:=Vr m who m.desks.length
theorem RA (m:Z3) (who:Int):∀ k,(Vr m who k).length<=k
 | 0=>Nat.le_refl _
 | k+1=>by
  have:=RA m who k
  unfold Vr
  split
  ·simp;omega
  ·omega
theorem NW (m:Z3) (who:Int) (x:Int):∀ k,x ∈ Vr m who k ↔ ∃ b:Nat,b<k/\x=(b:Int)/\NV m who b=true
 | 0=>by simp [Vr]
 | k+1=>by
  have ih:=NW m who x k
  unfold Vr
  split
  ·rename_i hf
   rw [List.mem_append,ih]
   constructor
   ·rintro (⟨b,hb,e,h⟩ | h)
    ·exact ⟨b,by omega,e,h⟩
    ·exact ⟨k,by omega,by simpa using h,hf⟩
   ·rintro ⟨b,hb,e,h⟩
    by_cases hbk:b=k
    ·subst hbk;right;simp [e]
    ·left;exact ⟨b,by omega,e,h⟩
  ·rename_i hf
   rw [ih]
   constructor
   ·rintro ⟨b,hb,e,h⟩
    exact ⟨b,by omega,e,h⟩
   ·rintro ⟨b,hb,e,h⟩
    by_cases hbk:b=k
    ·subst hbk;exact absurd h hf
    ·exact ⟨b,by omega,e,h⟩
def Sg (m:Z3) (b:Nat):Bool:=(Z8 m.desks b).1 && PG (XD m b (-1)) (YR m.rooms b)
def VZ (m:Z3):Bool:=(List.range m.desks.length).any (Sg m)
def VH (m:Z3) (who:Int) (a:Int × Int) (b:Int):Int × Int:=if Yp m who b<a.2\/(Yp m who b=a.2/\b=(Z8 m.smiths who.toNat).2.1) then (b,Yp m who b) else a
def XE (m:Z3) (who:Int) (f:List Int) (k:Nat):Int × Int:=((f.take k).drop 1).foldl (VH m who) (Z8 f 0,Yp m who (Z8 f 0))
def XP (m:Z3) (who:Int):Nat->Int × Int
 | 0=>(-1,0)
 | k+1=>if Yg m who k && (decide ((XP m who k).1<0) || decide ((XP m who k).2<U9 (XD m k who) (YR m.rooms k))) then ((k:Int),U9 (XD m k who) (YR m.rooms k)) else XP m who k
def Yz (m:Z3) (who:Int):Int:=if !VZ m && decide (0<(Yf m who).length) then (XE m who (Yf m who) (Yf m who).length).1 else (XP m who m.desks.length).1
theorem Lb (m:Z3) (who:Int) (P:Int->Prop):∀ (f:List Int) (a:Int × Int),P a.1->(∀ x ∈ f,P x)->P (f.foldl (VH m who) a).1
 | [],a,h,_=>h
 | b::f,a,h,hf=>by
  refine Lb m who P f (VH m who a b) ?_ (fun x hx=>hf x (List.mem_cons_of_mem _ hx))
  unfold VH
  split
  ·exact hf b (by simp)
  ·exact h
theorem Jk (m:Z3) (who:Int):∀ k:Nat,((XP m who k).1= -1/\ ∀ b,b<k->Yg m who b=false)\/ ∃ b:Nat,b<k/\(XP m who k).1=(b:Int)/\Yg m who b=true
 | 0=> .inl ⟨rfl,fun b hb=>by omega⟩
 | k+1=>by
  have ih:=Jk m who k
  unfold XP
  split
  ·rename_i h
   simp only [Bool.and_eq_true] at h
   exact .inr ⟨k,by omega,rfl,h.1⟩
  ·rename_i h
   rcases ih with ⟨e,hn⟩ | ⟨b,hb,e,hm⟩
   ·refine .inl ⟨e,fun b hb=> ?_⟩
    by_cases hbk:b=k
    ·subst hbk
     cases hm:Yg m who b
     ·rfl
     ·exfalso
      apply h
      rw [hm,e]
      rfl
    ·exact hn b (by omega)
   ·exact .inr ⟨b,by omega,e,hm⟩
theorem VJ (m:Z3) (who:Int):(Yz m who= -1/\ ∀ b,b<m.desks.length->Yg m who b=false)\/ ∃ b:Nat,b<m.desks.length/\Yz m who=(b:Int)/\Yg m who b=true:=by
 unfold Yz
 split
 ·rename_i h
  simp only [Bool.and_eq_true,decide_eq_true_eq] at h
  right
  have hin:∀ x ∈ Yf m who,∃ b:Nat,b<m.desks.length/\x=(b:Int)/\Yg m who b=true:=by
   intro x hx
   obtain ⟨b,hb,e,hf⟩:=(NW m who x m.desks.length).1 hx
   unfold NV at hf
   simp only [Bool.and_eq_true] at hf
   exact ⟨b,hb,e,hf.1⟩
  unfold XE
  exact Lb m who (fun x=> ∃ b:Nat,b<m.desks.length/\x=(b:Int)/\Yg m who b=true) _ _ (hin _ (Tr h.2)) (fun x hx=>hin x (List.mem_of_mem_take (List.mem_of_mem_drop hx)))
 ·exact Jk m who m.desks.length
theorem UT {st be rk my gu lo hi hd ca ut wk:Int} (h0:1<=st/\st<=3) (h1:0<=be/\be<=7) (h2:inB rk (-5) 5=true) (h3:1<=my/\my<=255) (h4 : -1<=gu/\gu<=5) (h5:Yl lo hi=true) (h6 : -1000000000000<=hd/\hd<=1000000000000) (h7:0<=ca/\ca<=Zu rk-1) (h8:0<=ut/\ut<=1024) (h9:0<=wk/\wk<=100000000000) :
  Zf (st,be,rk,my,gu,lo,hi,hd,ca,ut,wk)=true:=by
 unfold Zf
 simp only [Bool.and_eq_true]
 exact ⟨Zj h0.1 h0.2,Zj h1.1 h1.2,h2,Zj h3.1 h3.2,Zj h4.1 h4.2,h5,Zj h6.1 h6.2,Zj h7.1 h7.2,Zj h8.1 h8.2,Zj h9.1 h9.2⟩
theorem XU {s:Z4} : Yv m s=true ↔ s=Wn\/(Zf s=true/\s.2.2.2.2.1<m.guilds.length/\s.2.1<m.desks.length):=by
 unfold Yv ZE
 simp only [Bool.and_eq_true,Bool.or_eq_true,decide_eq_true_eq]
 constructor
 ·rintro ⟨hg | hp,hr⟩
  ·exact .inl (Wc hg)
  ·right
   refine ⟨hp,?_⟩
   rcases hr with e | e
   ·have:s.1=0:=by simpa using e
    rw [PN this] at hp
    cases hp
   ·exact e
 ·rintro (rfl | ⟨hp,hr⟩)
  ·exact ⟨.inl JJ,.inl rfl⟩
  ·exact ⟨.inr hp,.inr hr⟩
theorem VM {s:Z4} (h:ZT s=false):Yo m s=true:=by unfold Yo;rw [h];rfl
theorem Qr {s:Z4} (h1:(Z8 m.desks s.2.1.toNat).1=true) (h2:Wu s.2.2.2.1 s.2.1=true) (h3:Xz (XL s) (Z8 m.desks s.2.1.toNat).2.2=true):Yo m s=true:=by
 unfold Yo
 rw [h1,h2,show s.2.2.2.2.2.2.2.1=XL s from rfl,h3]
 simp
theorem ZO (h:ZK m=true):Loose m:=by
 unfold ZK at h
 simp only [Bool.and_eq_true] at h
 exact Wh h.1
def setS (m:Z3) (k:Nat) (s:Z4):Z3:={ m with smiths:=m.smiths.set k s }
theorem Loose.setS (h:Loose m) {k:Nat} (hk:k<m.smiths.length) {s:Z4} (h1:Yv m s=true) (h2:Yo m s=true):Loose (setS m k s):=by
 refine ⟨?_,h.desk,h.pace,?_,?_,h.openD⟩
 ·have:=h.head
  unfold YS at this ⊢
  unfold Go.Proofs.YtnponpamjddpjaaGreat.setS
  simpa using this
 ·intro i hi
  have hi':i<m.smiths.length:=by unfold Go.Proofs.YtnponpamjddpjaaGreat.setS at hi;simpa using hi
  show Yv (Go.Proofs.YtnponpamjddpjaaGreat.setS m k s) (Z8 (m.smiths.set k s) i)=true
  rw [Xu (m:=m) (m':=Go.Proofs.YtnponpamjddpjaaGreat.setS m k s) rfl rfl,ZH hk]
  split
  ·exact h1
  ·exact h.here i hi'
 ·intro i hi
  have hi':i<m.smiths.length:=by unfold Go.Proofs.YtnponpamjddpjaaGreat.setS at hi;simpa using hi
  show Yo m (Z8 (m.smiths.set k s) i)=true
  rw [ZH hk]
  split
  ·exact h2
  ·exact h.seat i hi'
theorem WF {α:Type} [Inhabited α] (xs:List α) (x:α) (i:Nat):Z8 (xs++[x]) i=if i=xs.length then x else Z8 xs i:=by
 unfold Z8
 split
 ·rename_i h;subst h;simp [List.getD]
 ·rename_i h
  rcases Nat.lt_or_ge i xs.length with hi | hi
  ·simp [List.getD,List.getElem?_append_left hi]
  ·simp [List.getD,List.getElem?_append_right hi,List.getElem?_eq_none hi]
   rw [List.getElem?_eq_none (by simp;omega)]
   rfl
def pushS (m:Z3) (s:Z4):Z3:={ m with smiths:=m.smiths++[s] }
theorem Loose.pushS (h:Loose m) (hl:m.smiths.length<12) {s:Z4} (h1:Yv m s=true) (h2:Yo m s=true):Loose (pushS m s):=by
 refine ⟨?_,h.desk,h.pace,?_,?_,h.openD⟩
 ·have:=h.head
  unfold YS at this ⊢
  unfold Go.Proofs.YtnponpamjddpjaaGreat.pushS
  simp only [Bool.and_eq_true,decide_eq_true_eq] at this ⊢
  refine ⟨this.1,this.2.1,?_,this.2.2.2⟩
  simp
  omega
 ·intro i hi
  have hi':i<m.smiths.length+1:=by unfold Go.Proofs.YtnponpamjddpjaaGreat.pushS at hi;simpa using hi
  show Yv (Go.Proofs.YtnponpamjddpjaaGreat.pushS m s) (Z8 (m.smiths++[s]) i)=true
  rw [Xu (m:=m) (m':=Go.Proofs.YtnponpamjddpjaaGreat.pushS m s) rfl rfl,WF]
  split
  ·exact h1
  ·exact h.here i (by omega)
 ·intro i hi
  have hi':i<m.smiths.length+1:=by unfold Go.Proofs.YtnponpamjddpjaaGreat.pushS at hi;simpa using hi
  show Yo m (Z8 (m.smiths++[s]) i)=true
  rw [WF]
  split
  ·exact h2
  ·exact h.seat i (by omega)
def XO (m:Z3) (b:Int):Int:=(Z8 m.desks b.toNat).2.2
def PW (s:Z4) (b had:Int):Z4:=(2,b,s.2.2.1,s.2.2.2.1,s.2.2.2.2.1,s.2.2.2.2.2.1,s.2.2.2.2.2.2.1,had,s.2.2.2.2.2.2.2.2)
def putS (m:Z3) (s:Z4) (b:Int):Z4:=(s.1,b,s.2.2.1,s.2.2.2.1,s.2.2.2.2.1,s.2.2.2.2.2.1,s.2.2.2.2.2.2.1,Zt (XL s) (XO m s.2.1) (XO m b),s.2.2.2.2.2.2.2.2)
def Us (s:Z4) (may:Int):Z4:=(s.1,s.2.1,s.2.2.1,may,s.2.2.2.2)
def J7 (s:Z4) (lo hi:Int):Z4:=(s.1,s.2.1,s.2.2.1,s.2.2.2.1,s.2.2.2.2.1,lo,hi,s.2.2.2.2.2.2.2)
def RE (s:Z4) (g:Int):Z4:=(s.1,s.2.1,s.2.2.1,s.2.2.2.1,g,s.2.2.2.2.2)
def YK (rank may guild:Int):Z4:=(1,0,rank,may,guild,0,1024,0,0,0,0)
theorem WZ (h:Loose m):m.desks.length<=8:=by
 have:=h.head
 unfold YS at this
 simp only [Bool.and_eq_true,decide_eq_true_eq] at this
 have h8:=(Ze this.1).2.2.2
 omega
theorem G5 (h:Loose m):m.guilds.length<=6:=by
 have:=h.head
 unfold YS at this
 simp only [Bool.and_eq_true,decide_eq_true_eq] at this
 exact (Wy this.2.1).2
theorem Loose.limits (h:Loose m) {k:Nat} (hk:k<m.smiths.length) (hs:(Z8 m.smiths k).1 ≠ 0):Zf (Z8 m.smiths k)=true/\(Z8 m.smiths k).2.2.2.2.1<m.guilds.length/\(Z8 m.smiths k).2.1<m.desks.length:=by
 rcases XU.1 (h.here k hk) with e | e
 ·rw [e] at hs;exact absurd rfl hs
 ·exact e
theorem Ij (h:Loose m) {k:Nat} (hk:k<m.smiths.length) (hp:ZT (Z8 m.smiths k)=true):Loose (setS m k (stS (Z8 m.smiths k) 1)):=
 h.setS hk (Pr (h.here k hk) hp (by omega) (by omega)) (VM rfl)
theorem JV (h:Loose m) {k:Nat} (hk:k<m.smiths.length):Loose (setS m k Wn):=
 h.setS hk (XU.2 (.inl rfl)) (VM rfl)
theorem Ii (h:Loose m) {k:Nat} (hk:k<m.smiths.length) {rank:Int} {s:Z4} (hr:Yq (Z8 m.smiths k) rank=(s,true)):Loose (setS m k s):=by
 unfold Yq at hr
 split at hr
 ·rename_i hp
  split at hr
  ·rename_i hrk
   obtain ⟨rfl,_⟩:=Prod.mk.inj hr
   have hne:(Z8 m.smiths k).1 ≠ 0:=by
    intro e
    rw [PN e] at hp
    cases hp
   obtain ⟨_,g1,b1⟩:=h.limits hk hne
   refine h.setS hk (XU.2 (.inr ⟨Sr hp hrk,g1,b1⟩)) ?_
   have:=h.seat k hk
   unfold Yo at this ⊢
   exact this
  ·cases (Prod.mk.inj hr).2
 ·cases (Prod.mk.inj hr).2
theorem FW (h:Loose m) {k:Nat} (hk:k<m.smiths.length) (hs:(Z8 m.smiths k).1 ≠ 0) {lo hi:Int} (hp:Yl lo hi=true):Loose (setS m k (J7 (Z8 m.smiths k) lo hi)):=by
 obtain ⟨p,g1,b1⟩:=h.limits hk hs
 refine h.setS hk (XU.2 (.inr ⟨?_,g1,b1⟩)) ?_
 ·generalize Z8 m.smiths k=s at *
  obtain ⟨st,be,rk,my,gu,lo',hi',hd,ca,ut,wk⟩:=s
  obtain ⟨x0,x1,x2,x3,x4,x5,x6,x7,x8,x9⟩:=Zg p
  exact UT x0 x1 x2 x3 x4 hp x6 x7 x8 x9
 ·have:=h.seat k hk
  unfold Yo at this ⊢
  exact this
theorem If (h:Loose m) {k:Nat} (hk:k<m.smiths.length) (hs:(Z8 m.smiths k).1 ≠ 0) {g:Int} (g0 : -1<=g) (g1:g<m.guilds.length):Loose (setS m k (RE (Z8 m.smiths k) g)):=by
 obtain ⟨p,_,b1⟩:=h.limits hk hs
 have hg:=G5 h
 refine h.setS hk (XU.2 (.inr ⟨?_,g1,b1⟩)) ?_
 ·generalize Z8 m.smiths k=s at *
  obtain ⟨st,be,rk,my,gu,lo',hi',hd,ca,ut,wk⟩:=s
  obtain ⟨x0,x1,x2,x3,x4,x5,x6,x7,x8,x9⟩:=Zg p
  exact UT x0 x1 x2 x3 ⟨g0,by omega⟩ x5 x6 x7 x8 x9
 ·have:=h.seat k hk
  unfold Yo at this ⊢
  exact this
theorem FX (h:Loose m) {k:Nat} (hk:k<m.smiths.length) (hs:(Z8 m.smiths k).1 ≠ 0) {may:Int} (m0:1<=may) (m1:may<=255) (hb:ZT (Z8 m.smiths k)=false\/Wu may (Z8 m.smiths k).2.1=true):Loose (setS m k (Us (Z8 m.smiths k) may)):=by
 obtain ⟨p,g1,b1⟩:=h.limits hk hs
 refine h.setS hk (XU.2 (.inr ⟨?_,g1,b1⟩)) ?_
 ·generalize Z8 m.smiths k=s at *
  obtain ⟨st,be,rk,my,gu,lo',hi',hd,ca,ut,wk⟩:=s
  obtain ⟨x0,x1,x2,x3,x4,x5,x6,x7,x8,x9⟩:=Zg p
  exact UT x0 x1 x2 ⟨m0,m1⟩ x4 x5 x6 x7 x8 x9
 ·rcases hb with hb | hb
  ·exact VM hb
  ·have:=h.seat k hk
   unfold Yo at this
   cases hp:ZT (Z8 m.smiths k)
   ·exact VM hp
   ·rw [hp] at this
    simp only [Bool.not_true,Bool.false_or,Bool.and_eq_true] at this
    exact Qr (s:=Us (Z8 m.smiths k) may) this.1 hb this.2.2
theorem FY {s:Z4} {b:Nat} {had:Int} (h:Loose m) (hp:Zf s=true) (hg:s.2.2.2.2.1<m.guilds.length) (hb:b<m.desks.length) (ho:(Z8 m.desks b).1=true) (hm:Wu s.2.2.2.1 b=true) (hd:Xz had (Z8 m.desks b).2.2=true) :
  Yv m (PW s b had)=true/\Yo m (PW s b had)=true:=by
 have h8:=WZ h
 obtain ⟨st,be,rk,my,gu,lo',hi',hd',ca,ut,wk⟩:=s
 obtain ⟨x0,x1,x2,x3,x4,x5,x6,x7,x8,x9⟩:=Zg hp
 obtain ⟨d0,d1,_⟩:=V9 hd
 refine ⟨XU.2 (.inr ⟨UT (by omega) ⟨by omega,by omega⟩ x2 x3 x4 x5 ⟨d0,d1⟩ x7 x8 x9,hg,?_⟩),?_⟩
 ·show (b:Int)<_;omega
 ·exact Qr (m:=m) (s:=PW (st,be,rk,my,gu,lo',hi',hd',ca,ut,wk) b had) (by show (Z8 m.desks ((b:Int)).toNat).1=true;simpa using ho) hm (by show Xz had (Z8 m.desks ((b:Int)).toNat).2.2=true;simpa using hd)
theorem Py (h:Loose m) {s:Z4} {b:Nat} (hp:Zf s=true) (hpr:ZT s=true) (hg:s.2.2.2.2.1<m.guilds.length) (b0:0<=s.2.1) (b1:s.2.1<m.desks.length) (hband:Xz (XL s) (XO m s.2.1)=true) (hb:b<m.desks.length) (ho:(Z8 m.desks b).1=true) (hm:Wu s.2.2.2.1 b=true) :
  Yv m (putS m s b)=true/\Yo m (putS m s b)=true:=by
 have h8:=WZ h
 obtain ⟨k0,k1⟩:=UH (h.desk s.2.1.toNat (by omega))
 obtain ⟨k2,k3⟩:=UH (h.desk b hb)
 obtain ⟨a0,a1,a2,a3,a4,a5⟩:=V9 hband
 have hmk:XO m (b:Int)=(Z8 m.desks b).2.2:=by unfold XO;simp
 have hmv:Zt (XL s) (XO m s.2.1) (XO m b)=XL s-XO m s.2.1+XO m b:=Ga a0 a1 a2 a3 (by omega) (by omega)
 obtain ⟨st,be,rk,my,gu,lo',hi',hd',ca,ut,wk⟩:=s
 obtain ⟨x0,x1,x2,x3,x4,x5,x6,x7,x8,x9⟩:=Zg hp
 simp only at b0 b1 hmv a4 a5 k0 k1 hg hm
 refine ⟨XU.2 (.inr ⟨?_,hg,?_⟩),?_⟩
 ·unfold putS
  simp only
  rw [hmv]
  exact UT x0 ⟨by omega,by omega⟩ x2 x3 x4 x5 ⟨by omega,by omega⟩ x7 x8 x9
 ·show (b:Int)<_;omega
 ·refine Qr (m:=m) (s:=putS m (st,be,rk,my,gu,lo',hi',hd',ca,ut,wk) b) (by show (Z8 m.desks ((b:Int)).toNat).1=true;simpa using ho) hm ?_
  show Xz (Zt _ _ _) (Z8 m.desks ((b:Int)).toNat).2.2=true
  rw [hmv,show ((b:Int)).toNat=b by simp,<-hmk]
  exact Qo (by omega) (by omega) (by omega) (by omega) (by omega) (by omega)
def U8 (m:Z3) (r:Nat) (p:Int):Z3:={ m with paces:=m.paces.set r p }
theorem N6 (h:Loose m) {r:Nat} (hr:r<m.rooms.length) {p:Int} (p0:0<=p) (p1:p<(ZV m.rooms r).2.length):Loose (U8 m r p):=by
 have hd:=h.head
 have hpl:m.paces.length=m.rooms.length:=by
  unfold YS at hd
  simp only [Bool.and_eq_true,decide_eq_true_eq] at hd
  exact hd.2.2.2.2.1
 refine ⟨?_,h.desk,?_,h.here,h.seat,h.openD⟩
 ·unfold YS at hd ⊢
  unfold U8
  simpa using hd
 ·intro j hj
  have hj':j<m.paces.length:=by unfold U8 at hj;simpa using hj
  have:=h.pace j hj'
  unfold Xg at this ⊢
  unfold U8
  simp only
  rw [ZH (by omega)]
  split
  ·rename_i e;subst e;exact Zj p0 (by omega)
  ·exact this
def YG (m:Z3) (b:Nat) (o:Bool):Z3:={ m with desks:=m.desks.set b (o,(Z8 m.desks b).2) }
theorem Ig (h:Loose m) {b:Nat} (hb:b<m.desks.length):Loose (YG m b true):=by
 have hat:∀ j,(Z8 (YG m b true).desks j)=if j=b then (true,(Z8 m.desks b).2) else Z8 m.desks j:=fun j=>ZH hb j
 have hmk:∀ j,(Z8 (YG m b true).desks j).2=(Z8 m.desks j).2:=fun j=>by
  rw [hat]
  by_cases e:j=b
  ·rw [if_pos e,e]
  ·rw [if_neg e]
 have hop:∀ j,(Z8 m.desks j).1=true->(Z8 (YG m b true).desks j).1=true:=fun j e=>by
  rw [hat]
  by_cases e':j=b
  ·rw [if_pos e']
  ·rw [if_neg e'];exact e
 have hlen:(YG m b true).desks.length=m.desks.length:=by unfold YG;simp
 refine ⟨?_,?_,h.pace,?_,?_,?_⟩
 ·have:=h.head
  unfold YS at this ⊢
  rw [hlen]
  exact this
 ·intro j hj
  have:=h.desk j (by omega)
  unfold WH at this ⊢
  rw [hmk]
  exact this
 ·intro i hi
  rw [Xu (m:=m) (m':=YG m b true) rfl hlen]
  exact h.here i hi
 ·intro i hi
  have:=h.seat i hi
  unfold Yo at this ⊢
  show (!ZT (Z8 m.smiths i) || _)=true
  cases hp:ZT (Z8 m.smiths i)
  ·rfl
  ·rw [hp] at this
   simp only [Bool.not_true,Bool.false_or,Bool.and_eq_true] at this ⊢
   refine ⟨hop _ this.1,this.2.1,?_⟩
   show Xz _ (Z8 (YG m b true).desks (Z8 m.smiths i).2.1.toNat).2.2=true
   rw [hmk]
   exact this.2.2
 ·exact ⟨b,by omega,by rw [hat,if_pos rfl]⟩
def YB:Z3:=⟨[],[],[],[],[],0⟩
def Vb (m:Z3) (who:Int):Bool:=inB who 0 ((m.smiths.length:Int)-1) && !((Z8 m.smiths who.toNat).1 ==0)
theorem Xp {who:Int} (h:Vb m who=true):∃ k:Nat,who=(k:Int)/\k<m.smiths.length/\(Z8 m.smiths k).1 ≠ 0:=by
 unfold Vb at h
 simp only [Bool.and_eq_true,Bool.not_eq_true',beq_eq_false_iff_ne] at h
 have h1:=ZS h.1
 exact ⟨who.toNat,by omega,by omega,h.2⟩
theorem XF (h:Loose m):Few m:=by
 have hd:=h.head
 unfold YS at hd
 simp only [Bool.and_eq_true,decide_eq_true_eq] at hd
 obtain ⟨h1,h2,h3,h4,h5,_⟩:=hd
 obtain ⟨r1,r2,r3,r4⟩:=Ze h1
 have hg:=(Wy h2).2
 refine ⟨by omega,fun r hr=> ?_,by omega,by omega,by omega,by omega⟩
 have hrb:=List.all_eq_true.1 r3 r hr
 unfold Zq at hrb
 simp only [Bool.and_eq_true] at hrb
 have:=ZS hrb.2.1
 omega
def Vk (m:Z3) (who:Int):Z3 × Int:=
 if ZK m then (if Vb m who then (if ZT (Z8 m.smiths who.toNat) then (Z1 (setS m who.toNat (stS (Z8 m.smiths who.toNat) 1)),0) else (m,2)) else (m,1)) else (YB,3)
def WD (m:Z3) (who:Int):Z3 × Int:=
 if ZK m then (if Vb m who then (Z1 (setS m who.toNat Wn),0) else (m,1)) else (YB,3)
def WS (m:Z3) (who lo hi:Int):Z3 × Int:=
 if ZK m then (if Vb m who then (if Yl lo hi then (Z1 (setS m who.toNat (J7 (Z8 m.smiths who.toNat) lo hi)),0) else (m,3)) else (m,1)) else (YB,3)
def WT (m:Z3) (who rank:Int):Z3 × Int:=
 if ZK m then (if Vb m who then (if (Yq (Z8 m.smiths who.toNat) rank).2 then (Z1 (setS m who.toNat (Yq (Z8 m.smiths who.toNat) rank).1),0) else (m,3)) else (m,1)) else (YB,3)
theorem Ku (h:ZK m=true) (who:Int):ZK (Vk m who).1=true:=by
 unfold Vk
 rw [h]
 simp only [if_true]
 split
 ·rename_i hw
  obtain ⟨k,rfl,hk,hs⟩:=Xp hw
  rw [show ((k:Int)).toNat=k by simp]
  split
  ·rename_i hp
   exact Zd (Ij (ZO h) hk hp)
  ·exact h
 ·exact h
theorem LQ (h:ZK m=true) (who:Int):ZK (WD m who).1=true:=by
 unfold WD
 rw [h]
 simp only [if_true]
 split
 ·rename_i hw
  obtain ⟨k,rfl,hk,hs⟩:=Xp hw
  rw [show ((k:Int)).toNat=k by simp]
  exact Zd (JV (ZO h) hk)
 ·exact h
theorem LV (h:ZK m=true) (who lo hi:Int):ZK (WS m who lo hi).1=true:=by
 unfold WS
 rw [h]
 simp only [if_true]
 split
 ·rename_i hw
  obtain ⟨k,rfl,hk,hs⟩:=Xp hw
  rw [show ((k:Int)).toNat=k by simp]
  split
  ·rename_i hp
   exact Zd (FW (ZO h) hk hs hp)
  ·exact h
 ·exact h
theorem Ks (h:ZK m=true) (who rank:Int):ZK (WT m who rank).1=true:=by
 unfold WT
 rw [h]
 simp only [if_true]
 split
 ·rename_i hw
  obtain ⟨k,rfl,hk,hs⟩:=Xp hw
  rw [show ((k:Int)).toNat=k by simp]
  split
  ·rename_i hp
   exact Zd (Ii (ZO h) hk (Prod.ext rfl hp))
  ·exact h
 ·exact h
theorem MI (h:Loose m) (k:Nat) (hk:k<=m.desks.length):Loose (Zs m k):=by
 obtain ⟨e1,e2,e3,e4,e5,e6⟩:=ZQ m k
 have hd:=fun j=>Xd m j k hk
 have hopen:∀ j,(Z8 (Zs m k).desks j).1=(Z8 m.desks j).1:=by
  intro j
  rw [hd j]
  split
  ·unfold XC;split<;>rfl
  ·rfl
 have hmark:∀ j,j<m.desks.length->(-900000000000<=(Z8 (Zs m k).desks j).2.2/\(Z8 (Zs m k).desks j).2.2<=900000000000)/\(Z8 m.desks j).2.2<=(Z8 (Zs m k).desks j).2.2/\((Z8 (Zs m k).desks j).2.2<=(Z8 m.desks j).2.2\/ ∀ i,i<m.smiths.length->(Z8 m.smiths i).2.1=(j:Int)->ZT (Z8 m.smiths i)=true->(Z8 (Zs m k).desks j).2.2<=XL (Z8 m.smiths i)):=by
  intro j hj
  obtain ⟨k0,k1⟩:=UH (h.desk j hj)
  rw [hd j]
  split
  ·unfold XC
   split
   ·exact ⟨⟨k0,k1⟩,Int.le_refl _,.inl (Int.le_refl _)⟩
   ·rename_i e t hq
    obtain ⟨_,i,hi,hib,hip,rfl⟩:=VP hq
    obtain ⟨_,_,_,_,hband⟩:=h.at hi hip
    obtain ⟨a0,a1,_⟩:=V9 hband
    have hm:=Tm (m:=(Z8 m.desks j).2.2) (f:=XL (Z8 m.smiths i)) (by omega) (by omega) a0 a1
    show (-900000000000<=ZJ _ _/\ZJ _ _<=900000000000)/\_<=ZJ _ _/\(ZJ _ _<=_\/_)
    rw [hm]
    refine ⟨by omega,by omega,?_⟩
    by_cases hc:XL (Z8 m.smiths i)<=(Z8 m.desks j).2.2
    ·left;omega
    ·right
     intro i' hi' hb' hp'
     have:=Q4 hq hi' hb' hp'
     simp only at this
     show min (max (Z8 m.desks j).2.2 (XL (Z8 m.smiths i))) 900000000000<=_
     omega
  ·exact ⟨⟨k0,k1⟩,Int.le_refl _,.inl (Int.le_refl _)⟩
 refine ⟨?_,?_,?_,?_,?_,?_⟩
 ·have:=h.head
  unfold YS at this ⊢
  rw [e1,e2,e3,e4,e5,e6]
  exact this
 ·intro j hj
  have hj':j<m.desks.length:=by omega
  exact Zj (hmark j hj').1.1 (hmark j hj').1.2
 ·intro j hj
  have hj':j<m.paces.length:=by rw [e3] at hj;exact hj
  have:=h.pace j hj'
  unfold Xg at this ⊢
  rw [e1,e3]
  exact this
 ·intro i hi
  have hi':i<m.smiths.length:=by omega
  rw [Xu (m:=m) (by rw [e2]) (by rw [e6])]
  rw [Yu m hi']
  split
  ·rename_i hp
   exact Pr (h.here i hi') hp.2 (by split<;>omega) (by split<;>omega)
  ·exact h.here i hi'
 ·intro i hi
  have hi':i<m.smiths.length:=by omega
  have ha:=Yj m k i hi'
  unfold Yo
  show (!ZT (Z8 (Zs m k).smiths i) || _)=true
  rw [ha.2.1]
  cases hp:ZT (Z8 m.smiths i)
  ·rfl
  ·obtain ⟨b0,b1,ho,hm,hband⟩:=h.at hi' hp
   obtain ⟨a0,a1,a2,a3,a4,a5⟩:=V9 hband
   obtain ⟨⟨q0,q1⟩,q2,q3⟩:=hmark (Z8 m.smiths i).2.1.toNat (by omega)
   have hmay:(Z8 (Zs m k).smiths i).2.2.2.1=(Z8 m.smiths i).2.2.2.1:=by
    rw [Yu m hi'];split<;>rfl
   show (!true || ((Z8 (Zs m k).desks (Z8 (Zs m k).smiths i).2.1.toNat).1 && (Wu (Z8 (Zs m k).smiths i).2.2.2.1 (Z8 (Zs m k).smiths i).2.1 && Xz (XL (Z8 (Zs m k).smiths i)) (Z8 (Zs m k).desks (Z8 (Zs m k).smiths i).2.1.toNat).2.2)))=true
   rw [ha.1,ha.2.2,hmay,hopen,ho,hm]
   rw [Qo a0 a1 (by omega) (by omega) ?_ (by omega)]
   ·rfl
   ·rcases q3 with q3 | q3
    ·omega
    ·have:=q3 i hi' (by omega) hp
     omega
 ·obtain ⟨j,hj,ho⟩:=h.openD
  exact ⟨j,by omega,by rw [hopen];exact ho⟩
theorem PS {α:Type} [Inhabited α] {xs ys:List α} (hl:xs.length=ys.length) (h:∀ i,i<xs.length->Z8 xs i=Z8 ys i):xs=ys:=by
 apply List.ext_getElem hl
 intro i h1 h2
 have:=h i h1
 unfold Z8 at this
 rwa [List.getD_eq_getElem?_getD,List.getD_eq_getElem?_getD,List.getElem?_eq_getElem h1,List.getElem?_eq_getElem h2] at this
theorem GJ {ss:List Z4} {b:Int} {e:Z6} {t:List Z6} (h:atV ss b ss.length=e::t):(ZL ss (e::t)).set e.2.toNat (stS (Z8 (ZL ss (e::t)) e.2.toNat) 3)=ZL (ss.set e.2.toNat (stS (Z8 ss e.2.toNat) 3)) t:=by
 have hmem:∀ x ∈ e::t,0<=x.2/\x.2<ss.length:=fun x hx=>by
  rw [<-h] at hx
  obtain ⟨i,hi,_,_,rfl⟩:=(Yd ss b x ss.length).1 hx
  exact ⟨by show (0:Int)<=(i:Int);omega,by show (i:Int)<_;omega⟩
 have hw:=UG ss b ss.length
 rw [h,List.pairwise_cons] at hw
 obtain ⟨he0,he1⟩:=hmem e (List.mem_cons_self ..)
 have hel:e.2.toNat<ss.length:=by omega
 have hse:∀ x ∈ t,0<=x.2/\x.2<(ss.set e.2.toNat (stS (Z8 ss e.2.toNat) 3)).length:=fun x hx=>by rw [List.length_set];exact hmem x (List.mem_cons_of_mem _ hx)
 refine PS (by rw [List.length_set,Yk,Yk,List.length_set]) fun i hi=> ?_
 rw [List.length_set,Yk] at hi
 rw [ZH (by rw [Yk];exact hel)]
 obtain ⟨p1,p2⟩:=SW (e::t) ss i hmem
 obtain ⟨r1,r2⟩:=SW t (ss.set e.2.toNat (stS (Z8 ss e.2.toNat) 3)) i hse
 by_cases hie:i=e.2.toNat
 ·subst hie
  have hn:∀ x ∈ t,x.2 ≠ ((e.2.toNat:Nat):Int):=fun x hx e9=>hw.1 x hx (by omega)
  rw [if_pos rfl,r2 hn,ZH hel,if_pos rfl,p1 ⟨e,List.mem_cons_self ..,by omega⟩]
  rfl
 ·rw [if_neg hie]
  by_cases hx:∃ x ∈ t,x.2=(i:Int)
  ·obtain ⟨x,hx,hxi⟩:=hx
   rw [p1 ⟨x,List.mem_cons_of_mem _ hx,hxi⟩,r1 ⟨x,hx,hxi⟩,ZH hel,if_neg hie]
  ·have hn:∀ x ∈ t,x.2 ≠ (i:Int):=fun x hx' e9=>hx ⟨x,hx',e9⟩
   rw [p2 (fun x hx'=>by
    rcases List.mem_cons.1 hx' with rfl | hx'
    ·omega
    ·exact hn x hx'),r2 hn,ZH hel,if_neg hie]
def XZ (m:Z3):Z3:=if YZ m then Z1 m else YB
end Go.Proofs.YtnponpamjddpjaaGreat
