/- Part 14 of what the proof rests on. No condition but those that a theorem names. -/
import Derived.Test.YthbbahagpmdooaaGreatXq13
set_option maxHeartbeats 8000000
set_option maxRecDepth 100000
namespace Go.Proofs.YthbbahagpmdooaaGreat
open Go.ChangeShapes Go.WideShapes Go.ChangeAt Go.RowKit
set_option linter.unusedVariables false
def S9 (need:Int) (p:Z5):Bool:=decide (5*need<=4*p.1)
def Sg (need:Int):List Z5->Nat
 | []=>0
 | [_]=>0
 | p::q::ps=>if S9 need p then 0 else Sg need (q::ps)+1
def XL (r:Z0) (need:Int):Int:=if Zp r && inB need 0 1000000 then Sg need r.2 else -1
def XK (r:Z0) (pace work:Int):Int:=if Zp r && (inB work 0 1000000 && inB pace 0 (r.2.length-1)) then Xr (Z7 r.2 pace.toNat).2 work (Z7 r.2 pace.toNat).1 else -1
def Nv (r:Z0) (need work:Int):Int:=XK r (XL r need) work
theorem Mh (p:Z5) (ps:List Z5):Z7 (p::ps) 0=p:=rfl
theorem Mj (p:Z5) (ps:List Z5) (k:Nat):Z7 (p::ps) (k+1)=Z7 ps k:=by unfold Z7;simp [List.getD]
theorem Ft {need:Int} {p:Z5} (h:5*need<=4*p.1):S9 need p=true:=decide_eq_true h
theorem Fs {need:Int} {p:Z5} (h:4*p.1<5*need):S9 need p=false:=decide_eq_false (by omega)
theorem PI (need:Int):∀ (ps:List Z5) (k:Nat),k+1<=ps.length->(∀ j,j<k->S9 need (Z7 ps j)=false)->(k+1=ps.length\/S9 need (Z7 ps k)=true)->Sg need ps=k
 | [],k,hk,_,_=>by simp at hk
 | [p],k,hk,_,_=>by simp at hk;subst hk;rfl
 | p::q::ps,0,_,_,he=>by
  rcases he with he | he
  ·simp at he
  ·rw [Mh] at he;simp [Sg,he]
 | p::q::ps,k+1,hk,hlo,he=>by
  have h0:=hlo 0 (by omega)
  rw [Mh] at h0
  have ih:=PI need (q::ps) k (by simp at hk ⊢;omega) (fun j hj=>by have:=hlo (j+1) (by omega);rwa [Mj] at this) (by
   rcases he with he | he
   ·left;simp at he ⊢;omega
   ·right;rwa [Mj] at he)
  simp [Sg,h0,ih]
theorem Mm (need:Int):∀ ps:List Z5,1<=ps.length->Sg need ps+1<=ps.length
 | [],h=>by simp at h
 | [p],_=>by simp [Sg]
 | p::q::ps,_=>by
  have ih:=Mm need (q::ps) (by simp)
  unfold Sg;split<;>simp at ih ⊢;omega
theorem Oi {r:Z0} (h:Zp r=true) {k:Nat} (hk:k<r.2.length):1<=(Z7 r.2 k).1/\(Z7 r.2 k).1<=1024/\1<=(Z7 r.2 k).2/\(Z7 r.2 k).2<=1024:=by
 unfold Zp at h;simp only [Bool.and_eq_true] at h
 have h1:=Oc h.2.2 hk
 unfold XC Ve at h1;simp only [Bool.and_eq_true] at h1
 have a:=ZU h1.1.1;have b:=ZU h1.1.2
 omega
theorem Mk {r:Z0} {need:Int} (h:Zp r=false):XL r need= -1:=by unfold XL;simp [h]
theorem Ml {r:Z0} {need:Int} (h:inB need 0 1000000=false):XL r need= -1:=by unfold XL;simp [h]
theorem Kf {r:Z0} {need:Int} (h:Zp r=true) (h2:inB need 0 1000000=true):XL r need=Sg need r.2:=by unfold XL;simp [h,h2]
theorem QU {r:Z0} {pace work:Int} (h:Zp r=false):XK r pace work= -1:=by unfold XK;simp [h]
theorem QV {r:Z0} {pace work:Int} (h:inB work 0 1000000=false):XK r pace work= -1:=by unfold XK;simp [h]
theorem QW {r:Z0} {pace work:Int} (h:inB pace 0 (r.2.length-1)=false):XK r pace work= -1:=by unfold XK;simp [h]
theorem Pb {r:Z0} {pace work:Int} (h:Zp r=true) (h2:inB work 0 1000000=true) (h3:inB pace 0 (r.2.length-1)=true):XK r pace work=Xr (Z7 r.2 pace.toNat).2 work (Z7 r.2 pace.toNat).1:=by unfold XK;simp [h,h2,h3]
theorem Ic {a b c:Int} (a0:0<=a) (a1:a<=1000000000) (b0:0<=b) (b1:b<=1000000000) (c0:1<=c) (c1:c<=1000000000):Xr a b c=a*b / c:=by
 unfold Xr;rw [Zs a0 a1,Zs b0 b1,Zs c0 c1];rfl
theorem Lk (r:Z0) (pace work:Int) : -1<=XK r pace work/\XK r pace work<=1024000000:=by
 cases h:Zp r
 ·rw [QU h];omega
 cases h2:inB work 0 1000000
 ·rw [QV h2];omega
 cases h3:inB pace 0 (r.2.length-1)
 ·rw [QW h3];omega
 rw [Pb h h2 h3]
 have hb:=ZU h2;have hp:=ZU h3
 have hr:=Oi h (k:=pace.toNat) (by omega)
 generalize Z7 r.2 pace.toNat=p at *
 rw [Ic (by omega) (by omega) (by omega) (by omega) (by omega) (by omega)]
 have m0:0<=p.2*work:=Int.mul_nonneg (by omega) (by omega)
 have m1:p.2*work<=1024*1000000:=Int.mul_le_mul (by omega) (by omega) (by omega) (by omega)
 have d0:=Int.ediv_nonneg m0 (show 0<=p.1 by omega)
 have d1:=Int.ediv_le_self p.1 m0
 omega
theorem Yu (x:Int) (w:World):Calls Tryz.prog 241 #[.int .i64 x] w fun e w'=>e= .returned (.bool (inB x 0 1000000))/\w'=w:=by
 go_enter Tryz.func241,Tryz.ntmps241
 go_wp2_with (go_at_call 77;refine (Z1 _ _ _ _).mono ?_;rintro e w' ⟨rfl,rfl⟩)
 go_ret
 exact ⟨rfl,rfl⟩
def amt (x:Int):Bool:=inB x 0 1000000
def VR (w u f:Int):Bool:=(amt w && (amt u && amt f)) && decide (5*(w+u)<=4*f)
def PF (u f:Int):Bool:=(amt u && amt f) && !decide (5*u<=4*f)
def U6 (u f:Int):Int:=if amt u && amt f then f-u else -1000001
theorem FQ (u f:Int):decide (4*f<5*u)= !decide (5*u<=4*f):=by
 by_cases h:5*u<=4*f
 ·rw [decide_eq_true h,decide_eq_false (by omega)];rfl
 ·rw [decide_eq_false h,decide_eq_true (by omega)];rfl
theorem Vy (x u f:Int) (w:World):Calls Tryz.prog 231 #[.int .i64 x,.int .i64 u,.int .i64 f] w fun e w'=>e= .returned (.bool (VR x u f))/\w'=w:=by
 cases hx:inB x 0 1000000
 ·go_enter Tryz.func231,Tryz.ntmps231
  go_wp2_with (go_at_call 241;refine (Yu _ _).mono ?_;rintro e w' ⟨rfl,rfl⟩)
  go_ret
  exact ⟨Z6 (by simp [VR,amt,hx]),rfl⟩
 ·cases hu:inB u 0 1000000
  ·go_enter Tryz.func231,Tryz.ntmps231
   go_wp2_with (go_at_call 241;refine (Yu _ _).mono ?_;rintro e w' ⟨rfl,rfl⟩)
   go_ret
   exact ⟨Z6 (by simp [VR,amt,hx,hu]),rfl⟩
  ·cases hf:inB f 0 1000000
   ·go_enter Tryz.func231,Tryz.ntmps231
    go_wp2_with (go_at_call 241;refine (Yu _ _).mono ?_;rintro e w' ⟨rfl,rfl⟩)
    go_ret
    exact ⟨Z6 (by simp [VR,amt,hx,hu,hf]),rfl⟩
   ·obtain ⟨x0,x1⟩:=ZU hx
    obtain ⟨u0,u1⟩:=ZU hu
    obtain ⟨f0,f1⟩:=ZU hf
    go_enter Tryz.func231,Tryz.ntmps231
    go_wp2_with (go_at_call 241;refine (Yu _ _).mono ?_;rintro e w' ⟨rfl,rfl⟩)
    go_ret
    exact ⟨Z6 (by simp [VR,amt,hx,hu,hf]),rfl⟩
theorem QJ (u f:Int) (w:World):Calls Tryz.prog 239 #[.int .i64 u,.int .i64 f] w fun e w'=>e= .returned (.bool (PF u f))/\w'=w:=by
 cases hu:inB u 0 1000000
 ·go_enter Tryz.func239,Tryz.ntmps239
  go_wp2_with (go_at_call 241;refine (Yu _ _).mono ?_;rintro e w' ⟨rfl,rfl⟩)
  go_ret
  exact ⟨Z6 (by simp [PF,amt,hu]),rfl⟩
 ·cases hf:inB f 0 1000000
  ·go_enter Tryz.func239,Tryz.ntmps239
   go_wp2_with (go_at_call 241;refine (Yu _ _).mono ?_;rintro e w' ⟨rfl,rfl⟩)
   go_ret
   exact ⟨Z6 (by simp [PF,amt,hu,hf]),rfl⟩
  ·obtain ⟨u0,u1⟩:=ZU hu
   obtain ⟨f0,f1⟩:=ZU hf
   go_enter Tryz.func239,Tryz.ntmps239
   go_wp2_with (go_at_call 241;refine (Yu _ _).mono ?_;rintro e w' ⟨rfl,rfl⟩)
   go_ret
   exact ⟨Z6 (by simp [PF,amt,hu,hf,FQ]),rfl⟩
theorem QI (u f:Int) (w:World):Calls Tryz.prog 225 #[.int .i64 u,.int .i64 f] w fun e w'=>e= .returned (.int .i64 (U6 u f))/\w'=w:=by
 cases hu:inB u 0 1000000
 ·go_enter Tryz.func225,Tryz.ntmps225
  go_wp2_with (go_at_call 241;refine (Yu _ _).mono ?_;rintro e w' ⟨rfl,rfl⟩)
  go_ret
  exact ⟨Zx (by simp [U6,amt,hu]),rfl⟩
 ·cases hf:inB f 0 1000000
  ·go_enter Tryz.func225,Tryz.ntmps225
   go_wp2_with (go_at_call 241;refine (Yu _ _).mono ?_;rintro e w' ⟨rfl,rfl⟩)
   go_ret
   exact ⟨Zx (by simp [U6,amt,hu,hf]),rfl⟩
  ·obtain ⟨u0,u1⟩:=ZU hu
   obtain ⟨f0,f1⟩:=ZU hf
   go_enter Tryz.func225,Tryz.ntmps225
   go_wp2_with (go_at_call 241;refine (Yu _ _).mono ?_;rintro e w' ⟨rfl,rfl⟩)
   go_ret
   exact ⟨Zx (by simp [U6,amt,hu,hf]),rfl⟩
open Go.ChangeShapes Go.WideShapes Go.ChangeAt Go.RowKit Go.Sort
def SX (gs:List ZK) (s:Z3):Int:=min (max s.2.2.2.2.2.2.2.2.2.1 (VX (bnd gs s.2.2.2.2.1) s.2.2.2.2.2.1 s.2.2.2.2.2.2.1).1) (VX (bnd gs s.2.2.2.2.1) s.2.2.2.2.2.1 s.2.2.2.2.2.2.1).2
def Zv (m:Z4) (who:Int):Int:=SX m.guilds (Z8 m.smiths who.toNat)
theorem Gx (gs:List ZK) (s:Z3):0<=SX gs s/\SX gs s<=1024:=by
 obtain ⟨b0,b1,b2⟩:=Fl gs s.2.2.2.2.1
 obtain ⟨n0,n1,n2⟩:=Nz (lo:=s.2.2.2.2.2.1) (hi:=s.2.2.2.2.2.2.1) b0 b1 b2
 unfold SX
 omega
theorem UX (m:Z4) (who:Int):0<=Zv m who/\Zv m who<=1024:=Gx _ _
def W7 (m:Z4) (but:Int) (q:List Z5):Int:=q.foldl (fun n e=>if e.2=but then n else n+Zv m e.2) 0
theorem KO (m:Z4) (but:Int) (q:List Z5) (e:Z5):W7 m but (q++[e])=if e.2=but then W7 m but q else W7 m but q+Zv m e.2:=by
 unfold W7;rw [List.foldl_append];rfl
theorem MQ (m:Z4) (but:Int):∀ (q:List Z5) (n:Int),0<=n->0<=q.foldl (fun n e=>if e.2=but then n else n+Zv m e.2) n/\q.foldl (fun n e=>if e.2=but then n else n+Zv m e.2) n<=n+1024*q.length
 | [],n,h=>⟨h,by simp⟩
 | e::q,n,h=>by
  have hw:=UX m e.2
  have ih:=MQ m but q (if e.2=but then n else n+Zv m e.2) (by split<;>omega)
  refine ⟨ih.1,Int.le_trans ih.2 ?_⟩
  simp only [List.length_cons,Int.natCast_add,Int.natCast_one]
  split<;>omega
theorem Qg (m:Z4) (but:Int) (q:List Z5):0<=W7 m but q/\W7 m but q<=1024*q.length:=by
 have:=MQ m but q 0 (by omega)
 unfold W7;omega
def Yn (m:Z4) (b but:Int):Int:=W7 m but (atV m.smiths b m.smiths.length)
theorem MR (m:Z4) (b but:Int):0<=Yn m b but/\Yn m b but<=1024*m.smiths.length:=by
 have h:=Qg m but (atV m.smiths b m.smiths.length)
 have hl:=U9 m.smiths b m.smiths.length
 unfold Yn
 refine ⟨h.1,Int.le_trans h.2 ?_⟩
 omega
def Y8 (m:Z4) (room:Int):Nat->Int × Int
 | 0=>(0,0)
 | k+1=>if (WK m.rooms k:Int)=room then ((if (Z8 m.desks k).1 then max (Y8 m room k).1 (Yn m k (-1)) else (Y8 m room k).1),(Y8 m room k).2+Yn m k (-1)) else Y8 m room k
theorem RM (m:Z4) (room:Int) (hl:m.smiths.length<=12):∀ k:Nat,(0<=(Y8 m room k).1/\(Y8 m room k).1<=12288)/\0<=(Y8 m room k).2/\(Y8 m room k).2<=12288*k
 | 0=>by simp [Y8]
 | k+1=>by
  have ih:=RM m room hl k
  have hu:=MR m k (-1)
  unfold Y8
  split
  ·simp only
   constructor
   ·split<;>omega
   ·push_cast;omega
  ·push_cast;omega
def Ro (m:Z4) (room:Nat):Int:=Nv (ZS m.rooms room) (Y8 m room m.desks.length).1 (Y8 m room m.desks.length).2
def U0 (m:Z4):Nat->Int
 | 0=>0
 | k+1=>U0 m k+Ro m k
def Nl (m:Z4):Int:=U0 m m.rooms.length
theorem NW (m:Z4):∀ k:Nat,-(k:Int)<=U0 m k/\U0 m k<=1024000000*k
 | 0=>by simp [U0]
 | k+1=>by
  have ih:=NW m k
  have hc:=Lk (ZS m.rooms k) (XL (ZS m.rooms k) (Y8 m k m.desks.length).1) (Y8 m k m.desks.length).2
  unfold U0 Ro Nv
  push_cast
  omega
def RR (s:Z3) (b:Int):Z3:=(2,b,s.2.2)
def TX (m:Z4) (who b:Int):Z4:={ m with smiths:=m.smiths.set who.toNat (RR (Z8 m.smiths who.toNat) b) }
def Yq (m:Z4) (who b:Int):Int:=Nl (TX m who b)
def Ye (m:Z4) (who:Int) (b:Nat):Bool:=(Z8 m.desks b).1 && V4 (Z8 m.smiths who.toNat).2.2.2.1 b
def NX (m:Z4) (who:Int) (b:Nat):Bool:=Ye m who b && VR (Zv m who) (Yn m b who) (YU m.rooms b)
def Vm (m:Z4) (who:Int):Nat->List Int
 | 0=>[]
 | k+1=>if NX m who k then Vm m who k++[(k:Int)] else Vm m who k
def Yc (m:Z4) (who:Int):List Int:=Vm m who m.desks.length
theorem Rq (m:Z4) (who:Int):∀ k,(Vm m who k).length<=k
 | 0=>Nat.le_refl _
 | k+1=>by
  have:=Rq m who k
  unfold Vm
  split
  ·simp;omega
  ·omega
theorem NY (m:Z4) (who:Int) (x:Int):∀ k,x ∈ Vm m who k ↔ ∃ b:Nat,b<k/\x=(b:Int)/\NX m who b=true
 | 0=>by simp [Vm]
 | k+1=>by
  have ih:=NY m who x k
  unfold Vm
  split
  ·rename_i hf
   rw [List.mem_append,ih]
   constructor
   ·rintro (⟨b,hb,e,h⟩ | h)
    ·exact ⟨b,by omega,e,h⟩
    ·exact ⟨k,by omega,by simpa using h,hf⟩
   ·rintro ⟨b,hb,e,h⟩
    by_cases hbk:b=k
    ·subst hbk;right;simp [e]
    ·left;exact ⟨b,by omega,e,h⟩
  ·rename_i hf
   rw [ih]
   constructor
   ·rintro ⟨b,hb,e,h⟩
    exact ⟨b,by omega,e,h⟩
   ·rintro ⟨b,hb,e,h⟩
    by_cases hbk:b=k
    ·subst hbk;exact absurd h hf
    ·exact ⟨b,by omega,e,h⟩
def RX (m:Z4) (b:Nat):Bool:=(Z8 m.desks b).1 && PF (Yn m b (-1)) (YU m.rooms b)
def VU (m:Z4):Bool:=(List.range m.desks.length).any (RX m)
def VB (m:Z4) (who:Int) (a:Int × Int) (b:Int):Int × Int:=if Yq m who b<a.2\/(Yq m who b=a.2/\b=(Z8 m.smiths who.toNat).2.1) then (b,Yq m who b) else a
def XG (m:Z4) (who:Int) (f:List Int) (k:Nat):Int × Int:=((f.take k).drop 1).foldl (VB m who) (Z8 f 0,Yq m who (Z8 f 0))
def XP (m:Z4) (who:Int):Nat->Int × Int
 | 0=>(-1,0)
 | k+1=>if Ye m who k && (decide ((XP m who k).1<0) || decide ((XP m who k).2<U6 (Yn m k who) (YU m.rooms k))) then ((k:Int),U6 (Yn m k who) (YU m.rooms k)) else XP m who k
def YB (m:Z4) (who:Int):Int:=if !VU m && decide (0<(Yc m who).length) then (XG m who (Yc m who) (Yc m who).length).1 else (XP m who m.desks.length).1
theorem Ld (m:Z4) (who:Int) (P:Int->Prop):∀ (f:List Int) (a:Int × Int),P a.1->(∀ x ∈ f,P x)->P (f.foldl (VB m who) a).1
 | [],a,h,_=>h
 | b::f,a,h,hf=>by
  refine Ld m who P f (VB m who a b) ?_ (fun x hx=>hf x (List.mem_cons_of_mem _ hx))
  unfold VB
  split
  ·exact hf b (by simp)
  ·exact h
theorem Jc (m:Z4) (who:Int):∀ k:Nat,((XP m who k).1= -1/\ ∀ b,b<k->Ye m who b=false)\/ ∃ b:Nat,b<k/\(XP m who k).1=(b:Int)/\Ye m who b=true
 | 0=> .inl ⟨rfl,fun b hb=>by omega⟩
 | k+1=>by
  have ih:=Jc m who k
  unfold XP
  split
  ·rename_i h
   simp only [Bool.and_eq_true] at h
   exact .inr ⟨k,by omega,rfl,h.1⟩
  ·rename_i h
   rcases ih with ⟨e,hn⟩ | ⟨b,hb,e,hm⟩
   ·refine .inl ⟨e,fun b hb=> ?_⟩
    by_cases hbk:b=k
    ·subst hbk
     cases hm:Ye m who b
     ·rfl
     ·exfalso
      apply h
      rw [hm,e]
      rfl
    ·exact hn b (by omega)
   ·exact .inr ⟨b,by omega,e,hm⟩
theorem VD (m:Z4) (who:Int):(YB m who= -1/\ ∀ b,b<m.desks.length->Ye m who b=false)\/ ∃ b:Nat,b<m.desks.length/\YB m who=(b:Int)/\Ye m who b=true:=by
 unfold YB
 split
 ·rename_i h
  simp only [Bool.and_eq_true,decide_eq_true_eq] at h
  right
  have hin:∀ x ∈ Yc m who,∃ b:Nat,b<m.desks.length/\x=(b:Int)/\Ye m who b=true:=by
   intro x hx
   obtain ⟨b,hb,e,hf⟩:=(NY m who x m.desks.length).1 hx
   unfold NX at hf
   simp only [Bool.and_eq_true] at hf
   exact ⟨b,hb,e,hf.1⟩
  unfold XG
  exact Ld m who (fun x=> ∃ b:Nat,b<m.desks.length/\x=(b:Int)/\Ye m who b=true) _ _ (hin _ (UR h.2)) (fun x hx=>hin x (List.mem_of_mem_take (List.mem_of_mem_drop hx)))
 ·exact Jc m who m.desks.length
theorem UP {st be rk my gu lo hi hd ca ut wk:Int} (h0:1<=st/\st<=3) (h1:0<=be/\be<=7) (h2:inB rk (-5) 5=true) (h3:1<=my/\my<=255) (h4 : -1<=gu/\gu<=5) (h5:YJ lo hi=true) (h6 : -1000000000000<=hd/\hd<=1000000000000) (h7:0<=ca/\ca<=Zt rk-1) (h8:0<=ut/\ut<=1024) (h9:0<=wk/\wk<=100000000000) :
  Zh (st,be,rk,my,gu,lo,hi,hd,ca,ut,wk)=true:=by
 unfold Zh
 simp only [Bool.and_eq_true]
 exact ⟨Zs h0.1 h0.2,Zs h1.1 h1.2,h2,Zs h3.1 h3.2,Zs h4.1 h4.2,h5,Zs h6.1 h6.2,Zs h7.1 h7.2,Zs h8.1 h8.2,Zs h9.1 h9.2⟩
theorem XV {m:Z4} {s:Z3} : Yx m s=true ↔ s=Wh\/(Zh s=true/\s.2.2.2.2.1<m.guilds.length/\s.2.1<m.desks.length):=by
 unfold Yx ZH
 simp only [Bool.and_eq_true,Bool.or_eq_true,decide_eq_true_eq]
 constructor
 ·rintro ⟨hg | hp,hr⟩
  ·exact .inl (V6 hg)
  ·right
   refine ⟨hp,?_⟩
   rcases hr with e | e
   ·have:s.1=0:=by simpa using e
    rw [PK this] at hp
    cases hp
   ·exact e
 ·rintro (rfl | ⟨hp,hr⟩)
  ·exact ⟨.inl JD,.inl rfl⟩
  ·exact ⟨.inr hp,.inr hr⟩
theorem VG {m:Z4} {s:Z3} (h:ZR s=false):Yi m s=true:=by unfold Yi;rw [h];rfl
theorem Qq {m:Z4} {s:Z3} (h1:(Z8 m.desks s.2.1.toNat).1=true) (h2:V4 s.2.2.2.1 s.2.1=true) (h3:Xw (Xo s) (Z8 m.desks s.2.1.toNat).2.2=true):Yi m s=true:=by
 unfold Yi
 rw [h1,h2,show s.2.2.2.2.2.2.2.1=Xo s from rfl,h3]
 simp
theorem ZW {m:Z4} (h:ZO m=true):Loose m:=by
 unfold ZO at h
 simp only [Bool.and_eq_true] at h
 exact PD h.1
def setS (m:Z4) (k:Nat) (s:Z3):Z4:={ m with smiths:=m.smiths.set k s }
theorem Loose.setS {m:Z4} (h:Loose m) {k:Nat} (hk:k<m.smiths.length) {s:Z3} (h1:Yx m s=true) (h2:Yi m s=true):Loose (setS m k s):=by
 refine ⟨?_,h.desk,h.pace,?_,?_,h.openD⟩
 ·have:=h.head
  unfold YY at this ⊢
  unfold Go.Proofs.YthbbahagpmdooaaGreat.setS
  simpa using this
 ·intro i hi
  have hi':i<m.smiths.length:=by unfold Go.Proofs.YthbbahagpmdooaaGreat.setS at hi;simpa using hi
  show Yx (Go.Proofs.YthbbahagpmdooaaGreat.setS m k s) (Z8 (m.smiths.set k s) i)=true
  rw [Xc (m:=m) (m':=Go.Proofs.YthbbahagpmdooaaGreat.setS m k s) rfl rfl,ZC hk]
  split
  ·exact h1
  ·exact h.here i hi'
 ·intro i hi
  have hi':i<m.smiths.length:=by unfold Go.Proofs.YthbbahagpmdooaaGreat.setS at hi;simpa using hi
  show Yi m (Z8 (m.smiths.set k s) i)=true
  rw [ZC hk]
  split
  ·exact h2
  ·exact h.seat i hi'
theorem Ww {α:Type} [Inhabited α] (xs:List α) (x:α) (i:Nat):Z8 (xs++[x]) i=if i=xs.length then x else Z8 xs i:=by
 unfold Z8
 split
 ·rename_i h;subst h;simp [List.getD]
 ·rename_i h
  rcases Nat.lt_or_ge i xs.length with hi | hi
  ·simp [List.getD,List.getElem?_append_left hi]
  ·simp [List.getD,List.getElem?_append_right hi,List.getElem?_eq_none hi]
   rw [List.getElem?_eq_none (by simp;omega)]
   rfl
def pushS (m:Z4) (s:Z3):Z4:={ m with smiths:=m.smiths++[s] }
theorem Loose.pushS {m:Z4} (h:Loose m) (hl:m.smiths.length<12) {s:Z3} (h1:Yx m s=true) (h2:Yi m s=true):Loose (pushS m s):=by
 refine ⟨?_,h.desk,h.pace,?_,?_,h.openD⟩
 ·have:=h.head
  unfold YY at this ⊢
  unfold Go.Proofs.YthbbahagpmdooaaGreat.pushS
  simp only [Bool.and_eq_true,decide_eq_true_eq] at this ⊢
  refine ⟨this.1,this.2.1,?_,this.2.2.2⟩
  simp
  omega
 ·intro i hi
  have hi':i<m.smiths.length+1:=by unfold Go.Proofs.YthbbahagpmdooaaGreat.pushS at hi;simpa using hi
  show Yx (Go.Proofs.YthbbahagpmdooaaGreat.pushS m s) (Z8 (m.smiths++[s]) i)=true
  rw [Xc (m:=m) (m':=Go.Proofs.YthbbahagpmdooaaGreat.pushS m s) rfl rfl,Ww]
  split
  ·exact h1
  ·exact h.here i (by omega)
 ·intro i hi
  have hi':i<m.smiths.length+1:=by unfold Go.Proofs.YthbbahagpmdooaaGreat.pushS at hi;simpa using hi
  show Yi m (Z8 (m.smiths++[s]) i)=true
  rw [Ww]
  split
  ·exact h2
  ·exact h.seat i (by omega)
def XO (m:Z4) (b:Int):Int:=(Z8 m.desks b.toNat).2.2
def PV (s:Z3) (b had:Int):Z3:=(2,b,s.2.2.1,s.2.2.2.1,s.2.2.2.2.1,s.2.2.2.2.2.1,s.2.2.2.2.2.2.1,had,s.2.2.2.2.2.2.2.2)
def putS (m:Z4) (s:Z3) (b:Int):Z3:=(s.1,b,s.2.2.1,s.2.2.2.1,s.2.2.2.2.1,s.2.2.2.2.2.1,s.2.2.2.2.2.2.1,Zr (Xo s) (XO m s.2.1) (XO m b),s.2.2.2.2.2.2.2.2)
def Ur (s:Z3) (may:Int):Z3:=(s.1,s.2.1,s.2.2.1,may,s.2.2.2.2)
def J3 (s:Z3) (lo hi:Int):Z3:=(s.1,s.2.1,s.2.2.1,s.2.2.2.1,s.2.2.2.2.1,lo,hi,s.2.2.2.2.2.2.2)
def Rt (s:Z3) (g:Int):Z3:=(s.1,s.2.1,s.2.2.1,s.2.2.2.1,g,s.2.2.2.2.2)
def YK (rank may guild:Int):Z3:=(1,0,rank,may,guild,0,1024,0,0,0,0)
theorem WU {m:Z4} (h:Loose m):m.desks.length<=8:=by
 have:=h.head
 unfold YY at this
 simp only [Bool.and_eq_true,decide_eq_true_eq] at this
 have h8:=(Zf this.1).2.2.2
 omega
theorem GM {m:Z4} (h:Loose m):m.guilds.length<=6:=by
 have:=h.head
 unfold YY at this
 simp only [Bool.and_eq_true,decide_eq_true_eq] at this
 exact (Xb this.2.1).2
theorem Loose.limits {m:Z4} (h:Loose m) {k:Nat} (hk:k<m.smiths.length) (hs:(Z8 m.smiths k).1 ≠ 0):Zh (Z8 m.smiths k)=true/\(Z8 m.smiths k).2.2.2.2.1<m.guilds.length/\(Z8 m.smiths k).2.1<m.desks.length:=by
 rcases XV.1 (h.here k hk) with e | e
 ·rw [e] at hs;exact absurd rfl hs
 ·exact e
theorem G7 {m:Z4} (h:Loose m) {k:Nat} (hk:k<m.smiths.length) (hp:ZR (Z8 m.smiths k)=true):Loose (setS m k (stS (Z8 m.smiths k) 1)):=
 h.setS hk (LL (h.here k hk) hp (by omega) (by omega)) (VG rfl)
theorem JQ {m:Z4} (h:Loose m) {k:Nat} (hk:k<m.smiths.length):Loose (setS m k Wh):=
 h.setS hk (XV.2 (.inl rfl)) (VG rfl)
theorem G6 {m:Z4} (h:Loose m) {k:Nat} (hk:k<m.smiths.length) {rank:Int} {s:Z3} (hr:Yr (Z8 m.smiths k) rank=(s,true)):Loose (setS m k s):=by
 unfold Yr at hr
 split at hr
 ·rename_i hp
  split at hr
  ·rename_i hrk
   obtain ⟨rfl,_⟩:=Prod.mk.inj hr
   have hne:(Z8 m.smiths k).1 ≠ 0:=by
    intro e
    rw [PK e] at hp
    cases hp
   obtain ⟨_,g1,b1⟩:=h.limits hk hne
   refine h.setS hk (XV.2 (.inr ⟨Si hp hrk,g1,b1⟩)) ?_
   have:=h.seat k hk
   unfold Yi at this ⊢
   exact this
  ·cases (Prod.mk.inj hr).2
 ·cases (Prod.mk.inj hr).2
theorem FE {m:Z4} (h:Loose m) {k:Nat} (hk:k<m.smiths.length) (hs:(Z8 m.smiths k).1 ≠ 0) {lo hi:Int} (hp:YJ lo hi=true):Loose (setS m k (J3 (Z8 m.smiths k) lo hi)):=by
 obtain ⟨p,g1,b1⟩:=h.limits hk hs
 refine h.setS hk (XV.2 (.inr ⟨?_,g1,b1⟩)) ?_
 ·generalize Z8 m.smiths k=s at *
  obtain ⟨st,be,rk,my,gu,lo',hi',hd,ca,ut,wk⟩:=s
  obtain ⟨x0,x1,x2,x3,x4,x5,x6,x7,x8,x9⟩:=Zk p
  exact UP x0 x1 x2 x3 x4 hp x6 x7 x8 x9
 ·have:=h.seat k hk
  unfold Yi at this ⊢
  exact this
theorem G0 {m:Z4} (h:Loose m) {k:Nat} (hk:k<m.smiths.length) (hs:(Z8 m.smiths k).1 ≠ 0) {g:Int} (g0 : -1<=g) (g1:g<m.guilds.length):Loose (setS m k (Rt (Z8 m.smiths k) g)):=by
 obtain ⟨p,_,b1⟩:=h.limits hk hs
 have hg:=GM h
 refine h.setS hk (XV.2 (.inr ⟨?_,g1,b1⟩)) ?_
 ·generalize Z8 m.smiths k=s at *
  obtain ⟨st,be,rk,my,gu,lo',hi',hd,ca,ut,wk⟩:=s
  obtain ⟨x0,x1,x2,x3,x4,x5,x6,x7,x8,x9⟩:=Zk p
  exact UP x0 x1 x2 x3 ⟨g0,by omega⟩ x5 x6 x7 x8 x9
 ·have:=h.seat k hk
  unfold Yi at this ⊢
  exact this
theorem FF {m:Z4} (h:Loose m) {k:Nat} (hk:k<m.smiths.length) (hs:(Z8 m.smiths k).1 ≠ 0) {may:Int} (m0:1<=may) (m1:may<=255) (hb:ZR (Z8 m.smiths k)=false\/V4 may (Z8 m.smiths k).2.1=true):Loose (setS m k (Ur (Z8 m.smiths k) may)):=by
 obtain ⟨p,g1,b1⟩:=h.limits hk hs
 refine h.setS hk (XV.2 (.inr ⟨?_,g1,b1⟩)) ?_
 ·generalize Z8 m.smiths k=s at *
  obtain ⟨st,be,rk,my,gu,lo',hi',hd,ca,ut,wk⟩:=s
  obtain ⟨x0,x1,x2,x3,x4,x5,x6,x7,x8,x9⟩:=Zk p
  exact UP x0 x1 x2 ⟨m0,m1⟩ x4 x5 x6 x7 x8 x9
 ·rcases hb with hb | hb
  ·exact VG hb
  ·have:=h.seat k hk
   unfold Yi at this
   cases hp:ZR (Z8 m.smiths k)
   ·exact VG hp
   ·rw [hp] at this
    simp only [Bool.not_true,Bool.false_or,Bool.and_eq_true] at this
    exact Qq (s:=Ur (Z8 m.smiths k) may) this.1 hb this.2.2
theorem FG {m:Z4} {s:Z3} {b:Nat} {had:Int} (h:Loose m) (hp:Zh s=true) (hg:s.2.2.2.2.1<m.guilds.length) (hb:b<m.desks.length) (ho:(Z8 m.desks b).1=true) (hm:V4 s.2.2.2.1 b=true) (hd:Xw had (Z8 m.desks b).2.2=true) :
  Yx m (PV s b had)=true/\Yi m (PV s b had)=true:=by
 have h8:=WU h
 obtain ⟨st,be,rk,my,gu,lo',hi',hd',ca,ut,wk⟩:=s
 obtain ⟨x0,x1,x2,x3,x4,x5,x6,x7,x8,x9⟩:=Zk hp
 obtain ⟨d0,d1,_⟩:=Tl hd
 refine ⟨XV.2 (.inr ⟨UP (by omega) ⟨by omega,by omega⟩ x2 x3 x4 x5 ⟨d0,d1⟩ x7 x8 x9,hg,?_⟩),?_⟩
 ·show (b:Int)<_;omega
 ·exact Qq (m:=m) (s:=PV (st,be,rk,my,gu,lo',hi',hd',ca,ut,wk) b had) (by show (Z8 m.desks ((b:Int)).toNat).1=true;simpa using ho) hm (by show Xw had (Z8 m.desks ((b:Int)).toNat).2.2=true;simpa using hd)
theorem Pv {m:Z4} (h:Loose m) {s:Z3} {b:Nat} (hp:Zh s=true) (hpr:ZR s=true) (hg:s.2.2.2.2.1<m.guilds.length) (b0:0<=s.2.1) (b1:s.2.1<m.desks.length) (hband:Xw (Xo s) (XO m s.2.1)=true) (hb:b<m.desks.length) (ho:(Z8 m.desks b).1=true) (hm:V4 s.2.2.2.1 b=true) :
  Yx m (putS m s b)=true/\Yi m (putS m s b)=true:=by
 have h8:=WU h
 obtain ⟨k0,k1⟩:=RY (h.desk s.2.1.toNat (by omega))
 obtain ⟨k2,k3⟩:=RY (h.desk b hb)
 obtain ⟨a0,a1,a2,a3,a4,a5⟩:=Tl hband
 have hmk:XO m (b:Int)=(Z8 m.desks b).2.2:=by unfold XO;simp
 have hmv:Zr (Xo s) (XO m s.2.1) (XO m b)=Xo s-XO m s.2.1+XO m b:=FP a0 a1 a2 a3 (by omega) (by omega)
 obtain ⟨st,be,rk,my,gu,lo',hi',hd',ca,ut,wk⟩:=s
 obtain ⟨x0,x1,x2,x3,x4,x5,x6,x7,x8,x9⟩:=Zk hp
 simp only at b0 b1 hmv a4 a5 k0 k1 hg hm
 refine ⟨XV.2 (.inr ⟨?_,hg,?_⟩),?_⟩
 ·unfold putS
  simp only
  rw [hmv]
  exact UP x0 ⟨by omega,by omega⟩ x2 x3 x4 x5 ⟨by omega,by omega⟩ x7 x8 x9
 ·show (b:Int)<_;omega
 ·refine Qq (m:=m) (s:=putS m (st,be,rk,my,gu,lo',hi',hd',ca,ut,wk) b) (by show (Z8 m.desks ((b:Int)).toNat).1=true;simpa using ho) hm ?_
  show Xw (Zr _ _ _) (Z8 m.desks ((b:Int)).toNat).2.2=true
  rw [hmv,show ((b:Int)).toNat=b by simp,<-hmk]
  exact Nd (by omega) (by omega) (by omega) (by omega) (by omega) (by omega)
def U5 (m:Z4) (r:Nat) (p:Int):Z4:={ m with paces:=m.paces.set r p }
theorem N5 {m:Z4} (h:Loose m) {r:Nat} (hr:r<m.rooms.length) {p:Int} (p0:0<=p) (p1:p<(ZS m.rooms r).2.length):Loose (U5 m r p):=by
 have hd:=h.head
 have hpl:m.paces.length=m.rooms.length:=by
  unfold YY at hd
  simp only [Bool.and_eq_true,decide_eq_true_eq] at hd
  exact hd.2.2.2.2.1
 refine ⟨?_,h.desk,?_,h.here,h.seat,h.openD⟩
 ·unfold YY at hd ⊢
  unfold U5
  simpa using hd
 ·intro j hj
  have hj':j<m.paces.length:=by unfold U5 at hj;simpa using hj
  have:=h.pace j hj'
  unfold WI at this ⊢
  unfold U5
  simp only
  rw [ZC (by omega)]
  split
  ·rename_i e;subst e;exact Zs p0 (by omega)
  ·exact this
def YH (m:Z4) (b:Nat) (o:Bool):Z4:={ m with desks:=m.desks.set b (o,(Z8 m.desks b).2) }
theorem G5 {m:Z4} (h:Loose m) {b:Nat} (hb:b<m.desks.length):Loose (YH m b true):=by
 have hat:∀ j,(Z8 (YH m b true).desks j)=if j=b then (true,(Z8 m.desks b).2) else Z8 m.desks j:=fun j=>ZC hb j
 have hmk:∀ j,(Z8 (YH m b true).desks j).2=(Z8 m.desks j).2:=fun j=>by
  rw [hat]
  by_cases e:j=b
  ·rw [if_pos e,e]
  ·rw [if_neg e]
 have hop:∀ j,(Z8 m.desks j).1=true->(Z8 (YH m b true).desks j).1=true:=fun j e=>by
  rw [hat]
  by_cases e':j=b
  ·rw [if_pos e']
  ·rw [if_neg e'];exact e
 have hlen:(YH m b true).desks.length=m.desks.length:=by unfold YH;simp
 refine ⟨?_,?_,h.pace,?_,?_,?_⟩
 ·have:=h.head
  unfold YY at this ⊢
  rw [hlen]
  exact this
 ·intro j hj
  have:=h.desk j (by omega)
  unfold Wz at this ⊢
  rw [hmk]
  exact this
 ·intro i hi
  rw [Xc (m:=m) (m':=YH m b true) rfl hlen]
  exact h.here i hi
 ·intro i hi
  have:=h.seat i hi
  unfold Yi at this ⊢
  show (!ZR (Z8 m.smiths i) || _)=true
  cases hp:ZR (Z8 m.smiths i)
  ·rfl
  ·rw [hp] at this
   simp only [Bool.not_true,Bool.false_or,Bool.and_eq_true] at this ⊢
   refine ⟨hop _ this.1,this.2.1,?_⟩
   show Xw _ (Z8 (YH m b true).desks (Z8 m.smiths i).2.1.toNat).2.2=true
   rw [hmk]
   exact this.2.2
 ·exact ⟨b,by omega,by rw [hat,if_pos rfl]⟩
def Yp:Z4:=⟨[],[],[],[],[],0⟩
def WT (m:Z4) (who:Int):Bool:=inB who 0 ((m.smiths.length:Int)-1) && !((Z8 m.smiths who.toNat).1 ==0)
theorem X6 {m:Z4} {who:Int} (h:WT m who=true):∃ k:Nat,who=(k:Int)/\k<m.smiths.length/\(Z8 m.smiths k).1 ≠ 0:=by
 unfold WT at h
 simp only [Bool.and_eq_true,Bool.not_eq_true',beq_eq_false_iff_ne] at h
 have h1:=ZU h.1
 exact ⟨who.toNat,by omega,by omega,h.2⟩
theorem Xk {m:Z4} (h:Loose m):Few m:=by
 have hd:=h.head
 unfold YY at hd
 simp only [Bool.and_eq_true,decide_eq_true_eq] at hd
 obtain ⟨h1,h2,h3,h4,h5,_⟩:=hd
 obtain ⟨r1,r2,r3,r4⟩:=Zf h1
 have hg:=(Xb h2).2
 refine ⟨by omega,fun r hr=> ?_,by omega,by omega,by omega,by omega⟩
 have hrb:=List.all_eq_true.1 r3 r hr
 unfold Zp at hrb
 simp only [Bool.and_eq_true] at hrb
 have:=ZU hrb.2.1
 omega
def Vg (m:Z4) (who:Int):Z4 × Int:=
 if ZO m then (if WT m who then (if ZR (Z8 m.smiths who.toNat) then (ZP (setS m who.toNat (stS (Z8 m.smiths who.toNat) 1)),0) else (m,2)) else (m,1)) else (Yp,3)
def Wu (m:Z4) (who:Int):Z4 × Int:=
 if ZO m then (if WT m who then (ZP (setS m who.toNat Wh),0) else (m,1)) else (Yp,3)
def WH (m:Z4) (who lo hi:Int):Z4 × Int:=
 if ZO m then (if WT m who then (if YJ lo hi then (ZP (setS m who.toNat (J3 (Z8 m.smiths who.toNat) lo hi)),0) else (m,3)) else (m,1)) else (Yp,3)
def WJ (m:Z4) (who rank:Int):Z4 × Int:=
 if ZO m then (if WT m who then (if (Yr (Z8 m.smiths who.toNat) rank).2 then (ZP (setS m who.toNat (Yr (Z8 m.smiths who.toNat) rank).1),0) else (m,3)) else (m,1)) else (Yp,3)
theorem Kn {m:Z4} (h:ZO m=true) (who:Int):ZO (Vg m who).1=true:=by
 unfold Vg
 rw [h]
 simp only [if_true]
 split
 ·rename_i hw
  obtain ⟨k,rfl,hk,hs⟩:=X6 hw
  rw [show ((k:Int)).toNat=k by simp]
  split
  ·rename_i hp
   exact Y0 (G7 (ZW h) hk hp)
  ·exact h
 ·exact h
theorem LW {m:Z4} (h:ZO m=true) (who:Int):ZO (Wu m who).1=true:=by
 unfold Wu
 rw [h]
 simp only [if_true]
 split
 ·rename_i hw
  obtain ⟨k,rfl,hk,hs⟩:=X6 hw
  rw [show ((k:Int)).toNat=k by simp]
  exact Y0 (JQ (ZW h) hk)
 ·exact h
theorem L4 {m:Z4} (h:ZO m=true) (who lo hi:Int):ZO (WH m who lo hi).1=true:=by
 unfold WH
 rw [h]
 simp only [if_true]
 split
 ·rename_i hw
  obtain ⟨k,rfl,hk,hs⟩:=X6 hw
  rw [show ((k:Int)).toNat=k by simp]
  split
  ·rename_i hp
   exact Y0 (FE (ZW h) hk hs hp)
  ·exact h
 ·exact h
theorem Kl {m:Z4} (h:ZO m=true) (who rank:Int):ZO (WJ m who rank).1=true:=by
 unfold WJ
 rw [h]
 simp only [if_true]
 split
 ·rename_i hw
  obtain ⟨k,rfl,hk,hs⟩:=X6 hw
  rw [show ((k:Int)).toNat=k by simp]
  split
  ·rename_i hp
   exact Y0 (G6 (ZW h) hk (Prod.ext rfl hp))
  ·exact h
 ·exact h
def XF (m:Z4) (who:Int):Int:=if ZO m && WT m who then Zv m who else -1
def Xt (m:Z4) (b:Int):Int:=if ZO m && YZ m b then Yn m b (-1) else -1
attribute [local go_sem ↓] On Oo
theorem XS (n:Int) (w:World):Calls Tryz.prog 93 #[.int .i64 n] w fun e w'=>e= .returned (.bool (inB n (-1000000000000) 1000000000000))/\w'=w:=by
 go_enter Tryz.func93,Tryz.ntmps93
 go_wp2_with (go_at_call 77;refine (Z1 _ _ _ _).mono ?_;rintro e w' ⟨rfl,rfl⟩)
 go_ret
 exact ⟨rfl,rfl⟩
theorem Zy (st be rk my gu lo hi hd ca ut wk:Int) (w:World):Calls Tryz.prog 88 #[.agg #[.int .i64 st,.int .i64 be,.int .i64 rk,.int .i64 my,.int .i64 gu,.int .i64 lo,.int .i64 hi,.int .i64 hd,.int .i64 ca,.int .i64 ut,.int .i64 wk]] w fun e w'=>e= .returned (.bool (ZH (st,be,rk,my,gu,lo,hi,hd,ca,ut,wk)))/\Below w.heap.size w w':=by
 by_cases hst:st=0
 ·subst hst
  unfold ZH
  rw [PK rfl,Bool.or_false]
  obtain ⟨q,hq⟩:∃ q,V5 (0,be,rk,my,gu,lo,hi,hd,ca,ut,wk)=q:=⟨_,rfl⟩
  rw [hq]
  have hz:US (0,be,rk,my,gu,lo,hi,hd,ca,ut,wk) (0,0,0,0,0,0,0,0,0,0,0)=q:=hq
  clear hq
  go_enter Tryz.func88,Tryz.ntmps88
  go_wp2_with fail
  go_ret
  exact ⟨rfl,(Below.refl _ _).alloc (Nat.le_refl _) _⟩
 ·have hne:(st ==0)=false:=by simpa using hst
  unfold ZH
  rw [Ts hst,Bool.false_or]
  unfold Zh
  simp only
  obtain ⟨x0,x1⟩:=UY rk
  obtain ⟨x,hx⟩:∃ x,Zt rk=x:=⟨_,rfl⟩
  rw [hx] at x0 x1 ⊢
  have Hw:=Z9 hx
  have hwr:IntKind.i64.wrap (x-1)=x-1:=by rw [IntKind.wrap_i64];omega
  clear hx hst
  cases h0:inB st 1 3
  ·go_enter Tryz.func88,Tryz.ntmps88
   go_wp2_with (first | (go_at_call 77;refine (Z1 _ _ _ _).mono ?_;rintro e w' ⟨rfl,rfl⟩) | (go_at_call 137;refine (Ze _ _).mono ?_;rintro e w' ⟨rfl,rfl⟩) | (go_at_call 43;refine (Zg _ _ _).mono ?_;rintro e w' ⟨rfl,rfl⟩))
   go_ret
   exact ⟨rfl,(Below.refl _ _).alloc (Nat.le_refl _) _⟩
  cases h1:inB be 0 7
  ·go_enter Tryz.func88,Tryz.ntmps88
   go_wp2_with (first | (go_at_call 77;refine (Z1 _ _ _ _).mono ?_;rintro e w' ⟨rfl,rfl⟩) | (go_at_call 137;refine (Ze _ _).mono ?_;rintro e w' ⟨rfl,rfl⟩) | (go_at_call 43;refine (Zg _ _ _).mono ?_;rintro e w' ⟨rfl,rfl⟩))
   go_ret
   exact ⟨rfl,(Below.refl _ _).alloc (Nat.le_refl _) _⟩
  cases h2:inB rk (-5) 5
  ·go_enter Tryz.func88,Tryz.ntmps88
   go_wp2_with (first | (go_at_call 77;refine (Z1 _ _ _ _).mono ?_;rintro e w' ⟨rfl,rfl⟩) | (go_at_call 137;refine (Ze _ _).mono ?_;rintro e w' ⟨rfl,rfl⟩) | (go_at_call 43;refine (Zg _ _ _).mono ?_;rintro e w' ⟨rfl,rfl⟩))
   go_ret
   exact ⟨rfl,(Below.refl _ _).alloc (Nat.le_refl _) _⟩
  cases h3:inB my 1 255
  ·go_enter Tryz.func88,Tryz.ntmps88
   go_wp2_with (first | (go_at_call 77;refine (Z1 _ _ _ _).mono ?_;rintro e w' ⟨rfl,rfl⟩) | (go_at_call 137;refine (Ze _ _).mono ?_;rintro e w' ⟨rfl,rfl⟩) | (go_at_call 43;refine (Zg _ _ _).mono ?_;rintro e w' ⟨rfl,rfl⟩))
   go_ret
   exact ⟨rfl,(Below.refl _ _).alloc (Nat.le_refl _) _⟩
  cases h4:inB gu (-1) 5
  ·go_enter Tryz.func88,Tryz.ntmps88
   go_wp2_with (first | (go_at_call 77;refine (Z1 _ _ _ _).mono ?_;rintro e w' ⟨rfl,rfl⟩) | (go_at_call 137;refine (Ze _ _).mono ?_;rintro e w' ⟨rfl,rfl⟩) | (go_at_call 43;refine (Zg _ _ _).mono ?_;rintro e w' ⟨rfl,rfl⟩))
   go_ret
   exact ⟨rfl,(Below.refl _ _).alloc (Nat.le_refl _) _⟩
  cases h5:YJ lo hi
  ·go_enter Tryz.func88,Tryz.ntmps88
   go_wp2_with (first | (go_at_call 77;refine (Z1 _ _ _ _).mono ?_;rintro e w' ⟨rfl,rfl⟩) | (go_at_call 137;refine (Ze _ _).mono ?_;rintro e w' ⟨rfl,rfl⟩) | (go_at_call 43;refine (Zg _ _ _).mono ?_;rintro e w' ⟨rfl,rfl⟩))
   go_ret
   exact ⟨rfl,(Below.refl _ _).alloc (Nat.le_refl _) _⟩
  cases h6:inB hd (-1000000000000) 1000000000000
  ·go_enter Tryz.func88,Tryz.ntmps88
   go_wp2_with (first | (go_at_call 77;refine (Z1 _ _ _ _).mono ?_;rintro e w' ⟨rfl,rfl⟩) | (go_at_call 137;refine (Ze _ _).mono ?_;rintro e w' ⟨rfl,rfl⟩) | (go_at_call 43;refine (Zg _ _ _).mono ?_;rintro e w' ⟨rfl,rfl⟩))
   go_quiet (first | exact Calls.quiet_of_same (Z1 _ _ _ _) | exact Calls.quiet_of_same (XS _ _) | exact Calls.quiet_of_same (Y4 (uh Hw) _) | exact Calls.quiet_of_same (YF _ _))
   go_wp2_with fail
   go_ret
   exact ⟨rfl,YP ((Below.refl _ _).alloc (Nat.le_refl _) _) _⟩
  cases h7:inB ca 0 (x-1)
  ·go_enter Tryz.func88,Tryz.ntmps88
   go_wp2_with (first | (go_at_call 77;refine (Z1 _ _ _ _).mono ?_;rintro e w' ⟨rfl,rfl⟩) | (go_at_call 137;refine (Ze _ _).mono ?_;rintro e w' ⟨rfl,rfl⟩) | (go_at_call 43;refine (Zg _ _ _).mono ?_;rintro e w' ⟨rfl,rfl⟩))
   go_quiet (first | exact Calls.quiet_of_same (Z1 _ _ _ _) | exact Calls.quiet_of_same (XS _ _) | exact Calls.quiet_of_same (Y4 (uh Hw) _) | exact Calls.quiet_of_same (YF _ _))
   go_wp2_with fail
   go_ret
   exact ⟨rfl,YP ((Below.refl _ _).alloc (Nat.le_refl _) _) _⟩
  cases h8:inB ut 0 1024
  ·go_enter Tryz.func88,Tryz.ntmps88
   go_wp2_with (first | (go_at_call 77;refine (Z1 _ _ _ _).mono ?_;rintro e w' ⟨rfl,rfl⟩) | (go_at_call 137;refine (Ze _ _).mono ?_;rintro e w' ⟨rfl,rfl⟩) | (go_at_call 43;refine (Zg _ _ _).mono ?_;rintro e w' ⟨rfl,rfl⟩))
   go_quiet (first | exact Calls.quiet_of_same (Z1 _ _ _ _) | exact Calls.quiet_of_same (XS _ _) | exact Calls.quiet_of_same (Y4 (uh Hw) _) | exact Calls.quiet_of_same (YF _ _))
   go_wp2_with fail
   go_ret
   exact ⟨rfl,YP ((Below.refl _ _).alloc (Nat.le_refl _) _) _⟩
  cases h9:inB wk 0 100000000000
  ·go_enter Tryz.func88,Tryz.ntmps88
   go_wp2_with (first | (go_at_call 77;refine (Z1 _ _ _ _).mono ?_;rintro e w' ⟨rfl,rfl⟩) | (go_at_call 137;refine (Ze _ _).mono ?_;rintro e w' ⟨rfl,rfl⟩) | (go_at_call 43;refine (Zg _ _ _).mono ?_;rintro e w' ⟨rfl,rfl⟩))
   go_quiet (first | exact Calls.quiet_of_same (Z1 _ _ _ _) | exact Calls.quiet_of_same (XS _ _) | exact Calls.quiet_of_same (Y4 (uh Hw) _) | exact Calls.quiet_of_same (YF _ _))
   go_wp2_with fail
   go_ret
   exact ⟨rfl,YP ((Below.refl _ _).alloc (Nat.le_refl _) _) _⟩
  go_enter Tryz.func88,Tryz.ntmps88
  go_wp2_with (first | (go_at_call 77;refine (Z1 _ _ _ _).mono ?_;rintro e w' ⟨rfl,rfl⟩) | (go_at_call 137;refine (Ze _ _).mono ?_;rintro e w' ⟨rfl,rfl⟩) | (go_at_call 43;refine (Zg _ _ _).mono ?_;rintro e w' ⟨rfl,rfl⟩))
  go_quiet (first | exact Calls.quiet_of_same (Z1 _ _ _ _) | exact Calls.quiet_of_same (XS _ _) | exact Calls.quiet_of_same (Y4 (uh Hw) _) | exact Calls.quiet_of_same (YF _ _))
  go_wp2_with fail
  go_ret
  exact ⟨rfl,YP ((Below.refl _ _).alloc (Nat.le_refl _) _) _⟩
end Go.Proofs.YthbbahagpmdooaaGreat
namespace Go.Proofs.YthbbahagpmdooaaGreat
open Go.ChangeShapes Go.WideShapes Go.ChangeAt Go.RowKit Go.Sort
set_option linter.unusedVariables false
theorem Px (st be rk my gu lo hi hd ca ut wk:Int) (w:World):Calls Tryz.prog 41 #[.agg #[.int .i64 st,.int .i64 be,.int .i64 rk,.int .i64 my,.int .i64 gu,.int .i64 lo,.int .i64 hi,.int .i64 hd,.int .i64 ca,.int .i64 ut,.int .i64 wk]] w fun e w'=>
  e= .returned (.bool (ZR (st,be,rk,my,gu,lo,hi,hd,ca,ut,wk)))/\Below w.heap.size w w':=by
 unfold ZR
 simp only
 cases h2:(st ==2)
 all_goals
  go_enter Tryz.func41,Tryz.ntmps41
  go_wp2_with fail
  go_ret
  exact ⟨by first | rfl | (simp),(Below.refl _ _).alloc (Nat.le_refl _) _⟩
theorem P1 (h m:Int) (w:World):Calls Tryz.prog 90 #[.int .i64 h,.int .i64 m] w fun e w'=>e= .returned (.bool (Xw h m))/\w'=w:=by
 unfold Xw
 cases h1:inB h (-1000000000000) 1000000000000
 ·go_enter Tryz.func90,Tryz.ntmps90
  go_wp2_with (first | (go_at_call 93;refine (XS _ _).mono ?_;rintro e w' ⟨rfl,rfl⟩) | (go_at_call 77;refine (Z1 _ _ _ _).mono ?_;rintro e w' ⟨rfl,rfl⟩))
  go_ret
  exact ⟨rfl,rfl⟩
 cases h2:inB m (-1000000000000) 1000000000000
 ·go_enter Tryz.func90,Tryz.ntmps90
  go_wp2_with (first | (go_at_call 93;refine (XS _ _).mono ?_;rintro e w' ⟨rfl,rfl⟩) | (go_at_call 77;refine (Z1 _ _ _ _).mono ?_;rintro e w' ⟨rfl,rfl⟩))
  go_ret
  exact ⟨rfl,rfl⟩
 obtain ⟨a0,a1⟩:=ZU h1
 obtain ⟨b0,b1⟩:=ZU h2
 go_enter Tryz.func90,Tryz.ntmps90
 go_wp2_with (first | (go_at_call 93;refine (XS _ _).mono ?_;rintro e w' ⟨rfl,rfl⟩) | (go_at_call 77;refine (Z1 _ _ _ _).mono ?_;rintro e w' ⟨rfl,rfl⟩))
 go_ret
 exact ⟨rfl,rfl⟩
end Go.Proofs.YthbbahagpmdooaaGreat
