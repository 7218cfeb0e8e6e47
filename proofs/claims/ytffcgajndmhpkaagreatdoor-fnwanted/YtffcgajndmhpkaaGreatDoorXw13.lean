/- Part 13 of what the proof rests on. No condition but those that a theorem names. -/
import Derived.Test.YtffcgajndmhpkaaGreatDoorXw12
set_option maxHeartbeats 8000000
set_option maxRecDepth 100000
namespace Go.Proofs.YtffcgajndmhpkaaGreatDoor
open Go.ChangeShapes Go.WideShapes Go.ChangeAt Go.RowKit Go.Sort
set_option linter.unusedVariables false
variable {w w' w0 w1 w2 w3 w₀ wr W W' X A B C : World} {v v0 v1 v2 v3 v4 u u0 u1 u2 u3 u4 : Value} {m : Z4}
def U8 (rs:List Z2) (n:Int):Bool:=Zh rs && inB n 0 ((rs.length:Int)-1)
def FF (lo hi:Int):Int:=(2:Int) ^ hi.toNat-2 ^ lo.toNat
def Ux (rs:List Z2) (n:Int):Int:=if U8 rs n=true then FF (Z1 (rs.take n.toNat)) (Z1 (rs.take (n.toNat+1))) else -1
theorem DW {rs:List Z2} {n:Int} (h:U8 rs n=true):Ux rs n=FF (Z1 (rs.take n.toNat)) (Z1 (rs.take (n.toNat+1))):=by unfold Ux;rw [if_pos h]
theorem Ir {rs:List Z2} {n:Int} (h:U8 rs n=false):Ux rs n= -1:=by unfold Ux;rw [h];rfl
theorem EH {rs:List Z2} {n:Int} (h:Zh rs=false):U8 rs n=false:=by unfold U8;rw [h];rfl
theorem Mo {rs:List Z2} {n:Int} (h:n<0\/rs.length<=n):U8 rs n=false:=by unfold U8;rw [U7 (by omega)];simp
theorem QG {s:Int} (h0:0<=s) (h1:s<=12):1<=(2:Int) ^ s.toNat/\(2:Int) ^ s.toNat<=4096:=by
 have key:∀ k:Fin 13,1<=(2:Int) ^ k.val/\(2:Int) ^ k.val<=4096:=by decide
 exact key ⟨s.toNat,by omega⟩
theorem Uc {x:Int} (h0 : -100000<=x) (h1:x<=100000):wrap64 x=x:=by unfold wrap64;omega
theorem Qt  {rs:List Z2} (n:Int) (h:IsRooms w v rs) :
  Calls Tryz.prog 180 #[.agg #[v],.int .i64 n] w fun e w'=>e= .returned (.int .i64 (Ux rs n))/\Below w.heap.size w w':=by
 have Hv:=Z9 h
 obtain ⟨a,cap,rfl,hc,hm⟩:∃ a cap,v= .slice a rs.length cap/\rs.length<=cap/\cap<=9223372036854775807:=by obtain ⟨a,cap,rfl,hc,hm,_⟩:=h;exact ⟨a,cap,rfl,hc,hm⟩
 clear h
 have Hb0:Hid (Below w.heap.size w (w.alloc (.cells #[.slice a rs.length cap] 26))):=Z9 ((ba _ _))
 cases h1:Zh rs
 ·have H2:=Z9 (Ir (EH (n:=n) h1))
  go_enter Tryz.func180,Tryz.ntmps180
  go_wp2_with fail
  refine ck (Yh ((uh Hv).alloc _)) fun w1 hb=> ?_
  have Hb:=Z9 hb
  clear hb
  go_wp2_with fail
  go_ret
  exact ⟨ZI (uh H2).symm,(uh Hb0).trans ((uh Hb).mono (by simp))⟩
 by_cases h2:n<0
 ·have H2:=Z9 (Ir (Mo (rs:=rs) (.inl h2)))
  go_enter Tryz.func180,Tryz.ntmps180
  go_wp2_with fail
  refine ck (Yh ((uh Hv).alloc _)) fun w1 hb=> ?_
  have Hb:=Z9 hb
  clear hb
  go_wp2_with fail
  go_ret
  exact ⟨ZI (uh H2).symm,(uh Hb0).trans ((uh Hb).mono (by simp))⟩
 by_cases h3:(rs.length:Int)<=n
 ·have H2:=Z9 (Ir (Mo (rs:=rs) (.inr h3)))
  go_enter Tryz.func180,Tryz.ntmps180
  go_wp2_with fail
  refine ck (Yh ((uh Hv).alloc _)) fun w1 hb=> ?_
  have hbox:w1.cell? ⟨w.heap.size,0,none⟩=some (.slice a rs.length cap):=by rw [hb.cell (p:=⟨w.heap.size,0,none⟩) (by simp)];simp
  have Hb:=Z9 hb
  clear hb
  go_wp2_with fail
  go_ret
  exact ⟨ZI (uh H2).symm,(uh Hb0).trans ((uh Hb).mono (by simp))⟩
 have h4:U8 rs n=true:=by unfold U8;rw [h1,Zv (by omega) (by omega)];rfl
 have H2:=Z9 (DW h4)
 obtain ⟨r,rfl⟩:=Int.eq_ofNat_of_zero_le (show 0<=n by omega)
 have H1:=Z9 h1
 have Ha:=Z9 (Ud h1)
 have hl3:rs.length<=3:=(Zy h1).2.1
 have hb0:=XH h1 r (by omega)
 have hb1:=XH h1 (r+1) (by omega)
 go_enter Tryz.func180,Tryz.ntmps180
 go_wp2_with fail
 refine ck (Yh ((uh Hv).alloc _)) fun w1 hb=> ?_
 have hbox:w1.cell? ⟨w.heap.size,0,none⟩=some (.slice a rs.length cap):=by rw [hb.cell (p:=⟨w.heap.size,0,none⟩) (by simp)];simp
 have k0:=cell_regrown hbox
 have Hb:=Z9 hb
 have Hw:=Z9 (((uh Hv).alloc _).below hb)
 clear hb h4
 go_wp2_with fail
 refine wq ?_
 repeat (go_big_quiet_step (first | exact Calls.regrown_of (Wa (((uh Hw).below (below_regrown _ _ _)).taken (n:=r) (by omega)) ((uh Ha).taken _)) | exact Calls.regrown_of (Wa (((uh Hw).below (below_regrown _ _ _)).taken (n:=r+1) (by omega)) ((uh Ha).taken _))))
 refine wpQuiet_nil ?_
 intro _ hw'
 obtain ⟨⟨dq,osq⟩,hw''⟩:=hw'
 subst hw''
 rw [Int.toNat_natCast] at H2
 generalize Z1 (rs.take r)=s0 at *
 generalize Z1 (rs.take (r+1))=s1 at *
 obtain ⟨x0,x1⟩:=hb0
 obtain ⟨y0,y1⟩:=hb1
 go_wp2_with fail
 go_quiet (fail)
 go_wp2_with fail
 go_ret
 refine ⟨ZI ?_,(uh Hb0).trans (((uh Hb).trans (XO ((below_regrown _ _ _).mono (uh Hb).size) _)).mono (by simp))⟩
 have p0:=QG x0 x1
 have p1:=QG y0 y1
 rw [uh H2,Uc (x:=2 ^ s1.toNat) (by omega) (by omega),Uc (x:=2 ^ s0.toNat) (by omega) (by omega),Uc (x:=2 ^ s1.toNat-2 ^ s0.toNat) (by omega) (by omega)]
 rfl
theorem V9 {rs:List Z2} (h:rs.all Zt=true) {i:Nat} : ∀ d,i+d<=rs.length->Z1 (rs.take i)<=Z1 (rs.take (i+d))
 | 0,_=>Int.le_refl _
 | d+1,hd=>by
  have ih:=V9 h (i:=i) d (by omega)
  have hb:=Rv (SD h (j:=i+d) (by omega))
  rw [<-Nat.add_assoc,Ys rs (by omega)];omega
theorem Gg {rs:List Z2} {n:Int} (h:YN rs n=true) {r:Nat} (hr:r<rs.length):Yw rs n=r ↔ Z1 (rs.take r)<=n/\n<Z1 (rs.take (r+1)):=by
 have hb:=WM h
 have ha:=(Zy hb.1).2.2.1
 have key:∀ d q:Nat,q+d=rs.length->(∀ j,j<q->Z1 (rs.take (j+1))<=n)->Z1 (rs.take (Yw rs n))<=n/\n<Z1 (rs.take (Yw rs n+1)):=by
  intro d
  induction d with
  | zero=>intro q hq hl;have:=Uv h (by omega) hl;omega
  | succ d ih=>
   intro q hq hl
   have hlt:=Uv h (r:=q) (by omega) hl
   by_cases hc:n<Z1 (rs.take (q+1))
   ·rw [Ru hlt hc hl]
    refine ⟨?_,hc⟩
    cases q with
    | zero=>simp [Z1];omega
    | succ q=>exact hl q (by omega)
   ·exact ih (q+1) (by omega) (YF hl (by omega))
 constructor
 ·intro e;have:=key rs.length 0 (by omega) (fun j hj=>by omega);rwa [e] at this
 ·intro hx
  refine Ru hr hx.2 (fun j hj=> ?_)
  have:=V9 ha (i:=j+1) (r-(j+1)) (by omega)
  rw [show j+1+(r-(j+1))=r by omega] at this
  omega
theorem S0 (b:Int) (h0:0<=b) (h1:b<=12) (w:World):Calls Tryz.prog 255 #[.int .i64 b] w fun e w'=>e= .returned (.int .i64 (2 ^ b.toNat))/\w'=w:=by
 go_enter Tryz.func255,Tryz.ntmps255
 go_wp2
 all_goals
  go_ret
  refine ⟨ZI ?_,rfl⟩
  have:=QG h0 h1
  exact Uc (by omega) (by omega)
open Go.ChangeShapes Go.WideShapes Go.ChangeAt Go.RowKit
def VL (s:Int):Nat->List Int
 | 0=>[]
 | k+1=>if UZ s k=true then VL s k++[(k:Int)] else VL s k
def Rm (s:Int):List Int:=VL s 8
def Wx (s:Int):Int:=(Rm s).headD (-1)
theorem Tm {s:Int} {k:Nat} (h:UZ s k=true):VL s (k+1)=VL s k++[(k:Int)]:=by simp [VL,h]
theorem Vx {s:Int} {k:Nat} (h:UZ s k=false):VL s (k+1)=VL s k:=by simp [VL,h]
theorem KP (s:Int):∀ k,(VL s k).length<=k
 | 0=>by simp [VL]
 | k+1=>by
  have:=KP s k
  cases h:UZ s k
  ·rw [Vx h];omega
  ·rw [Tm h];simp;omega
theorem MS {s:Int} (h:inB s 0 255=false):∀ k,VL s k=[]
 | 0=>rfl
 | k+1=>by rw [Vx (HJ (.inl h))];exact MS h k
theorem Ej (s:Int):∀ k,k<=8->VL s k <+: Rm s:=by
 have step:∀ k,VL s k <+: VL s (k+1):=fun k=>by
  cases h:UZ s k
  ·rw [Vx h];exact List.prefix_refl _
  ·rw [Tm h];exact List.prefix_append _ _
 have go:∀ d k,VL s k <+: VL s (k+d):=by
  intro d
  induction d with
  | zero=>intro k;exact List.prefix_refl _
  | succ d ih=>intro k;exact (ih k).trans (step (k+d))
 intro k hk
 have:=go (8-k) k
 rwa [show k+(8-k)=8 by omega] at this
theorem CW {lo hi b:Int} (h0:0<=lo) (h1:lo<=hi) (h2:hi<=8) (hb0 : -1<=b) (hb1:b<=8):UZ (FF lo hi) b=decide (lo<=b/\b<hi):=by
 have key:∀ b:Fin 10,∀ hi:Fin 9,∀ lo:Fin 9,lo.val<=hi.val->UZ (FF lo.val hi.val) ((b.val:Int)-1)=decide ((lo.val:Int)<=(b.val:Int)-1/\(b.val:Int)-1<hi.val):=by decide +kernel
 have:=key ⟨(b+1).toNat,by omega⟩ ⟨hi.toNat,by omega⟩ ⟨lo.toNat,by omega⟩ (by show lo.toNat<=hi.toNat;omega)
 simp only [show ((lo.toNat:Nat):Int)=lo by omega,show ((hi.toNat:Nat):Int)=hi by omega,show (((b+1).toNat:Nat):Int)-1=b by omega] at this
 exact this
def ZW {α:Type} [Inhabited α] (p:α->Bool) (xs:List α):Nat->List Int
 | 0=>[]
 | k+1=>if p (Z8 xs k) then ZW p xs k++[(k:Int)] else ZW p xs k
theorem YQ {α:Type} [Inhabited α] {p:α->Bool} {xs:List α} {k:Nat} (h:p (Z8 xs k)=true):ZW p xs (k+1)=ZW p xs k++[(k:Int)]:=by rw [ZW,if_pos h]
theorem Yl {α:Type} [Inhabited α] {p:α->Bool} {xs:List α} {k:Nat} (h:p (Z8 xs k)=false):ZW p xs (k+1)=ZW p xs k:=by rw [ZW,if_neg (by simp [h])]
theorem WL {α:Type} [Inhabited α] (p:α->Bool) (xs:List α):∀ k,(ZW p xs k).length<=k
 | 0=>Nat.le_refl _
 | k+1=>by
  have:=WL p xs k
  unfold ZW
  split
  ·simp;omega
  ·omega
theorem Xu {α:Type} [Inhabited α] (p:α->Bool) (xs:List α) (x:Int):∀ k,x ∈ ZW p xs k ↔ ∃ i:Nat,i<k/\x=(i:Int)/\p (Z8 xs i)=true
 | 0=>by simp [ZW]
 | k+1=>by
  have ih:=Xu p xs x k
  cases h:p (Z8 xs k)
  ·rw [Yl h,ih]
   constructor
   ·rintro ⟨i,hi,h1,h2⟩
    exact ⟨i,by omega,h1,h2⟩
   ·rintro ⟨i,hi,h1,h2⟩
    by_cases hik:i=k
    ·subst hik;rw [h] at h2;cases h2
    ·exact ⟨i,by omega,h1,h2⟩
  ·rw [YQ h,List.mem_append,ih]
   constructor
   ·rintro (⟨i,hi,h1,h2⟩ | h1)
    ·exact ⟨i,by omega,h1,h2⟩
    ·exact ⟨k,by omega,by simpa using h1,h⟩
   ·rintro ⟨i,hi,h1,h2⟩
    by_cases hik:i=k
    ·subst hik;right;simp [h1]
    ·exact .inl ⟨i,by omega,h1,h2⟩
theorem Qe {α:Type} [Inhabited α] (p:α->Bool) (xs:List α):∀ k,decide (0<(ZW p xs k).length)=(List.range k).any fun j=>p (Z8 xs j)
 | 0=>rfl
 | k+1=>by
  have ih:=Qe p xs k
  rw [CP,<-ih]
  cases h:p (Z8 xs k)
  ·rw [Yl h];simp
  ·rw [YQ h];simp
def Yz {α:Type} [Inhabited α] (p:α->Bool) (xs:List α) (k:Nat):Bool:=(List.range k).all fun j=>p (Z8 xs j)
theorem QZ {α:Type} [Inhabited α] {p:α->Bool} {xs:List α} {k n:Nat} (hk:k<n) (h:p (Z8 xs k)=false):Yz p xs n=false:=RL (p:=fun j=>p (Z8 xs j)) hk h
theorem Q2 {α:Type} [Inhabited α] {p:α->Bool} {xs:List α} {k:Nat} (h:Yz p xs k=true) (h2:p (Z8 xs k)=true):Yz p xs (k+1)=true:=by unfold Yz at h ⊢;rw [UF,h,h2];rfl
theorem Qh {α:Type} [Inhabited α] (p q:α->Bool) (xs:List α):∀ k,(Yz p xs k && Yz q xs k)=Yz (fun x=>p x && q x) xs k
 | 0=>rfl
 | k+1=>by
  have ih:=Qh p q xs k
  unfold Yz at ih ⊢
  rw [UF,UF,UF,<-ih]
  generalize ((List.range k).all fun j=>p (Z8 xs j))=a
  generalize ((List.range k).all fun j=>q (Z8 xs j))=b
  cases a<;>cases b<;>cases hp:p (Z8 xs k)<;>cases hq:q (Z8 xs k)<;>simp [hp,hq]
theorem IZ {α:Type} [Inhabited α] {p q:α->Bool} (xs:List α) (h:∀ x,p x=q x) (k:Nat):Yz p xs k=Yz q xs k:=by unfold Yz;congr 1;funext j;exact h _
def XA (n:Nat) (i:Int):Bool:=decide (0<=i) && decide (i<n)
def atB (b:Int) (s:Z3):Bool:=(s.1 ==2 || s.1 ==3) && s.2.1 ==b
def Zm (b:Int) (s:Z3):Bool:=s.1 ==3 && s.2.1 ==b
def XB (n:Nat) (s:Z3):Bool:=s.1 ==0 || (s.2.2.2.2.1 == -1 || XA n s.2.2.2.2.1)
def Xo (ds:List Yq) (s:Z3):Bool:=s.1 ==0 || (XA ds.length s.2.1 && (s.1 ==1 || ((Z8 ds s.2.1.toNat).1 && (UZ s.2.2.2.1 s.2.1 && Wb s.2.2.2.2.2.2.2.1 (Z8 ds s.2.1.toNat).2.2))))
def Uy (ss:List Z3) (n:Nat):Bool:=decide (ss.length<=12) && (Yz ZE ss ss.length && Yz (XB n) ss ss.length)
def So (ds:List Yq) (n:Int):Bool:=decide ((ds.length:Int)=n) && (Yz Ws ds ds.length && decide (0<(ZW (fun d:Yq=>d.1) ds ds.length).length))
def Wc (ps:List Int) (rs:List Z2):Bool:=decide (ps.length=rs.length) && (List.range ps.length).all fun j=>XA (Z0 rs j).2.length (Z8 ps j)
def Rq (m:Z4):Bool:=Zh m.rooms && (Zw m.guilds && (Uy m.smiths m.guilds.length && (So m.desks (Z1 m.rooms) && (Wc m.paces m.rooms && inB m.now 0 1000000))))
def WI (m:Z4):Bool:=Rq m && Yz (Xo m.desks) m.smiths m.smiths.length
def VT (m:Z4) (b:Nat):Bool:=if (Z8 m.desks b).2.1= -1 then decide ((ZW (atB b) m.smiths m.smiths.length).length=0) else decide ((ZW (Zm b) m.smiths m.smiths.length).length=1) && decide (Z8 (ZW (Zm b) m.smiths m.smiths.length) 0=(Z8 m.desks b).2.1)
def RF (m:Z4):Bool:=(List.range m.desks.length).all (VT m)
def D3 (m:Z4):Bool:=WI m && RF m
theorem Er (h m:Int):Wb h m=Xw h m:=by
 unfold Wb Xw VZ
 rw [Bool.and_assoc]
theorem DA (m:Z4) (s:Z3):(ZE s && (XB m.guilds.length s && Xo m.desks s))=(Yv m s && Yj m s):=by
 cases hs:ZE s
 ·unfold Yv;rw [hs];rfl
 ·have hh:Yv m s=(s.1 ==0 || (decide (s.2.2.2.2.1<m.guilds.length) && decide (s.2.1<m.desks.length))):=by unfold Yv;rw [hs];rfl
  rw [hh,Bool.true_and]
  unfold ZE at hs
  simp only [Bool.or_eq_true] at hs
  rcases hs with hg | hp
  ·have e:=VY hg
   subst e
   rfl
  ·obtain ⟨st,be,rk,my,gu,lo,hi,hd,ca,ut,wk⟩:=s
   obtain ⟨⟨s1,s2⟩,⟨b1,b2⟩,_,⟨m1,m2⟩,⟨g1,g2⟩,_⟩:=Zi hp
   have hmem:UZ my be=We my be:=Du (Zv (by omega) (by omega)) (Zv (by omega) (by omega))
   have hst0:(st ==0)=false:=by simp;omega
   have hgu:(gu == -1 || XA m.guilds.length gu)=decide (gu<m.guilds.length):=by
    unfold XA
    by_cases e:gu= -1
    ·subst e;simp;omega
    ·have:(gu == -1)=false:=by simpa using e
     rw [this,Bool.false_or,show decide (0<=gu)=true from decide_eq_true (by omega),Bool.true_and]
   have hbe:XA m.desks.length be=decide (be<m.desks.length):=by
    unfold XA
    rw [show decide (0<=be)=true from decide_eq_true (by omega),Bool.true_and]
   have hpr:ZR (st,be,rk,my,gu,lo,hi,hd,ca,ut,wk)= !(st ==1):=by
    unfold ZR
    rcases (by omega:st=1\/st=2\/st=3) with e | e | e<;>subst e<;>rfl
   unfold XB Xo Yj
   simp only
   rw [hst0,hgu,hbe,hpr,hmem,Er,Bool.not_not]
   simp only [Bool.false_or,Bool.and_assoc]
theorem MG (ss:List Z3) (b:Int):∀ k:Nat,
  (match Yc ss b k with
   | none=>2<=(ZW (Zm b) ss k).length
   | some (wk,wt)=>((wk= -1/\ZW (Zm b) ss k=[])\/(0<=wk/\ZW (Zm b) ss k=[wk]))/\((ZW (atB b) ss k=[]) ↔ (ZW (Zm b) ss k=[]/\wt=false)))
 | 0=>by simp [Yc,ZW]
 | k+1=>by
  have ih:=MG ss b k
  unfold Yc
  cases hsc:Yc ss b k with
  | none=>
   rw [hsc] at ih
   simp only at ih ⊢
   unfold ZW
   split
   ·simp;omega
   ·exact ih
  | some r=>
   obtain ⟨wk,wt⟩:=r
   rw [hsc] at ih
   simp only at ih ⊢
   by_cases hat:(Z8 ss k).2.1=b/\ZR (Z8 ss k)=true
   ·rw [if_pos hat]
    have hA:atB b (Z8 ss k)=true:=by
     have h2:=hat.2
     unfold ZR at h2
     unfold atB
     rw [h2,hat.1];simp
    by_cases h2:(Z8 ss k).1=2
    ·rw [if_pos h2]
     have hW:Zm b (Z8 ss k)=false:=by unfold Zm;rw [h2];rfl
     rw [Yl hW,YQ hA]
     exact ⟨ih.1,by simp⟩
    ·rw [if_neg h2]
     have h3:(Z8 ss k).1=3:=by
      have:=hat.2
      unfold ZR at this
      simp only [Bool.or_eq_true,beq_iff_eq] at this
      omega
     have hW:Zm b (Z8 ss k)=true:=by unfold Zm;rw [h3,hat.1];simp
     rw [YQ hW,YQ hA]
     by_cases hwk:0<=wk
     ·rw [if_pos hwk]
      rcases ih.1 with ⟨e,_⟩ | ⟨_,e⟩
      ·omega
      ·simp only
       rw [e];simp
     ·rw [if_neg hwk]
      rcases ih.1 with ⟨_,e⟩ | ⟨e,_⟩
      ·simp only
       rw [e];simp
      ·omega
   ·rw [if_neg hat]
    have hA:atB b (Z8 ss k)=false:=by
     cases hc:atB b (Z8 ss k)
     ·rfl
     ·exfalso
      apply hat
      unfold atB at hc
      simp only [Bool.and_eq_true,beq_iff_eq] at hc
      exact ⟨hc.2,by unfold ZR;exact hc.1⟩
    have hW:Zm b (Z8 ss k)=false:=by
     cases hc:Zm b (Z8 ss k)
     ·rfl
     ·exfalso
      apply hat
      unfold Zm at hc
      simp only [Bool.and_eq_true,beq_iff_eq] at hc
      exact ⟨hc.2,by unfold ZR;rw [hc.1];rfl⟩
    rw [Yl hW,Yl hA]
    exact ih
theorem MP (m:Z4) (b:Nat):VT m b=YC m b:=by
 have h:=MG m.smiths b m.smiths.length
 unfold VT YC
 cases hsc:Yc m.smiths b m.smiths.length with
 | none=>
  rw [hsc] at h
  simp only at h ⊢
  split
  ·have:ZW (atB b) m.smiths m.smiths.length ≠ []:=by
    intro e
    have hx:Z8 (ZW (Zm b) m.smiths m.smiths.length) 0 ∈ ZW (Zm b) m.smiths m.smiths.length:=Uu (by omega)
    obtain ⟨i,hi,_,hw⟩:=(Xu _ _ _ _).1 hx
    have:(i:Int) ∈ ZW (atB b) m.smiths m.smiths.length:=(Xu _ _ _ _).2 ⟨i,hi,rfl,by
     unfold Zm at hw
     simp only [Bool.and_eq_true,beq_iff_eq] at hw
     unfold atB
     rw [hw.1,hw.2];simp⟩
    rw [e] at this
    cases this
   simp only [List.length_eq_zero_iff,this,decide_false]
  ·rw [show decide ((ZW (Zm b) m.smiths m.smiths.length).length=1)=false from decide_eq_false (by omega),Bool.false_and]
 | some r=>
  obtain ⟨wk,wt⟩:=r
  rw [hsc] at h
  simp only at h ⊢
  obtain ⟨h1,h2⟩:=h
  generalize ZW (Zm b) m.smiths m.smiths.length=ws at *
  generalize ZW (atB b) m.smiths m.smiths.length=az at *
  generalize (Z8 m.desks b).2.1=who at *
  by_cases hw:who= -1
  ·subst hw
   simp only [if_true,List.length_eq_zero_iff]
   rcases h1 with ⟨rfl,rfl⟩ | ⟨hk,rfl⟩
   ·cases wt
    ·simp at h2;simp [h2]
    ·simp at h2;simp [h2]
   ·have hne:az ≠ []:=by
     intro e
     have:=(h2.1 e).1
     cases this
    have:((-1:Int) ==wk)=false:=by simp;omega
    rw [this]
    simp [hne]
  ·rw [if_neg hw]
   rcases h1 with ⟨rfl,rfl⟩ | ⟨hk,rfl⟩
   ·have:(who == -1)=false:=by simpa using hw
    rw [this];simp
   ·have h0:decide (wk<0)=false:=decide_eq_false (by omega)
    rw [h0,Bool.and_false,Bool.not_false,Bool.and_true]
    simp only [List.length_cons,List.length_nil,decide_true,Bool.true_and]
    show decide (wk=who)=(who ==wk)
    by_cases e:wk=who
    ·subst e;simp
    ·rw [decide_eq_false e];symm;simp;omega
theorem GJ (n:Nat) (i:Int):XA n i=inB i 0 ((n:Int)-1):=by
 unfold XA inB
 by_cases h0:0<=i<;>by_cases h1:i<n
 ·rw [decide_eq_true h0,decide_eq_true h1,decide_eq_true (show 0<=i/\i<=(n:Int)-1 by omega)];rfl
 ·rw [decide_eq_true h0,decide_eq_false h1,decide_eq_false (show ¬ (0<=i/\i<=(n:Int)-1) by omega)];rfl
 ·rw [decide_eq_false h0,decide_eq_false (show ¬ (0<=i/\i<=(n:Int)-1) by omega)];rfl
 ·rw [decide_eq_false h0,decide_eq_false (show ¬ (0<=i/\i<=(n:Int)-1) by omega)];rfl
theorem RT (m:Z4):WI m=Y0 m:=by
 have e1:WD m m.smiths.length=(Yz ZE m.smiths m.smiths.length && (Yz (XB m.guilds.length) m.smiths m.smiths.length && Yz (Xo m.desks) m.smiths m.smiths.length)):=by
  rw [Qh,Qh]
  exact (IZ m.smiths (DA m) m.smiths.length).symm
 have e2:Wc m.paces m.rooms=(decide (m.paces.length=m.rooms.length) && WC m m.paces.length):=by
  unfold Wc WC
  congr 2
  funext j
  unfold WS
  exact GJ _ _
 have e3:decide (0<(ZW (fun d:Yq=>d.1) m.desks m.desks.length).length)=UO m m.desks.length:=Qe _ _ _
 unfold WI Rq Y0 Y2 Uy So
 rw [e1,e2,e3]
 have e4:Yz Ws m.desks m.desks.length=Wd m m.desks.length:=rfl
 rw [e4]
 generalize Zh m.rooms=x1
 generalize Zw m.guilds=x2
 generalize decide (m.smiths.length<=12)=x3
 generalize Yz ZE m.smiths m.smiths.length=x4
 generalize Yz (XB m.guilds.length) m.smiths m.smiths.length=x5
 generalize decide ((m.desks.length:Int)=Z1 m.rooms)=x6
 generalize Wd m m.desks.length=x7
 generalize UO m m.desks.length=x8
 generalize decide (m.paces.length=m.rooms.length)=x9
 generalize WC m m.paces.length=x10
 generalize inB m.now 0 1000000=x11
 generalize Yz (Xo m.desks) m.smiths m.smiths.length=x12
 rw [Bool.eq_iff_iff]
 simp only [Bool.and_eq_true]
 constructor
 ·rintro ⟨⟨a1,a2,⟨a3,a4,a5⟩,⟨a6,a7,a8⟩,⟨a9,a10⟩,a11⟩,a12⟩
  exact ⟨⟨a1,a2,a3,a6,a9,a11⟩,a7,a10,⟨a4,a5,a12⟩,a8⟩
 ·rintro ⟨⟨a1,a2,a3,a6,a9,a11⟩,a7,a10,⟨a4,a5,a12⟩,a8⟩
  exact ⟨⟨a1,a2,⟨a3,a4,a5⟩,⟨a6,a7,a8⟩,⟨a9,a10⟩,a11⟩,a12⟩
theorem D4 (m:Z4):D3 m=ZP m:=by
 unfold D3 ZP RF
 rw [RT,show VT m=YC m from funext (MP m)]
def WB (ss:List Z3) (ps:List Int):List Z6:=ps.foldl (fun q i=>VF q (XG (Z8 ss i.toNat),i)) []
theorem Rt (ss:List Z3) (ps:List Int) (i:Int):WB ss (ps++[i])=VF (WB ss ps) (XG (Z8 ss i.toNat),i):=by unfold WB;rw [List.foldl_append];rfl
theorem RV (ss:List Z3) (b:Int):∀ k,WB ss (ZW (atB b) ss k)=atV ss b k
 | 0=>rfl
 | k+1=>by
  have ih:=RV ss b k
  by_cases hat:(Z8 ss k).2.1=b/\ZR (Z8 ss k)=true
  ·have hA:atB b (Z8 ss k)=true:=by
    have h2:=hat.2
    unfold ZR at h2
    unfold atB
    rw [h2,hat.1];simp
   rw [YQ hA,Rt,ih,Sk hat.1 hat.2]
   rfl
  ·have hA:atB b (Z8 ss k)=false:=by
    cases hc:atB b (Z8 ss k)
    ·rfl
    ·exfalso
     apply hat
     unfold atB at hc
     simp only [Bool.and_eq_true,beq_iff_eq] at hc
     exact ⟨hc.2,by unfold ZR;exact hc.1⟩
   rw [Yl hA,Qj hat,ih]
theorem RD {ps:List Int} {k:Nat} (h:k<ps.length):ps.take (k+1)=ps.take k++[Z8 ps k]:=by
 unfold Z8
 rw [List.take_add_one,List.getD,List.getElem?_eq_getElem h];rfl
theorem I2 (h:Loose m) (b:Int) (k:Nat) (hk:k<=m.smiths.length):YL (atV m.smiths b k)=true:=by
 have hd:=h.head
 unfold Y2 at hd
 simp only [Bool.and_eq_true,decide_eq_true_eq] at hd
 have hl:=TD m.smiths b k
 have h12:=hd.2.2.1
 refine Im ⟨by omega,fun p hp=> ?_,?_,Ue _ _ _⟩
 ·obtain ⟨i,hi,h1,h2,rfl⟩:=(Yt m.smiths b p k).1 hp
  have:=U1 (h.at (i:=i) (by omega) h2).2.2.2.2
  unfold NV
  rw [Zv (by omega) (by omega),Zv (by omega) (by show (i:Int)<=99;omega)];rfl
 ·refine ((Ph m.smiths b k).and (Ue m.smiths b k)).imp fun {x y} hxy=> ?_
  have h1:=hxy.1
  have h2:=hxy.2
  rw [Mt] at h1
  rw [Dr]
  omega
theorem Qf {α:Type} [Inhabited α] (p:α->Bool) (xs:List α):∀ n k:Nat,∃ j,j<=n/\(ZW p xs n).take k=ZW p xs j
 | 0,k=>⟨0,Nat.le_refl _,by simp [ZW]⟩
 | n+1,k=>by
  obtain ⟨j,hj,e⟩:=Qf p xs n k
  cases h:p (Z8 xs n)
  ·rw [Yl h];exact ⟨j,by omega,e⟩
  ·rw [YQ h]
   by_cases hk:k<=(ZW p xs n).length
   ·rw [List.take_append_of_le_length hk];exact ⟨j,by omega,e⟩
   ·refine ⟨n+1,Nat.le_refl _,?_⟩
    rw [YQ h,List.take_of_length_le (by simp;omega)]
theorem Ii (h:Loose m) (b:Int) (k:Nat):YL (WB m.smiths ((ZW (atB b) m.smiths m.smiths.length).take k))=true:=by
 obtain ⟨j,hj,e⟩:=Qf (atB b) m.smiths m.smiths.length k
 rw [e,RV]
 exact I2 h b j hj
def SA (m:Z4) (b:Int):Int:=if ZP m && WX m b then Ze m b (-1) else -1
theorem XX  {q:Bool} (hq:ZP m=q) (h:Smy w v0 v1 v2 v3 v4 m):Calls Tryz.prog 12 #[.agg #[v0,v1,v2,v3,v4,.int .i64 m.now]] w fun e w'=>e= .returned (.bool q)/\Below w.heap.size w w':=by
 have:=Uz h;rw [hq] at this;exact this
theorem RR  {b:Int} {q:Bool} (hq:WX m b=q) (h:Smy w v0 v1 v2 v3 v4 m) :
  Calls Tryz.prog 61 #[.agg #[v0,v1,v2,v3,v4,.int .i64 m.now],.int .i64 b] w fun e w'=>e= .returned (.bool q)/\Below w.heap.size w w':=by
 have hq2:inB b 0 ((m.desks.length:Int)-1)=q:=hq
 clear hq
 obtain ⟨a0,p0,rfl,_,_⟩:=IsRooms.shape h.rooms
 obtain ⟨a1,p1,rfl,_,_⟩:=IsRec.shape h.guilds
 obtain ⟨a2,p2,rfl,_,_⟩:=IsRec.shape h.smiths
 obtain ⟨a3,p3,rfl,hc3,hm3⟩:=IsRec.shape h.desks
 obtain ⟨a4,p4,rfl,_,_⟩:=IsRec.shape h.paces
 clear h
 go_enter Tryz.func61,Tryz.ntmps61
 go_wp2_with (go_at_call 40;refine (ZZ _ _ _ _).mono ?_;rw [hq2];rintro e w' ⟨rfl,h9⟩;subst w')
 go_ret
 exact ⟨rfl,(ba _ _)⟩
def Yu (m:Z4) (r:Int):Bool:=inB r 0 ((m.rooms.length:Int)-1)
theorem VG {b:Int} (h:Yu m b=true):∃ k:Nat,b=(k:Int)/\k<m.rooms.length:=by
 have:=ZU (show inB b 0 ((m.rooms.length:Int)-1)=true from h)
 exact ⟨b.toNat,by omega,by omega⟩
theorem Qx  {b:Int} {q:Bool} (hq:Yu m b=q) (h:Smy w v0 v1 v2 v3 v4 m) :
  Calls Tryz.prog 58 #[.agg #[v0,v1,v2,v3,v4,.int .i64 m.now],.int .i64 b] w fun e w'=>e= .returned (.bool q)/\Below w.heap.size w w':=by
 have hq2:inB b 0 ((m.rooms.length:Int)-1)=q:=hq
 clear hq
 obtain ⟨a0,p0,rfl,hc3,hm3⟩:=IsRooms.shape h.rooms
 obtain ⟨a1,p1,rfl,_,_⟩:=IsRec.shape h.guilds
 obtain ⟨a2,p2,rfl,_,_⟩:=IsRec.shape h.smiths
 obtain ⟨a3,p3,rfl,_,_⟩:=IsRec.shape h.desks
 obtain ⟨a4,p4,rfl,_,_⟩:=IsRec.shape h.paces
 clear h
 go_enter Tryz.func58,Tryz.ntmps58
 go_wp2_with (go_at_call 40;refine (ZZ _ _ _ _).mono ?_;rw [hq2];rintro e w' ⟨rfl,h9⟩;subst w')
 go_ret
 exact ⟨rfl,(ba _ _)⟩
def RX (m:Z4):List Z6->Int
 | []=>0
 | e::q=>Zo m e.2+RX m q
def VS (m:Z4):List Int->Int
 | []=>0
 | x::q=>Zo m x+VS m q
theorem KF (m:Z4) (a b:List Z6):RX m (a++b)=RX m a+RX m b:=by
 induction a with
 | nil=>show RX m b=0+RX m b;omega
 | cons e a ih=>show Zo m e.2+RX m (a++b)=Zo m e.2+RX m a+RX m b;omega
theorem Ed (m:Z4) (a b:List Int):VS m (a++b)=VS m a+VS m b:=by
 induction a with
 | nil=>show VS m b=0+VS m b;omega
 | cons e a ih=>show Zo m e+VS m (a++b)=Zo m e+VS m a+VS m b;omega
theorem MM (m:Z4) (a:List Int) (x:Int):VS m (a++[x])=VS m a+Zo m x:=by rw [Ed];show _+(Zo m x+0)=_;omega
theorem Gj (m:Z4):∀ a:List Int,0<=VS m a/\VS m a<=1024*a.length
 | []=>by simp [VS]
 | x::a=>by
  have ih:=Gj m a
  have hw:=RI m x
  show 0<=Zo m x+VS m a/\Zo m x+VS m a<=1024*((a.length+1:Nat):Int)
  omega
theorem Ec (m:Z4) (q:List Z6) (e:Z6):RX m (VF q e)=RX m q+Zo m e.2:=by
 have h:=KF m (q.take (Ya e q)) (q.drop (Ya e q))
 rw [List.take_append_drop] at h
 unfold VF
 rw [KF,h]
 show _+(Zo m e.2+_)=_
 omega
theorem MT (m:Z4) (but:Int):∀ (q:List Z6) (n:Int),(∀ e ∈ q,e.2 ≠ but)->q.foldl (fun n e=>if e.2=but then n else n+Zo m e.2) n=n+RX m q
 | [],n,_=>by show n=n+0;omega
 | e::q,n,h=>by
  have h0:=h e (by simp)
  have ih:=MT m but q (if e.2=but then n else n+Zo m e.2) (fun x hx=>h x (by simp [hx]))
  rw [List.foldl_cons,ih,if_neg h0]
  show _=n+(Zo m e.2+RX m q)
  omega
theorem Fz (m:Z4) (b:Int):Ze m b (-1)=RX m (atV m.smiths b m.smiths.length):=by
 have:=MT m (-1) (atV m.smiths b m.smiths.length) 0 (fun e he=>by
  obtain ⟨i,_,_,_,rfl⟩:=(Yt m.smiths b e m.smiths.length).1 he
  show (i:Int) ≠ -1
  omega)
 unfold Ze Vs
 omega
theorem BV (b:Int) (s:Z3):atB b s=decide (s.2.1=b/\ZR s=true):=by
 unfold atB ZR
 rw [Bool.eq_iff_iff]
 simp only [Bool.and_eq_true,decide_eq_true_eq,beq_iff_eq]
 exact ⟨fun h=>⟨h.2,h.1⟩,fun h=>⟨h.2,h.1⟩⟩
theorem MX (m:Z4) (ss:List Z3) (b:Int):∀ k,VS m (ZW (atB b) ss k)=RX m (atV ss b k)
 | 0=>rfl
 | k+1=>by
  have ih:=MX m ss b k
  by_cases hat:(Z8 ss k).2.1=b/\ZR (Z8 ss k)=true
  ·rw [YQ (by rw [BV];exact decide_eq_true hat),MM,Sk hat.1 hat.2,Ec,ih]
  ·rw [Yl (by rw [BV];exact decide_eq_false hat),Qj hat,ih]
theorem IP (m:Z4) (b:Int):VS m (ZW (atB b) m.smiths m.smiths.length)=Ze m b (-1):=by rw [MX,Fz]
theorem Fo (m:Z4) {ws:List Int} {k:Nat} (h:k<ws.length):VS m (ws.take (k+1))=VS m (ws.take k)+Zo m (Z8 ws k):=by rw [RD h,MM]
structure IW (m:Z4):Prop where
 guilds:Zw m.guilds=true
 each:∀ i,i<m.smiths.length->(Z8 m.smiths i).1 ≠ 0->isB m.guilds (Z8 m.smiths i).2.2.2.2.1=true/\YG (Z8 m.smiths i).2.2.2.2.2.1 (Z8 m.smiths i).2.2.2.2.2.2.1=true
theorem Loose.wants (h:Loose m):IW m:=by
 have hd:=h.head
 unfold Y2 at hd
 simp only [Bool.and_eq_true,decide_eq_true_eq] at hd
 refine ⟨hd.2.1,fun i hi hs=> ?_⟩
 obtain ⟨hp,hg,_⟩:=h.limits hi hs
 have hgs:=hd.2.1
 generalize Z8 m.smiths i=s at *
 obtain ⟨st,be,rk,my,gu,lo,hi,hd,ca,ut,wk⟩:=s
 obtain ⟨_,_,_,_,⟨g0,g5⟩,hpair,_⟩:=Zi hp
 simp only at hg
 exact ⟨by unfold isB;rw [hgs,Zv g0 (by omega)];rfl,hpair⟩
def Tc (m:Z4) (b:Int):Bool:=XA m.desks.length b && (Z8 m.desks b.toNat).1
def VN (m:Z4) (bs:List Int):Int:=bs.foldl (fun n b=>if Tc m b then max n (Ze m b (-1)) else n) 0
def KW (m:Z4) (bs:List Int):Int:=bs.foldl (fun n b=>n+Ze m b (-1)) 0
theorem Ov (m:Z4) (bs:List Int) (b:Int):VN m (bs++[b])=if Tc m b then max (VN m bs) (Ze m b (-1)) else VN m bs:=by unfold VN;rw [List.foldl_append];rfl
theorem IV (m:Z4) (bs:List Int) (b:Int):KW m (bs++[b])=KW m bs+Ze m b (-1):=by unfold KW;rw [List.foldl_append];rfl
theorem JZ (m:Z4) (hl:m.smiths.length<=12):∀ (bs:List Int) (n:Int),0<=n->n<=12288->0<=bs.foldl (fun n b=>if Tc m b then max n (Ze m b (-1)) else n) n/\bs.foldl (fun n b=>if Tc m b then max n (Ze m b (-1)) else n) n<=12288
 | [],n,h0,h1=>⟨h0,h1⟩
 | b::bs,n,h0,h1=>by
  have hu:=Tn m b (-1)
  refine JZ m hl bs (if Tc m b then max n (Ze m b (-1)) else n) ?_ ?_<;>split<;>omega
theorem Dy (m:Z4) (hl:m.smiths.length<=12) (bs:List Int):0<=VN m bs/\VN m bs<=12288:=JZ m hl bs 0 (by omega) (by omega)
theorem Ku (h:Sane m) {r:Nat} (hr:r<m.rooms.length) {b:Nat} (hb:b<8):UZ (Ux m.rooms (r:Int)) (b:Int)=true ↔ b<m.desks.length/\(Yw m.rooms b:Int)=(r:Int):=by
 have hR:U8 m.rooms (r:Int)=true:=by unfold U8;rw [h.hall,Zv (by omega) (by omega)];rfl
 have ha:=(Zy h.hall).2.2.1
 have h0:=XH h.hall r (by omega)
 have h1:=XH h.hall (r+1) (by omega)
 have hm:=V9 ha (i:=r) 1 (by omega)
 have hm0:=V9 ha (i:=r+1) (m.rooms.length-(r+1)) (by omega)
 rw [show r+1+(m.rooms.length-(r+1))=m.rooms.length by omega,List.take_length] at hm0
 have h8:=h.eight
 have hd:=h.desks
 rw [DW hR,Int.toNat_natCast,CW h0.1 hm (by omega) (by omega) (by omega),decide_eq_true_iff]
 constructor
 ·intro hx
  have hbd:b<m.desks.length:=by omega
  exact ⟨hbd,by rw [(Gg (h.bench hbd) hr).2 hx]⟩
 ·rintro ⟨hbd,e⟩
  exact (Gg (h.bench hbd) hr).1 (by omega)
theorem ME (h:Sane m) {r:Nat} (hr:r<m.rooms.length):∀ k:Nat,k<=m.desks.length->VN m (VL (Ux m.rooms (r:Int)) k)=(ZJ m r k).1/\KW m (VL (Ux m.rooms (r:Int)) k)=(ZJ m r k).2
 | 0,_=>⟨rfl,rfl⟩
 | k+1,hk=>by
  have ih:=ME h hr k (by omega)
  have h8:=h.eight
  have hs:=Ku h hr (b:=k) (by omega)
  by_cases e:(Yw m.rooms k:Int)=(r:Int)
  ·rw [Tm (hs.2 ⟨by omega,e⟩),Ov,IV,ih.1,ih.2]
   have ho:Tc m (k:Int)=(Z8 m.desks k).1:=by
    unfold Tc XA
    rw [Int.toNat_natCast,decide_eq_true (show (0:Int)<=(k:Int) by omega),decide_eq_true (show (k:Int)<(m.desks.length:Int) by omega)]
    simp
   rw [ho]
   show _=(if _ then _ else _:Int × Int).1/\_=(if _ then _ else _:Int × Int).2
   rw [if_pos e]
   exact ⟨rfl,rfl⟩
  ·have hn:UZ (Ux m.rooms (r:Int)) (k:Int)=false:=by
    cases hc:UZ (Ux m.rooms (r:Int)) (k:Int)
    ·rfl
    ·exact absurd (hs.1 hc).2 e
   rw [Vx hn]
   show _=(if _ then _ else _:Int × Int).1/\_=(if _ then _ else _:Int × Int).2
   rw [if_neg e]
   exact ih
theorem Fe (h:Sane m) {r:Nat} (hr:r<m.rooms.length):VN m (Rm (Ux m.rooms (r:Int)))=(ZJ m r m.desks.length).1/\KW m (Rm (Ux m.rooms (r:Int)))=(ZJ m r m.desks.length).2:=by
 have key:∀ d k:Nat,m.desks.length+d=k->k<=8->VL (Ux m.rooms (r:Int)) k=VL (Ux m.rooms (r:Int)) m.desks.length:=by
  intro d
  induction d with
  | zero=>intro k hk _;rw [<-hk];rfl
  | succ d ih=>
   intro k hk h8
   obtain ⟨j,rfl⟩:∃ j,k=j+1:=⟨k-1,by omega⟩
   have hn:UZ (Ux m.rooms (r:Int)) (j:Int)=false:=by
    cases hc:UZ (Ux m.rooms (r:Int)) (j:Int)
    ·rfl
    ·have:=((Ku h hr (b:=j) (by omega)).1 hc).1;omega
   rw [Vx hn]
   exact ih j (by omega) (by omega)
 have h8:=h.eight
 have e:=key (8-m.desks.length) 8 (by omega) (by omega)
 unfold Rm
 rw [e]
 exact ME h hr m.desks.length (Nat.le_refl _)
def XU (m:Z4) (r:Int):Int:=if ZP m && Yu m r then (ZJ m r m.desks.length).1 else -1
def PQ (m X:Z4) (c:Int):Z4 × Int:=if ZP m then (if c=0 then (Zz X,0) else (m,c)) else (YJ,3)
theorem Jk (h:ZP m=false) (X:Z4) (c:Int):PQ m X c=(YJ,3):=by unfold PQ;rw [h];rfl
theorem Jl (h:ZP m=true) (X:Z4):PQ m X 0=(Zz X,0):=by unfold PQ;rw [h];rfl
theorem Lx (h:ZP m=true) (X:Z4) {c:Int} (hc:c ≠ 0):PQ m X c=(m,c):=by unfold PQ;rw [h,if_pos rfl,if_neg hc]
theorem MR (h:Loose m):Zz m=ZX m:=by unfold Zz;rw [h.mk',if_pos rfl]
end Go.Proofs.YtffcgajndmhpkaaGreatDoor
