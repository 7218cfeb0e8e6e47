/- Part 20 of what the proof rests on. No condition but those that a theorem names. -/
import Derived.Test.YthbbahagpmdooaaGreatXq19
set_option maxHeartbeats 8000000
set_option maxRecDepth 100000
namespace Go.Proofs.YthbbahagpmdooaaGreat
open Go.ChangeShapes Go.WideShapes Go.ChangeAt Go.RowKit Go.Sort
set_option linter.unusedVariables false
variable {w w' w0 w1 w2 w3 w₀ wr W W' X A B C : World} {v v0 v1 v2 v3 v4 u u0 u1 u2 u3 u4 : Value} {m : Z4}
def Pc (m:Z4) (s:Z3):Int:=YB (pushS m s) (m.smiths.length:Int)
def VQ (m:Z4) (rank may guild:Int):Z4 × Int:=
 if ZO m then (if ZH (YK rank may guild) && decide (guild<m.guilds.length) then (if m.smiths.length=12 then (m,4) else (if Pc m (YK rank may guild)<0 then (m,2) else
  (ZP (setS (pushS m (YK rank may guild)) m.smiths.length (PV (YK rank may guild) (Pc m (YK rank may guild)) (XO m (Pc m (YK rank may guild))))),0))) else (m,3)) else (Yp,3)
theorem Mc {rank may guild:Int} (h:ZH (YK rank may guild)=true):Zh (YK rank may guild)=true:=by
 unfold ZH at h
 rw [Ts (by show (1:Int) ≠ 0;omega),Bool.false_or] at h
 exact h
theorem Mb (h:Loose m) {rank may guild:Int} (hs:ZH (YK rank may guild)=true) (hg:guild<m.guilds.length):Loose (pushS m (YK rank may guild))\/m.smiths.length>=12:=by
 by_cases hl:m.smiths.length<12
 ·left
  obtain ⟨j,hj,_⟩:=h.openD
  exact h.pushS hl (XV.2 (.inr ⟨Mc hs,hg,by show (0:Int)<_;omega⟩)) (VG rfl)
 ·right;omega
theorem HJ (h:Loose m) {b:Nat} (hb:b<m.desks.length):Xw (XO m (b:Int)) (Z8 m.desks b).2.2=true:=by
 have hmk:XO m (b:Int)=(Z8 m.desks b).2.2:=by unfold XO;simp
 obtain ⟨k0,k1⟩:=RY (h.desk b hb)
 rw [hmk]
 exact Nd (by omega) (by omega) (by omega) (by omega) (by omega) (by omega)
theorem YL (h:Loose m):m.smiths.length<=12:=by
 have hd:=h.head
 unfold YY at hd
 simp only [Bool.and_eq_true,decide_eq_true_eq] at hd
 exact hd.2.2.1
theorem Jz (h:ZO m=true) (rank may guild:Int):ZO (VQ m rank may guild).1=true:=by
 unfold VQ
 rw [h]
 simp only [if_true]
 split
 ·rename_i hs
  simp only [Bool.and_eq_true,decide_eq_true_eq] at hs
  split
  ·exact h
  ·rename_i hl
   split
   ·exact h
   ·rename_i hb
    have hlo:=ZW h
    have h12:=YL hlo
    have hx:Loose (pushS m (YK rank may guild)):=by
     rcases Mb hlo hs.1 hs.2 with e | e
     ·exact e
     ·omega
    rcases VD (pushS m (YK rank may guild)) (m.smiths.length:Int) with ⟨e,_⟩ | ⟨b,hbl,e,hm⟩
    ·exact absurd (show Pc m (YK rank may guild)<0 by unfold Pc;rw [e];omega) hb
    ·have ec:Pc m (YK rank may guild)=(b:Int):=e
     rw [ec]
     unfold Ye at hm
     simp only [Bool.and_eq_true,Int.toNat_natCast] at hm
     have hat:Z8 (pushS m (YK rank may guild)).smiths m.smiths.length=YK rank may guild:=by
      show Z8 (m.smiths++[YK rank may guild]) m.smiths.length=_
      rw [Ww,if_pos rfl]
     rw [hat] at hm
     obtain ⟨k1,k2⟩:=FG (m:=pushS m (YK rank may guild)) (s:=YK rank may guild) (b:=b) (had:=XO m (b:Int)) hx (Mc hs.1) hs.2 hbl hm.1 hm.2 (HJ hlo hbl)
     exact Y0 (hx.setS (by unfold pushS;simp) k1 k2)
 ·exact h
def Jr (m:Z4) (s:Z3) (b:Int):Int:=Y2 (Zr (Xo s) (XO m s.2.1) (XO m b)) (XO m b)
def TV (m:Z4) (k:Nat) (b:Int):Z4:=setS m k (PV (Z8 m.smiths k) b (Jr m (Z8 m.smiths k) b))
def VT (m:Z4) (who:Int):Z4 × Int:=
 if ZO m then (if WT m who then (if (Z8 m.smiths who.toNat).1=1 then (if YB m who<0 then (m,2) else (if YO (TV m who.toNat (YB m who)) then (ZP (TV m who.toNat (YB m who)),0) else (m,4))) else (m,2)) else (m,1)) else (Yp,3)
theorem KU (h:ZO m=true) (who:Int):ZO (VT m who).1=true:=by
 unfold VT
 rw [h]
 simp only [if_true]
 split
 ·split
  ·split
   ·exact h
   ·split
    ·rename_i hl
     exact Y0 (PD hl)
    ·exact h
  ·exact h
 ·exact h
theorem Ol (m:Z4) (k:Nat) (s t:Z3):setS (setS m k s) k t=setS m k t:=by unfold setS;simp
def X7 (m:Z4) (k:Nat) (may:Int):Z4:=setS m k (Ur (Z8 m.smiths k) may)
def Xv (m:Z4) (who may:Int):Z4 × Int:=
 if ZO m then (if WT m who then (if inB may 1 255 then (if ZR (Z8 m.smiths who.toNat) && !V4 may (Z8 m.smiths who.toNat).2.1 then
  (if YB (X7 m who.toNat may) who<0 then (m,2) else (ZP (setS (X7 m who.toNat may) who.toNat (putS (X7 m who.toNat may) (Ur (Z8 m.smiths who.toNat) may) (YB (X7 m who.toNat may) who))),0))
  else (ZP (X7 m who.toNat may),0)) else (m,3)) else (m,1)) else (Yp,3)
theorem Oe {s:Z3} {may:Int} (h:Zh s=true) (m0:1<=may) (m1:may<=255):Zh (Ur s may)=true:=by
 obtain ⟨st,be,rk,my,gu,lo',hi',hd,ca,ut,wk⟩:=s
 obtain ⟨x0,x1,x2,x3,x4,x5,x6,x7,x8,x9⟩:=Zk h
 exact UP x0 x1 x2 ⟨m0,m1⟩ x4 x5 x6 x7 x8 x9
theorem K7 (h:ZO m=true) (who may:Int):ZO (Xv m who may).1=true:=by
 unfold Xv
 rw [h]
 simp only [if_true]
 split
 ·rename_i hw
  obtain ⟨k,rfl,hk,hs⟩:=X6 hw
  rw [show ((k:Int)).toNat=k by simp]
  have hlo:=ZW h
  split
  ·rename_i hm
   obtain ⟨m0,m1⟩:=ZU hm
   split
   ·rename_i hp
    simp only [Bool.and_eq_true,Bool.not_eq_true'] at hp
    split
    ·exact h
    ·rename_i hb
     rcases VD (X7 m k may) (k:Int) with ⟨e,_⟩ | ⟨b,hbl,e,hma⟩
     ·exact absurd (show YB (X7 m k may) (k:Int)<0 by rw [e];omega) hb
     ·rw [e]
      obtain ⟨p,g1,b1⟩:=hlo.limits hk hs
      obtain ⟨a0,a1,a2,a3,a4⟩:=hlo.at hk hp.1
      unfold Ye at hma
      simp only [Bool.and_eq_true,Int.toNat_natCast] at hma
      have hat:Z8 (X7 m k may).smiths k=Ur (Z8 m.smiths k) may:=by
       show Z8 (m.smiths.set k _) k=_
       rw [ZC hk,if_pos rfl]
      rw [hat] at hma
      have:=Pv (m:=m) hlo (s:=Ur (Z8 m.smiths k) may) (b:=b) (Oe p m0 m1) hp.1 g1 a0 a1 a4 hbl hma.1 hma.2
      unfold X7
      rw [Ol]
      exact Y0 (hlo.setS hk this.1 this.2)
   ·rename_i hp
    refine Y0 (FF hlo hk hs m0 m1 ?_)
    cases h1:ZR (Z8 m.smiths k)
    ·exact .inl rfl
    ·right
     cases h2:V4 may (Z8 m.smiths k).2.1
     ·rw [h1,h2] at hp;exact absurd rfl hp
     ·rfl
  ·exact h
 ·exact h
def UE (m:Z4) (who g:Int):Z4 × Int:=
 if WT m who then (if inB g (-1) ((m.guilds.length:Int)-1) then (ZP (setS m who.toNat (Rt (Z8 m.smiths who.toNat) g)),0) else (m,3)) else (m,1)
theorem JP (h:ZO m=true) (who g:Int):ZO (UE m who g).1=true:=by
 unfold UE
 split
 ·rename_i hw
  obtain ⟨k,rfl,hk,hs⟩:=X6 hw
  rw [show ((k:Int)).toNat=k by simp]
  split
  ·rename_i hg
   have:=ZU hg
   exact Y0 (G0 (ZW h) hk hs this.1 (by omega))
  ·exact h
 ·exact h
def UC (m:Z4) (r:Nat):Int:=XL (ZS m.rooms r) (Y8 m r m.desks.length).1
theorem IK (h:Loose m) {r:Nat} (hr:r<m.rooms.length):0<=UC m r/\UC m r<(ZS m.rooms r).2.length:=by
 have hd:=h.head
 unfold YY at hd
 simp only [Bool.and_eq_true,decide_eq_true_eq] at hd
 obtain ⟨r1,r2,r3,r4⟩:=Zf hd.1
 have hmem:ZS m.rooms r ∈ m.rooms:=by unfold ZS;simp [List.getD,hr]
 have hrb:=List.all_eq_true.1 r3 _ hmem
 have hu:=RM m r (YL h) m.desks.length
 have hlen:1<=(ZS m.rooms r).2.length:=by
  have hx:=hrb
  unfold Zp at hx
  simp only [Bool.and_eq_true] at hx
  have:=ZU hx.2.1
  omega
 have hn:=Mm (Y8 m r m.desks.length).1 (ZS m.rooms r).2 hlen
 unfold UC XL
 rw [hrb,Zs (by omega) (by omega)]
 simp only [Bool.and_self,if_true]
 omega
def RQ (m:Z4):Nat->Z4
 | 0=>m
 | k+1=>U5 (RQ m k) k (UC m k)
theorem S0 (m:Z4):∀ k,(RQ m k).rooms=m.rooms/\(RQ m k).guilds=m.guilds/\(RQ m k).smiths=m.smiths/\(RQ m k).desks=m.desks/\(RQ m k).now=m.now/\(RQ m k).paces.length=m.paces.length
 | 0=>⟨rfl,rfl,rfl,rfl,rfl,rfl⟩
 | k+1=>by
  obtain ⟨a,b,c,d,e,f⟩:=S0 m k
  refine ⟨a,b,c,d,e,?_⟩
  show ((RQ m k).paces.set k _).length=_
  rw [List.length_set,f]
theorem NS (h:Loose m):∀ k,k<=m.paces.length->Loose (RQ m k)
 | 0,_=>h
 | k+1,hk=>by
  have ih:=NS h k (by omega)
  have hd:=h.head
  unfold YY at hd
  simp only [Bool.and_eq_true,decide_eq_true_eq] at hd
  have hr:k<m.rooms.length:=by have:=hd.2.2.2.2.1;omega
  have hw:=IK h hr
  have hs:=(S0 m k).1
  exact N5 ih (by rw [hs];exact hr) hw.1 (by rw [hs];exact hw.2)
def Nb (m:Z4):Z4:=ZP (RQ m m.paces.length)
theorem GB (h:ZO m=true):ZO (Nb m)=true:=Y0 (NS (ZW h) _ (Nat.le_refl _))
def UD (m:Z4) (b:Int):Int:=(Z7 (ZS m.rooms (WK m.rooms b)).2 (Z8 m.paces (WK m.rooms b)).toNat).1
def EK (s:Z3) (u:Int):Z3:=(s.1,s.2.1,s.2.2.1,s.2.2.2.1,s.2.2.2.2.1,s.2.2.2.2.2.1,s.2.2.2.2.2.2.1,s.2.2.2.2.2.2.2.1,s.2.2.2.2.2.2.2.2.1,u,s.2.2.2.2.2.2.2.2.2.2)
def Gw (s:Z3):Int:=s.2.2.2.2.2.2.2.2.2.1
def Sr (m:Z4) (n:Int) (s:Z3):Option Z3:=
 if s.1=0 then some s else if s.1=3 then (if (XJ s (n*UD m s.2.1)).2 then some (EK (XJ s (n*UD m s.2.1)).1 (ZM (Gw (XJ s (n*UD m s.2.1)).1) (UD m s.2.1) n)) else none) else some (EK s (ZM (Gw s) 0 n))
def Ya (m:Z4) (n:Int):Nat->Option (List Z3)
 | 0=>some m.smiths
 | k+1=>match Ya m n k with
  | none=>none
  | some ss=>match Sr m n (Z8 m.smiths k) with
   | none=>none
   | some t=>some (ss.set k t)
theorem Rf {n:Int} : ∀ {k:Nat} {ss:List Z3},Ya m n k=some ss->ss.length=m.smiths.length/\ ∀ j,k<=j->Z8 ss j=Z8 m.smiths j
 | 0,ss,h=>by cases h;exact ⟨rfl,fun _ _=>rfl⟩
 | k+1,ss,h=>by
  unfold Ya at h
  cases ht:Ya m n k with
  | none=>rw [ht] at h;cases h
  | some s0=>
   rw [ht] at h
   simp only at h
   cases h1:Sr m n (Z8 m.smiths k) with
   | none=>rw [h1] at h;cases h
   | some t=>
    rw [h1] at h
    cases h
    obtain ⟨e1,e2⟩:=Rf ht
    refine ⟨by simpa using e1,fun j hj=> ?_⟩
    rw [<-e2 j (by omega)]
    unfold Z8
    simp [List.getD,List.getElem?_set_ne (show k ≠ j by omega)]
theorem Re {n:Int} {k:Nat} : ∀ d,Ya m n k=none->Ya m n (k+d)=none
 | 0,h=>h
 | d+1,h=>by
  have:=Re d h
  show Ya m n (k+d+1)=none
  unfold Ya
  rw [this]
def Uc (m:Z4) (n:Int) (ss:List Z3):Z4:={ m with smiths:=ss,now:=m.now+n }
def VC (m:Z4) (n:Int):Z4 × Int:=
 if ZO m then (if inB n 1 20 then (match Ya m n m.smiths.length with
  | none=>(m,4)
  | some ss=>if YO (Uc m n ss) then (ZP (Uc m n ss),0) else (m,4)) else (m,3)) else (Yp,3)
theorem KD (h:ZO m=true) (n:Int):ZO (VC m n).1=true:=by
 unfold VC
 rw [h]
 simp only [if_true]
 split
 ·split
  ·exact h
  ·split
   ·rename_i hl
    exact Y0 (PD hl)
   ·exact h
 ·exact h
theorem Wa  {rs:List Z0} (n:Int) (h:IsRooms w v rs) (h1:Xg rs n=true) :
  Calls Tryz.prog 226 #[.agg #[v],.int .i64 n] w fun e w'=>e= .returned (.int .i64 (VF (ZS rs (WK rs n)).2))/\Below w.heap.size w w':=by
 have Hv:=Z9 h
 obtain ⟨a,cap,rfl,hc,hm⟩:∃ a cap,v= .slice a rs.length cap/\rs.length<=cap/\cap<=9223372036854775807:=by obtain ⟨a,cap,rfl,hc,hm,_⟩:=h;exact ⟨a,cap,rfl,hc,hm⟩
 clear h
 have hlt:=PU h1
 have Hh:=Z9 (Ws h1).1
 have H1:=Z9 h1
 have hl3:rs.length<=3:=(Zf (Ws h1).1).2.1
 clear h1
 have hw1:=(uh Hv).alloc (.cells #[.slice a rs.length cap] 26)
 have Hw1:=Z9 hw1
 obtain ⟨b,off,a',cap',rfl,hbw,d1,p1,p4,sp,hbw',d2⟩:=E5 hw1 hlt (uh Hh)
 obtain ⟨b',off',sp'⟩:=a'
 simp only at sp hbw' d2
 subst sp
 clear hw1
 have k0:=cell_regrown (w:=w.alloc (.cells #[.slice (some ⟨b,off,none⟩) rs.length cap] 26)) (a:=⟨w.heap.size,0,none⟩) (v:= .slice (some ⟨b,off,none⟩) rs.length cap) (by simp)
 have k1:=cell_regrown d1
 have k2:=cell_regrown d2
 clear d1 d2
 go_enter Tryz.func226,Tryz.ntmps226
 go_wp2_with fail
 refine wp_region_quiet_below (by kernel_rfl) (by kernel_rfl) ?_
 repeat (go_big_quiet_step (exact Calls.regrown_of (SH n ((uh Hw1).below (below_regrown _ _ _)) (uh H1))))
 refine wpQuiet_nil ?_
 intro _ hw'
 obtain ⟨⟨dq,osq⟩,hw''⟩:=hw'
 subst hw''
 generalize hr1:WK rs n=r at *
 generalize hr2:VF (ZS rs r).2=fo at *
 generalize (ZS rs r).2.length=m at *
 have Hr1:=Z9 hr1
 have Hr2:=Z9 hr2
 clear hr1 hr2
 go_wp2_with fail
 go_ret
 exact ⟨Zx (by rw [uh Hr1,uh Hr2]),((Below.refl _ _).alloc (Nat.le_refl _) _).trans ((below_regrown _ _ _).mono (by simp))⟩
theorem IH {room:Int} {k:Nat} (h:¬ (WK m.rooms k:Int)=room):Y8 m room (k+1)=Y8 m room k:=by show (if _ then _ else _)=_;rw [if_neg h]
theorem KN {room:Int} {k:Nat} (h:(WK m.rooms k:Int)=room):Y8 m room (k+1)=((if (Z8 m.desks k).1 then max (Y8 m room k).1 (Yn m k (-1)) else (Y8 m room k).1),(Y8 m room k).2+Yn m k (-1)):=by show (if _ then _ else _)=_;rw [if_pos h]
theorem Q6  (room:Int) (h:Smy w v0 v1 v2 v3 v4 m) (hS:Sane m) :
  Calls Tryz.prog 229 #[.agg #[v0,v1,v2,v3,v4,.int .i64 m.now],.int .i64 room] w fun e w'=>e= .returned (.tuple #[.int .i64 (Y8 m room m.desks.length).1,.int .i64 (Y8 m room m.desks.length).2])/\Below w.heap.size w w':=by
 have Hv:=Z9 (h.alloc (.cells #[v0,v1,v2,v3,v4,.int .i64 m.now] 32))
 obtain ⟨a0,p0,a1,p1,a2,p2,a3,p3,a4,p4,rfl,rfl,rfl,rfl,rfl,_,_,_,_,_,_,_,_,_,_⟩:=h.five
 clear h
 have HS:=Z9 hS
 obtain ⟨BB0,kb0⟩:=Xj w 32 (S6 a0 p0 a1 p1 a2 p2 a3 p3 a4 p4 m)
 have h8:=hS.eight
 have hbd:=RM m room hS.few
 have Hbd:=Z9 hbd
 clear hS hbd
 go_enter Tryz.func229,Tryz.ntmps229
 go_wp2_with fail
 go_loopw [6,7,8] (fun mo al i wr=> ∃ k:Nat,k<=m.desks.length/\i= .int .i64 k/\mo= .int .i64 (Y8 m room k).1/\al= .int .i64 (Y8 m room k).2/\Blk wr w.heap.size 32 #[.slice a0 m.rooms.length p0,.slice a1 m.guilds.length p1,.slice a2 m.smiths.length p2,.slice a3 m.desks.length p3,.slice a4 m.paces.length p4,.int .i64 m.now]/\Smy wr (.slice a0 m.rooms.length p0) (.slice a1 m.guilds.length p1) (.slice a2 m.smiths.length p2) (.slice a3 m.desks.length p3) (.slice a4 m.paces.length p4) m/\Below w.heap.size w wr) (fun _ _ i _=>m.desks.length-(intOf i).toNat)
 case atStart=>exact ⟨0,Nat.zero_le _,rfl,rfl,rfl,uh kb0,uh Hv,uh BB0⟩
 case round=>
  obtain ⟨k,hk,rfl,rfl,rfl,hkb,hv,hb0⟩:=hrel
  obtain ⟨⟨u0,u1⟩,u2,u3⟩:=uh Hbd k
  have kb:=Z9 hkb
  have Hv1:=Z9 hv
  have BB:=Z9 hb0
  clear hkb hv hb0 kb0 BB0 Hv
  obtain ⟨c0,c1,c2,c3,c4,c5⟩:=(uh kb).c6
  by_cases hlt:k<m.desks.length
  ·have hlt1:(k:Int)<(m.desks.length:Int):=by omega
   have Hno:=Z9 (fun hh=>IH (m:=m) (room:=room) (k:=k) hh)
   have Hyes:=Z9 (fun hh=>KN (m:=m) (room:=room) (k:=k) hh)
   obtain ⟨⟨mo,al⟩,hmo⟩:∃ x,Y8 m room k=x:=⟨_,rfl⟩
   rw [hmo] at u0 u1 u2 u3 Hno Hyes ⊢
   simp only at u0 u1 u2 u3 Hyes ⊢
   clear hmo
   go_wp2_with fail
   refine (SH (k:Int) (uh Hv1).rooms ((uh HS).bench hlt)).mono ?_
   rintro e w1 ⟨rfl,hb⟩
   replace kb:=bl kb hb
   replace Hv1:=Z9 ((uh Hv1).below hb)
   replace BB:=bt BB hb
   clear hb c0 c1 c2 c3 c4 c5
   obtain ⟨rn,hrn⟩:∃ r:Int,(WK m.rooms k:Int)=r:=⟨_,rfl⟩
   rw [hrn] at Hno Hyes ⊢
   clear hrn
   by_cases hr:rn=room
   rotate_left
   ·have hrb:(rn ==room)=false:=by simpa using hr
    go_wp2_with fail
    go_roundw
    case rel=>exact ⟨k+1,by omega,by go_num,by rw [uh Hno hr],by rw [uh Hno hr],uh kb,uh Hv1,uh BB⟩
    case measure=>simp [intOf];omega
   have hrb:(rn ==room)=true:=by simpa using hr
   obtain ⟨c0,c1,c2,c3,c4,c5⟩:=(uh kb).c6
   go_wp2_with fail
   refine (V8 (k:Int) (-1) (uh Hv1) (uh HS).guilded (by have:=(uh HS).few;omega)).mono ?_
   rintro e w2 ⟨rfl,hb⟩
   replace kb:=bl kb hb
   replace Hv1:=Z9 ((uh Hv1).below hb)
   replace BB:=bt BB hb
   clear hb c0 c1 c2 c3 c4 c5
   have hub:=MR m (k:Int) (-1)
   have hfew:=(uh HS).few
   have hy:=uh Hyes hr
   generalize Yn m (k:Int) (-1)=us at *
   obtain ⟨_,_,hde,_,_,r3⟩:=(uh Hv1).desks
   cases hde
   rcases r3 with e0 | ⟨db,off,rfl,hbw,hcl⟩
   ·rw [e0] at hlt;simp at hlt
   obtain ⟨d0,_,_⟩:=Zd hcl hlt
   clear hcl
   obtain ⟨op,hop⟩:∃ o,(Z8 m.desks k).1=o:=⟨_,rfl⟩
   rw [hop] at d0 hy
   have Hy:=Z9 hy
   clear hop hy Hno Hyes
   have c3:=(uh kb).cell (i:=3) (v:= .slice (some ⟨db,off,none⟩) m.desks.length p3) rfl
   cases op
   ·go_wp2_with fail
    go_roundw
    case rel=>exact ⟨k+1,by omega,by go_num,by rw [uh Hy];rfl,by rw [uh Hy],uh kb,uh Hv1,uh BB⟩
    case measure=>simp [intOf];omega
   ·go_wp2_with (go_at_call 69;refine (VE _ _ _).mono ?_;rintro e w' ⟨rfl,h9⟩;subst w')
    go_roundw
    case rel=>exact ⟨k+1,by omega,by go_num,by rw [uh Hy];rfl,by rw [uh Hy],uh kb,uh Hv1,uh BB⟩
    case measure=>simp [intOf];omega
  ·obtain rfl:k=m.desks.length:=by omega
   go_wp2_with fail
   go_ret2
   exact ⟨rfl,uh BB⟩
theorem LS  {r:Nat} (h:Smy w v0 v1 v2 v3 v4 m) (hS:Sane m) (hr:r<m.rooms.length) :
  Calls Tryz.prog 245 #[.agg #[v0,v1,v2,v3,v4,.int .i64 m.now],.int .i64 (r:Int)] w fun e w'=>e= .returned (.int .i64 (Ro m r))/\Below w.heap.size w w':=by
 have Hv:=Z9 (h.alloc (.cells #[v0,v1,v2,v3,v4,.int .i64 m.now] 32))
 obtain ⟨a0,p0,a1,p1,a2,p2,a3,p3,a4,p4,rfl,rfl,rfl,rfl,rfl,_,_,_,_,_,_,_,_,_,_⟩:=h.five
 clear h
 have HS:=Z9 hS
 obtain ⟨BB0,kb0⟩:=Xj w 32 (S6 a0 p0 a1 p1 a2 p2 a3 p3 a4 p4 m)
 have hr1:(r:Int)<(m.rooms.length:Int):=by omega
 have Hc:Hid (Ro m r=Nv (ZS m.rooms r) (Y8 m (r:Int) m.desks.length).1 (Y8 m (r:Int) m.desks.length).2):=Z9 rfl
 rw [uh Hc]
 clear Hc hS
 obtain ⟨⟨n,ps⟩,hrm⟩:∃ x,ZS m.rooms r=x:=⟨_,rfl⟩
 obtain ⟨mo,hmo⟩:∃ x,(Y8 m (r:Int) m.desks.length).1=x:=⟨_,rfl⟩
 obtain ⟨al,hal⟩:∃ x,(Y8 m (r:Int) m.desks.length).2=x:=⟨_,rfl⟩
 rw [hrm,hmo,hal]
 have Hrm:=Z9 hrm
 have Hmo:=Z9 hmo
 have Hal:=Z9 hal
 clear hrm hmo hal
 go_enter Tryz.func245,Tryz.ntmps245
 go_wp2_with fail
 have hu:=Q6 (r:Int) (uh Hv) (uh HS)
 rw [uh Hmo,uh Hal] at hu
 refine hu.mono ?_
 clear hu
 rintro e w1 ⟨rfl,hb⟩
 have kb:=Z9 ((uh kb0).below hb (uh kb0).lt)
 replace Hv:=Z9 ((uh Hv).below hb)
 have BB:=Z9 ((uh BB0).trans (hb.mono (uh BB0).size))
 clear hb kb0 BB0
 obtain ⟨_,_,hre,_,_,r0⟩:=(uh Hv).rooms
 cases hre
 rcases r0 with e0 | ⟨rb,off,rfl,hbw,hcl⟩
 ·rw [e0] at hr;simp at hr
 obtain ⟨d0,pv,d1,hpv⟩:=hcl r hr
 rw [uh Hrm] at d0 hpv
 simp only at d0 hpv
 have Hpv:=Z9 hpv
 obtain ⟨pa,pc,rfl,_,_,_⟩:=hpv
 have c0:=(uh kb).cell (i:=0) (v:= .slice (some ⟨rb,off,none⟩) m.rooms.length p0) rfl
 clear hcl
 go_wp2_with fail
 refine (Sn n mo al (uh Hpv)).mono ?_
 rintro e w2 ⟨rfl,hb⟩
 replace BB:=bt BB hb
 clear hb
 go_wp2_with fail
 go_ret
 exact ⟨rfl,uh BB⟩
theorem JS  (h:Smy w v0 v1 v2 v3 v4 m) (hS:Sane m) :
  Calls Tryz.prog 240 #[.agg #[v0,v1,v2,v3,v4,.int .i64 m.now]] w fun e w'=>e= .returned (.int .i64 (Nl m))/\Below w.heap.size w w':=by
 have Hv:=Z9 (h.alloc (.cells #[v0,v1,v2,v3,v4,.int .i64 m.now] 32))
 obtain ⟨a0,p0,a1,p1,a2,p2,a3,p3,a4,p4,rfl,rfl,rfl,rfl,rfl,_,_,_,_,_,_,_,_,_,_⟩:=h.five
 clear h
 have HS:=Z9 hS
 obtain ⟨BB0,kb0⟩:=Xj w 32 (S6 a0 p0 a1 p1 a2 p2 a3 p3 a4 p4 m)
 have h3:=(Zf hS.hall).2.1
 have Hbd:=Z9 (NW m)
 clear hS
 go_enter Tryz.func240,Tryz.ntmps240
 go_wp2_with fail
 go_loopw [3,4] (fun n i wr=> ∃ k:Nat,k<=m.rooms.length/\i= .int .i64 k/\n= .int .i64 (U0 m k)/\Blk wr w.heap.size 32 #[.slice a0 m.rooms.length p0,.slice a1 m.guilds.length p1,.slice a2 m.smiths.length p2,.slice a3 m.desks.length p3,.slice a4 m.paces.length p4,.int .i64 m.now]/\Smy wr (.slice a0 m.rooms.length p0) (.slice a1 m.guilds.length p1) (.slice a2 m.smiths.length p2) (.slice a3 m.desks.length p3) (.slice a4 m.paces.length p4) m/\Below w.heap.size w wr) (fun _ i _=>m.rooms.length-(intOf i).toNat)
 case atStart=>exact ⟨0,Nat.zero_le _,rfl,rfl,uh kb0,uh Hv,uh BB0⟩
 case round=>
  obtain ⟨k,hk,rfl,rfl,hkb,hv,hb0⟩:=hrel
  obtain ⟨u0,u1⟩:=uh Hbd k
  obtain ⟨u2,u3⟩:=uh Hbd (k+1)
  have hst:U0 m (k+1)=U0 m k+Ro m k:=rfl
  have kb:=Z9 hkb
  have Hv1:=Z9 hv
  have BB:=Z9 hb0
  clear hkb hv hb0 kb0 BB0 Hv
  obtain ⟨c0,c1,c2,c3,c4,c5⟩:=(uh kb).c6
  by_cases hlt:k<m.rooms.length
  ·have hlt1:(k:Int)<(m.rooms.length:Int):=by omega
   go_wp2_with fail
   refine (LS (uh Hv1) (uh HS) hlt).mono ?_
   rintro e w1 ⟨rfl,hb⟩
   replace kb:=bl kb hb
   replace Hv1:=Z9 ((uh Hv1).below hb)
   replace BB:=bt BB hb
   rw [hst] at u2 u3
   have Hst:=Z9 hst
   clear hb c0 c1 c2 c3 c4 c5 hst
   generalize Ro m k=ci at *
   generalize U0 m k=ct at *
   go_wp2_with fail
   go_roundw
   case rel=>exact ⟨k+1,by omega,by go_num,by rw [uh Hst],uh kb,uh Hv1,uh BB⟩
   case measure=>simp [intOf];omega
  ·obtain rfl:k=m.rooms.length:=by omega
   go_wp2_with fail
   go_ret
   exact ⟨rfl,uh BB⟩
theorem FullSmy.putW {n₀ n cap g:Nat}  {qs:List (Z0 × Value)} (hf:FullSmy n₀ w v0 v1 (.slice (some ⟨g,0,none⟩) n cap) v3 v4 m qs) (hn:n=m.smiths.length) {j:Nat} (hj:j<m.smiths.length) (x:Z3) :
  FullSmy n₀ (NF w g (j*11) (ZT x)) v0 v1 (.slice (some ⟨g,0,none⟩) n cap) v3 v4 { m with smiths:=m.smiths.set j x } qs:=by
 have hb:(Value.slice (some ⟨g,0,none⟩) n cap).ownBlock=some g:=rfl
 obtain ⟨hput,hg⟩:=RecAt.put ZQ (by omega) hf.smiths hn hj x
 have hne:∀ k,k<w.heap.size->k ≠ g->(NF w g (j*11) (ZT x)).heap[k]?=w.heap[k]?:=fun k hk hkg=>hg.block k hk (fun e=>hkg (by cases e;rfl))
 refine ⟨hf.hall.same2 fun k e=>hne k (hf.hall.lt e).2 fun e'=> ?_,hf.rooms,RecAt.same hf.guilds fun k e=>hne k (RecAt.lt hf.guilds e).2 fun e'=> ?_,hput,RecAt.same hf.desks fun k e=>hne k (RecAt.lt hf.desks e).2 fun e'=> ?_,RecAt.same hf.paces fun k e=>hne k (RecAt.lt hf.paces e).2 fun e'=> ?_,hf.h1,hf.h2,hf.h3,hf.h4,hf.a12,hf.a13,hf.a14,hf.a23,hf.a24,hf.a34⟩
 ·subst e'
  rcases e with e | ⟨q,hq,e⟩
  ·exact hf.h2.1 _ hb e
  ·exact hf.h2.2 q hq _ hb e
 ·subst e';exact hf.a12 _ e hb
 ·subst e';exact hf.a23 _ hb e
 ·subst e';exact hf.a24 _ hb e
theorem RG (w:World) (g o:Nat) (c0 c1 c2 c3 c4 c5 c6 c7 c8 c9 c10:Value):NF w g o [c0,c1,c2,c3,c4,c5,c6,c7,c8,c9,c10]=((((((((((w.setCell ⟨g,o,none⟩ c0).setCell ⟨g,o+1,none⟩ c1).setCell ⟨g,o+2,none⟩ c2).setCell ⟨g,o+3,none⟩ c3).setCell ⟨g,o+4,none⟩ c4).setCell ⟨g,o+5,none⟩ c5).setCell ⟨g,o+6,none⟩ c6).setCell ⟨g,o+7,none⟩ c7).setCell ⟨g,o+8,none⟩ c8).setCell ⟨g,o+9,none⟩ c9).setCell ⟨g,o+10,none⟩ c10:=rfl
set_option linter.unusedSimpArgs false
theorem Q7  {k:Nat} (b:Int) (h:Smy w v0 v1 v2 v3 v4 m) (hS:Sane m) (hp:m.paces.length<=1000) (hk:k<m.smiths.length) (hs:(Z8 m.smiths k).1 ≠ 0) :
  Calls Tryz.prog 224 #[.agg #[v0,v1,v2,v3,v4,.int .i64 m.now],.int .i64 (k:Int),.int .i64 b] w fun e w'=>e= .returned (.int .i64 (Yq m (k:Int) b))/\Below w.heap.size w w':=by
 have Hv:=Z9 (h.alloc (.cells #[v0,v1,v2,v3,v4,.int .i64 m.now] 32))
 obtain ⟨a0,p0,a1,p1,a2,p2,a3,p3,a4,p4,rfl,rfl,rfl,rfl,rfl,_,_,_,_,_,_,_,_,_,_⟩:=h.five
 clear h
 have HF:=Z9 (hS.few' hp)
 have HSW:=Z9 (hS.with hk hs b)
 have Hc:Hid (Yq m (k:Int) b=Nl (TX m (k:Int) b)):=Z9 rfl
 rw [uh Hc]
 have hk1:(k:Int)<(m.smiths.length:Int):=by omega
 clear hS hp hs Hc
 have BB0:Hid (Below w.heap.size w (w.alloc (.cells #[.slice a0 m.rooms.length p0,.slice a1 m.guilds.length p1,.slice a2 m.smiths.length p2,.slice a3 m.desks.length p3,.slice a4 m.paces.length p4,.int .i64 m.now] 32))):=Z9 ((Below.refl _ _).alloc (Nat.le_refl _) _)
 go_enter Tryz.func224,Tryz.ntmps224
 go_wp2_with fail
 refine (ZB (uh Hv) (uh HF)).mono ?_
 rintro e w1 ⟨y0,y1,y2,y3,y4,oq,rfl,ho,hb⟩
 have k9:=ho.smy
 obtain ⟨b0,q0,b1,q1,b2,q2,b3,q3,b4,q4,rfl,rfl,rfl,rfl,rfl,_,_,_,_,_,_,_,_,_,_⟩:=k9.five
 have HO:=Z9 (ho.mono (n₁:=w.heap.size) (by simp))
 have BB:=Z9 ((uh BB0).trans (hb.mono (uh BB0).size))
 clear k9 ho hb BB0 Hv
 go_upto_region 2 with fail
 obtain ⟨W,hW,hba,ko⟩:=ZD w1 32 (S6 b0 q0 b1 q1 b2 q2 b3 q3 b4 q4 m)
 have LO:Hid (∀ i,Yy (.slice b0 m.rooms.length q0) (.slice b1 m.guilds.length q1) (.slice b2 m.smiths.length q2) (.slice b3 m.desks.length q3) (.slice b4 m.paces.length q4) oq i->w.heap.size<=i/\i<w1.heap.size):=Z9 (fun i e=>(uh HO).own e)
 replace HO:=Z9 ((uh HO).below hba)
 replace BB:=bt BB hba
 clear hba
 rw [hW]
 clear hW
 generalize w1.heap.size=ob at *
 obtain ⟨g2,hga,_,_,hc2,hz2⟩:=RecAt.view ZQ (by omega) (uh HO).smiths rfl (by omega)
 cases hga
 have hg2o:=(uh LO g2 (.inr (.inr (.inr (.inl rfl)))))
 have s1:=hc2 k hk 1 _ rfl
 have f1:=hz2 (k*11+1)
 have hp1:=(uh HO).putS rfl (j:=k) (i:=1) hk (by omega) (.int .i64 b) (((Z8 m.smiths k).1,b,(Z8 m.smiths k).2.2)) rfl
 have hlen:(m.smiths.set k (((Z8 m.smiths k).1,b,(Z8 m.smiths k).2.2))).length=m.smiths.length:=by simp
 have hs1:Z8 (m.smiths.set k (((Z8 m.smiths k).1,b,(Z8 m.smiths k).2.2))) k=(((Z8 m.smiths k).1,b,(Z8 m.smiths k).2.2)):=by rw [ZC hk,if_pos rfl]
 have hp2:=hp1.putS hlen.symm (j:=k) (i:=0) (by show k<(m.smiths.set k _).length;omega) (by omega) (.int .i64 2) (RR (Z8 m.smiths k) b) (by show ZT (RR (Z8 m.smiths k) b)=(ZT (Z8 (m.smiths.set k (((Z8 m.smiths k).1,b,(Z8 m.smiths k).2.2))) k)).set 0 _;rw [hs1];rfl)
 obtain ⟨_,hga,_,_,hc3,hz3⟩:=RecAt.view ZQ (by omega) hp1.smiths hlen.symm (by show 0<(m.smiths.set k _).length;omega)
 cases hga
 have s2:=hc3 k (by show k<(m.smiths.set k _).length;omega) 0 _ rfl
 have f2:=hz3 (k*11)
 have x2:=(uh ko).cell (i:=2) (v:= .slice (some ⟨g2,0,none⟩) m.smiths.length q2) rfl
 have x3:=((uh ko).other (a:=⟨g2,k*11+1,none⟩) (by show ob ≠ g2;omega) (.int .i64 b)).cell (i:=2) (v:= .slice (some ⟨g2,0,none⟩) m.smiths.length q2) rfl
 simp only [Nat.add_zero,List.set_set] at hp2 s2 f2
 have hwm:({ m with smiths:=m.smiths.set k (RR (Z8 m.smiths k) b) } : Z4)=TX m (k:Int) b:=by unfold TX;simp
 rw [hwm] at hp2
 have HP:=Z9 hp2.smy
 clear hc2 hz2 hc3 hz3 hp1 hp2 hwm hs1 hlen HO
 go_upto_region 4 with fail
 clear s1 f1 s2 f2 x2 x3
 replace ko:Hid (Blk ((W.setCell ⟨g2,k*11+1,none⟩ (.int .i64 b)).setCell ⟨g2,k*11,none⟩ (.int .i64 2)) ob 32 #[.slice b0 m.rooms.length q0,.slice b1 m.guilds.length q1,.slice (some ⟨g2,0,none⟩) m.smiths.length q2,.slice b3 m.desks.length q3,.slice b4 m.paces.length q4,.int .i64 m.now]):=Z9 (((uh ko).other (a:=⟨g2,k*11+1,none⟩) (by show ob ≠ g2;omega) _).other (a:=⟨g2,k*11,none⟩) (by show ob ≠ g2;omega) _)
 replace BB:Hid (Below w.heap.size w ((W.setCell ⟨g2,k*11+1,none⟩ (.int .i64 b)).setCell ⟨g2,k*11,none⟩ (.int .i64 2))):=Z9 (((uh BB).setCell (p:=⟨g2,k*11+1,none⟩) (by show w.heap.size<=g2;omega) _).setCell (p:=⟨g2,k*11,none⟩) (by show w.heap.size<=g2;omega) _)
 generalize (W.setCell ⟨g2,k*11+1,none⟩ (.int .i64 b)).setCell ⟨g2,k*11,none⟩ (.int .i64 2)=W3 at *
 obtain ⟨c0,c1,c2,c3,c4,c5⟩:=(uh ko).c6
 go_wp2_with fail
 refine (JS (m:=TX m (k:Int) b) (uh HP) (uh HSW)).mono ?_
 rintro e w5 ⟨rfl,hb⟩
 replace BB:=bt BB hb
 clear hb
 go_wp2_with fail
 go_ret
 exact ⟨rfl,uh BB⟩
theorem Calls.same_below {P:Program} {f:FuncId} {args:Array Value}  (h:Calls P f args w fun e w'=>e= .returned v/\w'=w):Calls P f args w fun e w'=>e= .returned v/\Below w.heap.size w w':=
 h.mono fun e w' ⟨he,hw⟩=>⟨he,by rw [hw];exact Below.refl _ _⟩
theorem Un  {k b:Nat} (h:Smy w v0 v1 v2 v3 v4 m) (hk:k<m.smiths.length) (hb:b<m.desks.length) (h7:b<=7) (y0:0<=(Z8 m.smiths k).2.2.2.1) (y1:(Z8 m.smiths k).2.2.2.1<=255) :
  Calls Tryz.prog 227 #[.agg #[v0,v1,v2,v3,v4,.int .i64 m.now],.int .i64 (k:Int),.int .i64 (b:Int)] w fun e w'=>e= .returned (.bool (Ye m (k:Int) b))/\Below w.heap.size w w':=by
 have hm:Ye m (k:Int) b=((Z8 m.desks b).1 && V4 (Z8 m.smiths k).2.2.2.1 b):=rfl
 rw [hm]
 clear hm
 obtain ⟨a0,p0,rfl,_,_⟩:=IsRooms.shape h.rooms
 obtain ⟨a1,p1,rfl,_,_⟩:=IsRec.shape h.guilds
 obtain ⟨a4,p4,rfl,_,_⟩:=IsRec.shape h.paces
 obtain ⟨a2,p2,rfl,_,_,r2⟩:=h.smiths
 obtain ⟨a3,p3,rfl,_,_,r3⟩:=h.desks
 clear h
 rcases r2 with e0 | ⟨sb,so,rfl,hbs,hcs⟩
 ·rw [e0] at hk;simp at hk
 rcases r3 with e0 | ⟨db,dof,rfl,hbd,hcd⟩
 ·rw [e0] at hb;simp at hb
 obtain ⟨_,_,_,s3,_⟩:=ZI hcs hk
 obtain ⟨d0,_,_⟩:=Zd hcd hb
 have hk1:(k:Int)<(m.smiths.length:Int):=by omega
 have hb1:(b:Int)<(m.desks.length:Int):=by omega
 clear hcs hcd
 generalize (Z8 m.smiths k).2.2.2.1=my at *
 generalize (Z8 m.desks b).1=op at *
 cases op
 all_goals
  go_enter Tryz.func227,Tryz.ntmps227
  go_wp2_with (go_at_call 89;refine (N7 my (b:Int) _ y0 y1 (by omega) (by omega)).mono ?_;rintro e w' ⟨rfl,h9⟩;subst w')
  go_ret
  exact ⟨rfl,(Below.refl _ _).alloc (Nat.le_refl _) _⟩
theorem TC  (h:Smy w v0 v1 v2 v3 v4 m) (hS:Sane m) :
  Calls Tryz.prog 223 #[.agg #[v0,v1,v2,v3,v4,.int .i64 m.now]] w fun e w'=>e= .returned (.bool (VU m))/\Below w.heap.size w w':=by
 have Hv:=Z9 (h.alloc (.cells #[v0,v1,v2,v3,v4,.int .i64 m.now] 32))
 obtain ⟨a0,p0,a1,p1,a2,p2,a3,p3,a4,p4,rfl,rfl,rfl,rfl,rfl,_,_,_,_,_,_,_,_,_,_⟩:=h.five
 clear h
 obtain ⟨BB0,kb0⟩:=Xj w 32 (S6 a0 p0 a1 p1 a2 p2 a3 p3 a4 p4 m)
 have HS:=Z9 hS
 have h8:=hS.eight
 clear hS
 have hyes:∀ k,k<m.desks.length->RX m k=true->VU m=true:=fun k hk hc=>List.any_eq_true.2 ⟨k,List.mem_range.2 hk,hc⟩
 have hno:(∀ k,k<m.desks.length->RX m k=false)->VU m=false:=fun hn=>by
  unfold VU
  rw [List.any_eq_false]
  intro k hk
  rw [hn k (List.mem_range.1 hk)]
  simp
 have Hyes:=Z9 hyes
 have Hno:=Z9 hno
 clear hyes hno
 go_enter Tryz.func223,Tryz.ntmps223
 go_wp2_with fail
 go_loopw [3] (fun i wr=> ∃ k:Nat,k<=m.desks.length/\i= .int .i64 k/\(∀ j,j<k->RX m j=false)/\Blk wr w.heap.size 32 #[.slice a0 m.rooms.length p0,.slice a1 m.guilds.length p1,.slice a2 m.smiths.length p2,.slice a3 m.desks.length p3,.slice a4 m.paces.length p4,.int .i64 m.now]/\Smy wr (.slice a0 m.rooms.length p0) (.slice a1 m.guilds.length p1) (.slice a2 m.smiths.length p2) (.slice a3 m.desks.length p3) (.slice a4 m.paces.length p4) m/\Below w.heap.size w wr) (fun i _=>m.desks.length-(intOf i).toNat)
 case atStart=>exact ⟨0,Nat.zero_le _,rfl,fun j hj=>by omega,uh kb0,uh Hv,uh BB0⟩
 case round=>
  obtain ⟨k,hk,rfl,hn,hkb,hv,hb0⟩:=hrel
  have Hn:=Z9 hn
  have kb:=Z9 hkb
  have Hv1:=Z9 hv
  have BB:=Z9 hb0
  clear hkb hv hb0 kb0 BB0 Hv hn
  obtain ⟨c0,c1,c2,c3,c4,c5⟩:=(uh kb).c6
  by_cases hlt:k<m.desks.length
  ·have hlt1:(k:Int)<(m.desks.length:Int):=by omega
   have Hc:Hid (RX m k=((Z8 m.desks k).1 && PF (Yn m (k:Int) (-1)) (YU m.rooms (k:Int)))):=Z9 rfl
   obtain ⟨_,_,hde,_,_,r3⟩:=(uh Hv1).desks
   cases hde
   rcases r3 with e0 | ⟨db,off,rfl,hbw,hcl⟩
   ·rw [e0] at hlt;simp at hlt
   obtain ⟨d0,_,_⟩:=Zd hcl hlt
   clear hcl
   have hfo:=Tr ((uh HS).bench hlt)
   have Hu:=Z9 (fun (W:World) (hW:Below wr.heap.size wr W)=>V8 (k:Int) (-1) ((uh Hv1).below hW) (uh HS).guilded (by have:=(uh HS).few;omega))
   have Hf:=Z9 (fun (W:World) (hW:Below wr.heap.size wr W)=>Wa (k:Int) ((uh Hv1).below hW).rooms ((uh HS).bench hlt))
   rw [<-hfo] at Hf
   clear hfo
   generalize Yn m (k:Int) (-1)=us at *
   generalize YU m.rooms (k:Int)=fo at *
   generalize (Z8 m.desks k).1=op at *
   have y0:=cell_regrown c0
   have y1:=cell_regrown c1
   have y2:=cell_regrown c2
   have y3:=cell_regrown c3
   have y4:=cell_regrown c4
   have y5:=cell_regrown c5
   have z0:=cell_regrown d0
   obtain ⟨mu,hmu⟩:∃ q,PF us fo=q:=⟨_,rfl⟩
   have Ht:=Z9 (fun (W:World)=>Calls.same_below (QJ us fo W))
   rw [hmu] at Hc Ht
   clear hmu
   cases op
   ·go_wp2_with fail
    refine wp_region_quiet_below (by kernel_rfl) (by kernel_rfl) ?_
    repeat (go_big_quiet_step (first | exact Calls.regrown_of (uh Hu _ (below_regrown _ _ _)) | exact Calls.regrown_of (uh Hf _ (below_regrown _ _ _)) | exact Calls.regrown_of (uh Ht _)))
    refine wpQuiet_nil ?_
    intro _ hw'
    obtain ⟨⟨dq,osq⟩,hw''⟩:=hw'
    subst hw''
    go_wp2_with fail
    go_roundw
    case rel=>exact ⟨k+1,by omega,by go_num,YM (uh Hn) (uh Hc),(uh kb).below (below_regrown _ _ _) (uh kb).lt,(uh Hv1).below (below_regrown _ _ _),(uh BB).trans ((below_regrown _ _ _).mono (uh BB).size)⟩
    case measure=>simp [intOf];omega
   ·cases mu
    ·go_wp2_with fail
     refine wp_region_quiet_below (by kernel_rfl) (by kernel_rfl) ?_
     repeat (go_big_quiet_step (first | exact Calls.regrown_of (uh Hu _ (below_regrown _ _ _)) | exact Calls.regrown_of (uh Hf _ (below_regrown _ _ _)) | exact Calls.regrown_of (uh Ht _)))
     refine wpQuiet_nil ?_
     intro _ hw'
     obtain ⟨⟨dq,osq⟩,hw''⟩:=hw'
     subst hw''
     go_wp2_with fail
     go_roundw
     case rel=>exact ⟨k+1,by omega,by go_num,YM (uh Hn) (uh Hc),(uh kb).below (below_regrown _ _ _) (uh kb).lt,(uh Hv1).below (below_regrown _ _ _),(uh BB).trans ((below_regrown _ _ _).mono (uh BB).size)⟩
     case measure=>simp [intOf];omega
    ·go_wp2_with fail
     refine wp_region_quiet_below (by kernel_rfl) (by kernel_rfl) ?_
     repeat (go_big_quiet_step (first | exact Calls.regrown_of (uh Hu _ (below_regrown _ _ _)) | exact Calls.regrown_of (uh Hf _ (below_regrown _ _ _)) | exact Calls.regrown_of (uh Ht _)))
     refine wpQuiet_nil ?_
     intro _ hw'
     obtain ⟨⟨dq,osq⟩,hw''⟩:=hw'
     subst hw''
     go_wp2_with fail
     go_ret
     exact ⟨Z6 (uh Hyes k hlt (uh Hc)).symm,(uh BB).trans ((below_regrown _ _ _).mono (uh BB).size)⟩
  ·obtain rfl:k=m.desks.length:=by omega
   go_wp2_with fail
   go_ret
   exact ⟨Z6 (uh Hno (uh Hn)).symm,uh BB⟩
end Go.Proofs.YthbbahagpmdooaaGreat
