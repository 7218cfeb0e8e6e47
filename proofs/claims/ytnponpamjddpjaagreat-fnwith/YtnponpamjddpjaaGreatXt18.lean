/- Part 18 of what the proof rests on. No condition but those that a theorem names. -/
import Derived.Test.YtnponpamjddpjaaGreatXt17
set_option maxHeartbeats 8000000
set_option maxRecDepth 100000
namespace Go.Proofs.YtnponpamjddpjaaGreat
open Go.ChangeShapes Go.WideShapes Go.ChangeAt Go.RowKit Go.Sort
set_option linter.unusedVariables false
variable {w w' w0 w1 w2 w3 w₀ wr W W' X A B C : World} {v v0 v1 v2 v3 v4 u u0 u1 u2 u3 u4 : Value} {m : Z3}
def Pc (m:Z3) (s:Z4):Int:=Yz (pushS m s) (m.smiths.length:Int)
def VW (m:Z3) (rank may guild:Int):Z3 × Int:=
 if ZK m then (if ZE (YK rank may guild) && decide (guild<m.guilds.length) then (if m.smiths.length=12 then (m,4) else (if Pc m (YK rank may guild)<0 then (m,2) else
  (Z1 (setS (pushS m (YK rank may guild)) m.smiths.length (PW (YK rank may guild) (Pc m (YK rank may guild)) (XO m (Pc m (YK rank may guild))))),0))) else (m,3)) else (YB,3)
theorem L9 {rank may guild:Int} (h:ZE (YK rank may guild)=true):Zf (YK rank may guild)=true:=by
 unfold ZE at h
 rw [TD (by show (1:Int) ≠ 0;omega),Bool.false_or] at h
 exact h
theorem L8 (h:Loose m) {rank may guild:Int} (hs:ZE (YK rank may guild)=true) (hg:guild<m.guilds.length):Loose (pushS m (YK rank may guild))\/m.smiths.length>=12:=by
 by_cases hl:m.smiths.length<12
 ·left
  obtain ⟨j,hj,_⟩:=h.openD
  exact h.pushS hl (XU.2 (.inr ⟨L9 hs,hg,by show (0:Int)<_;omega⟩)) (VM rfl)
 ·right;omega
theorem In (h:Loose m) {b:Nat} (hb:b<m.desks.length):Xz (XO m (b:Int)) (Z8 m.desks b).2.2=true:=by
 have hmk:XO m (b:Int)=(Z8 m.desks b).2.2:=by unfold XO;simp
 obtain ⟨k0,k1⟩:=UH (h.desk b hb)
 rw [hmk]
 exact Qo (by omega) (by omega) (by omega) (by omega) (by omega) (by omega)
theorem YU (h:Loose m):m.smiths.length<=12:=by
 have hd:=h.head
 unfold YS at hd
 simp only [Bool.and_eq_true,decide_eq_true_eq] at hd
 exact hd.2.2.1
theorem JD (h:ZK m=true) (rank may guild:Int):ZK (VW m rank may guild).1=true:=by
 unfold VW
 rw [h]
 simp only [if_true]
 split
 ·rename_i hs
  simp only [Bool.and_eq_true,decide_eq_true_eq] at hs
  split
  ·exact h
  ·rename_i hl
   split
   ·exact h
   ·rename_i hb
    have hlo:=ZO h
    have h12:=YU hlo
    have hx:Loose (pushS m (YK rank may guild)):=by
     rcases L8 hlo hs.1 hs.2 with e | e
     ·exact e
     ·omega
    rcases VJ (pushS m (YK rank may guild)) (m.smiths.length:Int) with ⟨e,_⟩ | ⟨b,hbl,e,hm⟩
    ·exact absurd (show Pc m (YK rank may guild)<0 by unfold Pc;rw [e];omega) hb
    ·have ec:Pc m (YK rank may guild)=(b:Int):=e
     rw [ec]
     unfold Yg at hm
     simp only [Bool.and_eq_true,Int.toNat_natCast] at hm
     have hat:Z8 (pushS m (YK rank may guild)).smiths m.smiths.length=YK rank may guild:=by
      show Z8 (m.smiths++[YK rank may guild]) m.smiths.length=_
      rw [WF,if_pos rfl]
     rw [hat] at hm
     obtain ⟨k1,k2⟩:=FY (m:=pushS m (YK rank may guild)) (s:=YK rank may guild) (b:=b) (had:=XO m (b:Int)) hx (L9 hs.1) hs.2 hbl hm.1 hm.2 (In hlo hbl)
     exact Zd (hx.setS (by unfold pushS;simp) k1 k2)
 ·exact h
def Jv (m:Z3) (s:Z4) (b:Int):Int:=YY (Zt (XL s) (XO m s.2.1) (XO m b)) (XO m b)
def T0 (m:Z3) (k:Nat) (b:Int):Z3:=setS m k (PW (Z8 m.smiths k) b (Jv m (Z8 m.smiths k) b))
def VY (m:Z3) (who:Int):Z3 × Int:=
 if ZK m then (if Vb m who then (if (Z8 m.smiths who.toNat).1=1 then (if Yz m who<0 then (m,2) else (if YZ (T0 m who.toNat (Yz m who)) then (Z1 (T0 m who.toNat (Yz m who)),0) else (m,4))) else (m,2)) else (m,1)) else (YB,3)
theorem KU (h:ZK m=true) (who:Int):ZK (VY m who).1=true:=by
 unfold VY
 rw [h]
 simp only [if_true]
 split
 ·split
  ·split
   ·exact h
   ·split
    ·rename_i hl
     exact Zd (Wh hl)
    ·exact h
  ·exact h
 ·exact h
theorem On (m:Z3) (k:Nat) (s t:Z4):setS (setS m k s) k t=setS m k t:=by unfold setS;simp
def X8 (m:Z3) (k:Nat) (may:Int):Z3:=setS m k (Us (Z8 m.smiths k) may)
def Xq (m:Z3) (who may:Int):Z3 × Int:=
 if ZK m then (if Vb m who then (if inB may 1 255 then (if ZT (Z8 m.smiths who.toNat) && !Wu may (Z8 m.smiths who.toNat).2.1 then
  (if Yz (X8 m who.toNat may) who<0 then (m,2) else (Z1 (setS (X8 m who.toNat may) who.toNat (putS (X8 m who.toNat may) (Us (Z8 m.smiths who.toNat) may) (Yz (X8 m who.toNat may) who))),0))
  else (Z1 (X8 m who.toNat may),0)) else (m,3)) else (m,1)) else (YB,3)
theorem Og {s:Z4} {may:Int} (h:Zf s=true) (m0:1<=may) (m1:may<=255):Zf (Us s may)=true:=by
 obtain ⟨st,be,rk,my,gu,lo',hi',hd,ca,ut,wk⟩:=s
 obtain ⟨x0,x1,x2,x3,x4,x5,x6,x7,x8,x9⟩:=Zg h
 exact UT x0 x1 x2 ⟨m0,m1⟩ x4 x5 x6 x7 x8 x9
theorem K0 (h:ZK m=true) (who may:Int):ZK (Xq m who may).1=true:=by
 unfold Xq
 rw [h]
 simp only [if_true]
 split
 ·rename_i hw
  obtain ⟨k,rfl,hk,hs⟩:=Xp hw
  rw [show ((k:Int)).toNat=k by simp]
  have hlo:=ZO h
  split
  ·rename_i hm
   obtain ⟨m0,m1⟩:=ZS hm
   split
   ·rename_i hp
    simp only [Bool.and_eq_true,Bool.not_eq_true'] at hp
    split
    ·exact h
    ·rename_i hb
     rcases VJ (X8 m k may) (k:Int) with ⟨e,_⟩ | ⟨b,hbl,e,hma⟩
     ·exact absurd (show Yz (X8 m k may) (k:Int)<0 by rw [e];omega) hb
     ·rw [e]
      obtain ⟨p,g1,b1⟩:=hlo.limits hk hs
      obtain ⟨a0,a1,a2,a3,a4⟩:=hlo.at hk hp.1
      unfold Yg at hma
      simp only [Bool.and_eq_true,Int.toNat_natCast] at hma
      have hat:Z8 (X8 m k may).smiths k=Us (Z8 m.smiths k) may:=by
       show Z8 (m.smiths.set k _) k=_
       rw [ZH hk,if_pos rfl]
      rw [hat] at hma
      have:=Py (m:=m) hlo (s:=Us (Z8 m.smiths k) may) (b:=b) (Og p m0 m1) hp.1 g1 a0 a1 a4 hbl hma.1 hma.2
      unfold X8
      rw [On]
      exact Zd (hlo.setS hk this.1 this.2)
   ·rename_i hp
    refine Zd (FX hlo hk hs m0 m1 ?_)
    cases h1:ZT (Z8 m.smiths k)
    ·exact .inl rfl
    ·right
     cases h2:Wu may (Z8 m.smiths k).2.1
     ·rw [h1,h2] at hp;exact absurd rfl hp
     ·rfl
  ·exact h
 ·exact h
def UJ (m:Z3) (who g:Int):Z3 × Int:=
 if Vb m who then (if inB g (-1) ((m.guilds.length:Int)-1) then (Z1 (setS m who.toNat (RE (Z8 m.smiths who.toNat) g)),0) else (m,3)) else (m,1)
theorem JU (h:ZK m=true) (who g:Int):ZK (UJ m who g).1=true:=by
 unfold UJ
 split
 ·rename_i hw
  obtain ⟨k,rfl,hk,hs⟩:=Xp hw
  rw [show ((k:Int)).toNat=k by simp]
  split
  ·rename_i hg
   have:=ZS hg
   exact Zd (If (ZO h) hk hs this.1 (by omega))
  ·exact h
 ·exact h
def UF (m:Z3) (r:Nat):Int:=XM (ZV m.rooms r) (Y2 m r m.desks.length).1
theorem IT (h:Loose m) {r:Nat} (hr:r<m.rooms.length):0<=UF m r/\UF m r<(ZV m.rooms r).2.length:=by
 have hd:=h.head
 unfold YS at hd
 simp only [Bool.and_eq_true,decide_eq_true_eq] at hd
 obtain ⟨r1,r2,r3,r4⟩:=Ze hd.1
 have hmem:ZV m.rooms r ∈ m.rooms:=by unfold ZV;simp [List.getD,hr]
 have hrb:=List.all_eq_true.1 r3 _ hmem
 have hu:=RZ m r (YU h) m.desks.length
 have hlen:1<=(ZV m.rooms r).2.length:=by
  have hx:=hrb
  unfold Zq at hx
  simp only [Bool.and_eq_true] at hx
  have:=ZS hx.2.1
  omega
 have hn:=Mj (Y2 m r m.desks.length).1 (ZV m.rooms r).2 hlen
 unfold UF XM
 rw [hrb,Zj (by omega) (by omega)]
 simp only [Bool.and_self,if_true]
 omega
def R8 (m:Z3):Nat->Z3
 | 0=>m
 | k+1=>U8 (R8 m k) k (UF m k)
theorem Tb (m:Z3):∀ k,(R8 m k).rooms=m.rooms/\(R8 m k).guilds=m.guilds/\(R8 m k).smiths=m.smiths/\(R8 m k).desks=m.desks/\(R8 m k).now=m.now/\(R8 m k).paces.length=m.paces.length
 | 0=>⟨rfl,rfl,rfl,rfl,rfl,rfl⟩
 | k+1=>by
  obtain ⟨a,b,c,d,e,f⟩:=Tb m k
  refine ⟨a,b,c,d,e,?_⟩
  show ((R8 m k).paces.set k _).length=_
  rw [List.length_set,f]
theorem NP (h:Loose m):∀ k,k<=m.paces.length->Loose (R8 m k)
 | 0,_=>h
 | k+1,hk=>by
  have ih:=NP h k (by omega)
  have hd:=h.head
  unfold YS at hd
  simp only [Bool.and_eq_true,decide_eq_true_eq] at hd
  have hr:k<m.rooms.length:=by have:=hd.2.2.2.2.1;omega
  have hw:=IT h hr
  have hs:=(Tb m k).1
  exact N6 ih (by rw [hs];exact hr) hw.1 (by rw [hs];exact hw.2)
def M6 (m:Z3):Z3:=Z1 (R8 m m.paces.length)
theorem GQ (h:ZK m=true):ZK (M6 m)=true:=Zd (NP (ZO h) _ (Nat.le_refl _))
def UI (m:Z3) (b:Int):Int:=(Z7 (ZV m.rooms (WU m.rooms b)).2 (Z8 m.paces (WU m.rooms b)).toNat).1
def E5 (s:Z4) (u:Int):Z4:=(s.1,s.2.1,s.2.2.1,s.2.2.2.1,s.2.2.2.2.1,s.2.2.2.2.2.1,s.2.2.2.2.2.2.1,s.2.2.2.2.2.2.2.1,s.2.2.2.2.2.2.2.2.1,u,s.2.2.2.2.2.2.2.2.2.2)
def GM (s:Z4):Int:=s.2.2.2.2.2.2.2.2.2.1
def SA (m:Z3) (n:Int) (s:Z4):Option Z4:=
 if s.1=0 then some s else if s.1=3 then (if (XJ s (n*UI m s.2.1)).2 then some (E5 (XJ s (n*UI m s.2.1)).1 (ZM (GM (XJ s (n*UI m s.2.1)).1) (UI m s.2.1) n)) else none) else some (E5 s (ZM (GM s) 0 n))
def Yb (m:Z3) (n:Int):Nat->Option (List Z4)
 | 0=>some m.smiths
 | k+1=>match Yb m n k with
  | none=>none
  | some ss=>match SA m n (Z8 m.smiths k) with
   | none=>none
   | some t=>some (ss.set k t)
theorem Rl {n:Int} : ∀ {k:Nat} {ss:List Z4},Yb m n k=some ss->ss.length=m.smiths.length/\ ∀ j,k<=j->Z8 ss j=Z8 m.smiths j
 | 0,ss,h=>by cases h;exact ⟨rfl,fun _ _=>rfl⟩
 | k+1,ss,h=>by
  unfold Yb at h
  cases ht:Yb m n k with
  | none=>rw [ht] at h;cases h
  | some s0=>
   rw [ht] at h
   simp only at h
   cases h1:SA m n (Z8 m.smiths k) with
   | none=>rw [h1] at h;cases h
   | some t=>
    rw [h1] at h
    cases h
    obtain ⟨e1,e2⟩:=Rl ht
    refine ⟨by simpa using e1,fun j hj=> ?_⟩
    rw [<-e2 j (by omega)]
    unfold Z8
    simp [List.getD,List.getElem?_set_ne (show k ≠ j by omega)]
theorem Rk {n:Int} {k:Nat} : ∀ d,Yb m n k=none->Yb m n (k+d)=none
 | 0,h=>h
 | d+1,h=>by
  have:=Rk d h
  show Yb m n (k+d+1)=none
  unfold Yb
  rw [this]
def Ug (m:Z3) (n:Int) (ss:List Z4):Z3:={ m with smiths:=ss,now:=m.now+n }
def VI (m:Z3) (n:Int):Z3 × Int:=
 if ZK m then (if inB n 1 20 then (match Yb m n m.smiths.length with
  | none=>(m,4)
  | some ss=>if YZ (Ug m n ss) then (Z1 (Ug m n ss),0) else (m,4)) else (m,3)) else (YB,3)
theorem KG (h:ZK m=true) (n:Int):ZK (VI m n).1=true:=by
 unfold VI
 rw [h]
 simp only [if_true]
 split
 ·split
  ·exact h
  ·split
   ·rename_i hl
    exact Zd (Wh hl)
   ·exact h
 ·exact h
set_option linter.unusedSimpArgs false
set_option maxRecDepth 100000
theorem KI {b:Nat} {e:Z6} {t:List Z6} (h:atV m.smiths b m.smiths.length=e::t):XT m b={ m with smiths:=ZL (m.smiths.set e.2.toNat (stS (Z8 m.smiths e.2.toNat) 3)) t,desks:=m.desks.set b ((Z8 m.desks b).1,e.2,ZJ (Z8 m.desks b).2.2 e.1) }:=by
 rw [Qf h,GJ h]
theorem JB {n₀:Nat}  {qs:List (Z0 × Value)} {b:Nat} (hf:FullSmy n₀ w v0 v1 v2 v3 v4 m qs) (hL:Loose m) (hb:b<m.desks.length) :
  Calls Tryz.prog 82 #[.agg #[v0,v1,v2,v3,v4,.int .i64 m.now],.int .i64 (b:Int)] w fun e w'=>e= .returned (.tuple #[])/\FullSmy n₀ w' v0 v1 v2 v3 v4 (XT m b) qs/\Two v2.ownBlock v3.ownBlock w w':=by
 have h:=hf.smy
 obtain ⟨a0,p0,a1,p1,a2,p2,a3,p3,a4,p4,rfl,rfl,rfl,rfl,rfl,_,_,_,_,_,_,_,_,_,_⟩:=h.five
 have hl12:=YU hL
 have heig:=hL.sane.eight
 obtain ⟨g3,hga,hg3,hg3w,_,_⟩:=RecAt.view ZF (by omega) hf.desks rfl (by omega)
 cases hga
 have L2:Hid (∀ i,(Value.slice a2 m.smiths.length p2).ownBlock=some i->i<w.heap.size):=Z9 (fun i e=>(RecAt.lt hf.smiths e).2)
 have HQ:=Z9 (K6 hL (b:Int) m.smiths.length (Nat.le_refl _))
 have HN:Hid (atV m.smiths (b:Int) m.smiths.length=[]->XT m b={ m with desks:=m.desks.set b ((Z8 m.desks b).1,-1,(Z8 m.desks b).2.2) }):=Z9 (fun h=>Ov h)
 have HC:Hid (∀ e t,atV m.smiths (b:Int) m.smiths.length=e::t->XT m b={ m with smiths:=ZL (m.smiths.set e.2.toNat (stS (Z8 m.smiths e.2.toNat) 3)) t,desks:=m.desks.set b ((Z8 m.desks b).1,e.2,ZJ (Z8 m.desks b).2.2 e.1) }):=Z9 (fun e t h=>KI h)
 have Hm:Hid (∀ x ∈ atV m.smiths (b:Int) m.smiths.length,∃ j:Nat,j<m.smiths.length/\x.2=(j:Int)):=Z9 (fun x hx=>by
  obtain ⟨j,hj,_,_,rfl⟩:=(Yd m.smiths (b:Int) x m.smiths.length).1 hx
  exact ⟨j,hj,rfl⟩)
 have Hql:=Z9 (Uh m.smiths (b:Int) m.smiths.length)
 have HF:=Z9 hf
 have HL:=Z9 hL
 have hb1:(b:Int)<(m.desks.length:Int):=by omega
 clear h hf hL hg3
 go_enter Tryz.func82,Tryz.ntmps82
 go_upto_region 1 with fail
 have hba:Below w.heap.size w (w.alloc (.cells #[.slice a0 m.rooms.length p0,.slice a1 m.guilds.length p1,.slice a2 m.smiths.length p2,.slice (some ⟨g3,0,none⟩) m.desks.length p3,.slice a4 m.paces.length p4,.int .i64 m.now] 32)):=(Below.refl _ _).alloc (Nat.le_refl _) _
 have kb:Hid (Blk (w.alloc (.cells #[.slice a0 m.rooms.length p0,.slice a1 m.guilds.length p1,.slice a2 m.smiths.length p2,.slice (some ⟨g3,0,none⟩) m.desks.length p3,.slice a4 m.paces.length p4,.int .i64 m.now] 32)) w.heap.size 32 #[.slice a0 m.rooms.length p0,.slice a1 m.guilds.length p1,.slice a2 m.smiths.length p2,.slice (some ⟨g3,0,none⟩) m.desks.length p3,.slice a4 m.paces.length p4,.int .i64 m.now]):=Z9 (Blk.new _ _ _)
 replace HF:=Z9 ((uh HF).below hba)
 have Tw:Hid (Two (Value.slice a2 m.smiths.length p2).ownBlock (some g3) w (w.alloc (.cells #[.slice a0 m.rooms.length p0,.slice a1 m.guilds.length p1,.slice a2 m.smiths.length p2,.slice (some ⟨g3,0,none⟩) m.desks.length p3,.slice a4 m.paces.length p4,.int .i64 m.now] 32))):=Z9 (Two.of_below hba)
 have hgW:g3<(w.alloc (.cells #[.slice a0 m.rooms.length p0,.slice a1 m.guilds.length p1,.slice a2 m.smiths.length p2,.slice (some ⟨g3,0,none⟩) m.desks.length p3,.slice a4 m.paces.length p4,.int .i64 m.now] 32)).heap.size:=Nat.lt_of_lt_of_le hg3w hba.size
 have hRW:w.heap.size<(w.alloc (.cells #[.slice a0 m.rooms.length p0,.slice a1 m.guilds.length p1,.slice a2 m.smiths.length p2,.slice (some ⟨g3,0,none⟩) m.desks.length p3,.slice a4 m.paces.length p4,.int .i64 m.now] 32)).heap.size:=(uh kb).lt
 clear hba
 generalize w.alloc (.cells #[.slice a0 m.rooms.length p0,.slice a1 m.guilds.length p1,.slice a2 m.smiths.length p2,.slice (some ⟨g3,0,none⟩) m.desks.length p3,.slice a4 m.paces.length p4,.int .i64 m.now] 32)=W at *
 have H2:Hid ((Value.slice a2 m.smiths.length p2).ownBlock ≠ some w.heap.size):=Z9 (fun e=>by have:=uh L2 _ e;omega)
 have H3:Hid (some g3 ≠ some w.heap.size):=Z9 (fun e=>by cases e;omega)
 have Low2:Hid (∀ i,(Value.slice a2 m.smiths.length p2).ownBlock=some i->i<W.heap.size):=Z9 (fun i e=>by have:=uh L2 i e;omega)
 obtain ⟨c0,c1,c2,c3,c4,c5⟩:=(uh kb).c6
 go_wp2_with fail
 refine (Ms (b:Int) (uh HF).smy (uh HL)).mono ?_
 rintro e w1 ⟨v',rfl,he,hb⟩
 clear c0 c1 c2 c3 c4 c5
 generalize atV m.smiths (b:Int) m.smiths.length=q at *
 obtain ⟨qa,qc,rfl⟩:=EntsAt.shape he
 have HE:=Z9 he
 replace HF:=Z9 ((uh HF).below hb)
 replace kb:=bl kb hb
 replace Tw:=Z9 ((uh Tw).trans (Two.of_below hb))
 have hgw1:g3<w1.heap.size:=Nat.lt_of_lt_of_le hgW hb.size
 have hw1:=hb.size
 clear he hb
 go_wp2_with fail
 refine (Qy (uh HE).paces).mono ?_
 rintro e w2 ⟨rfl,hb⟩
 replace HE:=Z9 ((uh HE).later hb)
 replace HF:=Z9 ((uh HF).below hb)
 replace kb:=bl kb hb
 replace Tw:=Z9 ((uh Tw).trans (Two.of_below hb))
 have hgw2:g3<w2.heap.size:=Nat.lt_of_lt_of_le hgw1 hb.size
 have hw2:W.heap.size<=w2.heap.size:=Nat.le_trans hw1 hb.size
 clear hb hw1 hgw1
 obtain ⟨⟨op,wh,mk⟩,hrk⟩:∃ d,Z8 m.desks b=d:=⟨_,rfl⟩
 rw [hrk] at HN HC
 simp only at HN HC
 have Hrk:=Z9 hrk
 clear hrk
 have Hset:Hid (∀ d,Z8 (m.desks.set b d) b=d):=Z9 (fun d=>by rw [ZH hb,if_pos rfl])
 cases q with
 | nil=>
  have hfv:Ul []=((0,0),false):=Th rfl
  rw [hfv]
  clear HC hfv
  go_upto_region 4 with fail
  have hba:Below w2.heap.size w2 (w2.alloc (.cells #[.int .i64 0,.int .i64 0] 45)):=(Below.refl _ _).alloc (Nat.le_refl _) _
  replace HF:=Z9 ((uh HF).below hba)
  replace kb:=bl kb hba
  replace Tw:=Z9 ((uh Tw).trans (Two.of_below hba))
  clear hba
  generalize w2.alloc (.cells #[.int .i64 0,.int .i64 0] 45)=X at *
  obtain ⟨_,hga,_,_,hc3,hz3⟩:=RecAt.view ZF (by omega) (uh HF).desks rfl (by omega)
  cases hga
  have d1:=hc3 b hb 1 _ rfl
  rw [uh Hrk] at d1
  have f1:=hz3 (b*3+1)
  have c3:=(uh kb).cell (i:=3) (v:= .slice (some ⟨g3,0,none⟩) m.desks.length p3) rfl
  have hput:=(uh HF).putD rfl (j:=b) (i:=1) hb (by omega) (.int .i64 (-1)) (op,-1,mk) (by rw [uh Hrk];rfl)
  have HP:=Z9 hput
  clear hput hc3 hz3
  go_wp2_with fail
  refine bodyPost_ret (results_none rfl _ _ _) rfl ?_
  exact ⟨rfl,by rw [uh HN (by first | rfl | trivial)];exact uh HP,(uh Tw).trans (Two.of_set X (.inr rfl) _ _)⟩
 | cons e t=>
  have hfv:Ul (e::t)=(e,true):=Pm (uh HQ) (by simp)
  obtain ⟨i0,hi0,hie⟩:=uh Hm e (by simp)
  obtain ⟨hd0,ei⟩:=e
  simp only at hie
  subst hie
  rw [hfv]
  have hcons:=uh HC (hd0,(i0:Int)) t rfl
  simp only [show ((i0:Int)).toNat=i0 by simp] at hcons
  have Hcons:=Z9 hcons
  have hi1:(i0:Int)<(m.smiths.length:Int):=by omega
  have htl:t.length<=12:=by have:=uh Hql;simp at this;omega
  have Hmt:Hid (∀ x ∈ t,∃ j:Nat,j<m.smiths.length/\x.2=(j:Int)):=Z9 (fun x hx=>uh Hm x (List.mem_cons_of_mem _ hx))
  clear HN HC hfv hcons Hm HQ Hql
  obtain ⟨n1,hn1⟩:∃ n,n=((hd0,(i0:Int))::t).length:=⟨_,rfl⟩
  rw [<-hn1] at HE
  rw [<-hn1]
  clear hn1
  dsimp only
  go_upto_region 5 with fail
  have hba:Below w2.heap.size w2 (w2.alloc (.cells #[.int .i64 hd0,.int .i64 (i0:Int)] 45)):=(Below.refl _ _).alloc (Nat.le_refl _) _
  have ke:Hid (Blk (w2.alloc (.cells #[.int .i64 hd0,.int .i64 (i0:Int)] 45)) w2.heap.size 45 #[.int .i64 hd0,.int .i64 (i0:Int)]):=Z9 (Blk.new _ _ _)
  replace HE:=Z9 ((uh HE).later hba)
  replace HF:=Z9 ((uh HF).below hba)
  replace kb:=bl kb hba
  replace Tw:=Z9 ((uh Tw).trans (Two.of_below hba))
  have hgX:w2.heap.size<(w2.alloc (.cells #[.int .i64 hd0,.int .i64 (i0:Int)] 45)).heap.size:=(uh ke).lt
  clear hba
  generalize w2.alloc (.cells #[.int .i64 hd0,.int .i64 (i0:Int)] 45)=X at *
  obtain ⟨g2,hga,_,_,hc2,hz2⟩:=RecAt.view ZW (by omega) (uh HF).smiths rfl (by omega)
  cases hga
  have hg2W:=uh Low2 g2 rfl
  have hn23:g2 ≠ g3:=fun e=>(uh HF).a23 g2 rfl (by rw [e];rfl)
  have s0:=hc2 i0 hi0 0 _ rfl
  have f0:=hz2 (i0*11)
  have hput:=(uh HF).putS rfl (j:=i0) (i:=0) hi0 (by omega) (.int .i64 3) (stS (Z8 m.smiths i0) 3) rfl
  simp only [Nat.add_zero] at s0 hput
  have HF1:=Z9 hput
  have c2:=(uh kb).cell (i:=2) (v:= .slice (some ⟨g2,0,none⟩) m.smiths.length p2) rfl
  have e1:=(uh ke).cell (i:=1) (v:= .int .i64 (i0:Int)) rfl
  clear hput hc2 hz2
  have ht:Two (some g2) (some g3) X (X.setCell ⟨g2,i0*11,none⟩ (.int .i64 3)):=Two.of_set X (.inl rfl) _ _
  have h2R:(some g2:Option Nat) ≠ some w.heap.size:=uh H2
  have h3R:(some g3:Option Nat) ≠ some w.heap.size:=uh H3
  have h2E:(some g2:Option Nat) ≠ some w2.heap.size:=fun e=>by cases e;omega
  have h3E:(some g3:Option Nat) ≠ some w2.heap.size:=fun e=>by cases e;omega
  replace kb:=Z9 ((uh kb).two ht h2R h3R)
  replace ke:=Z9 ((uh ke).two ht h2E h3E)
  replace HE:=Z9 (Two.ents (uh HE) ht (fun i e=>by cases e;omega) (fun i e=>by cases e;omega))
  have Tw1:Hid (Two (some g2) (some g3) w (X.setCell ⟨g2,i0*11,none⟩ (.int .i64 3))):=Z9 ((uh Tw).trans ht)
  clear ht Tw HF
  go_upto_region 6 with fail
  clear s0 f0 c2 e1
  generalize X.setCell ⟨g2,i0*11,none⟩ (.int .i64 3)=X1 at *
  obtain ⟨ss,hss⟩:∃ q,m.smiths.set i0 (stS (Z8 m.smiths i0) 3)=q:=⟨_,rfl⟩
  have hsl:ss.length=m.smiths.length:=by rw [<-hss];simp
  rw [hss] at Hcons HF1
  clear hss
  obtain ⟨_,hga,_,_,hc3,hz3⟩:=RecAt.view ZF (by omega) (uh HF1).desks rfl (by show 0<m.desks.length;omega)
  cases hga
  have d1:=hc3 b hb 1 _ rfl
  have hrk2:Z8 ({ m with smiths:=ss } : Z3).desks b=(op,wh,mk):=uh Hrk
  rw [hrk2] at d1
  have f1:=hz3 (b*3+1)
  have c3:=(uh kb).cell (i:=3) (v:= .slice (some ⟨g3,0,none⟩) m.desks.length p3) rfl
  have e1:=(uh ke).cell (i:=1) (v:= .int .i64 (i0:Int)) rfl
  have hput:=(uh HF1).putD rfl (j:=b) (i:=1) hb (by omega) (.int .i64 (i0:Int)) (op,(i0:Int),mk) (by rw [hrk2];rfl)
  have HF2:=Z9 hput
  clear hput hc3 hz3 hrk2
  have ht:Two (some g2) (some g3) X1 (X1.setCell ⟨g3,b*3+1,none⟩ (.int .i64 (i0:Int))):=Two.of_set X1 (.inr rfl) _ _
  replace kb:=Z9 ((uh kb).two ht h2R h3R)
  replace ke:=Z9 ((uh ke).two ht h2E h3E)
  replace HE:=Z9 (Two.ents (uh HE) ht (fun i e=>by cases e;omega) (fun i e=>by cases e;omega))
  have Tw2:Hid (Two (some g2) (some g3) w (X1.setCell ⟨g3,b*3+1,none⟩ (.int .i64 (i0:Int)))):=Z9 ((uh Tw1).trans ht)
  clear ht Tw1 HF1
  go_upto_region 7 with fail
  clear d1 f1 c3 e1
  generalize X1.setCell ⟨g3,b*3+1,none⟩ (.int .i64 (i0:Int))=X2 at *
  have hD1:(m.desks.set b (op,(i0:Int),mk)).length=m.desks.length:=by simp
  obtain ⟨_,hga,_,_,hc3,hz3⟩:=RecAt.view ZF (by omega) (uh HF2).desks hD1.symm (by show 0<(m.desks.set b _).length;omega)
  cases hga
  have hrk2:Z8 ({ m with smiths:=ss,desks:=m.desks.set b (op,(i0:Int),mk) } : Z3).desks b=(op,(i0:Int),mk):=uh Hset _
  have d2:=hc3 b (by show b<(m.desks.set b _).length;omega) 2 _ rfl
  rw [hrk2] at d2
  simp only at d2
  have f2:=hz3 (b*3+2)
  have c3:=(uh kb).cell (i:=3) (v:= .slice (some ⟨g3,0,none⟩) m.desks.length p3) rfl
  have e0:=(uh ke).cell (i:=0) (v:= .int .i64 hd0) rfl
  have hput:=(uh HF2).putD hD1.symm (j:=b) (i:=2) (by show b<(m.desks.set b _).length;omega) (by omega) (.int .i64 (ZJ mk hd0)) (op,(i0:Int),(ZJ mk hd0)) (by rw [hrk2];rfl)
  simp only [List.set_set] at hput
  clear hc3 hz3 hrk2
  refine ZP (S:=fun w'=>w'.cell? ⟨w.heap.size,3,none⟩=some (.slice (some ⟨g3,0,none⟩) m.desks.length p3)/\w'.cell? ⟨g3,b*3+2,none⟩=some (.int .i64 mk)/\w'.cell? ⟨w2.heap.size,0,none⟩=some (.int .i64 hd0)/\w'.frozen? ⟨g3,b*3+2,none⟩=false) (by kernel_rfl) (List.cons_ne_nil _ _) (by kernel_rfl) ⟨c3,d2,e0,f2⟩ (fun hHeld=> ?_)
  simp only [List.dropLast_cons_cons,List.dropLast_singleton,List.length_cons,List.length_nil,Nat.zero_add,Nat.reduceAdd]
  have hbd:Below X2.heap.size X2 X2.drew:=(Below.refl _ _).drew
  (refine tk 0 rfl (by assumption) ?_;(try simp only [Act.put,sA,sZ,sS]))
  (refine tk 1 rfl (by assumption) ?_;(try simp only [Act.put,sA,sZ,sS]))
  (refine tk 2 rfl (by assumption) ?_;(try simp only [Act.put,sA,sZ,sS]))
  (refine tk 3 rfl (by assumption) ?_;(try simp only [Act.put,sA,sZ,sS]))
  (refine tk 4 rfl (by assumption) ?_;(try simp only [Act.put,sA,sZ,sS]))
  (refine tk 5 rfl (by assumption) ?_;(try simp only [Act.put,sA,sZ,sS]))
  (refine tk 6 rfl (by assumption) ?_;(try simp only [Act.put,sA,sZ,sS]))
  (refine tk 7 rfl (by assumption) ?_;(try simp only [Act.put,sA,sZ,sS]))
  (refine tk 8 rfl (by assumption) ?_;(try simp only [Act.put,sA,sZ,sS]))
  (refine tk 9 rfl (by assumption) ?_;(try simp only [Act.put,sA,sZ,sS]))
  (refine tk 10 rfl (by assumption) ?_;(try simp only [Act.put,sA,sZ,sS]))
  refine rd 11 rfl (fun K hK=> ?_)
  go_simp
  refine (Pu mk hd0 _).mono ?_
  rintro e9 w9 ⟨rfl,hb9'⟩
  have hb9:Below X2.heap.size X2 w9:=hbd.trans hb9'
  clear hb9' hbd
  replace kb:=Z9 ((uh kb).below hb9 (uh kb).lt)
  replace ke:=Z9 ((uh ke).below hb9 (uh ke).lt)
  replace HE:=Z9 ((uh HE).later hb9)
  replace Tw2:=Z9 ((uh Tw2).trans (Two.of_below hb9))
  have HF3:Hid (FullSmy n₀ w9 (.slice a0 m.rooms.length p0) (.slice a1 m.guilds.length p1) (.slice (some ⟨g2,0,none⟩) m.smiths.length p2) (.slice (some ⟨g3,0,none⟩) m.desks.length p3) (.slice a4 m.paces.length p4) { m with smiths:=ss,desks:=m.desks.set b (op,(i0:Int),mk) } qs):=Z9 ((uh HF2).below hb9)
  clear hput
  obtain ⟨_,hga,_,_,hc3,hz3⟩:=RecAt.view ZF (by omega) (uh HF3).desks hD1.symm (by show 0<(m.desks.set b _).length;omega)
  cases hga
  have hrk2:Z8 ({ m with smiths:=ss,desks:=m.desks.set b (op,(i0:Int),mk) } : Z3).desks b=(op,(i0:Int),mk):=uh Hset _
  have d3:=hc3 b (by show b<(m.desks.set b _).length;omega) 2 _ rfl
  rw [hrk2] at d3
  simp only at d3
  have f3:=hz3 (b*3+2)
  have hput:=(uh HF3).putD hD1.symm (j:=b) (i:=2) (by show b<(m.desks.set b _).length;omega) (by omega) (.int .i64 (ZJ mk hd0)) (op,(i0:Int),(ZJ mk hd0)) (by rw [hrk2];rfl)
  simp only [List.set_set] at hput
  have HF4:=Z9 hput
  clear hput hc3 hz3 hrk2
  refine hK.out _ _ ⟨(uh kb).cell (i:=3) rfl,d3,(uh ke).cell (i:=0) rfl,f3⟩ (fun hHeld=> ?_)
  clear hK K c3 e0 d2 f2 hb9
  (try simp only [Act.put,sA,sZ,sS])
  (refine tk 12 rfl (by assumption) ?_;(try simp only [Act.put,sA,sZ,sS]))
  (refine tk 13 rfl (by assumption) ?_;(try simp only [Act.put,sA,sZ,sS]))
  refine wpAnyH_done (by kernel_rfl) ?_ _
  refine ZI rfl rfl ?_
  go_simp
  clear hHeld d3 f3
  have ht:Two (some g2) (some g3) w9 (w9.setCell ⟨g3,b*3+2,none⟩ (.int .i64 (ZJ mk hd0))):=Two.of_set w9 (.inr rfl) _ _
  replace kb:=Z9 ((uh kb).two ht h2R h3R)
  replace HE:=Z9 (Two.ents (uh HE) ht (fun i e=>by cases e;omega) (fun i e=>by cases e;omega))
  have Tw4:Hid (Two (some g2) (some g3) w (w9.setCell ⟨g3,b*3+2,none⟩ (.int .i64 (ZJ mk hd0)))):=Z9 ((uh Tw2).trans ht)
  clear ht Tw2 HF3 HF2 ke
  generalize w9.setCell ⟨g3,b*3+2,none⟩ (.int .i64 (ZJ mk hd0))=X4 at *
  obtain ⟨ds,hds⟩:∃ q,m.desks.set b (op,(i0:Int),(ZJ mk hd0))=q:=⟨_,rfl⟩
  rw [hds] at Hcons HF4
  clear hds hD1
  have h2X:g2<X4.heap.size:=by have h9:=(uh HF4).smiths;exact (RecAt.lt h9 rfl).2
  have h3X:g3<X4.heap.size:=by have h9:=(uh HF4).desks;exact (RecAt.lt h9 rfl).2
  go_wp2_with fail
  refine (OX (uh HE).paces (by omega)).mono ?_
  rintro e w5 ⟨v5,rfl,he5,hb5⟩
  obtain ⟨ya,yc,rfl⟩:=EntsAt.shape he5
  have HE5:=Z9 he5
  have hX4:w.heap.size<X4.heap.size:=(uh kb).lt
  replace kb:=Z9 ((uh kb).below hb5 (uh kb).lt)
  replace HF4:=Z9 ((uh HF4).below hb5)
  replace Tw4:=Z9 ((uh Tw4).trans (Two.of_below hb5))
  clear he5 hb5 HE
  go_wp2_with fail
  go_loopw [54] (fun i wi=> ∃ j:Nat,j<=t.length/\i= .int .i64 j/\FullSmy n₀ wi (.slice a0 m.rooms.length p0) (.slice a1 m.guilds.length p1) (.slice (some ⟨g2,0,none⟩) m.smiths.length p2) (.slice (some ⟨g3,0,none⟩) m.desks.length p3) (.slice a4 m.paces.length p4) { m with smiths:=ZL ss (t.take j),desks:=ds } qs/\Two (some g2) (some g3) w5 wi) (fun i _=>t.length-(intOf i).toNat)
  case atStart=>exact ⟨0,Nat.zero_le _,rfl,by simpa [ZL] using uh HF4,Two.refl _ _ _⟩
  case round=>
   obtain ⟨j,hj,rfl,hf3,htw3⟩:=hrel
   have HF5:=Z9 hf3
   have Tw5:=Z9 htw3
   have K5:=Z9 ((uh kb).two htw3 h2R h3R)
   have HE6:=Z9 (Two.ents (uh HE5) htw3 (fun i e=>by cases e;exact h2X) (fun i e=>by cases e;exact h3X))
   have hzr:=htw3.size
   clear hf3 htw3
   by_cases hjl:j<t.length
   ·obtain ⟨_,_,hqe,_,_,hr⟩:=EntsAt.paces (uh HE6)
    cases hqe
    rcases hr with e0 | ⟨eb,eo,rfl,hbw,hcl⟩
    ·rw [e0] at hjl;simp at hjl
    obtain ⟨d0,d1⟩:=hcl j hjl
    obtain ⟨i2,hi2,hie⟩:=uh Hmt _ (XQ hjl)
    rw [hie] at d1
    have Htk:Hid (ZL ss (t.take (j+1))=(ZL ss (t.take j)).set i2 (stS (Z8 (ZL ss (t.take j)) i2) 2)):=Z9 (by rw [MF hjl,SE,hie];simp)
    obtain ⟨hh,hhh⟩:∃ q,(Z7 t j).1=q:=⟨_,rfl⟩
    rw [hhh] at d0
    have hjl1:(j:Int)<(t.length:Int):=by omega
    clear hcl hie hhh
    go_upto_region 11 with fail
    clear d0 d1
    obtain ⟨Y,hY,hba,ke⟩:=Zy wr 45 #[.int .i64 hh,.int .i64 (i2:Int)]
    replace K5:=bl K5 hba
    replace HF5:=Z9 ((uh HF5).below hba)
    replace Tw5:=Z9 ((uh Tw5).trans (Two.of_below hba))
    clear hba
    rw [hY]
    clear hY
    have hwl:(ZL ss (t.take j)).length=m.smiths.length:=by rw [Yk,hsl]
    obtain ⟨_,hga,_,_,hc2,hz2⟩:=RecAt.view ZW (by omega) (uh HF5).smiths hwl.symm (by show 0<(ZL ss (t.take j)).length;omega)
    cases hga
    have s0:=hc2 i2 (by show i2<(ZL ss (t.take j)).length;omega) 0 _ rfl
    have f0:=hz2 (i2*11)
    have hput:=(uh HF5).putS hwl.symm (j:=i2) (i:=0) (by show i2<(ZL ss (t.take j)).length;omega) (by omega) (.int .i64 2) (stS (Z8 (ZL ss (t.take j)) i2) 2) rfl
    simp only [Nat.add_zero] at s0 hput
    have HF6:=Z9 hput
    have c2:=(uh K5).cell (i:=2) (v:= .slice (some ⟨g2,0,none⟩) m.smiths.length p2) rfl
    have e1:=(uh ke).cell (i:=1) (v:= .int .i64 (i2:Int)) rfl
    have hi3:(i2:Int)<(m.smiths.length:Int):=by omega
    clear hput hc2 hz2 hwl
    go_wp2_with fail
    go_roundw
    case rel=>exact ⟨j+1,by omega,by go_num,by rw [uh Htk];exact uh HF6,(uh Tw5).trans (Two.of_set _ (.inl rfl) _ _)⟩
    case measure=>simp [intOf];omega
   ·obtain rfl:j=t.length:=by omega
    rw [List.take_length] at HF5
    go_wp2_with fail
    go_end0
    exact ⟨rfl,by rw [uh Hcons];exact uh HF5,(uh Tw4).trans (uh Tw5)⟩
theorem TG (w:World) (v0 v1 v2 v3 v4:Value) (m:Z3) (h:Smy w v0 v1 v2 v3 v4 m) :
  Calls Tryz.prog 25 #[.agg #[v0,v1,v2,v3,v4,.int .i64 m.now]] w fun e w'=> ∃ u0 u1 u2 u3 u4 rs,e= .returned (.agg #[u0,u1,u2,u3,u4,.int .i64 (XZ m).now])/\FullSmy w.heap.size w' u0 u1 u2 u3 u4 (XZ m) rs/\Below w.heap.size w w':=by
 obtain ⟨M,hM⟩:∃ x,XZ m=x:=⟨_,rfl⟩
 rw [hM]
 have HM:=Z9 hM
 clear hM
 have Hv0:=Z9 h
 obtain ⟨a0,p0,a1,p1,a2,p2,a3,p3,a4,p4,rfl,rfl,rfl,rfl,rfl,_,_,_,_,_,_,_,_,_,_⟩:=h.five
 clear h
 obtain ⟨ok,hok⟩:∃ q,YZ m=q:=⟨_,rfl⟩
 have Hok:=Z9 hok
 have Hok2:Hid (W6 m=ok):=Z9 (by rw [SP];exact hok)
 clear hok
 go_enter Tryz.func25,Tryz.ntmps25
 go_wp2_with fail
 obtain ⟨W,hW,kb,kr,BB⟩:=YP w 32 (S6 a0 p0 a1 p1 a2 p2 a3 p3 a4 p4 m) 32 E6
 have Hv:=Z9 ((uh Hv0).below (uh BB))
 rw [hW]
 clear hW
 refine (Tv (uh Hv)).mono ?_
 rw [uh Hok2]
 rintro e w1 ⟨rfl,hb⟩
 replace Hv:=Z9 ((uh Hv).below hb)
 replace kb:=bl kb hb
 replace kr:=bl kr hb
 replace BB:=bt BB hb
 clear hb
 cases ok
 ·
  obtain rfl:M=YB:=by rw [<-uh HM];unfold XZ;rw [uh Hok];rfl
  obtain ⟨o0,o1,o2,o3,o4,o5⟩:=(uh kr).c6
  obtain ⟨f0,f1,f2,f3,f4,f5⟩:=(uh kr).f6
  go_wp2_with fail
  refine bodyPost_ret (v:= .agg #[.slice none 0 0,.slice none 0 0,.slice none 0 0,.slice none 0 0,.slice none 0 0,.int .i64 0]) (by simp [results,Tryz.results25,go_sem, *]) rfl ⟨_,_,_,_,_,[],rfl,YO _ _,?_⟩
  iterate 6 (refine Below.setCell ?_ (by show _<=w.heap.size+1;omega) _)
  exact uh BB
 obtain rfl:M=Z1 m:=by rw [<-uh HM];unfold XZ;rw [uh Hok];rfl
 have hlo:=Wh (uh Hok)
 have HLo:=Z9 hlo
 have HFew:=Z9 (XF hlo)
 clear hlo
 obtain ⟨c0,c1,c2,c3,c4,c5⟩:=(uh kb).c6
 go_wp2_with fail
 clear c0 c1 c2 c3 c4 c5
 have hWs:w.heap.size+2<=w1.heap.size:=by have:=(uh kr).lt;omega
 refine (Ry (uh Hv) (uh HFew)).mono ?_
 rintro e w2 ⟨y0,y1,y2,y3,y4,oq,rfl,ho,hb⟩
 have k9:=ho.smy
 obtain ⟨b0,q0,b1,q1,b2,q2,b3,q3,b4,q4,rfl,rfl,rfl,rfl,rfl,_,_,_,_,_,_,_,_,_,_⟩:=k9.five
 replace Hv:=Z9 ((uh Hv).below hb)
 replace kb:=bl kb hb
 replace kr:=bl kr hb
 replace BB:=bt BB hb
 have HO:=Z9 (ho.mono hWs)
 have LO:Hid (∀ k,YC (.slice b0 m.rooms.length q0) (.slice b1 m.guilds.length q1) (.slice b2 m.smiths.length q2) (.slice b3 m.desks.length q3) (.slice b4 m.paces.length q4) oq k->w.heap.size+2<=k/\k<w2.heap.size):=Z9 (fun k e=>(uh HO).own e)
 have hsz9:=hb.size
 clear ho hb k9
 go_upto_region 4 with fail
 obtain ⟨W2,hW2,hb,ko⟩:=Zy w2 32 (S6 b0 q0 b1 q1 b2 q2 b3 q3 b4 q4 m)
 replace Hv:=Z9 ((uh Hv).below hb)
 replace kb:=bl kb hb
 replace kr:=bl kr hb
 replace BB:=bt BB hb
 replace HO:=Z9 ((uh HO).below hb)
 have hob:w.heap.size+2<=w2.heap.size:=Nat.le_trans hWs hsz9
 clear hb hsz9 hWs
 rw [hW2]
 clear hW2
 generalize w2.heap.size=ob at *
 have x3:=(uh ko).cell (i:=3) (v:= .slice b3 m.desks.length q3) rfl
 go_wp2_with fail
 clear x3
 go_loopw [4,14] (fun u i wr=> ∃ k:Nat,k<=m.desks.length/\i= .int .i64 k/\FullSmy (w.heap.size+2) wr (.slice b0 m.rooms.length q0) (.slice b1 m.guilds.length q1) (.slice b2 m.smiths.length q2) (.slice b3 m.desks.length q3) (.slice b4 m.paces.length q4) (Zs m k) oq/\Two (Value.slice b2 m.smiths.length q2).ownBlock (Value.slice b3 m.desks.length q3).ownBlock W2 wr) (fun _ i _=>m.desks.length-(intOf i).toNat)
 case atStart=>exact ⟨0,Nat.zero_le _,rfl,uh HO,Two.refl _ _ _⟩
 case round=>
  obtain ⟨k,hk,rfl,hf1,htw⟩:=hrel
  have H2:(Value.slice b2 m.smiths.length q2).ownBlock ≠ some ob:=fun e=>by have:=(uh LO _ (.inr (.inr (.inr (.inl e))))).2;omega
  have H3:(Value.slice b3 m.desks.length q3).ownBlock ≠ some ob:=fun e=>by have:=(uh LO _ (.inr (.inr (.inr (.inr (.inl e)))))).2;omega
  have ko1:=Z9 ((uh ko).two htw H2 H3)
  have HF1:=Z9 hf1
  have Tw:=Z9 htw
  clear hf1 htw H2 H3
  have hnow:(Zs m k).now=m.now:=(ZQ m k).2.2.2.1
  have hdl:(Zs m k).desks.length=m.desks.length:=(ZQ m k).2.2.2.2.2
  by_cases hlt:k<m.desks.length
  ·have hlt1:(k:Int)<(m.desks.length:Int):=by omega
   have hc:=JB (b:=k) (uh HF1) (MI (uh HLo) k hk) (by omega)
   rw [hnow] at hc
   have Hc:=Z9 hc
   clear hc hnow hdl
   obtain ⟨x0,x1,x2,x3,x4,x5⟩:=(uh ko1).c6
   go_wp2_with fail
   clear x0 x1 x2 x3 x4 x5
   refine (uh Hc).mono ?_
   rintro e w5 ⟨rfl,hf5,ht5⟩
   have HF5:=Z9 hf5
   have T5:=Z9 ((uh Tw).trans ht5)
   clear hf5 ht5
   go_wp2_with fail
   go_roundw
   case rel=>exact ⟨k+1,by omega,by go_num,uh HF5,uh T5⟩
   case measure=>simp [intOf];omega
  ·
   obtain rfl:k=m.desks.length:=by omega
   replace kr:=Z9 ((uh kr).two (uh Tw) (fun e=>by have:=(uh LO _ (.inr (.inr (.inr (.inl e))))).1;omega) (fun e=>by have:=(uh LO _ (.inr (.inr (.inr (.inr (.inl e)))))).1;omega))
   replace BB:=Z9 ((uh BB).trans ((uh Tw).below (uh BB).size (fun k e=>by have:=(uh LO k (.inr (.inr (.inr (.inl e))))).1;omega) (fun k e=>by have:=(uh LO k (.inr (.inr (.inr (.inr (.inl e)))))).1;omega)))
   obtain ⟨x0,x1,x2,x3,x4,x5⟩:=(uh ko1).c6
   obtain ⟨o0,o1,o2,o3,o4,o5⟩:=(uh kr).c6
   obtain ⟨f0,f1,f2,f3,f4,f5⟩:=(uh kr).f6
   have Hnow:Hid ((Z1 m).now=m.now):=Z9 hnow
   clear hnow hdl
   go_wp2_with fail
   refine bodyPost_ret (v:= .agg #[.slice b0 m.rooms.length q0,.slice b1 m.guilds.length q1,.slice b2 m.smiths.length q2,.slice b3 m.desks.length q3,.slice b4 m.paces.length q4,.int .i64 m.now]) (by simp [results,Tryz.results25,go_sem, *]) rfl ⟨_,_,_,_,_,oq,by rw [uh Hnow],?_,?_⟩
   ·iterate 6 (refine FullSmy.set_off ?_ (fun k e=>by have:=(uh LO k e).1;omega) _ _)
    exact (uh HF1).mono (by omega)
   ·iterate 6 (refine Below.setCell ?_ (by show _<=w.heap.size+1;omega) _)
    exact uh BB
theorem Wg  {rs:List Z0} (n:Int) (h:IsRooms w v rs) (h1:Xf rs n=true) :
  Calls Tryz.prog 301 #[.agg #[v],.int .i64 n] w fun e w'=>e= .returned (.int .i64 (VK (ZV rs (WU rs n)).2))/\Below w.heap.size w w':=by
 have Hv:=Z9 h
 obtain ⟨a,cap,rfl,hc,hm⟩:∃ a cap,v= .slice a rs.length cap/\rs.length<=cap/\cap<=9223372036854775807:=by obtain ⟨a,cap,rfl,hc,hm,_⟩:=h;exact ⟨a,cap,rfl,hc,hm⟩
 clear h
 have hlt:=PV h1
 have Hh:=Z9 (WA h1).1
 have H1:=Z9 h1
 have hl3:rs.length<=3:=(Ze (WA h1).1).2.1
 clear h1
 have hw1:=(uh Hv).alloc (.cells #[.slice a rs.length cap] 26)
 have Hw1:=Z9 hw1
 obtain ⟨b,off,a',cap',rfl,hbw,d1,p1,p4,sp,hbw',d2⟩:=Fj hw1 hlt (uh Hh)
 obtain ⟨b',off',sp'⟩:=a'
 simp only at sp hbw' d2
 subst sp
 clear hw1
 have k0:=cell_regrown (w:=w.alloc (.cells #[.slice (some ⟨b,off,none⟩) rs.length cap] 26)) (a:=⟨w.heap.size,0,none⟩) (v:= .slice (some ⟨b,off,none⟩) rs.length cap) (by simp)
 have k1:=cell_regrown d1
 have k2:=cell_regrown d2
 clear d1 d2
 go_enter Tryz.func301,Tryz.ntmps301
 go_wp2_with fail
 refine wp_region_quiet_below (by kernel_rfl) (by kernel_rfl) ?_
 repeat (go_big_quiet_step (exact Calls.regrown_of (SO n ((uh Hw1).below (below_regrown _ _ _)) (uh H1))))
 refine wpQuiet_nil ?_
 intro _ hw'
 obtain ⟨⟨dq,osq⟩,hw''⟩:=hw'
 subst hw''
 generalize hr1:WU rs n=r at *
 generalize hr2:VK (ZV rs r).2=fo at *
 generalize (ZV rs r).2.length=m at *
 have Hr1:=Z9 hr1
 have Hr2:=Z9 hr2
 clear hr1 hr2
 go_wp2_with fail
 go_ret
 exact ⟨Zv (by rw [uh Hr1,uh Hr2]),((Below.refl _ _).alloc (Nat.le_refl _) _).trans ((below_regrown _ _ _).mono (by simp))⟩
theorem Vy (x:Int) (w:World):Calls Tryz.prog 167 #[.int .i64 x] w fun e w'=>e= .returned (.bool (inB x 0 1000000))/\w'=w:=by
 go_enter Tryz.func167,Tryz.ntmps167
 go_wp2_with (go_at_call 128;refine (ZZ _ _ _ _).mono ?_;rintro e w' ⟨rfl,rfl⟩)
 go_ret
 exact ⟨rfl,rfl⟩
theorem Uf  {ps:List Z6} (b need:Int) (h:IsPaces w v ps) :
  Calls Tryz.prog 102 #[.agg #[.int .i64 b,v],.int .i64 need] w fun e w'=>e= .returned (.int .i64 (XM (b,ps) need))/\Below w.heap.size w w':=by
 have Hv:=Z9 h
 obtain ⟨a,cap,rfl,hc,hm,hrow⟩:=h
 clear hrow
 cases hr:Zq (b,ps)
 ·rw [Mh hr]
  go_enter Tryz.func102,Tryz.ntmps102
  go_wp2_with fail
  refine (YV b ((uh Hv).below ((Below.refl _ _).alloc (Nat.le_refl _) _))).mono ?_
  rintro e w1 ⟨rfl,hb⟩
  have B1:Hid (Below w.heap.size w w1):=Z9 (((Below.refl _ _).alloc (Nat.le_refl _) _).trans (hb.mono (by simp)))
  clear hb
  go_wp2_with fail
  go_ret
  exact ⟨rfl,uh B1⟩
 cases hn:inB need 0 1000000
 ·rw [Mi hn]
  go_enter Tryz.func102,Tryz.ntmps102
  go_wp2_with fail
  refine (YV b ((uh Hv).below ((Below.refl _ _).alloc (Nat.le_refl _) _))).mono ?_
  rintro e w1 ⟨rfl,hb⟩
  have B1:Hid (Below w.heap.size w w1):=Z9 (((Below.refl _ _).alloc (Nat.le_refl _) _).trans (hb.mono (by simp)))
  clear hb
  go_wp2_with (go_at_call 167;refine (Vy _ _).mono ?_;rintro e w' ⟨rfl,rfl⟩)
  go_ret
  exact ⟨rfl,uh B1⟩
 rw [Kj hr hn]
 have Hr:=Z9 hr
 have hn':=hn
 obtain ⟨n0,n1⟩:=ZS hn'
 clear hn'
 go_enter Tryz.func102,Tryz.ntmps102
 go_wp2_with fail
 refine (YV b ((uh Hv).below ((Below.refl _ _).alloc (Nat.le_refl _) _))).mono ?_
 rintro e w1 ⟨rfl,hb⟩
 have x1:w1.cell? ⟨w.heap.size,1,none⟩=some (.slice a ps.length cap):=(hb.cell (p:=⟨w.heap.size,1,none⟩) (by simp)).trans (by simp)
 have B1:Hid (Below w.heap.size w w1):=Z9 (((Below.refl _ _).alloc (Nat.le_refl _) _).trans (hb.mono (by simp)))
 clear hb
 have hv1:=(uh Hv).below (uh B1)
 obtain ⟨a',cap',he,_,_,hrow⟩:=hv1
 cases he
 have hbd:=Ny (uh Hr)
 simp only at hbd
 obtain ⟨_,_,hl1,hl4⟩:=hbd
 rcases hrow with h0 | ⟨bk,off,rfl,hbw,hcl⟩
 ·rw [h0] at hl1;simp at hl1
 have Hcl:=Z9 hcl
 clear hcl
 go_wp2_with (go_at_call 167;refine (Vy _ _).mono ?_;rintro e w' ⟨rfl,rfl⟩)
 clear hr hn
 go_loop [5] (fun i=> ∃ k:Nat,k+1<=ps.length/\i= .int .i64 k/\(∀ j,j<k->Tg need (Z7 ps j)=false)) (fun i=>ps.length-(intOf i).toNat)
 case atStart=>exact ⟨0,by omega,rfl,fun j hj=>by omega⟩
 case round=>
  obtain ⟨k,hk,rfl,hlo⟩:=hrel
  have Hlo:=Z9 hlo
  clear hlo
  by_cases hlast:k+1=ps.length
  ·have Hp:=Z9 (PL need ps k hk (uh Hlo) (.inl hlast))
   have hd:¬ (k:Int)+1<(ps.length:Int):=by omega
   go_wp2_with fail
   go_ret
   exact ⟨Zv (by rw [uh Hp]),uh B1⟩
  ·have hd:(k:Int)+1<(ps.length:Int):=by omega
   obtain ⟨c0,c1⟩:=uh Hcl k (by omega)
   have hpb:=Ok (uh Hr) (k:=k) (show k<ps.length by omega)
   simp only at hpb
   generalize hp:Z7 ps k=p at c0 c1 hpb
   have Hp:=Z9 hp
   clear hp
   obtain ⟨f,c⟩:=p
   simp only at c0 c1 hpb
   obtain ⟨f0,f1,_,_⟩:=hpb
   by_cases hen:4*f<5*need
   ·go_wp2_with fail
    go_round
    case rel=>exact ⟨k+1,by omega,by go_num,Yn (uh Hlo) (by rw [uh Hp];exact FJ hen)⟩
    case measure=>simp [intOf];omega
   ·have Hq:=Z9 (PL need ps k hk (uh Hlo) (.inr (by rw [uh Hp];exact FK (by simp only;omega))))
    go_wp2_with fail
    go_ret
    exact ⟨Zv (by rw [uh Hq]),uh B1⟩
end Go.Proofs.YtnponpamjddpjaaGreat
