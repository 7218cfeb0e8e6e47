/- Part 12 of what the proof rests on. No condition but those that a theorem names. -/
import Derived.Test.YtffcgajndmhpkaaGreatDoorXt11
set_option maxHeartbeats 8000000
set_option maxRecDepth 100000
namespace Go.Proofs.YtffcgajndmhpkaaGreatDoor
open Go.ChangeShapes Go.WideShapes Go.ChangeAt Go.RowKit Go.Sort
set_option linter.unusedVariables false
theorem TS {w:World} {v:Value} {rs:List Z2} (n:Int) (h:IsRooms w v rs) (hbn:Zb rs n=true) :
  Calls Tryz.prog 41 #[.agg #[v],.int .i64 n] w fun e w'=>e= .returned (.int .i64 (XN rs n))/\Below w.heap.size w w':=by
 obtain ⟨a,cap,rfl,hc,hm,hr⟩:=h
 have Hr:=Z9 hr
 have H:=Z9 hbn
 have hh:=(Wm hbn).1
 have hn0:=(Wm hbn).2.1
 have hn1:n<12:=by have h1:=(Wm hbn).2.2;have:=(Zo hh).2.2.2;omega
 have Hh:=Z9 hh
 have hl3:rs.length<=3:=(Zo hh).2.1
 clear hr hbn hh
 go_enter Tryz.func41,Tryz.ntmps41
 go_wp2_with fail
 go_loop [1,5] (fun q i=> ∃ r:Nat,r<=rs.length/\i= .int .i64 r/\q= .int .i64 (n-ZY (rs.take r))/\(∀ j,j<r->ZY (rs.take (j+1))<=n)) (fun _ i=>rs.length-(intOf i).toNat)
 case atStart=>exact ⟨0,Nat.zero_le _,rfl,by simp [ZY],fun j hj=>by omega⟩
 case round=>
  obtain ⟨r,hr,rfl,rfl,hl⟩:=hrel
  have hlt:=SP (uh H) hr hl
  rcases uh Hr with e0 | ⟨b,off,rfl,hbw,hcl⟩
  ·rw [e0] at hlt;simp at hlt
  obtain ⟨c0,pv,c1,hip⟩:=hcl r hlt
  have hne:b ≠ w.heap.size:=Nat.ne_of_lt hbw
  have Hl:=Z9 hl
  have hb0:=VK (uh Hh) r hr
  have hb1:=VK (uh Hh) (r+1) hlt
  have Hs:=Z9 (X8 rs hlt)
  have HN:Hid (n<ZY (rs.take (r+1))->XN rs n=r):=Z9 (fun hx=>OU hlt hx (uh Hl))
  have HM:Hid (ZY (rs.take (r+1))<=n-> ∀ j,j<r+1->ZY (rs.take (j+1))<=n):=Z9 (fun hx=>Yu (uh Hl) hx)
  rw [X8 rs hlt] at hb1 HN HM
  generalize ZY (rs.take r)=s at *
  generalize (ZV rs r).1=rb at *
  clear hcl hip hl
  by_cases hq:rb<=n-s
  ·go_wp2_with fail
   go_round
   case rel=>exact ⟨r+1,by omega,by go_num,by rw [uh Hs];congr 1;omega,uh HM (by omega)⟩
   case measure=>exact ms
  ·go_wp2_with fail
   go_ret
   exact ⟨ZD (by rw [uh HN (by omega)]),(ba _ _)⟩
theorem JX {w:World} {v:Value} {rs:List Z2} (n:Int) (h:IsRooms w v rs) :
  Calls Tryz.prog 48 #[.agg #[v],.int .i64 n] w fun e w'=>e= .returned (.bool (Zb rs n))/\Below w.heap.size w w':=by
 have Hv:=Z9 h
 obtain ⟨a,cap,rfl,hc,hm⟩:∃ a cap,v= .slice a rs.length cap/\rs.length<=cap/\cap<=9223372036854775807:=by obtain ⟨a,cap,rfl,hc,hm,_⟩:=h;exact ⟨a,cap,rfl,hc,hm⟩
 clear h
 cases h1:Zf rs
 ·have H2:=Z9 (Ou (n:=n) h1)
  go_enter Tryz.func48,Tryz.ntmps48
  go_wp2_with fail
  refine ck (Xt ((uh Hv).alloc _)) fun w1 hb=> ?_
  have Hb:=Z9 hb
  clear hb
  go_wp2_with fail
  go_ret
  exact ⟨Z5 (uh H2).symm,((ba _ _)).trans ((uh Hb).mono (by simp))⟩
 ·have H2:Hid (Zb rs n=inB n 0 (ZY rs-1)):=Z9 (by unfold Zb;rw [h1];rfl)
  have hbs:=VK h1 rs.length (Nat.le_refl _)
  rw [VJ] at hbs
  have H1:=Z9 h1
  go_enter Tryz.func48,Tryz.ntmps48
  go_wp2_with fail
  refine ck (Xt ((uh Hv).alloc _)) fun w1 hb=> ?_
  have hz:w.heap.size+1<=w1.heap.size:=by have:=hb.size;simpa using this
  have hbox:w1.cell? ⟨w.heap.size,0,none⟩=some (.slice a rs.length cap):=by rw [hb.cell (p:=⟨w.heap.size,0,none⟩) (by simp)];simp
  have hw1:=Z9 (((uh Hv).alloc _).below hb)
  have Hb:=Z9 hb
  clear hb
  go_wp2_with fail
  refine ck (UY (uh hw1) (Ui (uh H1))) fun w2 hb2=> ?_
  have Hb2:=Z9 hb2
  clear hb2
  generalize ZY rs=s at *
  go_wp2_with fail
  refine (Z1 _ _ _ _).mono ?_
  rintro e w' ⟨rfl,rfl⟩
  go_wp2_with fail
  go_ret
  exact ⟨Z5 (uh H2).symm,((ba _ _)).trans (((uh Hb).trans ((uh Hb2).mono (uh Hb).size)).mono (by simp))⟩
theorem Pe {w:World} {v:Value} {rs:List Z2} (n:Int) (h:IsRooms w v rs) :
  Calls Tryz.prog 13 #[.agg #[v],.int .i64 n] w fun e w'=>e= .returned (.int .i64 (OV rs n))/\Below w.heap.size w w':=by
 have Hv:=Z9 h
 obtain ⟨a,cap,rfl,hc,hm⟩:∃ a cap,v= .slice a rs.length cap/\rs.length<=cap/\cap<=9223372036854775807:=by obtain ⟨a,cap,rfl,hc,hm,_⟩:=h;exact ⟨a,cap,rfl,hc,hm⟩
 clear h
 cases h1:Zb rs n
 ·have H2:=Z9 (Ma h1)
  go_enter Tryz.func13,Tryz.ntmps13
  go_wp2_with fail
  refine ck (JX n ((uh Hv).alloc _)) fun w1 hb=> ?_
  have Hb:=Z9 hb
  clear hb
  go_wp2_with fail
  go_ret
  exact ⟨ZD (uh H2).symm,((ba _ _)).trans ((uh Hb).mono (by simp))⟩
 ·have H2:=Z9 (Px h1)
  have H1:=Z9 h1
  go_enter Tryz.func13,Tryz.ntmps13
  go_wp2_with fail
  refine ck (JX n ((uh Hv).alloc _)) fun w1 hb=> ?_
  have hz:w.heap.size+1<=w1.heap.size:=by have:=hb.size;simpa using this
  have hbox:w1.cell? ⟨w.heap.size,0,none⟩=some (.slice a rs.length cap):=by rw [hb.cell (p:=⟨w.heap.size,0,none⟩) (by simp)];simp
  have hw1:=Z9 (((uh Hv).alloc _).below hb)
  have Hb:=Z9 hb
  clear hb
  go_wp2_with fail
  refine ck (TS n (uh hw1) (uh H1)) fun w2 hb2=> ?_
  have Hb2:=Z9 hb2
  clear hb2
  go_wp2_with fail
  go_ret
  exact ⟨ZD (uh H2).symm,((ba _ _)).trans (((uh Hb).trans ((uh Hb2).mono (uh Hb).size)).mono (by simp))⟩
theorem CX {w:World} {a:Option Addr} {cap:Nat} {rs:List Z2} {r:Nat} (h:IsRooms w (.slice a rs.length cap) rs) (hr:r<rs.length) (hh:Zf rs=true) :
  ∃ b off a' cap',a=some ⟨b,off,none⟩/\b<w.heap.size/\w.cell? ⟨b,off+r*2+1,none⟩=some (.slice (some a') (ZV rs r).2.length cap')/\1<=(ZV rs r).2.length/\(ZV rs r).2.length<=4/\a'.spot=none/\a'.block<w.heap.size/\w.cell? ⟨a'.block,a'.off+((ZV rs r).2.length-1)*2,none⟩=some (.int .i64 (VE (ZV rs r).2)):=by
 obtain ⟨a0,cap0,he,hc,hm,hr'⟩:=h
 cases he
 rcases hr' with e0 | ⟨b,off,rfl,hbw,hcl⟩
 ·rw [e0] at hr;simp at hr
 obtain ⟨_,pv,c1,hip⟩:=hcl r hr
 have hb:=Mb (PZ (Zo hh).2.2.1 hr)
 obtain ⟨pa,pcap,rfl,_,_,hp⟩:=hip
 rcases hp with e1 | ⟨b',off',rfl,hbw',hcl'⟩
 ·rw [e1] at hb;simp at hb
 ·exact ⟨b,off,⟨b',off',none⟩,pcap,rfl,hbw,c1,hb.2.2.1,hb.2.2.2,rfl,hbw',(hcl' _ (by omega)).1⟩
theorem Fp {s:Int} (h0:0<=s) (h1:s<=12):1<=(2:Int) ^ s.toNat/\(2:Int) ^ s.toNat<=4096:=by
 have key:∀ k:Fin 13,1<=(2:Int) ^ k.val/\(2:Int) ^ k.val<=4096:=by decide
 exact key ⟨s.toNat,by omega⟩
theorem I4 {x:Int} (h0 : -100000<=x) (h1:x<=100000):wrap64 x=x:=by unfold wrap64;omega
theorem Te (b:Int) (h0:0<=b) (h1:b<=12) (w:World):Calls Tryz.prog 255 #[.int .i64 b] w fun e w'=>e= .returned (.int .i64 (2 ^ b.toNat))/\w'=w:=by
 go_enter Tryz.func255,Tryz.ntmps255
 go_wp2
 all_goals
  go_ret
  refine ⟨ZD ?_,rfl⟩
  have:=Fp h0 h1
  exact I4 (by omega) (by omega)
open Go.ChangeShapes Go.WideShapes Go.ChangeAt Go.RowKit
def UE (s:Int):Nat->List Int
 | 0=>[]
 | k+1=>if Sb s k=true then UE s k++[(k:Int)] else UE s k
def J8 (s:Int):List Int:=UE s 8
def WB (s:Int):Int:=(J8 s).headD (-1)
theorem RS {s:Int} {k:Nat} (h:Sb s k=true):UE s (k+1)=UE s k++[(k:Int)]:=by simp [UE,h]
theorem SQ {s:Int} {k:Nat} (h:Sb s k=false):UE s (k+1)=UE s k:=by simp [UE,h]
theorem La (s:Int):∀ k,(UE s k).length<=k
 | 0=>by simp [UE]
 | k+1=>by
  have:=La s k
  cases h:Sb s k
  ·rw [SQ h];omega
  ·rw [RS h];simp;omega
theorem M0 {s:Int} (h:inB s 0 255=false):∀ k,UE s k=[]
 | 0=>rfl
 | k+1=>by rw [SQ (Im (.inl h))];exact M0 h k
theorem Ex (s:Int):∀ k,k<=8->UE s k <+: J8 s:=by
 have step:∀ k,UE s k <+: UE s (k+1):=fun k=>by
  cases h:Sb s k
  ·rw [SQ h];exact List.prefix_refl _
  ·rw [RS h];exact List.prefix_append _ _
 have go:∀ d k,UE s k <+: UE s (k+d):=by
  intro d
  induction d with
  | zero=>intro k;exact List.prefix_refl _
  | succ d ih=>intro k;exact (ih k).trans (step (k+d))
 intro k hk
 have:=go (8-k) k
 rwa [show k+(8-k)=8 by omega] at this
def ZS {α:Type} [Inhabited α] (p:α->Bool) (xs:List α):Nat->List Int
 | 0=>[]
 | k+1=>if p (Z8 xs k) then ZS p xs k++[(k:Int)] else ZS p xs k
theorem YE {α:Type} [Inhabited α] {p:α->Bool} {xs:List α} {k:Nat} (h:p (Z8 xs k)=true):ZS p xs (k+1)=ZS p xs k++[(k:Int)]:=by rw [ZS,if_pos h]
theorem Yb {α:Type} [Inhabited α] {p:α->Bool} {xs:List α} {k:Nat} (h:p (Z8 xs k)=false):ZS p xs (k+1)=ZS p xs k:=by rw [ZS,if_neg (by simp [h])]
theorem Wb {α:Type} [Inhabited α] (p:α->Bool) (xs:List α):∀ k,(ZS p xs k).length<=k
 | 0=>Nat.le_refl _
 | k+1=>by
  have:=Wb p xs k
  unfold ZS
  split
  ·simp;omega
  ·omega
theorem WT {α:Type} [Inhabited α] (p:α->Bool) (xs:List α) (x:Int):∀ k,x ∈ ZS p xs k ↔ ∃ i:Nat,i<k/\x=(i:Int)/\p (Z8 xs i)=true
 | 0=>by simp [ZS]
 | k+1=>by
  have ih:=WT p xs x k
  cases h:p (Z8 xs k)
  ·rw [Yb h,ih]
   constructor
   ·rintro ⟨i,hi,h1,h2⟩
    exact ⟨i,by omega,h1,h2⟩
   ·rintro ⟨i,hi,h1,h2⟩
    by_cases hik:i=k
    ·subst hik;rw [h] at h2;cases h2
    ·exact ⟨i,by omega,h1,h2⟩
  ·rw [YE h,List.mem_append,ih]
   constructor
   ·rintro (⟨i,hi,h1,h2⟩ | h1)
    ·exact ⟨i,by omega,h1,h2⟩
    ·exact ⟨k,by omega,by simpa using h1,h⟩
   ·rintro ⟨i,hi,h1,h2⟩
    by_cases hik:i=k
    ·subst hik;right;simp [h1]
    ·exact .inl ⟨i,by omega,h1,h2⟩
theorem Qr {α:Type} [Inhabited α] (p:α->Bool) (xs:List α):∀ k,decide (0<(ZS p xs k).length)=(List.range k).any fun j=>p (Z8 xs j)
 | 0=>rfl
 | k+1=>by
  have ih:=Qr p xs k
  rw [Dd,<-ih]
  cases h:p (Z8 xs k)
  ·rw [Yb h];simp
  ·rw [YE h];simp
def Yy {α:Type} [Inhabited α] (p:α->Bool) (xs:List α) (k:Nat):Bool:=(List.range k).all fun j=>p (Z8 xs j)
theorem Rg {α:Type} [Inhabited α] {p:α->Bool} {xs:List α} {k n:Nat} (hk:k<n) (h:p (Z8 xs k)=false):Yy p xs n=false:=RW (p:=fun j=>p (Z8 xs j)) hk h
theorem Rh {α:Type} [Inhabited α] {p:α->Bool} {xs:List α} {k:Nat} (h:Yy p xs k=true) (h2:p (Z8 xs k)=true):Yy p xs (k+1)=true:=by unfold Yy at h ⊢;rw [UG,h,h2];rfl
theorem Qw {α:Type} [Inhabited α] (p q:α->Bool) (xs:List α):∀ k,(Yy p xs k && Yy q xs k)=Yy (fun x=>p x && q x) xs k
 | 0=>rfl
 | k+1=>by
  have ih:=Qw p q xs k
  unfold Yy at ih ⊢
  rw [UG,UG,UG,<-ih]
  generalize ((List.range k).all fun j=>p (Z8 xs j))=a
  generalize ((List.range k).all fun j=>q (Z8 xs j))=b
  cases a<;>cases b<;>cases hp:p (Z8 xs k)<;>cases hq:q (Z8 xs k)<;>simp [hp,hq]
theorem I7 {α:Type} [Inhabited α] {p q:α->Bool} (xs:List α) (h:∀ x,p x=q x) (k:Nat):Yy p xs k=Yy q xs k:=by unfold Yy;congr 1;funext j;exact h _
def Wx (n:Nat) (i:Int):Bool:=decide (0<=i) && decide (i<n)
def atB (b:Int) (s:Z3):Bool:=(s.1 ==2 || s.1 ==3) && s.2.1 ==b
def Zl (b:Int) (s:Z3):Bool:=s.1 ==3 && s.2.1 ==b
def XG (n:Nat) (s:Z3):Bool:=s.1 ==0 || (s.2.2.2.2.1 == -1 || Wx n s.2.2.2.2.1)
def Xr (ds:List Yq) (s:Z3):Bool:=s.1 ==0 || (Wx ds.length s.2.1 && (s.1 ==1 || ((Z8 ds s.2.1.toNat).1 && (Sb s.2.2.2.1 s.2.1 && Wc s.2.2.2.2.2.2.2.1 (Z8 ds s.2.1.toNat).2.2))))
def UA (ss:List Z3) (n:Nat):Bool:=decide (ss.length<=12) && (Yy ZJ ss ss.length && Yy (XG n) ss ss.length)
def SD (ds:List Yq) (n:Int):Bool:=decide ((ds.length:Int)=n) && (Yy Wu ds ds.length && decide (0<(ZS (fun d:Yq=>d.1) ds ds.length).length))
def Wd (ps:List Int) (rs:List Z2):Bool:=decide (ps.length=rs.length) && (List.range ps.length).all fun j=>Wx (ZV rs j).2.length (Z8 ps j)
def RF (m:Z6):Bool:=Zf m.rooms && (Zc m.guilds && (UA m.smiths m.guilds.length && (SD m.desks (ZY m.rooms) && (Wd m.paces m.rooms && inB m.now 0 1000000))))
def Xi (m:Z6):Bool:=RF m && Yy (Xr m.desks) m.smiths m.smiths.length
def VZ (m:Z6) (b:Nat):Bool:=if (Z8 m.desks b).2.1= -1 then decide ((ZS (atB b) m.smiths m.smiths.length).length=0) else decide ((ZS (Zl b) m.smiths m.smiths.length).length=1) && decide (Z8 (ZS (Zl b) m.smiths m.smiths.length) 0=(Z8 m.desks b).2.1)
def RR (m:Z6):Bool:=(List.range m.desks.length).all (VZ m)
def Ei (m:Z6):Bool:=Xi m && RR m
theorem EE (h m:Int):Wc h m=Xz h m:=by
 unfold Wc Xz V2
 rw [Bool.and_assoc]
theorem DT (m:Z6) (s:Z3):(ZJ s && (XG m.guilds.length s && Xr m.desks s))=(Yt m s && Ym m s):=by
 cases hs:ZJ s
 ·unfold Yt;rw [hs];rfl
 ·have hh:Yt m s=(s.1 ==0 || (decide (s.2.2.2.2.1<m.guilds.length) && decide (s.2.1<m.desks.length))):=by unfold Yt;rw [hs];rfl
  rw [hh,Bool.true_and]
  unfold ZJ at hs
  simp only [Bool.or_eq_true] at hs
  rcases hs with hg | hp
  ·have e:=Xc hg
   subst e
   rfl
  ·obtain ⟨st,be,rk,my,gu,lo,hi,hd,ca,ut,wk⟩:=s
   obtain ⟨⟨s1,s2⟩,⟨b1,b2⟩,_,⟨m1,m2⟩,⟨g1,g2⟩,_⟩:=Zu hp
   have hmem:Sb my be=Wf my be:=DO (Zp (by omega) (by omega)) (Zp (by omega) (by omega))
   have hst0:(st ==0)=false:=by simp;omega
   have hgu:(gu == -1 || Wx m.guilds.length gu)=decide (gu<m.guilds.length):=by
    unfold Wx
    by_cases e:gu= -1
    ·subst e;simp;omega
    ·have:(gu == -1)=false:=by simpa using e
     rw [this,Bool.false_or,show decide (0<=gu)=true from decide_eq_true (by omega),Bool.true_and]
   have hbe:Wx m.desks.length be=decide (be<m.desks.length):=by
    unfold Wx
    rw [show decide (0<=be)=true from decide_eq_true (by omega),Bool.true_and]
   have hpr:ZP (st,be,rk,my,gu,lo,hi,hd,ca,ut,wk)= !(st ==1):=by
    unfold ZP
    rcases (by omega:st=1\/st=2\/st=3) with e | e | e<;>subst e<;>rfl
   unfold XG Xr Ym
   simp only
   rw [hst0,hgu,hbe,hpr,hmem,EE,Bool.not_not]
   simp only [Bool.false_or,Bool.and_assoc]
theorem MS (ss:List Z3) (b:Int):∀ k:Nat,
  (match Yv ss b k with
   | none=>2<=(ZS (Zl b) ss k).length
   | some (wk,wt)=>((wk= -1/\ZS (Zl b) ss k=[])\/(0<=wk/\ZS (Zl b) ss k=[wk]))/\((ZS (atB b) ss k=[]) ↔ (ZS (Zl b) ss k=[]/\wt=false)))
 | 0=>by simp [Yv,ZS]
 | k+1=>by
  have ih:=MS ss b k
  unfold Yv
  cases hsc:Yv ss b k with
  | none=>
   rw [hsc] at ih
   simp only at ih ⊢
   unfold ZS
   split
   ·simp;omega
   ·exact ih
  | some r=>
   obtain ⟨wk,wt⟩:=r
   rw [hsc] at ih
   simp only at ih ⊢
   by_cases hat:(Z8 ss k).2.1=b/\ZP (Z8 ss k)=true
   ·rw [if_pos hat]
    have hA:atB b (Z8 ss k)=true:=by
     have h2:=hat.2
     unfold ZP at h2
     unfold atB
     rw [h2,hat.1];simp
    by_cases h2:(Z8 ss k).1=2
    ·rw [if_pos h2]
     have hW:Zl b (Z8 ss k)=false:=by unfold Zl;rw [h2];rfl
     rw [Yb hW,YE hA]
     exact ⟨ih.1,by simp⟩
    ·rw [if_neg h2]
     have h3:(Z8 ss k).1=3:=by
      have:=hat.2
      unfold ZP at this
      simp only [Bool.or_eq_true,beq_iff_eq] at this
      omega
     have hW:Zl b (Z8 ss k)=true:=by unfold Zl;rw [h3,hat.1];simp
     rw [YE hW,YE hA]
     by_cases hwk:0<=wk
     ·rw [if_pos hwk]
      rcases ih.1 with ⟨e,_⟩ | ⟨_,e⟩
      ·omega
      ·simp only
       rw [e];simp
     ·rw [if_neg hwk]
      rcases ih.1 with ⟨_,e⟩ | ⟨e,_⟩
      ·simp only
       rw [e];simp
      ·omega
   ·rw [if_neg hat]
    have hA:atB b (Z8 ss k)=false:=by
     cases hc:atB b (Z8 ss k)
     ·rfl
     ·exfalso
      apply hat
      unfold atB at hc
      simp only [Bool.and_eq_true,beq_iff_eq] at hc
      exact ⟨hc.2,by unfold ZP;exact hc.1⟩
    have hW:Zl b (Z8 ss k)=false:=by
     cases hc:Zl b (Z8 ss k)
     ·rfl
     ·exfalso
      apply hat
      unfold Zl at hc
      simp only [Bool.and_eq_true,beq_iff_eq] at hc
      exact ⟨hc.2,by unfold ZP;rw [hc.1];rfl⟩
    rw [Yb hW,Yb hA]
    exact ih
theorem MZ (m:Z6) (b:Nat):VZ m b=YL m b:=by
 have h:=MS m.smiths b m.smiths.length
 unfold VZ YL
 cases hsc:Yv m.smiths b m.smiths.length with
 | none=>
  rw [hsc] at h
  simp only at h ⊢
  split
  ·have:ZS (atB b) m.smiths m.smiths.length ≠ []:=by
    intro e
    have hx:Z8 (ZS (Zl b) m.smiths m.smiths.length) 0 ∈ ZS (Zl b) m.smiths m.smiths.length:=SO (by omega)
    obtain ⟨i,hi,_,hw⟩:=(WT _ _ _ _).1 hx
    have:(i:Int) ∈ ZS (atB b) m.smiths m.smiths.length:=(WT _ _ _ _).2 ⟨i,hi,rfl,by
     unfold Zl at hw
     simp only [Bool.and_eq_true,beq_iff_eq] at hw
     unfold atB
     rw [hw.1,hw.2];simp⟩
    rw [e] at this
    cases this
   simp only [List.length_eq_zero_iff,this,decide_false]
  ·rw [show decide ((ZS (Zl b) m.smiths m.smiths.length).length=1)=false from decide_eq_false (by omega),Bool.false_and]
 | some r=>
  obtain ⟨wk,wt⟩:=r
  rw [hsc] at h
  simp only at h ⊢
  obtain ⟨h1,h2⟩:=h
  generalize ZS (Zl b) m.smiths m.smiths.length=ws at *
  generalize ZS (atB b) m.smiths m.smiths.length=az at *
  generalize (Z8 m.desks b).2.1=who at *
  by_cases hw:who= -1
  ·subst hw
   simp only [if_true,List.length_eq_zero_iff]
   rcases h1 with ⟨rfl,rfl⟩ | ⟨hk,rfl⟩
   ·cases wt
    ·simp at h2;simp [h2]
    ·simp at h2;simp [h2]
   ·have hne:az ≠ []:=by
     intro e
     have:=(h2.1 e).1
     cases this
    have:((-1:Int) ==wk)=false:=by simp;omega
    rw [this]
    simp [hne]
  ·rw [if_neg hw]
   rcases h1 with ⟨rfl,rfl⟩ | ⟨hk,rfl⟩
   ·have:(who == -1)=false:=by simpa using hw
    rw [this];simp
   ·have h0:decide (wk<0)=false:=decide_eq_false (by omega)
    rw [h0,Bool.and_false,Bool.not_false,Bool.and_true]
    simp only [List.length_cons,List.length_nil,decide_true,Bool.true_and]
    show decide (wk=who)=(who ==wk)
    by_cases e:wk=who
    ·subst e;simp
    ·rw [decide_eq_false e];symm;simp;omega
theorem BP (n:Nat) (i:Int):Wx n i=inB i 0 ((n:Int)-1):=by
 unfold Wx inB
 by_cases h0:0<=i<;>by_cases h1:i<n
 ·rw [decide_eq_true h0,decide_eq_true h1,decide_eq_true (show 0<=i/\i<=(n:Int)-1 by omega)];rfl
 ·rw [decide_eq_true h0,decide_eq_false h1,decide_eq_false (show ¬ (0<=i/\i<=(n:Int)-1) by omega)];rfl
 ·rw [decide_eq_false h0,decide_eq_false (show ¬ (0<=i/\i<=(n:Int)-1) by omega)];rfl
 ·rw [decide_eq_false h0,decide_eq_false (show ¬ (0<=i/\i<=(n:Int)-1) by omega)];rfl
theorem TW (m:Z6):Xi m=Ze m:=by
 have e1:WK m m.smiths.length=(Yy ZJ m.smiths m.smiths.length && (Yy (XG m.guilds.length) m.smiths m.smiths.length && Yy (Xr m.desks) m.smiths m.smiths.length)):=by
  rw [Qw,Qw]
  exact (I7 m.smiths (DT m) m.smiths.length).symm
 have e2:Wd m.paces m.rooms=(decide (m.paces.length=m.rooms.length) && WJ m m.paces.length):=by
  unfold Wd WJ
  congr 2
  funext j
  unfold WY
  exact BP _ _
 have e3:decide (0<(ZS (fun d:Yq=>d.1) m.desks m.desks.length).length)=US m m.desks.length:=Qr _ _ _
 unfold Xi RF Ze YY UA SD
 rw [e1,e2,e3]
 have e4:Yy Wu m.desks m.desks.length=We m m.desks.length:=rfl
 rw [e4]
 generalize Zf m.rooms=x1
 generalize Zc m.guilds=x2
 generalize decide (m.smiths.length<=12)=x3
 generalize Yy ZJ m.smiths m.smiths.length=x4
 generalize Yy (XG m.guilds.length) m.smiths m.smiths.length=x5
 generalize decide ((m.desks.length:Int)=ZY m.rooms)=x6
 generalize We m m.desks.length=x7
 generalize US m m.desks.length=x8
 generalize decide (m.paces.length=m.rooms.length)=x9
 generalize WJ m m.paces.length=x10
 generalize inB m.now 0 1000000=x11
 generalize Yy (Xr m.desks) m.smiths m.smiths.length=x12
 rw [Bool.eq_iff_iff]
 simp only [Bool.and_eq_true]
 constructor
 ·rintro ⟨⟨a1,a2,⟨a3,a4,a5⟩,⟨a6,a7,a8⟩,⟨a9,a10⟩,a11⟩,a12⟩
  exact ⟨⟨a1,a2,a3,a6,a9,a11⟩,a7,a10,⟨a4,a5,a12⟩,a8⟩
 ·rintro ⟨⟨a1,a2,a3,a6,a9,a11⟩,a7,a10,⟨a4,a5,a12⟩,a8⟩
  exact ⟨⟨a1,a2,⟨a3,a4,a5⟩,⟨a6,a7,a8⟩,⟨a9,a10⟩,a11⟩,a12⟩
theorem Ej (m:Z6):Ei m=ZO m:=by
 unfold Ei ZO RR
 rw [TW,show VZ m=YL m from funext (MZ m)]
def WH (ss:List Z3) (ps:List Int):List Z4:=ps.foldl (fun q i=>U5 q (XL (Z8 ss i.toNat),i)) []
theorem RI (ss:List Z3) (ps:List Int) (i:Int):WH ss (ps++[i])=U5 (WH ss ps) (XL (Z8 ss i.toNat),i):=by unfold WH;rw [List.foldl_append];rfl
theorem Se (ss:List Z3) (b:Int):∀ k,WH ss (ZS (atB b) ss k)=atV ss b k
 | 0=>rfl
 | k+1=>by
  have ih:=Se ss b k
  by_cases hat:(Z8 ss k).2.1=b/\ZP (Z8 ss k)=true
  ·have hA:atB b (Z8 ss k)=true:=by
    have h2:=hat.2
    unfold ZP at h2
    unfold atB
    rw [h2,hat.1];simp
   rw [YE hA,RI,ih,Rn hat.1 hat.2]
   rfl
  ·have hA:atB b (Z8 ss k)=false:=by
    cases hc:atB b (Z8 ss k)
    ·rfl
    ·exfalso
     apply hat
     unfold atB at hc
     simp only [Bool.and_eq_true,beq_iff_eq] at hc
     exact ⟨hc.2,by unfold ZP;exact hc.1⟩
   rw [Yb hA,NO hat,ih]
theorem Mi {ps:List Int} {k:Nat} (h:k<ps.length):ps.take (k+1)=ps.take k++[Z8 ps k]:=by
 unfold Z8
 rw [List.take_add_one,List.getD,List.getElem?_eq_getElem h];rfl
theorem Jb {m:Z6} (h:Loose m) (b:Int) (k:Nat) (hk:k<=m.smiths.length):YJ (atV m.smiths b k)=true:=by
 have hd:=h.head
 unfold YY at hd
 simp only [Bool.and_eq_true,decide_eq_true_eq] at hd
 have hl:=TI m.smiths b k
 have h12:=hd.2.2.1
 refine Ix ⟨by omega,fun p hp=> ?_,?_,Uj _ _ _⟩
 ·obtain ⟨i,hi,h1,h2,rfl⟩:=(Yc m.smiths b p k).1 hp
  have:=U7 (h.at (i:=i) (by omega) h2).2.2.2.2
  unfold N9
  rw [Zp (by omega) (by omega),Zp (by omega) (by show (i:Int)<=99;omega)];rfl
 ·refine ((Ps m.smiths b k).and (Uj m.smiths b k)).imp fun {x y} hxy=> ?_
  have h1:=hxy.1
  have h2:=hxy.2
  rw [MG] at h1
  rw [DL]
  omega
theorem Qs {α:Type} [Inhabited α] (p:α->Bool) (xs:List α):∀ n k:Nat,∃ j,j<=n/\(ZS p xs n).take k=ZS p xs j
 | 0,k=>⟨0,Nat.le_refl _,by simp [ZS]⟩
 | n+1,k=>by
  obtain ⟨j,hj,e⟩:=Qs p xs n k
  cases h:p (Z8 xs n)
  ·rw [Yb h];exact ⟨j,by omega,e⟩
  ·rw [YE h]
   by_cases hk:k<=(ZS p xs n).length
   ·rw [List.take_append_of_le_length hk];exact ⟨j,by omega,e⟩
   ·refine ⟨n+1,Nat.le_refl _,?_⟩
    rw [YE h,List.take_of_length_le (by simp;omega)]
theorem Is {m:Z6} (h:Loose m) (b:Int) (k:Nat):YJ (WH m.smiths ((ZS (atB b) m.smiths m.smiths.length).take k))=true:=by
 obtain ⟨j,hj,e⟩:=Qs (atB b) m.smiths m.smiths.length k
 rw [e,Se]
 exact Jb h b j hj
theorem XF {w:World} {v0 v1 v2 v3 v4:Value} {m:Z6} {q:Bool} (hq:ZO m=q) (h:Smy w v0 v1 v2 v3 v4 m):Calls Tryz.prog 12 #[.agg #[v0,v1,v2,v3,v4,.int .i64 m.now]] w fun e w'=>e= .returned (.bool q)/\Below w.heap.size w w':=by
 have:=Q8 h;rw [hq] at this;exact this
theorem Oy {w:World} {v0 v1 v2 v3 v4:Value} {m:Z6} {b:Int} {q:Bool} (hq:Vj m b=q) (h:Smy w v0 v1 v2 v3 v4 m) :
  Calls Tryz.prog 61 #[.agg #[v0,v1,v2,v3,v4,.int .i64 m.now],.int .i64 b] w fun e w'=>e= .returned (.bool q)/\Below w.heap.size w w':=by
 have hq2:inB b 0 ((m.desks.length:Int)-1)=q:=hq
 clear hq
 obtain ⟨a0,p0,rfl,_,_⟩:=IsRooms.shape h.rooms
 obtain ⟨a1,p1,rfl,_,_⟩:=IsRec.shape h.guilds
 obtain ⟨a2,p2,rfl,_,_⟩:=IsRec.shape h.smiths
 obtain ⟨a3,p3,rfl,hc3,hm3⟩:=IsRec.shape h.desks
 obtain ⟨a4,p4,rfl,_,_⟩:=IsRec.shape h.paces
 clear h
 go_enter Tryz.func61,Tryz.ntmps61
 go_wp2_with (go_at_call 40;refine (Z1 _ _ _ _).mono ?_;rw [hq2];rintro e w' ⟨rfl,h9⟩;subst w')
 go_ret
 exact ⟨rfl,(ba _ _)⟩
def Pv (m:Z6) (r:Int):Bool:=inB r 0 ((m.rooms.length:Int)-1)
theorem Gx {m:Z6} {b:Int} (h:Pv m b=true):∃ k:Nat,b=(k:Int)/\k<m.rooms.length:=by
 have:=ZU (show inB b 0 ((m.rooms.length:Int)-1)=true from h)
 exact ⟨b.toNat,by omega,by omega⟩
theorem E5 {w:World} {v0 v1 v2 v3 v4:Value} {m:Z6} {b:Int} {q:Bool} (hq:Pv m b=q) (h:Smy w v0 v1 v2 v3 v4 m) :
  Calls Tryz.prog 58 #[.agg #[v0,v1,v2,v3,v4,.int .i64 m.now],.int .i64 b] w fun e w'=>e= .returned (.bool q)/\Below w.heap.size w w':=by
 have hq2:inB b 0 ((m.rooms.length:Int)-1)=q:=hq
 clear hq
 obtain ⟨a0,p0,rfl,hc3,hm3⟩:=IsRooms.shape h.rooms
 obtain ⟨a1,p1,rfl,_,_⟩:=IsRec.shape h.guilds
 obtain ⟨a2,p2,rfl,_,_⟩:=IsRec.shape h.smiths
 obtain ⟨a3,p3,rfl,_,_⟩:=IsRec.shape h.desks
 obtain ⟨a4,p4,rfl,_,_⟩:=IsRec.shape h.paces
 clear h
 go_enter Tryz.func58,Tryz.ntmps58
 go_wp2_with (go_at_call 40;refine (Z1 _ _ _ _).mono ?_;rw [hq2];rintro e w' ⟨rfl,h9⟩;subst w')
 go_ret
 exact ⟨rfl,(ba _ _)⟩
def P6 (m X:Z6) (c:Int):Z6 × Int:=if ZO m then (if c=0 then (Zh X,0) else (m,c)) else (YF,3)
theorem Jt {m:Z6} (h:ZO m=false) (X:Z6) (c:Int):P6 m X c=(YF,3):=by unfold P6;rw [h];rfl
theorem Ju {m:Z6} (h:ZO m=true) (X:Z6):P6 m X 0=(Zh X,0):=by unfold P6;rw [h];rfl
theorem Pu {m:Z6} (h:ZO m=true) (X:Z6) {c:Int} (hc:c ≠ 0):P6 m X c=(m,c):=by unfold P6;rw [h,if_pos rfl,if_neg hc]
theorem FO {m:Z6} (h:Loose m):Zh m=ZQ m:=by unfold Zh;rw [h.mk',if_pos rfl]
structure Two (p q:Option Nat) (w w':World):Prop where
 os:w'.os=w.os
 tape:w'.tape=w.tape
 output:w'.output=w.output
 size:w.heap.size<=w'.heap.size
 block:∀ k,k<w.heap.size->p ≠ some k->q ≠ some k->w'.heap[k]?=w.heap[k]?
section
variable {p q : Option Nat} {w w' w'' : World}
theorem Two.refl (p q:Option Nat) (w:World):Two p q w w:=⟨rfl,rfl,rfl,Nat.le_refl _,fun _ _ _ _=>rfl⟩
theorem Two.trans (h:Two p q w w') (k:Two p q w' w''):Two p q w w'':=
 ⟨k.os.trans h.os,k.tape.trans h.tape,k.output.trans h.output,Nat.le_trans h.size k.size,fun i hi hp hq=>(k.block i (Nat.lt_of_lt_of_le hi h.size) hp hq).trans (h.block i hi hp hq)⟩
theorem Two.of_below (h:Below w.heap.size w w'):Two p q w w':=⟨h.os,h.tape,h.output,h.size,fun i hi _ _=>h.block i hi⟩
theorem Two.of_set (w:World) {g:Nat} (hg:p=some g\/q=some g) (o:Nat) (u:Value):Two p q w (w.setCell ⟨g,o,none⟩ u):=
 ⟨rfl,rfl,rfl,by simp,fun i hi hp hq=>heap_setCell_other w _ i u (fun e=>by
  have e:i=g:=e
  subst e
  rcases hg with h | h
  ·exact hp h
  ·exact hq h)⟩
theorem Two.below {B:Nat} (h:Two p q w w') (hB:B<=w.heap.size) (hp:∀ k,p=some k->B<=k) (hq:∀ k,q=some k->B<=k):Below B w w':=
 ⟨h.os,h.tape,h.output,h.size,fun i hi=>h.block i (Nat.lt_of_lt_of_le hi hB) (fun e=>by have:=hp i e;omega) (fun e=>by have:=hq i e;omega)⟩
theorem Blk.two {R:Nat} {t:TypeId} {cs:Array Value} (h:Blk w R t cs) (ht:Two p q w w') (hp:p ≠ some R) (hq:q ≠ some R):Blk w' R t cs:=h.same (ht.block R h.lt hp hq)
end
theorem OwnHall.same2 {n₀:Nat} {w w':World} {v:Value} {qs:List (Z2 × Value)} (h:OwnHall n₀ w v qs) (hs:∀ k,(v.ownBlock=some k\/ ∃ q ∈ qs,q.2.ownBlock=some k)->w'.heap[k]?=w.heap[k]?):OwnHall n₀ w' v qs:=
 ⟨XX h.row (fun k e=>hs k (.inl e)),fun q hq=>XX (h.paces q hq) (fun k e=>hs k (.inr ⟨q,hq,e⟩)),h.off,h.apart⟩
section
variable {n₀ n cap g : Nat} {w : World} {v0 v1 v2 v3 v4 : Value} {m : Z6} {qs : List (Z2 × Value)}
theorem FullSmy.putS (hf:FullSmy n₀ w v0 v1 (.slice (some ⟨g,0,none⟩) n cap) v3 v4 m qs) (hn:n=m.smiths.length) {j i:Nat} (hj:j<m.smiths.length) (hi:i<11) (u:Value) (x:Z3) (hx:ZX x=(ZX (Z8 m.smiths j)).set i u) :
  FullSmy n₀ (w.setCell ⟨g,j*11+i,none⟩ u) v0 v1 (.slice (some ⟨g,0,none⟩) n cap) v3 v4 { m with smiths:=m.smiths.set j x } qs:=by
 have hb:(Value.slice (some ⟨g,0,none⟩) n cap).ownBlock=some g:=rfl
 have hne:∀ k,k ≠ g->(w.setCell ⟨g,j*11+i,none⟩ u).heap[k]?=w.heap[k]?:=fun k hk=>heap_setCell_other w _ k u hk
 refine ⟨hf.hall.same2 fun k e=>hne k fun e'=> ?_,hf.rooms,RecAt.same hf.guilds fun k e=>hne k fun e'=> ?_,(RecAt.put1 ZW (by omega) hf.smiths hn hj hi u x hx).1,RecAt.same hf.desks fun k e=>hne k fun e'=> ?_,RecAt.same hf.paces fun k e=>hne k fun e'=> ?_,hf.h1,hf.h2,hf.h3,hf.h4,hf.a12,hf.a13,hf.a14,hf.a23,hf.a24,hf.a34⟩
 ·subst e'
  rcases e with e | ⟨q,hq,e⟩
  ·exact hf.h2.1 _ hb e
  ·exact hf.h2.2 q hq _ hb e
 ·subst e';exact hf.a12 _ e hb
 ·subst e';exact hf.a23 _ hb e
 ·subst e';exact hf.a24 _ hb e
theorem FullSmy.putD (hf:FullSmy n₀ w v0 v1 v2 (.slice (some ⟨g,0,none⟩) n cap) v4 m qs) (hn:n=m.desks.length) {j i:Nat} (hj:j<m.desks.length) (hi:i<3) (u:Value) (x:Yq) (hx:XA x=(XA (Z8 m.desks j)).set i u) :
  FullSmy n₀ (w.setCell ⟨g,j*3+i,none⟩ u) v0 v1 v2 (.slice (some ⟨g,0,none⟩) n cap) v4 { m with desks:=m.desks.set j x } qs:=by
 have hb:(Value.slice (some ⟨g,0,none⟩) n cap).ownBlock=some g:=rfl
 have hne:∀ k,k ≠ g->(w.setCell ⟨g,j*3+i,none⟩ u).heap[k]?=w.heap[k]?:=fun k hk=>heap_setCell_other w _ k u hk
 refine ⟨hf.hall.same2 fun k e=>hne k fun e'=> ?_,hf.rooms,RecAt.same hf.guilds fun k e=>hne k fun e'=> ?_,RecAt.same hf.smiths fun k e=>hne k fun e'=> ?_,(RecAt.put1 ZF (by omega) hf.desks hn hj hi u x hx).1,RecAt.same hf.paces fun k e=>hne k fun e'=> ?_,hf.h1,hf.h2,hf.h3,hf.h4,hf.a12,hf.a13,hf.a14,hf.a23,hf.a24,hf.a34⟩
 ·subst e'
  rcases e with e | ⟨q,hq,e⟩
  ·exact hf.h3.1 _ hb e
  ·exact hf.h3.2 q hq _ hb e
 ·subst e';exact hf.a13 _ e hb
 ·subst e';exact hf.a23 _ e hb
 ·subst e';exact hf.a34 _ hb e
theorem FullSmy.putP (hf:FullSmy n₀ w v0 v1 v2 v3 (.slice (some ⟨g,0,none⟩) n cap) m qs) (hn:n=m.paces.length) {j:Nat} (hj:j<m.paces.length) (x:Int) :
  FullSmy n₀ (w.setCell ⟨g,j,none⟩ (.int .i64 x)) v0 v1 v2 v3 (.slice (some ⟨g,0,none⟩) n cap) { m with paces:=m.paces.set j x } qs:=by
 have hb:(Value.slice (some ⟨g,0,none⟩) n cap).ownBlock=some g:=rfl
 have hne:∀ k,k ≠ g->(w.setCell ⟨g,j,none⟩ (.int .i64 x)).heap[k]?=w.heap[k]?:=fun k hk=>heap_setCell_other w _ k _ hk
 have hput:=(RecAt.put1 (i:=0) YH (by omega) hf.paces hn hj (by omega) (.int .i64 x) x (by simp [TJ])).1
 simp only [Nat.mul_one,Nat.add_zero] at hput
 refine ⟨hf.hall.same2 fun k e=>hne k fun e'=> ?_,hf.rooms,RecAt.same hf.guilds fun k e=>hne k fun e'=> ?_,RecAt.same hf.smiths fun k e=>hne k fun e'=> ?_,RecAt.same hf.desks fun k e=>hne k fun e'=> ?_,hput,hf.h1,hf.h2,hf.h3,hf.h4,hf.a12,hf.a13,hf.a14,hf.a23,hf.a24,hf.a34⟩
 ·subst e'
  rcases e with e | ⟨q,hq,e⟩
  ·exact hf.h4.1 _ hb e
  ·exact hf.h4.2 q hq _ hb e
 ·subst e';exact hf.a14 _ e hb
 ·subst e';exact hf.a24 _ e hb
 ·subst e';exact hf.a34 _ e hb
end
end Go.Proofs.YtffcgajndmhpkaaGreatDoor
