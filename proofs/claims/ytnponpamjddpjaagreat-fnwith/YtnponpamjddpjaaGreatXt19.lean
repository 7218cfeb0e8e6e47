/- Part 19 of what the proof rests on. No condition but those that a theorem names. -/
import Derived.Test.YtnponpamjddpjaaGreatXt18
set_option maxHeartbeats 8000000
set_option maxRecDepth 100000
namespace Go.Proofs.YtnponpamjddpjaaGreat
open Go.ChangeShapes Go.WideShapes Go.ChangeAt Go.RowKit Go.Sort
set_option linter.unusedVariables false
variable {w w' w0 w1 w2 w3 w₀ wr W W' X A B C : World} {v v0 v1 v2 v3 v4 u u0 u1 u2 u3 u4 : Value} {m : Z3}
theorem QJ  {ps:List Z6} (b pace work:Int) (h:IsPaces w v ps) :
  Calls Tryz.prog 101 #[.agg #[.int .i64 b,v],.int .i64 pace,.int .i64 work] w fun e w'=>e= .returned (.int .i64 (XK (b,ps) pace work))/\Below w.heap.size w w':=by
 have Hv:=Z9 h
 obtain ⟨a,cap,rfl,hc,hm,hrow⟩:=h
 clear hrow
 have hl:(ps.length:Int)<=9223372036854775807:=by omega
 cases hr:Zq (b,ps)
 ·rw [QX hr]
  go_enter Tryz.func101,Tryz.ntmps101
  go_wp2_with fail
  refine (YV b ((uh Hv).below ((Below.refl _ _).alloc (Nat.le_refl _) _))).mono ?_
  rintro e w1 ⟨rfl,hb⟩
  have B1:Hid (Below w.heap.size w w1):=Z9 (((Below.refl _ _).alloc (Nat.le_refl _) _).trans (hb.mono (by simp)))
  clear hb
  go_wp2_with fail
  go_ret
  exact ⟨rfl,uh B1⟩
 cases hn:inB work 0 1000000
 ·rw [QY hn]
  go_enter Tryz.func101,Tryz.ntmps101
  go_wp2_with fail
  refine (YV b ((uh Hv).below ((Below.refl _ _).alloc (Nat.le_refl _) _))).mono ?_
  rintro e w1 ⟨rfl,hb⟩
  have B1:Hid (Below w.heap.size w w1):=Z9 (((Below.refl _ _).alloc (Nat.le_refl _) _).trans (hb.mono (by simp)))
  clear hb
  go_wp2_with (go_at_call 167;refine (Vy _ _).mono ?_;rintro e w' ⟨rfl,rfl⟩)
  go_ret
  exact ⟨rfl,uh B1⟩
 cases hp:inB pace 0 ((ps.length:Int)-1)
 ·rw [QZ hp]
  go_enter Tryz.func101,Tryz.ntmps101
  go_wp2_with fail
  refine (YV b ((uh Hv).below ((Below.refl _ _).alloc (Nat.le_refl _) _))).mono ?_
  rintro e w1 ⟨rfl,hb⟩
  have x1:w1.cell? ⟨w.heap.size,1,none⟩=some (.slice a ps.length cap):=(hb.cell (p:=⟨w.heap.size,1,none⟩) (by simp)).trans (by simp)
  have B1:Hid (Below w.heap.size w w1):=Z9 (((Below.refl _ _).alloc (Nat.le_refl _) _).trans (hb.mono (by simp)))
  clear hb
  go_wp2_with (first | (go_at_call 167;refine (Vy _ _).mono ?_;rintro e w' ⟨rfl,rfl⟩) | (go_at_call 128;refine (ZZ _ _ _ _).mono ?_;rintro e w' ⟨rfl,rfl⟩))
  go_ret
  exact ⟨rfl,uh B1⟩
 rw [Pb hr hn hp]
 have hpp:=ZS hp
 obtain ⟨hp0,hp1⟩:=hpp
 obtain ⟨k,rfl⟩:=Int.eq_ofNat_of_zero_le hp0
 have hk:k<ps.length:=by omega
 rw [Int.toNat_natCast]
 simp only
 generalize hpk:Z7 ps k=p
 have Hpk:=Z9 hpk
 clear hpk
 obtain ⟨f,c⟩:=p
 simp only
 go_enter Tryz.func101,Tryz.ntmps101
 go_wp2_with fail
 refine (YV b ((uh Hv).below ((Below.refl _ _).alloc (Nat.le_refl _) _))).mono ?_
 rintro e w1 ⟨rfl,hb⟩
 have x1:w1.cell? ⟨w.heap.size,1,none⟩=some (.slice a ps.length cap):=(hb.cell (p:=⟨w.heap.size,1,none⟩) (by simp)).trans (by simp)
 have B1:Hid (Below w.heap.size w w1):=Z9 (((Below.refl _ _).alloc (Nat.le_refl _) _).trans (hb.mono (by simp)))
 clear hb
 have hv1:=(uh Hv).below (uh B1)
 obtain ⟨a',cap',he,_,_,hrow⟩:=hv1
 cases he
 rcases hrow with h0 | ⟨bk,off,rfl,hbw,hcl⟩
 ·rw [h0] at hk;simp at hk
 obtain ⟨c0,c1⟩:=hcl k hk
 clear hcl
 rw [uh Hpk] at c0 c1
 simp only at c0 c1
 go_wp2_with (first | (go_at_call 167;refine (Vy _ _).mono ?_;rintro e w' ⟨rfl,rfl⟩) | (go_at_call 128;refine (ZZ _ _ _ _).mono ?_;rintro e w' ⟨rfl,rfl⟩))
 go_quiet (exact Calls.quiet_of_same (P6 _ _ _ _))
 go_wp2_with fail
 go_ret
 exact ⟨rfl,Xr (uh B1) _⟩
theorem Sx  {ps:List Z6} (b need work:Int) (h:IsPaces w v ps) :
  Calls Tryz.prog 45 #[.agg #[.int .i64 b,v],.int .i64 need,.int .i64 work] w fun e w'=>e= .returned (.int .i64 (Np (b,ps) need work))/\Below w.heap.size w w':=by
 have Hv:=Z9 h
 obtain ⟨a,cap,rfl,hc,hm,hrow⟩:=h
 clear hrow
 have k0:=cell_regrown (w:=w.alloc (.cells #[.int .i64 b,.slice a ps.length cap] 61)) (a:=⟨w.heap.size,0,none⟩) (v:= .int .i64 b) (by simp)
 have k1:=cell_regrown (w:=w.alloc (.cells #[.int .i64 b,.slice a ps.length cap] 61)) (a:=⟨w.heap.size,1,none⟩) (v:= .slice a ps.length cap) (by simp)
 have Ha:Hid (IsPaces (w.alloc (.cells #[.int .i64 b,.slice a ps.length cap] 61)) (.slice a ps.length cap) ps):=Z9 ((uh Hv).below ((Below.refl _ _).alloc (Nat.le_refl _) _))
 go_enter Tryz.func45,Tryz.ntmps45
 go_wp2_with fail
 refine wp_region_quiet_below (by kernel_rfl) (by kernel_rfl) ?_
 repeat (go_big_quiet_step (first | exact Calls.regrown_of (Uf b need ((uh Ha).below (below_regrown _ _ _))) | exact Calls.regrown_of (QJ b _ work ((uh Ha).below (below_regrown _ _ _)))))
 refine wpQuiet_nil ?_
 intro _ hw'
 obtain ⟨⟨dq,osq⟩,hw''⟩:=hw'
 subst hw''
 go_wp2_with fail
 go_ret
 exact ⟨rfl,((Below.refl _ _).alloc (Nat.le_refl _) _).trans ((below_regrown _ _ _).mono (by simp))⟩
theorem zA2 {room:Int} {k:Nat} (h:¬ (WU m.rooms k:Int)=room):Y2 m room (k+1)=Y2 m room k:=by show (if _ then _ else _)=_;rw [if_neg h]
theorem KP {room:Int} {k:Nat} (h:(WU m.rooms k:Int)=room):Y2 m room (k+1)=((if (Z8 m.desks k).1 then max (Y2 m room k).1 (XD m k (-1)) else (Y2 m room k).1),(Y2 m room k).2+XD m k (-1)):=by show (if _ then _ else _)=_;rw [if_pos h]
theorem Rb  (room:Int) (h:Smy w v0 v1 v2 v3 v4 m) (hS:Sane m) :
  Calls Tryz.prog 97 #[.agg #[v0,v1,v2,v3,v4,.int .i64 m.now],.int .i64 room] w fun e w'=>e= .returned (.tuple #[.int .i64 (Y2 m room m.desks.length).1,.int .i64 (Y2 m room m.desks.length).2])/\Below w.heap.size w w':=by
 have Hv:=Z9 (h.alloc (.cells #[v0,v1,v2,v3,v4,.int .i64 m.now] 32))
 obtain ⟨a0,p0,a1,p1,a2,p2,a3,p3,a4,p4,rfl,rfl,rfl,rfl,rfl,_,_,_,_,_,_,_,_,_,_⟩:=h.five
 clear h
 have HS:=Z9 hS
 obtain ⟨BB0,kb0⟩:=Xk w 32 (S6 a0 p0 a1 p1 a2 p2 a3 p3 a4 p4 m)
 have h8:=hS.eight
 have hbd:=RZ m room hS.few
 have Hbd:=Z9 hbd
 clear hS hbd
 go_enter Tryz.func97,Tryz.ntmps97
 go_wp2_with fail
 go_loopw [6,7,8] (fun mo al i wr=> ∃ k:Nat,k<=m.desks.length/\i= .int .i64 k/\mo= .int .i64 (Y2 m room k).1/\al= .int .i64 (Y2 m room k).2/\Blk wr w.heap.size 32 #[.slice a0 m.rooms.length p0,.slice a1 m.guilds.length p1,.slice a2 m.smiths.length p2,.slice a3 m.desks.length p3,.slice a4 m.paces.length p4,.int .i64 m.now]/\Smy wr (.slice a0 m.rooms.length p0) (.slice a1 m.guilds.length p1) (.slice a2 m.smiths.length p2) (.slice a3 m.desks.length p3) (.slice a4 m.paces.length p4) m/\Below w.heap.size w wr) (fun _ _ i _=>m.desks.length-(intOf i).toNat)
 case atStart=>exact ⟨0,Nat.zero_le _,rfl,rfl,rfl,uh kb0,uh Hv,uh BB0⟩
 case round=>
  obtain ⟨k,hk,rfl,rfl,rfl,hkb,hv,hb0⟩:=hrel
  obtain ⟨⟨u0,u1⟩,u2,u3⟩:=uh Hbd k
  have kb:=Z9 hkb
  have Hv1:=Z9 hv
  have BB:=Z9 hb0
  clear hkb hv hb0 kb0 BB0 Hv
  obtain ⟨c0,c1,c2,c3,c4,c5⟩:=(uh kb).c6
  by_cases hlt:k<m.desks.length
  ·have hlt1:(k:Int)<(m.desks.length:Int):=by omega
   have Hno:=Z9 (fun hh=>zA2 (m:=m) (room:=room) (k:=k) hh)
   have Hyes:=Z9 (fun hh=>KP (m:=m) (room:=room) (k:=k) hh)
   obtain ⟨⟨mo,al⟩,hmo⟩:∃ x,Y2 m room k=x:=⟨_,rfl⟩
   rw [hmo] at u0 u1 u2 u3 Hno Hyes ⊢
   simp only at u0 u1 u2 u3 Hyes ⊢
   clear hmo
   go_wp2_with fail
   refine (SO (k:Int) (uh Hv1).rooms ((uh HS).bench hlt)).mono ?_
   rintro e w1 ⟨rfl,hb⟩
   replace kb:=bl kb hb
   replace Hv1:=Z9 ((uh Hv1).below hb)
   replace BB:=bt BB hb
   clear hb c0 c1 c2 c3 c4 c5
   obtain ⟨rn,hrn⟩:∃ r:Int,(WU m.rooms k:Int)=r:=⟨_,rfl⟩
   rw [hrn] at Hno Hyes ⊢
   clear hrn
   by_cases hr:rn=room
   rotate_left
   ·have hrb:(rn ==room)=false:=by simpa using hr
    go_wp2_with fail
    go_roundw
    case rel=>exact ⟨k+1,by omega,by go_num,by rw [uh Hno hr],by rw [uh Hno hr],uh kb,uh Hv1,uh BB⟩
    case measure=>simp [intOf];omega
   have hrb:(rn ==room)=true:=by simpa using hr
   obtain ⟨c0,c1,c2,c3,c4,c5⟩:=(uh kb).c6
   go_wp2_with fail
   refine (Ve (k:Int) (-1) (uh Hv1) (uh HS).guilded (by have:=(uh HS).few;omega)).mono ?_
   rintro e w2 ⟨rfl,hb⟩
   replace kb:=bl kb hb
   replace Hv1:=Z9 ((uh Hv1).below hb)
   replace BB:=bt BB hb
   clear hb c0 c1 c2 c3 c4 c5
   have hub:=MO m (k:Int) (-1)
   have hfew:=(uh HS).few
   have hy:=uh Hyes hr
   generalize XD m (k:Int) (-1)=us at *
   obtain ⟨_,_,hde,_,_,r3⟩:=(uh Hv1).desks
   cases hde
   rcases r3 with e0 | ⟨db,off,rfl,hbw,hcl⟩
   ·rw [e0] at hlt;simp at hlt
   obtain ⟨d0,_,_⟩:=Zk hcl hlt
   clear hcl
   obtain ⟨op,hop⟩:∃ o,(Z8 m.desks k).1=o:=⟨_,rfl⟩
   rw [hop] at d0 hy
   have Hy:=Z9 hy
   clear hop hy Hno Hyes
   have c3:=(uh kb).cell (i:=3) (v:= .slice (some ⟨db,off,none⟩) m.desks.length p3) rfl
   cases op
   ·go_wp2_with fail
    go_roundw
    case rel=>exact ⟨k+1,by omega,by go_num,by rw [uh Hy];rfl,by rw [uh Hy],uh kb,uh Hv1,uh BB⟩
    case measure=>simp [intOf];omega
   ·go_wp2_with (go_at_call 124;refine (Tj _ _ _).mono ?_;rintro e w' ⟨rfl,h9⟩;subst w')
    go_roundw
    case rel=>exact ⟨k+1,by omega,by go_num,by rw [uh Hy];rfl,by rw [uh Hy],uh kb,uh Hv1,uh BB⟩
    case measure=>simp [intOf];omega
  ·obtain rfl:k=m.desks.length:=by omega
   go_wp2_with fail
   go_ret2
   exact ⟨rfl,uh BB⟩
theorem LL  {r:Nat} (h:Smy w v0 v1 v2 v3 v4 m) (hS:Sane m) (hr:r<m.rooms.length) :
  Calls Tryz.prog 96 #[.agg #[v0,v1,v2,v3,v4,.int .i64 m.now],.int .i64 (r:Int)] w fun e w'=>e= .returned (.int .i64 (Rx m r))/\Below w.heap.size w w':=by
 have Hv:=Z9 (h.alloc (.cells #[v0,v1,v2,v3,v4,.int .i64 m.now] 32))
 obtain ⟨a0,p0,a1,p1,a2,p2,a3,p3,a4,p4,rfl,rfl,rfl,rfl,rfl,_,_,_,_,_,_,_,_,_,_⟩:=h.five
 clear h
 have HS:=Z9 hS
 obtain ⟨BB0,kb0⟩:=Xk w 32 (S6 a0 p0 a1 p1 a2 p2 a3 p3 a4 p4 m)
 have hr1:(r:Int)<(m.rooms.length:Int):=by omega
 have Hc:Hid (Rx m r=Np (ZV m.rooms r) (Y2 m (r:Int) m.desks.length).1 (Y2 m (r:Int) m.desks.length).2):=Z9 rfl
 rw [uh Hc]
 clear Hc hS
 obtain ⟨⟨n,ps⟩,hrm⟩:∃ x,ZV m.rooms r=x:=⟨_,rfl⟩
 obtain ⟨mo,hmo⟩:∃ x,(Y2 m (r:Int) m.desks.length).1=x:=⟨_,rfl⟩
 obtain ⟨al,hal⟩:∃ x,(Y2 m (r:Int) m.desks.length).2=x:=⟨_,rfl⟩
 rw [hrm,hmo,hal]
 have Hrm:=Z9 hrm
 have Hmo:=Z9 hmo
 have Hal:=Z9 hal
 clear hrm hmo hal
 go_enter Tryz.func96,Tryz.ntmps96
 go_wp2_with fail
 have hu:=Rb (r:Int) (uh Hv) (uh HS)
 rw [uh Hmo,uh Hal] at hu
 refine hu.mono ?_
 clear hu
 rintro e w1 ⟨rfl,hb⟩
 have kb:=Z9 ((uh kb0).below hb (uh kb0).lt)
 replace Hv:=Z9 ((uh Hv).below hb)
 have BB:=Z9 ((uh BB0).trans (hb.mono (uh BB0).size))
 clear hb kb0 BB0
 obtain ⟨_,_,hre,_,_,r0⟩:=(uh Hv).rooms
 cases hre
 rcases r0 with e0 | ⟨rb,off,rfl,hbw,hcl⟩
 ·rw [e0] at hr;simp at hr
 obtain ⟨d0,pv,d1,hpv⟩:=hcl r hr
 rw [uh Hrm] at d0 hpv
 simp only at d0 hpv
 have Hpv:=Z9 hpv
 obtain ⟨pa,pc,rfl,_,_,_⟩:=hpv
 have c0:=(uh kb).cell (i:=0) (v:= .slice (some ⟨rb,off,none⟩) m.rooms.length p0) rfl
 clear hcl
 go_wp2_with fail
 refine (Sx n mo al (uh Hpv)).mono ?_
 rintro e w2 ⟨rfl,hb⟩
 replace BB:=bt BB hb
 clear hb
 go_wp2_with fail
 go_ret
 exact ⟨rfl,uh BB⟩
theorem JX  (h:Smy w v0 v1 v2 v3 v4 m) (hS:Sane m) :
  Calls Tryz.prog 98 #[.agg #[v0,v1,v2,v3,v4,.int .i64 m.now]] w fun e w'=>e= .returned (.int .i64 (Ng m))/\Below w.heap.size w w':=by
 have Hv:=Z9 (h.alloc (.cells #[v0,v1,v2,v3,v4,.int .i64 m.now] 32))
 obtain ⟨a0,p0,a1,p1,a2,p2,a3,p3,a4,p4,rfl,rfl,rfl,rfl,rfl,_,_,_,_,_,_,_,_,_,_⟩:=h.five
 clear h
 have HS:=Z9 hS
 obtain ⟨BB0,kb0⟩:=Xk w 32 (S6 a0 p0 a1 p1 a2 p2 a3 p3 a4 p4 m)
 have h3:=(Ze hS.hall).2.1
 have Hbd:=Z9 (NU m)
 clear hS
 go_enter Tryz.func98,Tryz.ntmps98
 go_wp2_with fail
 go_loopw [3,4] (fun n i wr=> ∃ k:Nat,k<=m.rooms.length/\i= .int .i64 k/\n= .int .i64 (UZ m k)/\Blk wr w.heap.size 32 #[.slice a0 m.rooms.length p0,.slice a1 m.guilds.length p1,.slice a2 m.smiths.length p2,.slice a3 m.desks.length p3,.slice a4 m.paces.length p4,.int .i64 m.now]/\Smy wr (.slice a0 m.rooms.length p0) (.slice a1 m.guilds.length p1) (.slice a2 m.smiths.length p2) (.slice a3 m.desks.length p3) (.slice a4 m.paces.length p4) m/\Below w.heap.size w wr) (fun _ i _=>m.rooms.length-(intOf i).toNat)
 case atStart=>exact ⟨0,Nat.zero_le _,rfl,rfl,uh kb0,uh Hv,uh BB0⟩
 case round=>
  obtain ⟨k,hk,rfl,rfl,hkb,hv,hb0⟩:=hrel
  obtain ⟨u0,u1⟩:=uh Hbd k
  obtain ⟨u2,u3⟩:=uh Hbd (k+1)
  have hst:UZ m (k+1)=UZ m k+Rx m k:=rfl
  have kb:=Z9 hkb
  have Hv1:=Z9 hv
  have BB:=Z9 hb0
  clear hkb hv hb0 kb0 BB0 Hv
  obtain ⟨c0,c1,c2,c3,c4,c5⟩:=(uh kb).c6
  by_cases hlt:k<m.rooms.length
  ·have hlt1:(k:Int)<(m.rooms.length:Int):=by omega
   go_wp2_with fail
   refine (LL (uh Hv1) (uh HS) hlt).mono ?_
   rintro e w1 ⟨rfl,hb⟩
   replace kb:=bl kb hb
   replace Hv1:=Z9 ((uh Hv1).below hb)
   replace BB:=bt BB hb
   rw [hst] at u2 u3
   have Hst:=Z9 hst
   clear hb c0 c1 c2 c3 c4 c5 hst
   generalize Rx m k=ci at *
   generalize UZ m k=ct at *
   go_wp2_with fail
   go_roundw
   case rel=>exact ⟨k+1,by omega,by go_num,by rw [uh Hst],uh kb,uh Hv1,uh BB⟩
   case measure=>simp [intOf];omega
  ·obtain rfl:k=m.rooms.length:=by omega
   go_wp2_with fail
   go_ret
   exact ⟨rfl,uh BB⟩
def cnt (p:Nat->Bool):Nat->Nat
 | 0=>0
 | n+1=>cnt p n+(if p n then 1 else 0)
theorem FF (p:Nat->Bool):∀ n,cnt p n<=n
 | 0=>Nat.le_refl _
 | n+1=>by
  have:=FF p n
  unfold cnt
  split<;>omega
theorem Pa {p q:Nat->Bool} : ∀ n,(∀ i,i<n->p i=true->q i=true)->cnt p n<=cnt q n
 | 0,_=>Nat.le_refl _
 | n+1,h=>by
  have ih:=Pa n (fun i hi=>h i (by omega))
  have hn:=h n (by omega)
  unfold cnt
  cases hp:p n
  ·simp;omega
  ·rw [hn hp];simp;exact ih
theorem Sf {p q:Nat->Bool} {x:Nat} (hp:p x=true) (hq:q x=false):∀ n,x<n->(∀ i,i<n->q i=true->p i=true)->cnt q n+1<=cnt p n
 | 0,hx,_=>by omega
 | n+1,hx,h=>by
  unfold cnt
  by_cases e:x=n
  ·subst e
   have:=Pa (p:=q) (q:=p) x (fun i hi=>h i (by omega))
   rw [hp,hq];simp;exact this
  ·have ih:=Sf hp hq n (by omega) (fun i hi=>h i (by omega))
   have hn:=h n (by omega)
   cases hqn:q n
   ·simp;omega
   ·rw [hn hqn];simp;exact ih
theorem IZ (q:Nat->Bool) (y:Nat):∀ n,cnt q n<=cnt (fun i=>q i && !(i ==y)) n+1
 | 0=>by simp [cnt]
 | n+1=>by
  unfold cnt
  by_cases e:n=y
  ·subst e
   have:=Pa (p:=q) (q:=fun i=>q i && !(i ==n)) n (fun i hi hqi=>by
    simp only [hqi,Bool.true_and,Bool.not_eq_true',beq_eq_false_iff_ne];omega)
   simp only [beq_self_eq_true,Bool.not_true,Bool.and_false]
   split<;>simp<;>omega
  ·have ih:=IZ q y n
   have he:(n ==y)=false:=by simpa using e
   simp only [he,Bool.not_false,Bool.and_true]
   omega
theorem FG {p q:Nat->Bool} {x y n:Nat} (hx:x<n) (hp:p x=true) (hq:q x=false) (h:∀ i,i<n->i ≠ y->q i=true->p i=true):cnt q n<=cnt p n:=by
 have h1:=IZ q y n
 have h2:=Sf (p:=p) (q:=fun i=>q i && !(i ==y)) hp (by simp [hq]) n hx (fun i hi hqi=>by
  simp only [Bool.and_eq_true,Bool.not_eq_true',beq_eq_false_iff_ne] at hqi
  exact h i hi hqi.2 hqi.1)
 omega
def WR (m:Z3) (b:Nat):Bool:=(Z8 m.desks b).1 && decide ((atV m.smiths b m.smiths.length).length=0)
def S9 (m:Z3) (i:Nat):Bool:=ZT (Z8 m.smiths i) && !VX (Ym m (i:Int)) 0 (YR m.rooms (Z8 m.smiths i).2.1)
def Pn (m:Z3) (w b:Nat):Bool:=WR m b && (Yg m (w:Int) b && VX (Ym m (w:Int)) 0 (YR m.rooms (b:Int)))
def Wx (m:Z3) (w:Nat):Nat->Option Nat
 | 0=>none
 | k+1=>match Wx m w k with
  | some b=>some b
  | none=>if Pn m w k then some k else none
def So (m:Z3) (w:Nat):Option Nat:=if S9 m w then Wx m w m.desks.length else none
def UM (m:Z3):Nat->Option (Nat × Nat)
 | 0=>none
 | k+1=>match UM m k with
  | some r=>some r
  | none=>(So m k).map fun b=>(k,b)
def VR (m:Z3):Option (Nat × Nat):=if ZK m then UM m m.smiths.length else none
def Ro (m:Z3) (w b:Nat):Bool:=(Z8 m.smiths w).1 ==2 && Yg m (w:Int) b
def V8 (m:Z3) (b:Nat):Nat->Option Nat
 | 0=>none
 | k+1=>match V8 m b k with
  | some w=>some w
  | none=>if Ro m k b then some k else none
def R1 (m:Z3) (b:Nat):Option Nat:=if WR m b then V8 m b m.smiths.length else none
def Xo (m:Z3):Nat->Option (Nat × Nat)
 | 0=>none
 | k+1=>match Xo m k with
  | some r=>some r
  | none=>(R1 m k).map fun w=>(w,k)
def Wl (m:Z3):Option (Nat × Nat):=if ZK m then Xo m m.desks.length else none
def VA (m:Z3):Option (Nat × Nat):=match VR m with
 | some r=>some r
 | none=>Wl m
theorem NX {w b:Nat} : ∀ {k},Wx m w k=some b->b<k/\Pn m w b=true
 | 0,h=>by cases h
 | k+1,h=>by
  unfold Wx at h
  cases hg:Wx m w k with
  | some b'=>
   rw [hg] at h
   cases h
   have:=NX hg
   exact ⟨by omega,this.2⟩
  | none=>
   rw [hg] at h
   simp only at h
   split at h
   ·rename_i hh
    cases h
    exact ⟨by omega,hh⟩
   ·cases h
theorem L6 {w b:Nat} : ∀ {k},UM m k=some (w,b)->w<k/\S9 m w=true/\b<m.desks.length/\Pn m w b=true
 | 0,h=>by cases h
 | k+1,h=>by
  unfold UM at h
  cases hg:UM m k with
  | some r=>
   rw [hg] at h
   cases h
   have:=L6 hg
   exact ⟨by omega,this.2⟩
  | none=>
   rw [hg] at h
   simp only [Option.map_eq_some_iff,Prod.mk.injEq] at h
   obtain ⟨b',hb',rfl,rfl⟩:=h
   unfold So at hb'
   split at hb'
   ·rename_i hh
    have:=NX hb'
    exact ⟨by omega,hh,this⟩
   ·cases hb'
theorem Oz {w b:Nat} : ∀ {k},V8 m b k=some w->w<k/\Ro m w b=true
 | 0,h=>by cases h
 | k+1,h=>by
  unfold V8 at h
  cases hg:V8 m b k with
  | some w'=>
   rw [hg] at h
   cases h
   have:=Oz hg
   exact ⟨by omega,this.2⟩
  | none=>
   rw [hg] at h
   simp only at h
   split at h
   ·rename_i hh
    cases h
    exact ⟨by omega,hh⟩
   ·cases h
theorem Qh {w b:Nat} : ∀ {k},Xo m k=some (w,b)->b<k/\WR m b=true/\w<m.smiths.length/\Ro m w b=true
 | 0,h=>by cases h
 | k+1,h=>by
  unfold Xo at h
  cases hg:Xo m k with
  | some r=>
   rw [hg] at h
   cases h
   have:=Qh hg
   exact ⟨by omega,this.2⟩
  | none=>
   rw [hg] at h
   simp only [Option.map_eq_some_iff,Prod.mk.injEq] at h
   obtain ⟨b',hb',rfl,rfl⟩:=h
   unfold R1 at hb'
   split at hb'
   ·rename_i hh
    have:=Oz hb'
    exact ⟨by omega,hh,this⟩
   ·cases hb'
def U7 (m:Z3) (w b:Nat):Z3:=setS m w (putS m (Z8 m.smiths w) (b:Int))
def VB (m:Z3) (w b:Nat):Z3:=Z1 (U7 m w b)
structure Moves (m:Z3) (w b:Nat):Prop where
 right:ZK m=true
 who:w<m.smiths.length
 bench:b<m.desks.length
 pres:ZT (Z8 m.smiths w)=true
 may:Yg m (w:Int) b=true
 idle:WR m b=true
 why:(S9 m w=true/\VX (Ym m (w:Int)) 0 (YR m.rooms (b:Int))=true)\/(Z8 m.smiths w).1=2
theorem Iq {w b:Nat} (h:VR m=some (w,b)):Moves m w b:=by
 unfold VR at h
 split at h
 ·rename_i hr
  obtain ⟨h1,h2,h3,h4⟩:=L6 h
  unfold Pn at h4
  simp only [Bool.and_eq_true] at h4
  have h2':=h2
  unfold S9 at h2'
  simp only [Bool.and_eq_true] at h2'
  exact ⟨hr,h1,h3,h2'.1,h4.2.1,h4.1,.inl ⟨h2,h4.2.2⟩⟩
 ·cases h
theorem Kf {w b:Nat} (h:Wl m=some (w,b)):Moves m w b:=by
 unfold Wl at h
 split at h
 ·rename_i hr
  obtain ⟨h1,h2,h3,h4⟩:=Qh h
  unfold Ro at h4
  simp only [Bool.and_eq_true,beq_iff_eq] at h4
  exact ⟨hr,h3,h1,by unfold ZT;rw [h4.1];rfl,h4.2,h2,.inr h4.1⟩
 ·cases h
theorem TS {w b:Nat} (h:VA m=some (w,b)):Moves m w b:=by
 unfold VA at h
 cases hm:VR m with
 | some r=>rw [hm] at h;cases h;exact Iq hm
 | none=>rw [hm] at h;exact Kf h
theorem Moves.loose {w b:Nat} (h:Moves m w b):Loose (U7 m w b):=by
 have hlo:=ZO h.right
 obtain ⟨p,g1,b1⟩:=hlo.limits h.who (by intro e;have:=h.pres;unfold ZT at this;rw [e] at this;cases this)
 obtain ⟨a0,a1,a2,a3,a4⟩:=hlo.at h.who h.pres
 have hm:=h.may
 unfold Yg at hm
 simp only [Bool.and_eq_true,Int.toNat_natCast] at hm
 have:=Py (m:=m) hlo (s:=Z8 m.smiths w) (b:=b) p h.pres g1 a0 a1 a4 h.bench hm.1 hm.2
 exact hlo.setS h.who this.1 this.2
theorem Moves.keeps {w b:Nat} (h:Moves m w b):ZK (VB m w b)=true:=Zd h.loose
theorem M7 {ss:List Z4} {b:Int} {n:Nat} : (atV ss b n).length=0 ↔ ∀ i,i<n-> ¬ ((Z8 ss i).2.1=b/\ZT (Z8 ss i)=true):=by
 constructor
 ·intro h i hi hp
  have hm:(XL (Z8 ss i),(i:Int)) ∈ atV ss b n:=(Yd ss b _ n).2 ⟨i,hi,hp.1,hp.2,rfl⟩
  rw [List.length_eq_zero_iff.1 h] at hm
  cases hm
 ·intro h
  rw [List.length_eq_zero_iff]
  refine List.eq_nil_iff_forall_not_mem.2 fun e he=> ?_
  obtain ⟨i,hi,h1,h2,_⟩:=(Yd ss b e n).1 he
  exact h i hi ⟨h1,h2⟩
theorem Ss {w b:Nat} (hw:w<m.smiths.length) (i:Nat):Z8 (U7 m w b).smiths i=if i=w then putS m (Z8 m.smiths w) (b:Int) else Z8 m.smiths i:=ZH hw i
theorem VC (m:Z3) (w b:Nat):(U7 m w b).smiths.length=m.smiths.length:=by unfold U7 setS;simp
theorem Ox {i:Nat} (hi:i<m.smiths.length):(Z8 (Z1 m).smiths i).2=(Z8 m.smiths i).2:=by
 unfold Z1
 rw [Yu m hi]
 split<;>rfl
theorem IQ {i:Nat} (hi:i<m.smiths.length):ZT (Z8 (Z1 m).smiths i)=ZT (Z8 m.smiths i):=(Yj m m.desks.length i hi).2.1
theorem zA1 (m:Z3) {b:Nat} (hb:b<m.desks.length):WR (Z1 m) b=WR m b:=by
 unfold WR Z1
 rw [Tt,Xd m b _ (Nat.le_refl _),if_pos hb]
 congr 1
 unfold XC
 split<;>rfl
theorem GI (m:Z3) {i:Nat} (hi:i<m.smiths.length):S9 (Z1 m) i=S9 m i:=by
 have h1:Ym (Z1 m) (i:Int)=Ym m (i:Int):=by
  unfold Ym Qi
  rw [Int.toNat_natCast,Ox hi,show (Z1 m).guilds=m.guilds from (ZQ m m.desks.length).2.1]
 unfold S9
 rw [IQ hi,h1,Ox hi,show (Z1 m).rooms=m.rooms from (ZQ m m.desks.length).1]
def Q9 (m:Z3):Nat:=cnt (WR m) m.desks.length
def Nv (m:Z3):Nat:=cnt (S9 m) m.smiths.length
def Ub (m:Z3):Nat:=13*Q9 m+Nv m
theorem Lh {p q:Nat->Bool} (n:Nat) (h:∀ i,i<n->p i=q i):cnt p n=cnt q n:=
 Nat.le_antisymm (Pa n fun i hi hp=>by rw [<-h i hi];exact hp) (Pa n fun i hi hp=>by rw [h i hi];exact hp)
theorem KO (m:Z3):Q9 (Z1 m)=Q9 m:=by
 unfold Q9
 rw [show (Z1 m).desks.length=m.desks.length from (ZQ m m.desks.length).2.2.2.2.2]
 exact Lh _ fun i hi=>zA1 m hi
theorem IP (m:Z3):Nv (Z1 m)=Nv m:=by
 unfold Nv
 rw [show (Z1 m).smiths.length=m.smiths.length from (ZQ m m.desks.length).2.2.2.2.1]
 exact Lh _ fun i hi=>GI m hi
theorem Gj {w b:Nat} (hw:w<m.smiths.length) (hp:ZT (Z8 m.smiths w)=true):WR (U7 m w b) b=false:=by
 unfold WR
 rw [decide_eq_false,Bool.and_false]
 intro h
 refine M7.1 h w (by rw [VC];exact hw) ?_
 rw [Ss hw,if_pos rfl]
 exact ⟨rfl,hp⟩
theorem Mr {w b j:Nat} (hw:w<m.smiths.length) (hj:(Z8 m.smiths w).2.1 ≠ (j:Int)) (h:WR (U7 m w b) j=true):WR m j=true:=by
 unfold WR at h ⊢
 simp only [Bool.and_eq_true,decide_eq_true_eq] at h ⊢
 refine ⟨h.1,M7.2 fun i hi hp=> ?_⟩
 have:=M7.1 h.2 i (by rw [VC];exact hi)
 rw [Ss hw] at this
 by_cases e:i=w
 ·subst e;exact hj hp.1
 ·rw [if_neg e] at this;exact this hp
theorem Fi {w b i:Nat} (hw:w<m.smiths.length) (hi:i ≠ w):S9 (U7 m w b) i=S9 m i:=by
 unfold S9 Ym
 rw [Int.toNat_natCast,Ss hw,if_neg hi]
 rfl
theorem Gk {w b:Nat} (hw:w<m.smiths.length) (h:VX (Ym m (w:Int)) 0 (YR m.rooms (b:Int))=true):S9 (U7 m w b) w=false:=by
 unfold S9 Ym
 rw [Int.toNat_natCast,Ss hw,if_pos rfl]
 have e:Qi (U7 m w b).guilds (putS m (Z8 m.smiths w) (b:Int))=Ym m (w:Int):=by
  unfold Ym
  rw [Int.toNat_natCast]
  rfl
 rw [e]
 show (_ && !VX _ 0 (YR m.rooms (b:Int)))=false
 rw [h];simp
theorem KS (h:ZK m=true) {w:Nat} (hw:w<m.smiths.length) (h2:(Z8 m.smiths w).1=2):∃ i,i<m.smiths.length/\i ≠ w/\(Z8 m.smiths i).2.1=(Z8 m.smiths w).2.1/\ZT (Z8 m.smiths i)=true:=by
 have hlo:=ZO h
 have hp:ZT (Z8 m.smiths w)=true:=by unfold ZT;rw [h2];rfl
 obtain ⟨a0,a1,_⟩:=hlo.at hw hp
 obtain ⟨b,hb⟩:∃ b:Nat,(Z8 m.smiths w).2.1=(b:Int):=⟨(Z8 m.smiths w).2.1.toNat,by omega⟩
 have hbl:b<m.desks.length:=by omega
 have hok:YD m b=true:=by
  unfold ZK at h
  simp only [Bool.and_eq_true] at h
  exact M5 h.2 hbl
 rw [<-Ow] at hok
 unfold V7 at hok
 split at hok
 ·simp only [decide_eq_true_eq,List.length_eq_zero_iff] at hok
  have:(w:Int) ∈ ZU (atB (b:Int)) m.smiths m.smiths.length:=(Xc _ _ _ _).2 ⟨w,hw,rfl,by unfold atB;rw [h2,hb];simp⟩
  rw [hok] at this
  cases this
 ·simp only [Bool.and_eq_true,decide_eq_true_eq] at hok
  have hx:Z8 (ZU (Zo (b:Int)) m.smiths m.smiths.length) 0 ∈ ZU (Zo (b:Int)) m.smiths m.smiths.length:=Tr (by omega)
  obtain ⟨i,hi,_,hwk⟩:=(Xc _ _ _ _).1 hx
  unfold Zo at hwk
  simp only [Bool.and_eq_true,beq_iff_eq] at hwk
  exact ⟨i,hi,fun e=>by subst e;omega,by rw [hb];exact hwk.2,by unfold ZT;rw [hwk.1];rfl⟩
theorem Moves.falls {w b:Nat} (h:Moves m w b):Ub (VB m w b)<Ub m:=by
 unfold Ub VB
 rw [KO,IP]
 have hlo:=ZO h.right
 have h12:=YU hlo
 obtain ⟨a0,a1,_⟩:=hlo.at h.who h.pres
 have hmb:=FF (S9 (U7 m w b)) m.smiths.length
 have hbusy:=Gj (b:=b) h.who h.pres
 rcases h.why with ⟨hmis,hfit⟩ | hwait
 ·have e1:Q9 (U7 m w b)<=Q9 m:=FG (y:=(Z8 m.smiths w).2.1.toNat) h.bench h.idle hbusy fun i hi hne hq=>Mr h.who (by omega) hq
  have e2:Nv (U7 m w b)+1<=Nv m:=by
   unfold Nv
   rw [VC]
   refine Sf hmis (Gk h.who hfit) _ h.who fun i hi hq=> ?_
   by_cases e:i=w
   ·subst e;exact hmis
   ·rw [Fi h.who e] at hq;exact hq
  omega
 ·have e1:Q9 (U7 m w b)+1<=Q9 m:=by
   refine Sf h.idle hbusy _ h.bench fun j hj hq=> ?_
   by_cases e:(Z8 m.smiths w).2.1=(j:Int)
   ·exfalso
    obtain ⟨i,hi,hiw,hbe,hpr⟩:=KS h.right h.who hwait
    unfold WR at hq
    simp only [Bool.and_eq_true,decide_eq_true_eq] at hq
    have:=M7.1 hq.2 i (by rw [VC];exact hi)
    rw [Ss h.who,if_neg hiw] at this
    exact this ⟨by rw [hbe,e],hpr⟩
   ·exact Mr h.who e hq
  have e2:Nv (U7 m w b)<=12:=by
   unfold Nv
   rw [VC]
   omega
  omega
def Vz:Nat->Z3->Z3
 | 0,m=>m
 | k+1,m=>match VA m with
  | none=>m
  | some (w,b)=>Vz k (VB m w b)
def U6 (m:Z3):Z3:=Vz (Ub m+1) m
theorem Rf:∀ (j k:Nat) (m:Z3),Ub m<j->Ub m<k->Vz j m=Vz k m
 | 0,_,_,h,_=>by omega
 | _+1,0,_,_,h=>by omega
 | j+1,k+1,m,hj,hk=>by
  show (match VA m with | none=>m | some (w,b)=>Vz j (VB m w b))=(match VA m with | none=>m | some (w,b)=>Vz k (VB m w b))
  cases hm:VA m with
  | none=>rfl
  | some r=>
   obtain ⟨w,b⟩:=r
   have hf:=(TS hm).falls
   exact Rf j k (VB m w b) (by omega) (by omega)
theorem LR (h:VA m=none):U6 m=m:=by
 unfold U6 Vz
 rw [h]
theorem N9 {w b:Nat} (h:VA m=some (w,b)):U6 m=U6 (VB m w b):=by
 have hf:=(TS h).falls
 have:U6 m=Vz (Ub m) (VB m w b):=by
  show (match VA m with | none=>m | some (w,b)=>Vz (Ub m) (VB m w b))=_
  rw [h]
 rw [this]
 exact Rf _ _ _ (by omega) (by omega)
theorem Sm:∀ (k:Nat) (m:Z3),ZK m=true->ZK (Vz k m)=true
 | 0,m,h=>h
 | k+1,m,h=>by
  unfold Vz
  cases hm:VA m with
  | none=>exact h
  | some r=>
   obtain ⟨w,b⟩:=r
   exact Sm k (VB m w b) (TS hm).keeps
theorem LS (h:ZK m=true):ZK (U6 m)=true:=Sm _ m h
def XW (m:Z3):Z3:=if ZK m then U6 m else YB
set_option maxRecDepth 100000
theorem OF  {r:Nat} (h:Smy w v0 v1 v2 v3 v4 m) (hS:Sane m) (hr:r<m.rooms.length) :
  Calls Tryz.prog 292 #[.agg #[v0,v1,v2,v3,v4,.int .i64 m.now],.int .i64 (r:Int)] w fun e w'=>e= .returned (.int .i64 (UF m r))/\Below w.heap.size w w':=by
 have Hv:=Z9 (h.alloc (.cells #[v0,v1,v2,v3,v4,.int .i64 m.now] 32))
 obtain ⟨a0,p0,a1,p1,a2,p2,a3,p3,a4,p4,rfl,rfl,rfl,rfl,rfl,_,_,_,_,_,_,_,_,_,_⟩:=h.five
 clear h
 have kb:Hid (Blk (w.alloc (.cells #[.slice a0 m.rooms.length p0,.slice a1 m.guilds.length p1,.slice a2 m.smiths.length p2,.slice a3 m.desks.length p3,.slice a4 m.paces.length p4,.int .i64 m.now] 32)) w.heap.size 32 #[.slice a0 m.rooms.length p0,.slice a1 m.guilds.length p1,.slice a2 m.smiths.length p2,.slice a3 m.desks.length p3,.slice a4 m.paces.length p4,.int .i64 m.now]):=Z9 (Blk.new w _ _)
 have BB:Hid (Below w.heap.size w (w.alloc (.cells #[.slice a0 m.rooms.length p0,.slice a1 m.guilds.length p1,.slice a2 m.smiths.length p2,.slice a3 m.desks.length p3,.slice a4 m.paces.length p4,.int .i64 m.now] 32))):=Z9 ((Below.refl _ _).alloc (Nat.le_refl _) _)
 obtain ⟨x,hx⟩:∃ x,UF m r=x:=⟨_,rfl⟩
 rw [hx]
 obtain ⟨ms,hms⟩:∃ q,Y2 m (r:Int) m.desks.length=q:=⟨_,rfl⟩
 have Hx:Hid (XM (ZV m.rooms r) ms.1=x):=Z9 (by rw [<-hx,<-hms];rfl)
 have Hms:=Z9 hms
 have HS:=Z9 hS
 have hr1:(r:Int)<(m.rooms.length:Int):=by omega
 clear hx hms hS
 obtain ⟨mo,al⟩:=ms
 go_enter Tryz.func292,Tryz.ntmps292
 go_wp2_with fail
 generalize w.alloc (.cells #[.slice a0 m.rooms.length p0,.slice a1 m.guilds.length p1,.slice a2 m.smiths.length p2,.slice a3 m.desks.length p3,.slice a4 m.paces.length p4,.int .i64 m.now] 32)=W at *
 refine (Rb (r:Int) (uh Hv) (uh HS)).mono ?_
 rw [uh Hms]
 rintro e w1 ⟨rfl,hb⟩
 replace Hv:=Z9 ((uh Hv).below hb)
 replace kb:=bl kb hb
 replace BB:=bt BB hb
 clear hb
 obtain ⟨_,_,hre,_,_,r0⟩:=(uh Hv).rooms
 cases hre
 rcases r0 with e0 | ⟨rb,off,rfl,hbw,hcl⟩
 ·rw [e0] at hr;simp at hr
 obtain ⟨d0,pv,d1,hpv⟩:=hcl r hr
 have Hpv:=Z9 hpv
 obtain ⟨pa,pc,rfl,_,_,_⟩:=hpv
 obtain ⟨⟨bn,ps⟩,hrm⟩:∃ q,ZV m.rooms r=q:=⟨_,rfl⟩
 rw [hrm] at d0 d1 Hpv Hx
 simp only at d0 d1
 clear hcl hrm
 have c0:=(uh kb).cell (i:=0) (v:= .slice (some ⟨rb,off,none⟩) m.rooms.length p0) rfl
 go_wp2_with fail
 refine (Uf bn mo (uh Hpv)).mono ?_
 rintro e w2 ⟨rfl,hb⟩
 replace BB:=bt BB hb
 clear hb
 go_wp2_with fail
 go_ret
 exact ⟨Zv (uh Hx),uh BB⟩
theorem Ra  {b:Nat} (h:Smy w v0 v1 v2 v3 v4 m) (hb0:b<m.desks.length) (hl:m.smiths.length<=800) :
  Calls Tryz.prog 89 #[.agg #[v0,v1,v2,v3,v4,.int .i64 m.now],.int .i64 (b:Int)] w fun e w'=>e= .returned (.bool (WR m b))/\Below w.heap.size w w':=by
 have Hv:=Z9 (h.alloc (.cells #[v0,v1,v2,v3,v4,.int .i64 m.now] 32))
 obtain ⟨a0,p0,a1,p1,a2,p2,a3,p3,a4,p4,rfl,rfl,rfl,rfl,rfl,_,_,_,_,_,_,_,_,_,_⟩:=h.five
 clear h
 have kb:Hid (Blk (w.alloc (.cells #[.slice a0 m.rooms.length p0,.slice a1 m.guilds.length p1,.slice a2 m.smiths.length p2,.slice a3 m.desks.length p3,.slice a4 m.paces.length p4,.int .i64 m.now] 32)) w.heap.size 32 #[.slice a0 m.rooms.length p0,.slice a1 m.guilds.length p1,.slice a2 m.smiths.length p2,.slice a3 m.desks.length p3,.slice a4 m.paces.length p4,.int .i64 m.now]):=Z9 (Blk.new w _ _)
 have BB:Hid (Below w.heap.size w (w.alloc (.cells #[.slice a0 m.rooms.length p0,.slice a1 m.guilds.length p1,.slice a2 m.smiths.length p2,.slice a3 m.desks.length p3,.slice a4 m.paces.length p4,.int .i64 m.now] 32))):=Z9 ((Below.refl _ _).alloc (Nat.le_refl _) _)
 have hb1:(b:Int)<(m.desks.length:Int):=by omega
 obtain ⟨qs,hqs⟩:∃ q,atV m.smiths (b:Int) m.smiths.length=q:=⟨_,rfl⟩
 obtain ⟨op,hop⟩:∃ q,(Z8 m.desks b).1=q:=⟨_,rfl⟩
 have hI:WR m b=(op && decide (qs.length=0)):=by unfold WR;rw [hqs,hop]
 rw [hI]
 have Hqs:=Z9 hqs
 have Hop:=Z9 hop
 clear hI hqs hop
 go_enter Tryz.func89,Tryz.ntmps89
 go_upto_region 1 with fail
 generalize w.alloc (.cells #[.slice a0 m.rooms.length p0,.slice a1 m.guilds.length p1,.slice a2 m.smiths.length p2,.slice a3 m.desks.length p3,.slice a4 m.paces.length p4,.int .i64 m.now] 32)=W at *
 obtain ⟨_,_,hde,_,_,r3⟩:=(uh Hv).desks
 cases hde
 rcases r3 with e0 | ⟨db,off,rfl,hbw,hcl⟩
 ·rw [e0] at hb0;simp at hb0
 obtain ⟨d0,_,_⟩:=Zk hcl hb0
 rw [uh Hop] at d0
 clear hcl Hop
 obtain ⟨c0,c1,c2,c3,c4,c5⟩:=(uh kb).c6
 cases op
 ·go_wp2_with fail
  go_ret
  exact ⟨rfl,uh BB⟩
 go_wp2_with fail
 refine (Ti (b:Int) (uh Hv) (by omega)).mono ?_
 rw [uh Hqs]
 rintro e w2 ⟨v',rfl,he,hb⟩
 obtain ⟨ua,uc,rfl⟩:=EntsAt.shape he
 replace BB:=bt BB hb
 clear hb he c0 c1 c2 c3 c4 c5
 go_wp2_with fail
 go_ret
 exact ⟨Z5 (by rw [Bool.true_and,Bool.eq_iff_iff];simp only [beq_iff_eq,decide_eq_true_eq];omega),uh BB⟩
theorem FullSmy.putW {n₀ n cap g:Nat}  {qs:List (Z0 × Value)} (hf:FullSmy n₀ w v0 v1 (.slice (some ⟨g,0,none⟩) n cap) v3 v4 m qs) (hn:n=m.smiths.length) {j:Nat} (hj:j<m.smiths.length) (x:Z4) :
  FullSmy n₀ (Nz w g (j*11) (ZR x)) v0 v1 (.slice (some ⟨g,0,none⟩) n cap) v3 v4 { m with smiths:=m.smiths.set j x } qs:=by
 have hb:(Value.slice (some ⟨g,0,none⟩) n cap).ownBlock=some g:=rfl
 obtain ⟨hput,hg⟩:=RecAt.put ZW (by omega) hf.smiths hn hj x
 have hne:∀ k,k<w.heap.size->k ≠ g->(Nz w g (j*11) (ZR x)).heap[k]?=w.heap[k]?:=fun k hk hkg=>hg.block k hk (fun e=>hkg (by cases e;rfl))
 refine ⟨hf.hall.same2 fun k e=>hne k (hf.hall.lt e).2 fun e'=> ?_,hf.rooms,RecAt.same hf.guilds fun k e=>hne k (RecAt.lt hf.guilds e).2 fun e'=> ?_,hput,RecAt.same hf.desks fun k e=>hne k (RecAt.lt hf.desks e).2 fun e'=> ?_,RecAt.same hf.paces fun k e=>hne k (RecAt.lt hf.paces e).2 fun e'=> ?_,hf.h1,hf.h2,hf.h3,hf.h4,hf.a12,hf.a13,hf.a14,hf.a23,hf.a24,hf.a34⟩
 ·subst e'
  rcases e with e | ⟨q,hq,e⟩
  ·exact hf.h2.1 _ hb e
  ·exact hf.h2.2 q hq _ hb e
 ·subst e';exact hf.a12 _ e hb
 ·subst e';exact hf.a23 _ hb e
 ·subst e';exact hf.a24 _ hb e
theorem RR (w:World) (g o:Nat) (c0 c1 c2 c3 c4 c5 c6 c7 c8 c9 c10:Value):Nz w g o [c0,c1,c2,c3,c4,c5,c6,c7,c8,c9,c10]=((((((((((w.setCell ⟨g,o,none⟩ c0).setCell ⟨g,o+1,none⟩ c1).setCell ⟨g,o+2,none⟩ c2).setCell ⟨g,o+3,none⟩ c3).setCell ⟨g,o+4,none⟩ c4).setCell ⟨g,o+5,none⟩ c5).setCell ⟨g,o+6,none⟩ c6).setCell ⟨g,o+7,none⟩ c7).setCell ⟨g,o+8,none⟩ c8).setCell ⟨g,o+9,none⟩ c9).setCell ⟨g,o+10,none⟩ c10:=rfl
set_option linter.unusedSimpArgs false
theorem Rc  {k:Nat} (b:Int) (h:Smy w v0 v1 v2 v3 v4 m) (hS:Sane m) (hp:m.paces.length<=1000) (hk:k<m.smiths.length) (hs:(Z8 m.smiths k).1 ≠ 0) :
  Calls Tryz.prog 105 #[.agg #[v0,v1,v2,v3,v4,.int .i64 m.now],.int .i64 (k:Int),.int .i64 b] w fun e w'=>e= .returned (.int .i64 (Yp m (k:Int) b))/\Below w.heap.size w w':=by
 have Hv:=Z9 (h.alloc (.cells #[v0,v1,v2,v3,v4,.int .i64 m.now] 32))
 obtain ⟨a0,p0,a1,p1,a2,p2,a3,p3,a4,p4,rfl,rfl,rfl,rfl,rfl,_,_,_,_,_,_,_,_,_,_⟩:=h.five
 clear h
 have HF:=Z9 (hS.few' hp)
 have HSW:=Z9 (hS.with hk hs b)
 have Hc:Hid (Yp m (k:Int) b=Ng (T6 m (k:Int) b)):=Z9 rfl
 rw [uh Hc]
 have hk1:(k:Int)<(m.smiths.length:Int):=by omega
 clear hS hp hs Hc
 have BB0:Hid (Below w.heap.size w (w.alloc (.cells #[.slice a0 m.rooms.length p0,.slice a1 m.guilds.length p1,.slice a2 m.smiths.length p2,.slice a3 m.desks.length p3,.slice a4 m.paces.length p4,.int .i64 m.now] 32))):=Z9 ((Below.refl _ _).alloc (Nat.le_refl _) _)
 go_enter Tryz.func105,Tryz.ntmps105
 go_wp2_with fail
 refine (ZC (uh Hv) (uh HF)).mono ?_
 rintro e w1 ⟨y0,y1,y2,y3,y4,oq,rfl,ho,hb⟩
 have k9:=ho.smy
 obtain ⟨b0,q0,b1,q1,b2,q2,b3,q3,b4,q4,rfl,rfl,rfl,rfl,rfl,_,_,_,_,_,_,_,_,_,_⟩:=k9.five
 have HO:=Z9 (ho.mono (n₁:=w.heap.size) (by simp))
 have BB:=Z9 ((uh BB0).trans (hb.mono (uh BB0).size))
 clear k9 ho hb BB0 Hv
 go_upto_region 2 with fail
 obtain ⟨W,hW,hba,ko⟩:=Zy w1 32 (S6 b0 q0 b1 q1 b2 q2 b3 q3 b4 q4 m)
 have LO:Hid (∀ i,YC (.slice b0 m.rooms.length q0) (.slice b1 m.guilds.length q1) (.slice b2 m.smiths.length q2) (.slice b3 m.desks.length q3) (.slice b4 m.paces.length q4) oq i->w.heap.size<=i/\i<w1.heap.size):=Z9 (fun i e=>(uh HO).own e)
 replace HO:=Z9 ((uh HO).below hba)
 replace BB:=bt BB hba
 clear hba
 rw [hW]
 clear hW
 generalize w1.heap.size=ob at *
 obtain ⟨g2,hga,_,_,hc2,hz2⟩:=RecAt.view ZW (by omega) (uh HO).smiths rfl (by omega)
 cases hga
 have hg2o:=(uh LO g2 (.inr (.inr (.inr (.inl rfl)))))
 have s1:=hc2 k hk 1 _ rfl
 have f1:=hz2 (k*11+1)
 have hp1:=(uh HO).putS rfl (j:=k) (i:=1) hk (by omega) (.int .i64 b) (((Z8 m.smiths k).1,b,(Z8 m.smiths k).2.2)) rfl
 have hlen:(m.smiths.set k (((Z8 m.smiths k).1,b,(Z8 m.smiths k).2.2))).length=m.smiths.length:=by simp
 have hs1:Z8 (m.smiths.set k (((Z8 m.smiths k).1,b,(Z8 m.smiths k).2.2))) k=(((Z8 m.smiths k).1,b,(Z8 m.smiths k).2.2)):=by rw [ZH hk,if_pos rfl]
 have hp2:=hp1.putS hlen.symm (j:=k) (i:=0) (by show k<(m.smiths.set k _).length;omega) (by omega) (.int .i64 2) (Sa (Z8 m.smiths k) b) (by show ZR (Sa (Z8 m.smiths k) b)=(ZR (Z8 (m.smiths.set k (((Z8 m.smiths k).1,b,(Z8 m.smiths k).2.2))) k)).set 0 _;rw [hs1];rfl)
 obtain ⟨_,hga,_,_,hc3,hz3⟩:=RecAt.view ZW (by omega) hp1.smiths hlen.symm (by show 0<(m.smiths.set k _).length;omega)
 cases hga
 have s2:=hc3 k (by show k<(m.smiths.set k _).length;omega) 0 _ rfl
 have f2:=hz3 (k*11)
 have x2:=(uh ko).cell (i:=2) (v:= .slice (some ⟨g2,0,none⟩) m.smiths.length q2) rfl
 have x3:=((uh ko).other (a:=⟨g2,k*11+1,none⟩) (by show ob ≠ g2;omega) (.int .i64 b)).cell (i:=2) (v:= .slice (some ⟨g2,0,none⟩) m.smiths.length q2) rfl
 simp only [Nat.add_zero,List.set_set] at hp2 s2 f2
 have hwm:({ m with smiths:=m.smiths.set k (Sa (Z8 m.smiths k) b) } : Z3)=T6 m (k:Int) b:=by unfold T6;simp
 rw [hwm] at hp2
 have HP:=Z9 hp2.smy
 clear hc2 hz2 hc3 hz3 hp1 hp2 hwm hs1 hlen HO
 go_upto_region 4 with fail
 clear s1 f1 s2 f2 x2 x3
 replace ko:Hid (Blk ((W.setCell ⟨g2,k*11+1,none⟩ (.int .i64 b)).setCell ⟨g2,k*11,none⟩ (.int .i64 2)) ob 32 #[.slice b0 m.rooms.length q0,.slice b1 m.guilds.length q1,.slice (some ⟨g2,0,none⟩) m.smiths.length q2,.slice b3 m.desks.length q3,.slice b4 m.paces.length q4,.int .i64 m.now]):=Z9 (((uh ko).other (a:=⟨g2,k*11+1,none⟩) (by show ob ≠ g2;omega) _).other (a:=⟨g2,k*11,none⟩) (by show ob ≠ g2;omega) _)
 replace BB:Hid (Below w.heap.size w ((W.setCell ⟨g2,k*11+1,none⟩ (.int .i64 b)).setCell ⟨g2,k*11,none⟩ (.int .i64 2))):=Z9 (((uh BB).setCell (p:=⟨g2,k*11+1,none⟩) (by show w.heap.size<=g2;omega) _).setCell (p:=⟨g2,k*11,none⟩) (by show w.heap.size<=g2;omega) _)
 generalize (W.setCell ⟨g2,k*11+1,none⟩ (.int .i64 b)).setCell ⟨g2,k*11,none⟩ (.int .i64 2)=W3 at *
 obtain ⟨c0,c1,c2,c3,c4,c5⟩:=(uh ko).c6
 go_wp2_with fail
 refine (JX (m:=T6 m (k:Int) b) (uh HP) (uh HSW)).mono ?_
 rintro e w5 ⟨rfl,hb⟩
 replace BB:=bt BB hb
 clear hb
 go_wp2_with fail
 go_ret
 exact ⟨rfl,uh BB⟩
end Go.Proofs.YtnponpamjddpjaaGreat
