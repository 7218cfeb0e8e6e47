/- Part 2 of what the proof rests on. No condition but those that a theorem names. -/
import Derived.Test.YtjhijildaceadaaGreatDoorXa01
set_option maxHeartbeats 8000000
set_option maxRecDepth 100000
namespace Go.Proofs.YtjhijildaceadaaGreatDoor
open Go.ChangeShapes Go.WideShapes Go.ChangeAt Go.RowKit Go.Sort
set_option linter.unusedVariables false
variable {w w' w0 w1 w2 w3 w₀ wr W W' X A B C : World} {v v0 v1 v2 v3 v4 u u0 u1 u2 u3 u4 : Value}
def Adds (rs:List Z3):Prop:= ∀ k,k<=rs.length->0<=Z0 (rs.take k)/\Z0 (rs.take k)<=1000000
theorem KE {rs:List Z3} (h:rs.all Zm=true) (hl:rs.length<=3):Adds rs:=fun k hk=>by have:=SC h k hk;omega
theorem Adds.taken {rs:List Z3} (h:Adds rs) (n:Nat):Adds (rs.take n):=fun k hk=>by
 have hk':k<=n/\k<=rs.length:=by simp at hk;omega
 rw [List.take_take,Nat.min_eq_left hk'.1];exact h k hk'.2
theorem PJ  {rs:List Z3} (h:IsRooms w v rs) :
  Calls Tryz.prog 283 #[v] w fun e w'=>e= .returned (.bool (rs.all Zm))/\Below w.heap.size w w':=by
 obtain ⟨a,cap,rfl,hc,hm,hr⟩:=h
 have Hr:=Z9 hr
 clear hr
 go_enter Tryz.func283,Tryz.ntmps283
 go_wp2_with fail
 go_loopw [7] (fun i wr=> ∃ k:Nat,k<=rs.length/\i= .int .i64 k/\(∀ j,j<k->Zm (ZY rs j)=true)/\Below w.heap.size w wr) (fun i _=>rs.length-(intOf i).toNat)
 case atStart=>exact ⟨0,Nat.zero_le _,rfl,fun j hj=>by omega,Below.refl _ _⟩
 case round=>
  obtain ⟨k,hk,rfl,hst,hb⟩:=hrel
  have Hst:=Z9 hst
  have Hb:=Z9 hb
  have hsz:=hb.size
  clear hst
  by_cases hlt:k<rs.length
  ·rcases uh Hr with h0 | ⟨b,off,rfl,hbw,hcl⟩
   ·rw [h0] at hlt;simp at hlt
   obtain ⟨c0,pv,c1,hip⟩:=hcl k hlt
   rw [<-hb.cell (p:=⟨b,off+k*2,none⟩) hbw] at c0
   rw [<-hb.cell (p:=⟨b,off+k*2+1,none⟩) hbw] at c1
   have Hip:=Z9 (hip.below hb)
   obtain ⟨pa,pcap,rfl,_⟩:=hip
   generalize hp:ZY rs k=p at *
   obtain ⟨rb,ps⟩:=p
   simp only at c0 c1
   have Hp:=Z9 hp
   clear hp hcl hb
   cases hrb:Zm (rb,ps)
   ·go_wp2_with fail
    refine (Y9 rb ((uh Hip).below ((Below.refl _ _).alloc (Nat.le_refl _) _))).mono ?_
    rintro e w1 ⟨rfl,hb1⟩
    go_wp2_with fail
    go_ret
    exact ⟨Z5 (Nb hlt (by rw [uh Hp];exact hrb)).symm,((uh Hb).alloc hsz _).trans (hb1.mono (by simp;omega))⟩
   ·go_wp2_with fail
    refine (Y9 rb ((uh Hip).below ((Below.refl _ _).alloc (Nat.le_refl _) _))).mono ?_
    rintro e w1 ⟨rfl,hb1⟩
    have Hb1:=Z9 hb1
    clear hb1
    go_wp2_with fail
    go_roundw
    case rel=>exact ⟨k+1,by omega,by go_num,Y2 (uh Hst) (by rw [uh Hp];exact hrb),((uh Hb).alloc hsz _).trans ((uh Hb1).mono (by simp;omega))⟩
    case measure=>simp [intOf];omega
  ·obtain rfl:k=rs.length:=by omega
   go_wp2_with fail
   go_ret
   exact ⟨Z5 (Nc (uh Hst)).symm,hb⟩
theorem WK  {rs:List Z3} (h:IsRooms w v rs) (ha:Adds rs) :
  Calls Tryz.prog 284 #[v] w fun e w'=>e= .returned (.int .i64 (Z0 rs))/\Below w.heap.size w w':=by
 obtain ⟨a,cap,rfl,hc,hm,hr⟩:=h
 have Hr:=Z9 hr
 have Ha:=Z9 ha
 clear hr ha
 go_enter Tryz.func284,Tryz.ntmps284
 go_wp2_with fail
 go_loopw [3,8] (fun s i wr=> ∃ k:Nat,k<=rs.length/\i= .int .i64 k/\s= .int .i64 (Z0 (rs.take k))/\Below w.heap.size w wr) (fun _ i _=>rs.length-(intOf i).toNat)
 case atStart=>exact ⟨0,Nat.zero_le _,rfl,rfl,Below.refl _ _⟩
 case round=>
  obtain ⟨k,hk,rfl,rfl,hb⟩:=hrel
  have Hb:=Z9 hb
  have hsz:=hb.size
  by_cases hlt:k<rs.length
  ·rcases uh Hr with h0 | ⟨b,off,rfl,hbw,hcl⟩
   ·rw [h0] at hlt;simp at hlt
   obtain ⟨c0,pv,c1,hip⟩:=hcl k hlt
   rw [<-hb.cell (p:=⟨b,off+k*2,none⟩) hbw] at c0
   rw [<-hb.cell (p:=⟨b,off+k*2+1,none⟩) hbw] at c1
   obtain ⟨pa,pcap,rfl,_⟩:=hip
   have hs0:=uh Ha k hk
   have hs1:=uh Ha (k+1) hlt
   have Hs:=Z9 (Yy rs hlt)
   rw [Yy rs hlt] at hs1
   generalize Z0 (rs.take k)=s at *
   generalize (ZY rs k).1=rb at *
   obtain ⟨s0,s1⟩:=hs0
   obtain ⟨s2,s3⟩:=hs1
   clear hcl hb
   go_wp2_with fail
   go_roundw
   case rel=>exact ⟨k+1,by omega,by go_num,by rw [uh Hs],(uh Hb).alloc hsz _⟩
   case measure=>simp [intOf];omega
  ·obtain rfl:k=rs.length:=by omega
   go_wp2_with fail
   go_ret
   exact ⟨ZS (by rw [Wa]),hb⟩
theorem Fl {rs:List Z3} (h:inB rs.length 1 3=false):YN rs=false:=by unfold YN;simp [h]
theorem Fm {rs:List Z3} (h:rs.all Zm=false):YN rs=false:=by unfold YN;rw [h];simp
theorem Fo {rs:List Z3} (h:inB rs.length 1 3=true) (h2:rs.all Zm=true):YN rs=decide (Z0 rs<=8):=by unfold YN;rw [h,h2];simp
theorem IsRooms.alloc  {rs:List Z3} (h:IsRooms w v rs) (o:Obj):IsRooms (w.alloc o) v rs:=h.below ((Below.refl _ _).alloc (Nat.le_refl _) _)
theorem Yo  {rs:List Z3} (h:IsRooms w v rs) :
  Calls Tryz.prog 228 #[.agg #[v]] w fun e w'=>e= .returned (.bool (YN rs))/\Below w.heap.size w w':=by
 have Hv:=Z9 h
 obtain ⟨a,cap,rfl,hc,hm,hr⟩:=h
 clear hr
 have hl:(rs.length:Int)<=9223372036854775807:=by omega
 cases h1:inB rs.length 1 3
 ·go_enter Tryz.func228,Tryz.ntmps228
  go_wp2_with fail
  refine (ZN _ _ _ _).mono ?_
  rintro e w' ⟨rfl,rfl⟩
  go_wp2_with fail
  go_ret
  exact ⟨Z5 (Fl h1).symm,(Below.refl _ _).alloc (Nat.le_refl _) _⟩
 cases h2:rs.all Zm
 ·have H2:=Z9 (Fm h2)
  generalize hx:rs.all Zm=x at *
  have Hx:=Z9 hx
  clear hx
  subst h2
  go_enter Tryz.func228,Tryz.ntmps228
  go_wp2_with fail
  refine (ZN _ _ _ _).mono ?_
  rintro e w' ⟨rfl,rfl⟩
  go_wp2_with fail
  refine (PJ ((uh Hv).alloc _)).mono ?_
  rw [uh Hx]
  rintro e w1 ⟨rfl,hb⟩
  go_wp2_with fail
  go_ret
  exact ⟨Z5 (uh H2).symm,((Below.refl _ _).alloc (Nat.le_refl _) _).trans (hb.mono (by simp))⟩
 ·have H3:=Z9 (Fo h1 h2)
  have Ha:=Z9 (KE h2 (by have:=ZP h1;omega))
  generalize hx:rs.all Zm=x at *
  have Hx:=Z9 hx
  clear hx
  subst h2
  go_enter Tryz.func228,Tryz.ntmps228
  go_wp2_with fail
  refine (ZN _ _ _ _).mono ?_
  rintro e w' ⟨rfl,rfl⟩
  go_wp2_with fail
  refine (PJ ((uh Hv).alloc _)).mono ?_
  rw [uh Hx]
  rintro e w1 ⟨rfl,hb⟩
  have hz:w.heap.size+1<=w1.heap.size:=by have:=hb.size;simpa using this
  have hbox:w1.cell? ⟨w.heap.size,0,none⟩=some (.slice a rs.length cap):=by rw [hb.cell (p:=⟨w.heap.size,0,none⟩) (by simp)];simp
  have hw1:=Z9 (((uh Hv).alloc _).below hb)
  have Hb:=Z9 hb
  clear hb
  go_wp2_with fail
  refine (WK (uh hw1) (uh Ha)).mono ?_
  rintro e w2 ⟨rfl,hb2⟩
  have Hb2:=Z9 hb2
  clear hb2
  go_wp2_with fail
  go_ret
  exact ⟨Z5 (by rw [uh H3]),((Below.refl _ _).alloc (Nat.le_refl _) _).trans (((uh Hb).trans ((uh Hb2).mono (uh Hb).size)).mono (by simp))⟩
def Xg (rs:List Z3):Int:=if YN rs=true then Z0 rs else -1
theorem UN {rs:List Z3} (h:YN rs=true):Xg rs=Z0 rs:=by unfold Xg;rw [if_pos h]
theorem Rz {rs:List Z3} (h:YN rs=false):Xg rs= -1:=by unfold Xg;rw [h];rfl
theorem Sb {rs:List Z3} (h:YN rs=true):Adds rs:=KE (Zi h).2.2.1 (Zi h).2.1
theorem Wi  {rs:List Z3} (h:IsRooms w v rs) :
  Calls Tryz.prog 232 #[.agg #[v]] w fun e w'=>e= .returned (.int .i64 (Xg rs))/\Below w.heap.size w w':=by
 have Hv:=Z9 h
 obtain ⟨a,cap,rfl,hc,hm,hr⟩:=h
 clear hr
 cases h1:YN rs
 ·have H1:=Z9 h1
  clear h1
  go_enter Tryz.func232,Tryz.ntmps232
  go_wp2_with fail
  refine (Yo ((uh Hv).alloc _)).mono ?_
  rw [uh H1]
  rintro e w1 ⟨rfl,hb⟩
  go_wp2_with fail
  go_ret
  exact ⟨ZS (Rz (uh H1)).symm,((Below.refl _ _).alloc (Nat.le_refl _) _).trans (hb.mono (by simp))⟩
 ·have H1:=Z9 h1
  clear h1
  go_enter Tryz.func232,Tryz.ntmps232
  go_wp2_with fail
  refine (Yo ((uh Hv).alloc _)).mono ?_
  rw [uh H1]
  rintro e w1 ⟨rfl,hb⟩
  have hz:w.heap.size+1<=w1.heap.size:=by have:=hb.size;simpa using this
  have hbox:w1.cell? ⟨w.heap.size,0,none⟩=some (.slice a rs.length cap):=by rw [hb.cell (p:=⟨w.heap.size,0,none⟩) (by simp)];simp
  have hw1:=Z9 (((uh Hv).alloc _).below hb)
  have Hb:=Z9 hb
  clear hb
  go_wp2_with fail
  refine (WK (uh hw1) (Sb (uh H1))).mono ?_
  rintro e w2 ⟨rfl,hb2⟩
  have Hb2:=Z9 hb2
  clear hb2
  go_wp2_with fail
  go_ret
  exact ⟨ZS (UN (uh H1)).symm,((Below.refl _ _).alloc (Nat.le_refl _) _).trans (((uh Hb).trans ((uh Hb2).mono (uh Hb).size)).mono (by simp))⟩
theorem PD  {rs:List Z3} (h:IsRooms w v rs) (ha:Adds rs) :
  Calls Tryz.prog 172 #[.agg #[v]] w fun e w'=>e= .returned (.int .i64 (Z0 rs))/\Below w.heap.size w w':=by
 obtain ⟨a,cap,rfl,hc,hm,hr⟩:=h
 have Hr:=Z9 hr
 have Ha:=Z9 ha
 clear hr ha
 go_enter Tryz.func172,Tryz.ntmps172
 go_wp2_with fail
 go_loop [3,4] (fun s i=> ∃ k:Nat,k<=rs.length/\i= .int .i64 k/\s= .int .i64 (Z0 (rs.take k))) (fun _ i=>rs.length-(intOf i).toNat)
 case atStart=>exact ⟨0,Nat.zero_le _,rfl,rfl⟩
 case round=>
  obtain ⟨k,hk,rfl,rfl⟩:=hrel
  by_cases hlt:k<rs.length
  ·rcases uh Hr with h0 | ⟨b,off,rfl,hbw,hcl⟩
   ·rw [h0] at hlt;simp at hlt
   obtain ⟨c0,pv,c1,hip⟩:=hcl k hlt
   have hne:b ≠ w.heap.size:=Nat.ne_of_lt hbw
   have hs0:=uh Ha k hk
   have hs1:=uh Ha (k+1) hlt
   have Hs:=Z9 (Yy rs hlt)
   rw [Yy rs hlt] at hs1
   generalize Z0 (rs.take k)=s at *
   generalize (ZY rs k).1=rb at *
   obtain ⟨s0,s1⟩:=hs0
   obtain ⟨s2,s3⟩:=hs1
   clear hcl hip
   go_wp2_with fail
   go_round
   case rel=>exact ⟨k+1,by omega,by go_num,by rw [uh Hs]⟩
   case measure=>simp [intOf];omega
  ·obtain rfl:k=rs.length:=by omega
   go_wp2_with fail
   go_ret
   exact ⟨ZS (by first | rfl | rw [Wa]),(Below.refl _ _).alloc (Nat.le_refl _) _⟩
theorem OC  {rs:List Z3} (h:IsRooms w v rs) :
  Calls Tryz.prog 170 #[.agg #[v]] w fun e w'=>e= .returned (.bool (YN rs))/\Below w.heap.size w w':=by
 have Hv:=Z9 h
 obtain ⟨a,cap,rfl,hc,hm,hr⟩:=h
 have Hr:=Z9 hr
 clear hr
 have hl:(rs.length:Int)<=9223372036854775807:=by omega
 go_enter Tryz.func170,Tryz.ntmps170
 go_wp2_with fail
 go_loopw [3] (fun i wr=> ∃ k:Nat,k<=rs.length/\i= .int .i64 k/\(∀ j,j<k->Zm (ZY rs j)=true)/\Below (w.heap.size+1) (w.alloc (.cells #[.slice a rs.length cap] 26)) wr) (fun i _=>rs.length-(intOf i).toNat)
 case atStart=>exact ⟨0,Nat.zero_le _,rfl,fun j hj=>by omega,Below.refl _ _⟩
 case round=>
  obtain ⟨k,hk,rfl,hst,hb⟩:=hrel
  have Hst:=Z9 hst
  have Hb:=Z9 hb
  have hsz:w.heap.size+1<=wr.heap.size:=by have:=hb.size;simpa using this
  have hbox:wr.cell? ⟨w.heap.size,0,none⟩=some (.slice a rs.length cap):=by rw [hb.cell (p:=⟨w.heap.size,0,none⟩) (by simp)];simp
  have hbB:Below w.heap.size w wr:=((Below.refl _ _).alloc (Nat.le_refl _) _).trans (hb.mono (by omega))
  clear hst
  by_cases hlt:k<rs.length
  ·rcases uh Hr with h0 | ⟨b,off,rfl,hbw,hcl⟩
   ·rw [h0] at hlt;simp at hlt
   obtain ⟨c0,pv,c1,hip⟩:=hcl k hlt
   rw [<-hbB.cell (p:=⟨b,off+k*2,none⟩) hbw] at c0
   rw [<-hbB.cell (p:=⟨b,off+k*2+1,none⟩) hbw] at c1
   have Hip:=Z9 (hip.below hbB)
   obtain ⟨pa,pcap,rfl,_⟩:=hip
   generalize hp:ZY rs k=p at *
   obtain ⟨rb,ps⟩:=p
   simp only at c0 c1
   have Hp:=Z9 hp
   have HbB:=Z9 hbB
   clear hp hcl hb hbB
   cases hrb:Zm (rb,ps)
   ·go_wp2_with fail
    refine (Y3 rb (uh Hip)).mono ?_
    rintro e w1 ⟨rfl,hb1⟩
    have Hb1:=Z9 hb1
    clear hb1
    go_wp2_with fail
    go_ret
    exact ⟨Z5 (Fm (Nb hlt (by rw [uh Hp];exact hrb))).symm,(uh HbB).trans ((uh Hb1).mono (uh HbB).size)⟩
   ·go_wp2_with fail
    refine (Y3 rb (uh Hip)).mono ?_
    rintro e w1 ⟨rfl,hb1⟩
    have Hb1:=Z9 hb1
    clear hb1
    go_wp2_with fail
    go_roundw
    case rel=>exact ⟨k+1,by omega,by go_num,Y2 (uh Hst) (by rw [uh Hp];exact hrb),(uh Hb).trans ((uh Hb1).mono hsz)⟩
    case measure=>simp [intOf];omega
  ·obtain rfl:k=rs.length:=by omega
   have h2:=Nc (uh Hst)
   have HbB:=Z9 hbB
   have hw1:=Z9 ((uh Hv).below hbB)
   clear hb hbB
   cases h1:inB rs.length 1 3
   ·have H2:=Z9 (Fl h1)
    clear h2
    go_wp2_with fail
    refine (ZX _ _ _ _).mono ?_
    rintro e w' ⟨rfl,rfl⟩
    go_wp2_with fail
    go_ret
    exact ⟨Z5 (uh H2).symm,uh HbB⟩
   ·have H3:=Z9 (Fo h1 h2)
    have Ha:=Z9 (KE h2 (by have:=ZP h1;omega))
    clear h2
    go_wp2_with fail
    refine (ZX _ _ _ _).mono ?_
    rintro e w' ⟨rfl,rfl⟩
    go_wp2_with fail
    refine (PD (uh hw1) (uh Ha)).mono ?_
    rintro e w2 ⟨rfl,hb2⟩
    have Hb2:=Z9 hb2
    clear hb2
    go_wp2_with fail
    go_ret
    exact ⟨Z5 (by rw [uh H3]),(uh HbB).trans ((uh Hb2).mono (uh HbB).size)⟩
theorem PL (a:Option Addr) (n cap:Nat) (left:Int) (hn:n<=9223372036854775807) (h0:0<=left) (h1:left<=1048576) (w:World) :
  Calls Tryz.prog 312 #[.slice a n cap,.int .i64 left] w fun e w'=>e= .returned (.int .i64 (szV n left))/\w'=w:=by
 by_cases h:left-n<0
 all_goals
  go_enter Tryz.func312,Tryz.ntmps312
  go_wp2
  go_ret
  exact ⟨ZS (by first | exact (TA (by omega)).symm | exact (TB (by omega)).symm),rfl⟩
theorem OM (b:Int) (a:Option Addr) (n cap:Nat) (left:Int) (hn:n<=9223372036854775807) (h0:0<=left) (h1:left<=1048576) (w:World) :
  Calls Tryz.prog 263 #[.agg #[.int .i64 b,.slice a n cap],.int .i64 left] w fun e w'=>e= .returned (.int .i64 (szV n left))/\Below w.heap.size w w':=by
 by_cases h:left-n<0
 ·go_enter Tryz.func263,Tryz.ntmps263
  go_wp2_with fail
  refine (PL _ _ _ _ hn h0 h1 _).mono ?_
  rw [TA (by omega)]
  rintro e w' ⟨rfl,rfl⟩
  go_wp2_with fail
  go_ret
  exact ⟨ZS (TA (by omega)).symm,(Below.refl _ _).alloc (Nat.le_refl _) _⟩
 ·go_enter Tryz.func263,Tryz.ntmps263
  go_wp2_with fail
  refine (PL _ _ _ _ hn h0 h1 _).mono ?_
  rw [TB (by omega)]
  rintro e w' ⟨rfl,rfl⟩
  go_wp2_with fail
  go_ret
  exact ⟨ZS (TB (by omega)).symm,(Below.refl _ _).alloc (Nat.le_refl _) _⟩
def QB (rs:List Z3):Prop:=rs.length<=1048576/\ ∀ j,j<rs.length->(ZY rs j).2.length<=1048576
theorem J6  {rs:List Z3} (h:IsRooms w v rs) (left:Int) (h0:0<=left) (h1:left<=1048576) :
  Calls Tryz.prog 194 #[v,.int .i64 left] w fun e w'=> ∃ x:Int,e= .returned (.int .i64 x)/\x<=1048576/\(0<=x->QB rs)/\Below w.heap.size w w':=by
 obtain ⟨a,cap,rfl,hc,hm,hr⟩:=h
 have Hr:=Z9 hr
 clear hr
 by_cases hn:left-rs.length<0
 ·go_enter Tryz.func194,Tryz.ntmps194
  go_wp2_with fail
  go_ret
  exact ⟨-1,rfl,by omega,fun h=>by omega,Below.refl _ _⟩
 ·go_enter Tryz.func194,Tryz.ntmps194
  go_wp2_with fail
  go_loopw [1,5] (fun l i wr=> ∃ (k:Nat) (y:Int),k<=rs.length/\i= .int .i64 k/\l= .int .i64 y/\0<=y/\y<=1048576/\(∀ j,j<k->(ZY rs j).2.length<=1048576)/\Below w.heap.size w wr) (fun _ i _=>rs.length-(intOf i).toNat)
  case atStart=>exact ⟨0,_,Nat.zero_le _,rfl,rfl,by omega,by omega,fun j hj=>by omega,Below.refl _ _⟩
  case round=>
   obtain ⟨k,y,hk,rfl,rfl,y0,y1,hst,hb⟩:=hrel
   have Hst:=Z9 hst
   have Hb:=Z9 hb
   clear hst
   by_cases hlt:k<rs.length
   ·rcases uh Hr with h0 | ⟨b,off,rfl,hbw,hcl⟩
    ·rw [h0] at hlt;simp at hlt
    obtain ⟨c0,pv,c1,hip⟩:=hcl k hlt
    rw [<-hb.cell (p:=⟨b,off+k*2,none⟩) hbw] at c0
    rw [<-hb.cell (p:=⟨b,off+k*2+1,none⟩) hbw] at c1
    obtain ⟨pa,pcap,rfl,hpc,hpm,_⟩:=hip
    generalize hp:(ZY rs k).2.length=n at *
    generalize (ZY rs k).1=rb at *
    have Hp:=Z9 hp
    clear hp hcl hb
    by_cases hy:y-n<0
    ·go_wp2_with fail
     refine (OM _ _ _ _ _ (by omega) y0 y1 _).mono ?_
     rw [TA (by omega)]
     rintro e w1 ⟨rfl,hb1⟩
     have Hb1:=Z9 hb1
     clear hb1
     go_wp2_with fail
     go_ret
     exact ⟨-1,rfl,by omega,fun h=>by omega,(uh Hb).trans ((uh Hb1).mono (uh Hb).size)⟩
    ·go_wp2_with fail
     refine (OM _ _ _ _ _ (by omega) y0 y1 _).mono ?_
     rw [TB (by omega)]
     rintro e w1 ⟨rfl,hb1⟩
     have Hb1:=Z9 hb1
     clear hb1
     go_wp2_with fail
     go_roundw
     case rel=>exact ⟨k+1,y-n,by omega,by go_num,rfl,by omega,by omega,Y2 (uh Hst) (by rw [uh Hp];omega),(uh Hb).trans ((uh Hb1).mono (uh Hb).size)⟩
     case measure=>simp [intOf];omega
   ·obtain rfl:k=rs.length:=by omega
    go_wp2_with fail
    go_ret
    exact ⟨y,rfl,by omega,fun h=>⟨by omega,uh Hst⟩,hb⟩
theorem Gc (f c:Int) (w:World) :
  Calls Tryz.prog 344 #[.agg #[.int .i64 f,.int .i64 c],.agg #[.int .i64 f,.int .i64 c]] w fun e w'=>e= .returned (.bool true)/\Below w.heap.size w w':=by
 go_enter Tryz.func344,Tryz.ntmps344
 go_wp2_with fail
 go_ret
 exact ⟨rfl,((Below.refl _ _).alloc (Nat.le_refl _) _).alloc (by simp) _⟩
theorem IU  {ps:List Z6} (hv:IsPaces w v ps) (hu:IsPaces w u ps) :
  Calls Tryz.prog 314 #[v,u] w fun e w'=>e= .returned (.bool true)/\Below w.heap.size w w':=by
 obtain ⟨a,cap,rfl,hc,hm,hr⟩:=hv
 obtain ⟨a',cap',rfl,hc',hm',hr'⟩:=hu
 have Hr:=Z9 hr
 have Hr':=Z9 hr'
 clear hr hr'
 go_enter Tryz.func314,Tryz.ntmps314
 go_wp2_with fail
 go_loopw [5] (fun i wr=> ∃ k:Nat,k<=ps.length/\i= .int .i64 k/\Below w.heap.size w wr) (fun i _=>ps.length-(intOf i).toNat)
 case atStart=>exact ⟨0,Nat.zero_le _,rfl,Below.refl _ _⟩
 case round=>
  obtain ⟨k,hk,rfl,hb⟩:=hrel
  have Hb:=Z9 hb
  by_cases hlt:k<ps.length
  ·rcases uh Hr with h0 | ⟨b,off,rfl,hbw,hcl⟩
   ·rw [h0] at hlt;simp at hlt
   rcases uh Hr' with h0 | ⟨b',off',rfl,hbw',hcl'⟩
   ·rw [h0] at hlt;simp at hlt
   obtain ⟨c0,c1⟩:=hcl k hlt
   obtain ⟨d0,d1⟩:=hcl' k hlt
   rw [<-hb.cell (p:=⟨b,off+k*2,none⟩) hbw] at c0
   rw [<-hb.cell (p:=⟨b,off+k*2+1,none⟩) hbw] at c1
   rw [<-hb.cell (p:=⟨b',off'+k*2,none⟩) hbw'] at d0
   rw [<-hb.cell (p:=⟨b',off'+k*2+1,none⟩) hbw'] at d1
   generalize (Z7 ps k).1=f at *
   generalize (Z7 ps k).2=c at *
   have k0:=cell_regrown c0
   have k1:=cell_regrown c1
   have k2:=cell_regrown d0
   have k3:=cell_regrown d1
   clear hcl hcl' hb c0 c1 d0 d1
   go_wp2_with fail
   refine wp_region_quiet_below (by kernel_rfl) (by kernel_rfl) ?_
   repeat (go_big_quiet_step (exact Calls.regrown_of (Gc _ _ _)))
   refine wpQuiet_nil ?_
   intro _ hw'
   obtain ⟨⟨dq,osq⟩,hw''⟩:=hw'
   subst hw''
   go_wp2_with fail
   go_roundw
   case rel=>exact ⟨k+1,by omega,by go_num,(uh Hb).trans ((below_regrown _ _ _).mono (uh Hb).size)⟩
   case measure=>simp [intOf];omega
  ·go_wp2_with fail
   go_ret
   exact ⟨rfl,hb⟩
theorem Gd  {ps:List Z6} (rb:Int) (hv:IsPaces w v ps) (hu:IsPaces w u ps) :
  Calls Tryz.prog 265 #[.agg #[.int .i64 rb,v],.agg #[.int .i64 rb,u]] w fun e w'=>e= .returned (.bool true)/\Below w.heap.size w w':=by
 have Hv:=Z9 hv
 have Hu:=Z9 hu
 obtain ⟨a,cap,rfl,hc,hm,hr⟩:=hv
 obtain ⟨a',cap',rfl,hc',hm',hr'⟩:=hu
 clear hr hr'
 go_enter Tryz.func265,Tryz.ntmps265
 go_wp2_with fail
 refine (IU ((uh Hv).below (((Below.refl _ _).alloc (Nat.le_refl _) _).alloc (by simp) _)) ((uh Hu).below (((Below.refl _ _).alloc (Nat.le_refl _) _).alloc (by simp) _))).mono ?_
 rintro e w1 ⟨rfl,hb⟩
 have Hb:=Z9 hb
 clear hb
 go_wp2_with fail
 go_ret
 exact ⟨rfl,(((Below.refl _ _).alloc (Nat.le_refl _) _).alloc (by simp) _).trans ((uh Hb).mono (by simp;omega))⟩
theorem IV  {rs:List Z3} (hv:IsRooms w v rs) (hu:IsRooms w u rs) :
  Calls Tryz.prog 199 #[v,u] w fun e w'=>e= .returned (.bool true)/\Below w.heap.size w w':=by
 obtain ⟨a,cap,rfl,hc,hm,hr⟩:=hv
 obtain ⟨a',cap',rfl,hc',hm',hr'⟩:=hu
 have Hr:=Z9 hr
 have Hr':=Z9 hr'
 clear hr hr'
 go_enter Tryz.func199,Tryz.ntmps199
 go_wp2_with fail
 go_loopw [5] (fun i wr=> ∃ k:Nat,k<=rs.length/\i= .int .i64 k/\Below w.heap.size w wr) (fun i _=>rs.length-(intOf i).toNat)
 case atStart=>exact ⟨0,Nat.zero_le _,rfl,Below.refl _ _⟩
 case round=>
  obtain ⟨k,hk,rfl,hb⟩:=hrel
  have Hb:=Z9 hb
  by_cases hlt:k<rs.length
  ·rcases uh Hr with h0 | ⟨b,off,rfl,hbw,hcl⟩
   ·rw [h0] at hlt;simp at hlt
   rcases uh Hr' with h0 | ⟨b',off',rfl,hbw',hcl'⟩
   ·rw [h0] at hlt;simp at hlt
   obtain ⟨c0,pv,c1,hip⟩:=hcl k hlt
   obtain ⟨d0,pu,d1,hiu⟩:=hcl' k hlt
   rw [<-hb.cell (p:=⟨b,off+k*2,none⟩) hbw] at c0
   rw [<-hb.cell (p:=⟨b,off+k*2+1,none⟩) hbw] at c1
   rw [<-hb.cell (p:=⟨b',off'+k*2,none⟩) hbw'] at d0
   rw [<-hb.cell (p:=⟨b',off'+k*2+1,none⟩) hbw'] at d1
   have Hip:=Z9 (hip.below hb)
   have Hiu:=Z9 (hiu.below hb)
   obtain ⟨pa,pcap,rfl,_⟩:=hip
   obtain ⟨pa',pcap',rfl,_⟩:=hiu
   generalize (ZY rs k).1=f at *
   generalize (ZY rs k).2=ps at *
   have k0:=cell_regrown c0
   have k1:=cell_regrown c1
   have k2:=cell_regrown d0
   have k3:=cell_regrown d1
   clear hcl hcl' hb c0 c1 d0 d1
   go_wp2_with fail
   refine wp_region_quiet_below (by kernel_rfl) (by kernel_rfl) ?_
   repeat (go_big_quiet_step (exact Calls.regrown_of (Gd _ ((uh Hip).below (below_regrown _ _ _)) ((uh Hiu).below (below_regrown _ _ _)))))
   refine wpQuiet_nil ?_
   intro _ hw'
   obtain ⟨⟨dq,osq⟩,hw''⟩:=hw'
   subst hw''
   go_wp2_with fail
   go_roundw
   case rel=>exact ⟨k+1,by omega,by go_num,(uh Hb).trans ((below_regrown _ _ _).mono (uh Hb).size)⟩
   case measure=>simp [intOf];omega
  ·go_wp2_with fail
   go_ret
   exact ⟨rfl,hb⟩
theorem Ga  {rs:List Z3} (hv:IsRooms w v rs) (hu:IsRooms w u rs) :
  Calls Tryz.prog 120 #[.agg #[v],.agg #[u]] w fun e w'=>e= .returned (.bool true)/\Below w.heap.size w w':=by
 have Hv:=Z9 hv
 have Hu:=Z9 hu
 obtain ⟨a,cap,rfl,hc,hm,hr⟩:=hv
 obtain ⟨a',cap',rfl,hc',hm',hr'⟩:=hu
 clear hr hr'
 go_enter Tryz.func120,Tryz.ntmps120
 go_wp2_with fail
 refine (IV ((uh Hv).below (((Below.refl _ _).alloc (Nat.le_refl _) _).alloc (by simp) _)) ((uh Hu).below (((Below.refl _ _).alloc (Nat.le_refl _) _).alloc (by simp) _))).mono ?_
 rintro e w1 ⟨rfl,hb⟩
 have Hb:=Z9 hb
 clear hb
 go_wp2_with fail
 go_ret
 exact ⟨rfl,(((Below.refl _ _).alloc (Nat.le_refl _) _).alloc (by simp) _).trans ((uh Hb).mono (by simp;omega))⟩
theorem I8:(Tryz.prog.info? 139).map (fun i=>(i.zero,i.size,i.bytes))=some (some (.agg #[.int .i64 0,.int .i64 0]),2,16):=by kernel_rfl
theorem I9:(Tryz.prog.info? 137).map (fun i=>(i.zero,i.size,i.bytes))=some (some (.agg #[.int .i64 0,.slice none 0 0]),2,32):=by kernel_rfl
theorem OP (f c:Int) (w:World) :
  Calls Tryz.prog 343 #[.agg #[.int .i64 f,.int .i64 c]] w fun e w'=>e= .returned (.agg #[.int .i64 f,.int .i64 c])/\Below w.heap.size w w':=by
 go_enter Tryz.func343,Tryz.ntmps343
 go_wp2_with fail
 exact bodyPost_ret (v:= .agg #[.int .i64 f,.int .i64 c]) (by simp [results,Tryz.results343,go_sem]) rfl ⟨rfl,(((Below.refl _ _).alloc (Nat.le_refl _) _).alloc (by simp) _).alloc (by simp;omega) _⟩
theorem Kc  {ps:List Z6} (h:IsPaces w v ps) (hs:ps.length<=1048576) :
  Calls Tryz.prog 313 #[v] w fun e w'=> ∃ v',e= .returned v'/\IsPaces w' v' ps/\(∀ k,v'.ownBlock=some k->w.heap.size<=k)/\Below w.heap.size w w':=by
 obtain ⟨a,cap,rfl,hc,hm,hr⟩:=h
 have Hr:=Z9 hr
 clear hr
 obtain ⟨i0,hi,hz0,hz1,hz2⟩:=info_parts I8
 go_enter Tryz.func313,Tryz.ntmps313
 go_wp2_with (at_make;refine wpList_make_full _ rfl _ _ 135 rfl w.heap.size 139 i0 (.agg #[.int .i64 0,.int .i64 0]) 2 Tryz.underlying135 hi hz0 hz1 _ _ _ _ ps.length rfl rfl rfl rfl (by rw [hz2];omega) (by unfold maxLen;omega) (Nat.le_refl _) ?_;intro w0 hown hgrow)
 have Hown:=Z9 hown
 have Hgr:=Z9 hgrow
 clear hown hgrow
 go_loopw [4] (fun i wr=> ∃ k:Nat,k<=ps.length/\i= .int .i64 k/\ ∃ xs,wr.ownsRow w.heap.size 139 2 (.slice (some ⟨w.heap.size,0,none⟩) ps.length ps.length) ps.length xs/\Pairs xs (QU ps) k/\Below w.heap.size w wr) (fun i _=>ps.length-(intOf i).toNat)
 case atStart=>exact ⟨0,Nat.zero_le _,rfl,_,uh Hown,fun j hj=>by omega,(Below.refl _ _).grown (uh Hgr) (Nat.le_refl _) (fun k e=>by cases e)⟩
 case round=>
  obtain ⟨k,hk,rfl,xs,hown,hpr,hb⟩:=hrel
  have Hb:=Z9 hb
  by_cases hlt:k<ps.length
  ·rcases uh Hr with h0 | ⟨b,off,rfl,hbw,hcl⟩
   ·rw [h0] at hlt;simp at hlt
   obtain ⟨c0,c1⟩:=hcl k hlt
   rw [<-hb.cell (p:=⟨b,off+k*2,none⟩) hbw] at c0
   rw [<-hb.cell (p:=⟨b,off+k*2+1,none⟩) hbw] at c1
   have hxs:xs.length=ps.length*2:=hown.1
   have Ho:=Z9 hown
   have Hpr:=Z9 hpr
   generalize hp:Z7 ps k=p at c0 c1
   obtain ⟨f,c⟩:=p
   simp only at c0 c1
   have Hp:=Z9 hp
   clear hcl hb hown hpr hp
   go_wp2_with fail
   refine (OP _ _ _).mono ?_
   rintro e w1 ⟨rfl,hb1⟩
   have ho1:=Ss (uh Ho) hb1
   obtain ⟨⟨x0,y0⟩,z0⟩:=VF ho1 (j:=k*2) (by omega)
   obtain ⟨⟨x1,y1⟩,z1⟩:=VF ho1 (j:=k*2+1) (by omega)
   have Hp2:=Z9 (Um ho1 (k*2) (.int .i64 f) (.int .i64 c))
   have Hb1:=Z9 hb1
   have hsz:=hb1.size
   have hsz0:=(uh Hb).size
   clear ho1 hb1
   go_wp2_with fail
   go_roundw
   case rel=>exact ⟨k+1,by omega,by go_num,_,(uh Hp2).1,(uh Hpr).next (by omega) ⟨by rw [uh Hp],by rw [uh Hp]⟩,((uh Hb).trans ((uh Hb1).mono hsz0)).trans (XJ (uh Hp2).2 (Nat.le_refl _) (by omega))⟩
   case measure=>simp [intOf];omega
  ·obtain rfl:k=ps.length:=by omega
   go_wp2_with fail
   go_ret
   exact ⟨_,rfl,IsPaces.of_row hown hpr rfl,fun k e=>by cases e;exact Nat.le_refl _,hb⟩
theorem IsPaces.set  {ps:List Z6} (h:IsPaces w v ps) (b o:Nat) (u:Value) (hn:∀ k,v.ownBlock=some k->k ≠ b):IsPaces (w.setCell ⟨b,o,none⟩ u) v ps:=by
 obtain ⟨a,cap,rfl,hc,hm,hr⟩:=h
 refine ⟨a,cap,rfl,hc,hm,?_⟩
 rcases hr with hr | ⟨b',off,rfl,hlt,hcl⟩
 ·exact .inl hr
 ·have hne:b' ≠ b:=hn b' rfl
  refine .inr ⟨b',off,rfl,by simpa using hlt,fun k hk=> ?_⟩
  obtain ⟨h1,h2⟩:=hcl k hk
  exact ⟨by rw [World.cell?_setCell_other _ _ _ _ (by simp)];exact h1,by rw [World.cell?_setCell_other _ _ _ _ (by simp)];exact h2⟩
theorem HZ  {ps:List Z6} (rb:Int) (h:IsPaces w v ps) (hs:ps.length<=1048576) :
  Calls Tryz.prog 264 #[.agg #[.int .i64 rb,v]] w fun e w'=> ∃ v',e= .returned (.agg #[.int .i64 rb,v'])/\IsPaces w' v' ps/\(∀ k,v'.ownBlock=some k->w.heap.size<=k)/\Below w.heap.size w w':=by
 have Hv:=Z9 h
 obtain ⟨a,cap,rfl,hc,hm,hr⟩:=h
 clear hr
 have Hb0:Hid (∀ o1 o2 o3:Obj,Below w.heap.size w (((w.alloc o1).alloc o2).alloc o3)):=Z9 (fun o1 o2 o3=>(((Below.refl _ _).alloc (Nat.le_refl _) _).alloc (by simp) _).alloc (by simp;omega) _)
 go_enter Tryz.func264,Tryz.ntmps264
 go_wp2_with fail
 refine (Kc ((uh Hv).below (uh Hb0 _ _ _)) hs).mono ?_
 rintro e w1 ⟨v',rfl,hp,hk,hb1⟩
 have hsz:w.heap.size+3<=w1.heap.size:=by have:=hb1.size;simp at this;omega
 have hk':∀ k,v'.ownBlock=some k->w.heap.size+3<=k:=fun k e=>by have:=hk k e;simp at this;omega
 obtain ⟨cc,ff⟩:=QM hb1
 have x0:=cc (w.heap.size+2) 0 (by simp)
 have x1:=cc (w.heap.size+2) 1 (by simp)
 have y0:=cc (w.heap.size+1) 0 (by simp)
 have y1:=cc (w.heap.size+1) 1 (by simp)
 have fx0:=ff (w.heap.size+2) 0 (by simp)
 have fx1:=ff (w.heap.size+2) 1 (by simp)
 have fy0:=ff (w.heap.size+1) 0 (by simp)
 have fy1:=ff (w.heap.size+1) 1 (by simp)
 have Hp:=Z9 hp
 have Hk:=Z9 hk'
 have Hb1:=Z9 hb1
 obtain ⟨a',cap',rfl,_⟩:=hp
 clear cc ff hk hk' hb1
 go_wp2_with fail
 have Q:∀ b o u,b<=w.heap.size+2-> ∀ w' v',IsPaces w' v' ps->(∀ k,v'.ownBlock=some k->w.heap.size+3<=k)->IsPaces (w'.setCell ⟨b,o,none⟩ u) v' ps:=fun b o u hb w' v' h hk=>h.set b o u (fun k e=>by have:=hk k e;omega)
 have B1:Below w.heap.size w w1:=(uh Hb0 _ _ _).trans ((uh Hb1).mono (by simp;omega))
 refine bodyPost_ret (v:= .agg #[.int .i64 rb,.slice a' ps.length cap']) (by simp [results,Tryz.results264,go_sem, *]) rfl ⟨_,rfl,?_,fun k e=>by have:=uh Hk k e;omega,?_⟩
 ·exact Q _ _ _ (by omega) _ _ (Q _ _ _ (by omega) _ _ (Q _ _ _ (by omega) _ _ (uh Hp) (uh Hk)) (uh Hk)) (uh Hk)
 ·exact ((B1.setCell (by show _<=w.heap.size+1+1;omega) _).setCell (by show _<=w.heap.size+1;omega) _).setCell (by show _<=w.heap.size+1;omega) _
def SO (w:World) (g:Nat) (rs:List Z3) (j:Nat) (u u':Value):Prop:=u= .int .i64 (ZY rs j).1/\IsPaces w u' (ZY rs j).2/\ ∀ k,u'.ownBlock=some k->g<k
def RoomsFrom (n₀:Nat) (w:World) (v:Value) (rs:List Z3):Prop:=
 ∃ (a:Option Addr) (cap:Nat),v= .slice a rs.length cap/\rs.length<=cap/\cap<=9223372036854775807/\(rs=[]\/ ∃ b off,a=some ⟨b,off,none⟩/\n₀<=b/\b<w.heap.size/\
  ∀ k,k<rs.length->w.cell? ⟨b,off+k*2,none⟩=some (.int .i64 (ZY rs k).1)/\ ∃ pv,w.cell? ⟨b,off+k*2+1,none⟩=some pv/\IsPaces w pv (ZY rs k).2/\ ∀ j,pv.ownBlock=some j->n₀<=j)
theorem RoomsFrom.rooms {n₀:Nat}  {rs:List Z3} (h:RoomsFrom n₀ w v rs):IsRooms w v rs:=by
 obtain ⟨a,cap,rfl,hc,hm,hr⟩:=h
 refine ⟨a,cap,rfl,hc,hm,?_⟩
 rcases hr with hr | ⟨b,off,rfl,_,hlt,hcl⟩
 ·exact .inl hr
 ·exact .inr ⟨b,off,rfl,hlt,fun k hk=>by obtain ⟨h1,pv,h2,h3,_⟩:=hcl k hk;exact ⟨h1,pv,h2,h3⟩⟩
theorem RoomsFrom.set {n₀:Nat}  {rs:List Z3} (h:RoomsFrom n₀ w v rs) (g o:Nat) (u:Value) (hg:g<n₀):RoomsFrom n₀ (w.setCell ⟨g,o,none⟩ u) v rs:=by
 obtain ⟨a,cap,rfl,hc,hm,hr⟩:=h
 refine ⟨a,cap,rfl,hc,hm,?_⟩
 rcases hr with hr | ⟨b,off,rfl,hn,hlt,hcl⟩
 ·exact .inl hr
 ·have hne:b ≠ g:=by omega
  refine .inr ⟨b,off,rfl,hn,by simpa using hlt,fun k hk=> ?_⟩
  obtain ⟨h1,pv,h2,h3,h4⟩:=hcl k hk
  exact ⟨by rw [World.cell?_setCell_other _ _ _ _ (by simp)];exact h1,pv,by rw [World.cell?_setCell_other _ _ _ _ (by simp)];exact h2,h3.set _ _ _ (fun j e=>by have:=h4 j e;omega),h4⟩
theorem RoomsFrom.of_row {B g n cap t:Nat} {rs:List Z3} {xs:List Value} (h:w.ownsRow B t 2 (.slice (some ⟨g,0,none⟩) n cap) n xs) (hp:Pairs xs (SO w g rs) rs.length) (hn:n=rs.length):RoomsFrom g w (.slice (some ⟨g,0,none⟩) n cap) rs:=by
 subst hn
 have h':=h
 rcases h.2 with ⟨hh,_⟩ | ⟨g',cap',cur,hh,hb,hg,hnc,hcm,r⟩
 ·simp at hh
 ·simp only [Value.slice.injEq,Option.some.injEq,Addr.mk.injEq,and_true,true_and] at hh
  obtain ⟨rfl,rfl⟩:=hh
  refine ⟨_,cap,rfl,hnc,by unfold maxLen at hcm;omega,.inr ⟨g,0,rfl,Nat.le_refl _,(Array.getElem?_eq_some_iff.1 hg).1,fun k hk=> ?_⟩⟩
  obtain ⟨u,u',h1,h2,rfl,h3,h4⟩:=hp k hk
  refine ⟨?_,u',?_,h3,fun j e=>Nat.le_of_lt (h4 j e)⟩
  ·rw [Nat.zero_add,World.ownsRow.cellAt h' _ (by omega)];exact h1
  ·rw [Nat.zero_add,World.ownsRow.cellAt h' _ (by omega)];exact h2
theorem Ke  {rs:List Z3} (h:IsRooms w v rs) (hs:QB rs) :
  Calls Tryz.prog 195 #[v] w fun e w'=> ∃ v',e= .returned v'/\RoomsFrom w.heap.size w' v' rs/\Below w.heap.size w w':=by
 obtain ⟨a,cap,rfl,hc,hm,hr⟩:=h
 have Hr:=Z9 hr
 clear hr
 obtain ⟨hs1,hs2⟩:=hs
 have Hs2:=Z9 hs2
 clear hs2
 obtain ⟨i0,hi,hz0,hz1,hz2⟩:=info_parts I9
 go_enter Tryz.func195,Tryz.ntmps195
 go_wp2_with (at_make;refine wpList_make_full _ rfl _ _ 24 rfl w.heap.size 137 i0 (.agg #[.int .i64 0,.slice none 0 0]) 2 Tryz.underlying24 hi hz0 hz1 _ _ _ _ rs.length rfl rfl rfl rfl (by rw [hz2];omega) (by unfold maxLen;omega) (Nat.le_refl _) ?_;intro w0 hown hgrow)
 have Hown:=Z9 hown
 have Hgr:=Z9 hgrow
 clear hown hgrow
 go_loopw [4] (fun i wr=> ∃ k:Nat,k<=rs.length/\i= .int .i64 k/\ ∃ xs,wr.ownsRow w.heap.size 137 2 (.slice (some ⟨w.heap.size,0,none⟩) rs.length rs.length) rs.length xs/\Pairs xs (SO wr w.heap.size rs) k/\Below w.heap.size w wr) (fun i _=>rs.length-(intOf i).toNat)
 case atStart=>exact ⟨0,Nat.zero_le _,rfl,_,uh Hown,fun j hj=>by omega,(Below.refl _ _).grown (uh Hgr) (Nat.le_refl _) (fun k e=>by cases e)⟩
 case round=>
  obtain ⟨k,hk,rfl,xs,hown,hpr,hb⟩:=hrel
  have Hb:=Z9 hb
  by_cases hlt:k<rs.length
  ·rcases uh Hr with h0 | ⟨b,off,rfl,hbw,hcl⟩
   ·rw [h0] at hlt;simp at hlt
   obtain ⟨c0,pv,c1,hip⟩:=hcl k hlt
   rw [<-hb.cell (p:=⟨b,off+k*2,none⟩) hbw] at c0
   rw [<-hb.cell (p:=⟨b,off+k*2+1,none⟩) hbw] at c1
   have hxs:xs.length=rs.length*2:=hown.1
   have hg1:w.heap.size<wr.heap.size:=(World.ownsRow.lt hown w.heap.size rfl).2
   have Ho:=Z9 hown
   have Hpr:=Z9 hpr
   have Hip:=Z9 (hip.below hb)
   obtain ⟨pa,pcap,rfl,_⟩:=hip
   have hsk:=uh Hs2 k hlt
   generalize hp:ZY rs k=p at *
   obtain ⟨rb,ps⟩:=p
   simp only at c0 c1 hsk
   have Hp:=Z9 hp
   clear hcl hb hown hpr hp
   go_wp2_with fail
   refine (HZ rb (uh Hip) hsk).mono ?_
   rintro e w1 ⟨v',rfl,hip',hk',hb1⟩
   have ho1:=Ss (uh Ho) hb1
   obtain ⟨⟨x0,y0⟩,z0⟩:=VF ho1 (j:=k*2) (by omega)
   obtain ⟨⟨x1,y1⟩,z1⟩:=VF ho1 (j:=k*2+1) (by omega)
   have Hp2:=Z9 (Um ho1 (k*2) (.int .i64 rb) v')
   have Hip':=Z9 hip'
   have Hk':=Z9 hk'
   have Hb1:=Z9 hb1
   have hsz:=hb1.size
   have hsz0:=(uh Hb).size
   obtain ⟨a',cap',rfl,_⟩:=hip'
   clear ho1 hb1 hk'
   go_wp2_with fail
   have hne:∀ {u:Value},(∀ m,u.ownBlock=some m->w.heap.size<m)-> ∀ {qs},IsPaces wr u qs->IsPaces ((w1.setCell ⟨w.heap.size,k*2,none⟩ (.int .i64 rb)).setCell ⟨w.heap.size,k*2+1,none⟩ (.slice a' ps.length cap')) u qs:=fun hn qs hq=>((hq.below (uh Hb1)).set _ _ _ (fun m e=>by have:=hn m e;omega)).set _ _ _ (fun m e=>by have:=hn m e;omega)
   have hn':∀ m,(Value.slice a' ps.length cap').ownBlock=some m->w.heap.size<m:=fun m e=>by have:=uh Hk' _ e;omega
   have hlast:SO ((w1.setCell ⟨w.heap.size,k*2,none⟩ (.int .i64 rb)).setCell ⟨w.heap.size,k*2+1,none⟩ (.slice a' ps.length cap')) w.heap.size rs k (.int .i64 rb) (.slice a' ps.length cap'):=by
    unfold SO
    rw [uh Hp]
    exact ⟨rfl,((uh Hip').set _ _ _ (fun m e=>by have:=hn' m e;omega)).set _ _ _ (fun m e=>by have:=hn' m e;omega),hn'⟩
   have hprev:=(uh Hpr).mono (Q:=SO ((w1.setCell ⟨w.heap.size,k*2,none⟩ (.int .i64 rb)).setCell ⟨w.heap.size,k*2+1,none⟩ (.slice a' ps.length cap')) w.heap.size rs) (fun j u u' h=>⟨h.1,hne h.2.2 h.2.1,h.2.2⟩)
   go_roundw
   case rel=>exact ⟨k+1,by omega,by go_num,_,(uh Hp2).1,hprev.next (by omega) hlast,((uh Hb).trans ((uh Hb1).mono hsz0)).trans (XJ (uh Hp2).2 (Nat.le_refl _) (by omega))⟩
   case measure=>simp [intOf];omega
  ·obtain rfl:k=rs.length:=by omega
   go_wp2_with fail
   go_ret
   exact ⟨_,rfl,RoomsFrom.of_row hown hpr rfl,hb⟩
theorem IsRooms.shape  {rs:List Z3} (h:IsRooms w v rs):∃ a cap,v= .slice a rs.length cap/\rs.length<=cap/\cap<=9223372036854775807:=by
 obtain ⟨a,cap,rfl,hc,hm,_⟩:=h;exact ⟨a,cap,rfl,hc,hm⟩
end Go.Proofs.YtjhijildaceadaaGreatDoor
