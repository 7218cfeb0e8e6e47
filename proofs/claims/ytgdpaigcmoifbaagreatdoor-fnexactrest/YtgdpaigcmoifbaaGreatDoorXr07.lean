/- Part 7 of what the proof rests on. No condition but those that a theorem names. -/
import Derived.Test.YtgdpaigcmoifbaaGreatDoorXr03
set_option maxHeartbeats 8000000
set_option maxRecDepth 100000
namespace Go.Proofs.YtgdpaigcmoifbaaGreatDoor
open Go.ChangeShapes Go.WideShapes Go.ChangeAt Go.RowKit Go.Sort Go.Proofs.Tryz
set_option linter.unusedVariables false
variable {w w' w0 w1 w2 w3 w₀ wr W W' X A B C : World} {v v0 v1 v2 v3 v4 u u0 u1 u2 u3 u4 : Value}
theorem GD {b:Int} {ps:List Z6} (h:inB b 1 4=false):Zn (b,ps)=false:=by unfold Zn;simp [h]
theorem GF {b:Int} {ps:List Z6} (h:inB ps.length 1 4=false):Zn (b,ps)=false:=by unfold Zn;simp [h]
theorem GG {b:Int} {ps:List Z6} (h:inB b 1 4=true) (h2:inB ps.length 1 4=true):Zn (b,ps)=Uj ps:=by unfold Zn;simp [h,h2]
theorem Ze  {ps:List Z6} (b:Int) (h:IsPaces w v ps) :
  cB 246 #[.agg #[.int .i64 b,v]] w (.bool (Zn (b,ps))):=by
 have Hv:=Z9 h;obtain ⟨a,cap,rfl,hc,hm,hr⟩:=h;clear hr;have hl:(ps.length:Int)<=9223372036854775807:=by omega
 cases h1:inB b 1 4
 ·go_enter func246,ntmps246
  go_wp2_with fail;refine (ZL _ _ _ _).mono ?_;rintro e w' ⟨rfl,rfl⟩;go_wp2_with fail;go_ret;exact ⟨Z5 (GD h1).symm,(ba _ _)⟩
 cases h2:inB ps.length 1 4
 ·go_enter func246,ntmps246
  go_wp2_with fail;refine (ZL _ _ _ _).mono ?_;rintro e w' ⟨rfl,rfl⟩;go_wp2_with fail;refine (ZL _ _ _ _).mono ?_;rintro e w' ⟨rfl,rfl⟩;go_wp2_with fail;go_ret;exact ⟨Z5 (GF h2).symm,(ba _ _)⟩
 ·have H3:=Z9 (GG h1 h2)
  go_enter func246,ntmps246;go_wp2_with fail;refine (ZL _ _ _ _).mono ?_;rintro e w' ⟨rfl,rfl⟩;go_wp2_with fail;refine (ZL _ _ _ _).mono ?_;rintro e w' ⟨rfl,rfl⟩;go_wp2_with fail;refine ck (Ks ((uh Hv).below ((ba _ _)))) fun w1 hb=> ?_;go_wp2_with fail;go_ret;exact ⟨Z5 (uh H3).symm,((ba _ _)).trans (hb.mono (by simp))⟩
theorem XQ {B:Nat} (h:Below B w w') (n:Nat):Below B w (w'.drewN n):=⟨h.os,h.tape,h.output,h.size,h.block⟩
theorem EP {ps:List Z6} {k:Nat} {f c:Int} (hp:Z7 ps k=(f,c)) (h:inB f 1 1024=false):Xi ps k=false:=by unfold Xi UC;rw [hp];simp [h]
theorem ER {ps:List Z6} {k:Nat} {f c:Int} (hp:Z7 ps k=(f,c)) (h:inB c 1 1024=false):Xi ps k=false:=by unfold Xi UC;rw [hp];simp [h]
theorem Dz {ps:List Z6} {k:Nat} {f c f' c':Int} (hp:Z7 ps k=(f,c)) (hz:0<k) (hq:Z7 ps (k-1)=(f',c')) (h1:inB f 1 1024=true) (h2:inB c 1 1024=true):Xi ps k=(decide (f'<f) && decide (c'<c)):=by
 unfold Xi UC RJ;rw [hp,hq];simp [h1,h2];omega
theorem ES {ps:List Z6} {f c:Int} (hp:Z7 ps 0=(f,c)) (h1:inB f 1 1024=true) (h2:inB c 1 1024=true):Xi ps 0=true:=by unfold Xi UC;rw [hp];simp [h1,h2]
theorem Y5  {ps:List Z6} (rb:Int) (h:IsPaces w v ps) :
  cB 144 #[.agg #[.int .i64 rb,v]] w (.bool (Zn (rb,ps))):=by
 obtain ⟨a,cap,rfl,hc,hm,hr⟩:=h;have Hr:=Z9 hr;clear hr;have hl:(ps.length:Int)<=9223372036854775807:=by omega
 cases h1:inB rb 1 4
 ·go_enter func144,ntmps144
  go_wp2_with fail;refine (ZT _ _ _ _).mono ?_;rintro e w' ⟨rfl,rfl⟩;go_wp2_with fail;go_ret;exact ⟨Z5 (GD h1).symm,(ba _ _)⟩
 cases h2:inB ps.length 1 4
 ·go_enter func144,ntmps144
  go_wp2_with fail;refine (ZT _ _ _ _).mono ?_;rintro e w' ⟨rfl,rfl⟩;go_wp2_with fail;refine (ZT _ _ _ _).mono ?_;rintro e w' ⟨rfl,rfl⟩;go_wp2_with fail;go_ret;exact ⟨Z5 (GF h2).symm,(ba _ _)⟩
 have H3:=Z9 (GG h1 h2);go_enter func144,ntmps144;go_wp2_with fail;refine (ZT _ _ _ _).mono ?_;rintro e w' ⟨rfl,rfl⟩;go_wp2_with fail;refine (ZT _ _ _ _).mono ?_;rintro e w' ⟨rfl,rfl⟩;go_wp2_with fail;clear h1 h2
 go_loopw [3] (fun i wr=> ∃ k:Nat,k<=ps.length/\i= .int .i64 k/\(∀ j,j<k->Xi ps j=true)/\Below (w.heap.size+1) (w.alloc (.cells #[.int .i64 rb,.slice a ps.length cap] 126)) wr) (fun i _=>ps.length-(intOf i).toNat)
 case atStart=>exact ⟨0,ZR _,rfl,fun j hj=>by omega,Z0 _ _⟩
 case round=>
  obtain ⟨k,hk,rfl,hst,hb⟩:=hrel;have Hst:=Z9 hst;have Hb:=Z9 hb;clear hst;have hsz:w.heap.size+1<=wr.heap.size:=by have:=hb.size;simpa using this
  have hbox:wr.cell? ⟨w.heap.size,1,none⟩=some (.slice a ps.length cap):=by rw [hb.cell (p:=⟨w.heap.size,1,none⟩) (by simp)];simp
  have hne0:w.heap.size ≠ wr.heap.size:=by omega
  by_cases hlt:k<ps.length
  ·rcases uh Hr with h0 | ⟨b,off,rfl,hbw,hcl⟩
   ·rw [h0] at hlt;simp at hlt
   have hbB:Below w.heap.size w wr:=((ba _ _)).trans (hb.mono (by omega));have hne:b ≠ wr.heap.size:=by omega
   have hne':b ≠ w.heap.size:=by omega
   obtain ⟨c0,c1⟩:=hcl k hlt;rw [<-hbB.cell (p:=⟨b,off+k*2,none⟩) hbw] at c0;rw [<-hbB.cell (p:=⟨b,off+k*2+1,none⟩) hbw] at c1;generalize hp:Z7 ps k=p at c0 c1;have Hp:=Z9 hp;obtain ⟨f,c⟩:=p;simp only at c0 c1;clear hp hb;cases h1:inB f 1 1024
   ·clear hcl
    go_wp2_with fail;go_quiet (exact YD (ZT _ _ _ _));go_wp2_with fail;go_ret;exact ⟨Z5 (by rw [uh H3];exact (UD hlt (EP (uh Hp) h1)).symm),((ba _ _)).trans ((XQ ((uh Hb).alloc hsz _) _).mono (by omega))⟩
   cases h2:inB c 1 1024
   ·clear hcl
    go_wp2_with fail;go_quiet (exact YD (ZT _ _ _ _));go_wp2_with fail;go_ret;exact ⟨Z5 (by rw [uh H3];exact (UD hlt (ER (uh Hp) h2)).symm),((ba _ _)).trans ((XQ ((uh Hb).alloc hsz _) _).mono (by omega))⟩
   by_cases hz:0<k
   ·have hd:decide (0<k)=true:=Sf hz
    obtain ⟨e0,e1⟩:=hcl (k-1) (by omega);rw [<-hbB.cell (p:=⟨b,off+(k-1)*2,none⟩) hbw] at e0;rw [<-hbB.cell (p:=⟨b,off+(k-1)*2+1,none⟩) hbw] at e1;generalize hq:Z7 ps (k-1)=q at e0 e1;have Hq:=Z9 hq;obtain ⟨f',c'⟩:=q;simp only at e0 e1;have q0:(wr.alloc (.cells #[.int .i64 f,.int .i64 c] 168)).cell? ⟨w.heap.size,1,none⟩=some (.slice (some ⟨b,off,none⟩) ps.length cap):=by rw [World.cell?_alloc_old _ _ _ hne0];exact hbox
    have q1:(wr.alloc (.cells #[.int .i64 f,.int .i64 c] 168)).cell? ⟨b,off+(k-1)*2,none⟩=some (.int .i64 f'):=by rw [World.cell?_alloc_old _ _ _ hne];exact e0
    have q2:(wr.alloc (.cells #[.int .i64 f,.int .i64 c] 168)).cell? ⟨b,off+(k-1)*2+1,none⟩=some (.int .i64 c'):=by rw [World.cell?_alloc_old _ _ _ hne];exact e1
    clear hcl hq e0 e1;have Hs:=Z9 (Dz (uh Hp) hz (uh Hq) h1 h2);by_cases g1:f<=f'
    ·have g1':decide (f<=f')=true:=Sf g1
     go_wp2_with fail;go_quiet (exact YD (ZT _ _ _ _));go_wp2_with fail;go_ret;exact ⟨Z5 (by rw [uh H3];exact (UD hlt (by rw [uh Hs];simp;omega)).symm),((ba _ _)).trans ((XQ ((uh Hb).alloc hsz _) _).mono (by omega))⟩
    have g1':decide (f<=f')=false:=TG g1;by_cases g2:c<=c'
    ·have g2':decide (c<=c')=true:=Sf g2
     go_wp2_with fail;go_quiet (exact YD (ZT _ _ _ _));go_wp2_with fail;go_ret;exact ⟨Z5 (by rw [uh H3];exact (UD hlt (by rw [uh Hs];simp;omega)).symm),((ba _ _)).trans ((XQ ((uh Hb).alloc hsz _) _).mono (by omega))⟩
    ·have g2':decide (c<=c')=false:=TG g2
     go_wp2_with fail;go_quiet (exact YD (ZT _ _ _ _));go_wp2_with fail;go_roundw
     case rel=>exact ⟨k+1,by omega,by go_num,Y4 (uh Hst) (by rw [uh Hs];simp;omega),XQ ((uh Hb).alloc hsz _) _⟩
     case measure=>exact ms
   ·obtain rfl:k=0:=by omega
    simp only [Nat.zero_mul,Nat.add_zero] at c0 c1;clear hcl hz;go_wp2_with fail;go_quiet (exact YD (ZT _ _ _ _));go_wp2_with fail;go_roundw
    case rel=>exact ⟨1,by omega,by go_num,Y4 (uh Hst) (ES (uh Hp) h1 h2),XQ ((uh Hb).alloc hsz _) _⟩
    case measure=>exact ms
  ·obtain rfl:k=ps.length:=by omega
   clear hb;go_wp2_with fail;go_ret;exact ⟨Z5 (by rw [uh H3];exact (Kq (uh Hst)).symm),((ba _ _)).trans ((uh Hb).mono (by omega))⟩
def Adds (rs:List Z4):Prop:= ∀ k,k<=rs.length->0<=ZW (rs.take k)/\ZW (rs.take k)<=1000000
theorem Lu {rs:List Z4} (h:rs.all Zn=true) (hl:rs.length<=3):Adds rs:=fun k hk=>by have:=SS h k hk;omega
theorem Adds.taken {rs:List Z4} (h:Adds rs) (n:Nat):Adds (rs.take n):=fun k hk=>by
 have hk':k<=n/\k<=rs.length:=by simp at hk;omega
 rw [List.take_take,Nat.min_eq_left hk'.1];exact h k hk'.2
theorem Qp  {rs:List Z4} (h:IsRooms w v rs) :
  cB 215 #[v] w (.bool (rs.all Zn)):=by
 obtain ⟨a,cap,rfl,hc,hm,hr⟩:=h;have Hr:=Z9 hr;clear hr;go_enter func215,ntmps215;go_wp2_with fail
 go_loopw [7] (fun i wr=> ∃ k:Nat,k<=rs.length/\i= .int .i64 k/\(∀ j,j<k->Zn (ZU rs j)=true)/\Below w.heap.size w wr) (fun i _=>rs.length-(intOf i).toNat)
 case atStart=>exact ⟨0,ZR _,rfl,fun j hj=>by omega,Z0 _ _⟩
 case round=>
  obtain ⟨k,hk,rfl,hst,hb⟩:=hrel;have Hst:=Z9 hst;have Hb:=Z9 hb;have hsz:=hb.size;clear hst;by_cases hlt:k<rs.length
  ·rcases uh Hr with h0 | ⟨b,off,rfl,hbw,hcl⟩
   ·rw [h0] at hlt;simp at hlt
   obtain ⟨c0,pv,c1,hip⟩:=hcl k hlt;rw [<-hb.cell (p:=⟨b,off+k*2,none⟩) hbw] at c0;rw [<-hb.cell (p:=⟨b,off+k*2+1,none⟩) hbw] at c1;have Hip:=Z9 (hip.below hb);obtain ⟨pa,pcap,rfl,_⟩:=hip;generalize hp:ZU rs k=p at *;obtain ⟨rb,ps⟩:=p;simp only at c0 c1;have Hp:=Z9 hp;clear hp hcl hb;cases hrb:Zn (rb,ps)
   ·go_wp2_with fail
    refine ck (Ze rb ((uh Hip).below ((ba _ _)))) fun w1 hb1=> ?_;go_wp2_with fail;go_ret;exact ⟨Z5 (N8 hlt (by rw [uh Hp];exact hrb)).symm,((uh Hb).alloc hsz _).trans (hb1.mono (by simp;omega))⟩
   ·go_wp2_with fail
    refine ck (Ze rb ((uh Hip).below ((ba _ _)))) fun w1 hb1=> ?_;have Hb1:=Z9 hb1;clear hb1;go_wp2_with fail;go_roundw
    case rel=>exact ⟨k+1,by omega,by go_num,Y4 (uh Hst) (by rw [uh Hp];exact hrb),((uh Hb).alloc hsz _).trans ((uh Hb1).mono (by simp;omega))⟩
    case measure=>exact ms
  ·obtain rfl:k=rs.length:=by omega
   go_wp2_with fail;go_ret;exact ⟨Z5 (N9 (uh Hst)).symm,hb⟩
theorem WY  {rs:List Z4} (h:IsRooms w v rs) (ha:Adds rs) :
  cB 216 #[v] w (.int .i64 (ZW rs)):=by
 obtain ⟨a,cap,rfl,hc,hm,hr⟩:=h;have Hr:=Z9 hr;have Ha:=Z9 ha;clear hr ha;go_enter func216,ntmps216;go_wp2_with fail
 go_loopw [3,8] (fun s i wr=> ∃ k:Nat,k<=rs.length/\i= .int .i64 k/\s= .int .i64 (ZW (rs.take k))/\Below w.heap.size w wr) (fun _ i _=>rs.length-(intOf i).toNat)
 case atStart=>exact ⟨0,ZR _,rfl,rfl,Z0 _ _⟩
 case round=>
  obtain ⟨k,hk,rfl,rfl,hb⟩:=hrel;have Hb:=Z9 hb;have hsz:=hb.size;by_cases hlt:k<rs.length
  ·rcases uh Hr with h0 | ⟨b,off,rfl,hbw,hcl⟩
   ·rw [h0] at hlt;simp at hlt
   obtain ⟨c0,pv,c1,hip⟩:=hcl k hlt;rw [<-hb.cell (p:=⟨b,off+k*2,none⟩) hbw] at c0;rw [<-hb.cell (p:=⟨b,off+k*2+1,none⟩) hbw] at c1;obtain ⟨pa,pcap,rfl,_⟩:=hip;have hs0:=uh Ha k hk;have hs1:=uh Ha (k+1) hlt;have Hs:=Z9 (Yv rs hlt);rw [Yv rs hlt] at hs1;generalize ZW (rs.take k)=s at *;generalize (ZU rs k).1=rb at *;obtain ⟨s0,s1⟩:=hs0;obtain ⟨s2,s3⟩:=hs1;clear hcl hb;go_wp2_with fail;go_roundw
   case rel=>exact ⟨k+1,by omega,by go_num,by rw [uh Hs],(uh Hb).alloc hsz _⟩
   case measure=>exact ms
  ·obtain rfl:k=rs.length:=by omega
   go_wp2_with fail;go_ret;exact ⟨ZQ (by rw [TV]),hb⟩
theorem Gv {rs:List Z4} (h:inB rs.length 1 3=false):YF rs=false:=by unfold YF;simp [h]
theorem Gw {rs:List Z4} (h:rs.all Zn=false):YF rs=false:=by unfold YF;rw [h];simp
theorem Gx {rs:List Z4} (h:inB rs.length 1 3=true) (h2:rs.all Zn=true):YF rs=decide (ZW rs<=8):=by unfold YF;rw [h,h2];simp
theorem IsRooms.alloc  {rs:List Z4} (h:IsRooms w v rs) (o:Obj):IsRooms (w.alloc o) v rs:=h.below ((ba _ _))
theorem Yn  {rs:List Z4} (h:IsRooms w v rs) :
  cB 186 #[.agg #[v]] w (.bool (YF rs)):=by
 have Hv:=Z9 h;obtain ⟨a,cap,rfl,hc,hm,hr⟩:=h;clear hr;have hl:(rs.length:Int)<=9223372036854775807:=by omega
 cases h1:inB rs.length 1 3
 ·go_enter func186,ntmps186
  go_wp2_with fail;refine (ZL _ _ _ _).mono ?_;rintro e w' ⟨rfl,rfl⟩;go_wp2_with fail;go_ret;exact ⟨Z5 (Gv h1).symm,(ba _ _)⟩
 cases h2:rs.all Zn
 ·have H2:=Z9 (Gw h2)
  generalize hx:rs.all Zn=x at *;have Hx:=Z9 hx;clear hx;subst h2;go_enter func186,ntmps186;go_wp2_with fail;refine (ZL _ _ _ _).mono ?_;rintro e w' ⟨rfl,rfl⟩;go_wp2_with fail;refine (Qp ((uh Hv).alloc _)).mono ?_;rw [uh Hx];rintro e w1 ⟨rfl,hb⟩;go_wp2_with fail;go_ret;exact ⟨Z5 (uh H2).symm,((ba _ _)).trans (hb.mono (by simp))⟩
 ·have H3:=Z9 (Gx h1 h2)
  have Ha:=Z9 (Lu h2 (by have:=ZO h1;omega));generalize hx:rs.all Zn=x at *;have Hx:=Z9 hx;clear hx;subst h2;go_enter func186,ntmps186;go_wp2_with fail;refine (ZL _ _ _ _).mono ?_;rintro e w' ⟨rfl,rfl⟩;go_wp2_with fail;refine (Qp ((uh Hv).alloc _)).mono ?_;rw [uh Hx];rintro e w1 ⟨rfl,hb⟩;have hz:w.heap.size+1<=w1.heap.size:=by have:=hb.size;simpa using this
  have hbox:w1.cell? ⟨w.heap.size,0,none⟩=some (.slice a rs.length cap):=by rw [hb.cell (p:=⟨w.heap.size,0,none⟩) (by simp)];simp
  have hw1:=Z9 (((uh Hv).alloc _).below hb);have Hb:=Z9 hb;clear hb;go_wp2_with fail;refine ck (WY (uh hw1) (uh Ha)) fun w2 hb2=> ?_;have Hb2:=Z9 hb2;clear hb2;go_wp2_with fail;go_ret;exact ⟨Z5 (by rw [uh H3]),((ba _ _)).trans (((uh Hb).trans ((uh Hb2).mono (uh Hb).size)).mono (by simp))⟩
def Xq (rs:List Z4):Int:=if YF rs=true then ZW rs else -1
theorem Ve {rs:List Z4} (h:YF rs=true):Xq rs=ZW rs:=by unfold Xq;rw [if_pos h]
theorem RN {rs:List Z4} (h:YF rs=false):Xq rs= -1:=by unfold Xq;rw [h];rfl
theorem Sq {rs:List Z4} (h:YF rs=true):Adds rs:=Lu (Zd h).2.2.1 (Zd h).2.1
theorem Wz  {rs:List Z4} (h:IsRooms w v rs) :
  cB 190 #[.agg #[v]] w (.int .i64 (Xq rs)):=by
 have Hv:=Z9 h;obtain ⟨a,cap,rfl,hc,hm,hr⟩:=h;clear hr;cases h1:YF rs
 ·have H1:=Z9 h1
  clear h1;go_enter func190,ntmps190;go_wp2_with fail;refine (Yn ((uh Hv).alloc _)).mono ?_;rw [uh H1];rintro e w1 ⟨rfl,hb⟩;go_wp2_with fail;go_ret;exact ⟨ZQ (RN (uh H1)).symm,((ba _ _)).trans (hb.mono (by simp))⟩
 ·have H1:=Z9 h1
  clear h1;go_enter func190,ntmps190;go_wp2_with fail;refine (Yn ((uh Hv).alloc _)).mono ?_;rw [uh H1];rintro e w1 ⟨rfl,hb⟩;have hz:w.heap.size+1<=w1.heap.size:=by have:=hb.size;simpa using this
  have hbox:w1.cell? ⟨w.heap.size,0,none⟩=some (.slice a rs.length cap):=by rw [hb.cell (p:=⟨w.heap.size,0,none⟩) (by simp)];simp
  have hw1:=Z9 (((uh Hv).alloc _).below hb);have Hb:=Z9 hb;clear hb;go_wp2_with fail;refine ck (WY (uh hw1) (Sq (uh H1))) fun w2 hb2=> ?_;have Hb2:=Z9 hb2;clear hb2;go_wp2_with fail;go_ret;exact ⟨ZQ (Ve (uh H1)).symm,((ba _ _)).trans (((uh Hb).trans ((uh Hb2).mono (uh Hb).size)).mono (by simp))⟩
theorem Qi  {rs:List Z4} (h:IsRooms w v rs) (ha:Adds rs) :
  cB 100 #[.agg #[v]] w (.int .i64 (ZW rs)):=by
 obtain ⟨a,cap,rfl,hc,hm,hr⟩:=h;have Hr:=Z9 hr;have Ha:=Z9 ha;clear hr ha;go_enter func100,ntmps100;go_wp2_with fail
 go_loop [3,4] (fun s i=> ∃ k:Nat,k<=rs.length/\i= .int .i64 k/\s= .int .i64 (ZW (rs.take k))) (fun _ i=>rs.length-(intOf i).toNat)
 case atStart=>exact ⟨0,ZR _,rfl,rfl⟩
 case round=>
  obtain ⟨k,hk,rfl,rfl⟩:=hrel;by_cases hlt:k<rs.length
  ·rcases uh Hr with h0 | ⟨b,off,rfl,hbw,hcl⟩
   ·rw [h0] at hlt;simp at hlt
   obtain ⟨c0,pv,c1,hip⟩:=hcl k hlt;have hne:b ≠ w.heap.size:=Vd hbw;have hs0:=uh Ha k hk;have hs1:=uh Ha (k+1) hlt;have Hs:=Z9 (Yv rs hlt);rw [Yv rs hlt] at hs1;generalize ZW (rs.take k)=s at *;generalize (ZU rs k).1=rb at *;obtain ⟨s0,s1⟩:=hs0;obtain ⟨s2,s3⟩:=hs1;clear hcl hip;go_wp2_with fail
   go_round
   case rel=>exact ⟨k+1,by omega,by go_num,by rw [uh Hs]⟩
   case measure=>exact ms
  ·obtain rfl:k=rs.length:=by omega
   go_wp2_with fail;go_ret;exact ⟨ZQ (by first | rfl | rw [TV]),(ba _ _)⟩
theorem Pg  {rs:List Z4} (h:IsRooms w v rs) :
  cB 98 #[.agg #[v]] w (.bool (YF rs)):=by
 have Hv:=Z9 h;obtain ⟨a,cap,rfl,hc,hm,hr⟩:=h;have Hr:=Z9 hr;clear hr;have hl:(rs.length:Int)<=9223372036854775807:=by omega
 go_enter func98,ntmps98;go_wp2_with fail
 go_loopw [3] (fun i wr=> ∃ k:Nat,k<=rs.length/\i= .int .i64 k/\(∀ j,j<k->Zn (ZU rs j)=true)/\Below (w.heap.size+1) (w.alloc (.cells #[.slice a rs.length cap] 34)) wr) (fun i _=>rs.length-(intOf i).toNat)
 case atStart=>exact ⟨0,ZR _,rfl,fun j hj=>by omega,Z0 _ _⟩
 case round=>
  obtain ⟨k,hk,rfl,hst,hb⟩:=hrel;have Hst:=Z9 hst;have Hb:=Z9 hb;have hsz:w.heap.size+1<=wr.heap.size:=by have:=hb.size;simpa using this
  have hbox:wr.cell? ⟨w.heap.size,0,none⟩=some (.slice a rs.length cap):=by rw [hb.cell (p:=⟨w.heap.size,0,none⟩) (by simp)];simp
  have hbB:Below w.heap.size w wr:=((ba _ _)).trans (hb.mono (by omega));clear hst;by_cases hlt:k<rs.length
  ·rcases uh Hr with h0 | ⟨b,off,rfl,hbw,hcl⟩
   ·rw [h0] at hlt;simp at hlt
   obtain ⟨c0,pv,c1,hip⟩:=hcl k hlt;rw [<-hbB.cell (p:=⟨b,off+k*2,none⟩) hbw] at c0;rw [<-hbB.cell (p:=⟨b,off+k*2+1,none⟩) hbw] at c1;have Hip:=Z9 (hip.below hbB);obtain ⟨pa,pcap,rfl,_⟩:=hip;generalize hp:ZU rs k=p at *;obtain ⟨rb,ps⟩:=p;simp only at c0 c1;have Hp:=Z9 hp;have HbB:=Z9 hbB;clear hp hcl hb hbB;cases hrb:Zn (rb,ps)
   ·go_wp2_with fail
    refine ck (Y5 rb (uh Hip)) fun w1 hb1=> ?_;have Hb1:=Z9 hb1;clear hb1;go_wp2_with fail;go_ret;exact ⟨Z5 (Gw (N8 hlt (by rw [uh Hp];exact hrb))).symm,(uh HbB).trans ((uh Hb1).mono (uh HbB).size)⟩
   ·go_wp2_with fail
    refine ck (Y5 rb (uh Hip)) fun w1 hb1=> ?_;have Hb1:=Z9 hb1;clear hb1;go_wp2_with fail;go_roundw
    case rel=>exact ⟨k+1,by omega,by go_num,Y4 (uh Hst) (by rw [uh Hp];exact hrb),(uh Hb).trans ((uh Hb1).mono hsz)⟩
    case measure=>exact ms
  ·obtain rfl:k=rs.length:=by omega
   have h2:=N9 (uh Hst);have HbB:=Z9 hbB;have hw1:=Z9 ((uh Hv).below hbB);clear hb hbB;cases h1:inB rs.length 1 3
   ·have H2:=Z9 (Gv h1)
    clear h2;go_wp2_with fail;refine (ZT _ _ _ _).mono ?_;rintro e w' ⟨rfl,rfl⟩;go_wp2_with fail;go_ret;exact ⟨Z5 (uh H2).symm,uh HbB⟩
   ·have H3:=Z9 (Gx h1 h2)
    have Ha:=Z9 (Lu h2 (by have:=ZO h1;omega));clear h2;go_wp2_with fail;refine (ZT _ _ _ _).mono ?_;rintro e w' ⟨rfl,rfl⟩;go_wp2_with fail;refine ck (Qi (uh hw1) (uh Ha)) fun w2 hb2=> ?_;have Hb2:=Z9 hb2;clear hb2;go_wp2_with fail;go_ret;exact ⟨Z5 (by rw [uh H3]),(uh HbB).trans ((uh Hb2).mono (uh HbB).size)⟩
theorem Qr (a:Option Addr) (n cap:Nat) (left:Int) (hn:n<=9223372036854775807) (h0:0<=left) (h1:left<=1048576) (w:World) :
  cE 153 #[.slice a n cap,.int .i64 left] w (.int .i64 (szV n left)):=by
 by_cases h:left-n<0
 all_goals
  go_enter func153,ntmps153
  go_wp2
  go_ret;exact ⟨ZQ (by first | exact (TP (by omega)).symm | exact (TQ (by omega)).symm),rfl⟩
theorem Pp (b:Int) (a:Option Addr) (n cap:Nat) (left:Int) (hn:n<=9223372036854775807) (h0:0<=left) (h1:left<=1048576) (w:World) :
  cB 114 #[.agg #[.int .i64 b,.slice a n cap],.int .i64 left] w (.int .i64 (szV n left)):=by
 by_cases h:left-n<0
 ·go_enter func114,ntmps114
  go_wp2_with fail;refine (Qr _ _ _ _ hn h0 h1 _).mono ?_;rw [TP (by omega)];rintro e w' ⟨rfl,rfl⟩;go_wp2_with fail;go_ret;exact ⟨ZQ (TP (by omega)).symm,(ba _ _)⟩
 ·go_enter func114,ntmps114
  go_wp2_with fail;refine (Qr _ _ _ _ hn h0 h1 _).mono ?_;rw [TQ (by omega)];rintro e w' ⟨rfl,rfl⟩;go_wp2_with fail;go_ret;exact ⟨ZQ (TQ (by omega)).symm,(ba _ _)⟩
def Q8 (rs:List Z4):Prop:=rs.length<=1048576/\ ∀ j,j<rs.length->(ZU rs j).2.length<=1048576
theorem KS  {rs:List Z4} (h:IsRooms w v rs) (left:Int) (h0:0<=left) (h1:left<=1048576) :
  Calls prog 67 #[v,.int .i64 left] w fun e w'=> ∃ x:Int,e= .returned (.int .i64 x)/\x<=1048576/\(0<=x->Q8 rs)/\Below w.heap.size w w':=by
 obtain ⟨a,cap,rfl,hc,hm,hr⟩:=h;have Hr:=Z9 hr;clear hr;by_cases hn:left-rs.length<0
 ·go_enter func67,ntmps67
  go_wp2_with fail;go_ret;exact ⟨-1,rfl,by omega,fun h=>by omega,Z0 _ _⟩
 ·go_enter func67,ntmps67
  go_wp2_with fail
  go_loopw [1,5] (fun l i wr=> ∃ (k:Nat) (y:Int),k<=rs.length/\i= .int .i64 k/\l= .int .i64 y/\0<=y/\y<=1048576/\(∀ j,j<k->(ZU rs j).2.length<=1048576)/\Below w.heap.size w wr) (fun _ i _=>rs.length-(intOf i).toNat)
  case atStart=>exact ⟨0,_,ZR _,rfl,rfl,by omega,by omega,fun j hj=>by omega,Z0 _ _⟩
  case round=>
   obtain ⟨k,y,hk,rfl,rfl,y0,y1,hst,hb⟩:=hrel;have Hst:=Z9 hst;have Hb:=Z9 hb;clear hst;by_cases hlt:k<rs.length
   ·rcases uh Hr with h0 | ⟨b,off,rfl,hbw,hcl⟩
    ·rw [h0] at hlt;simp at hlt
    obtain ⟨c0,pv,c1,hip⟩:=hcl k hlt;rw [<-hb.cell (p:=⟨b,off+k*2,none⟩) hbw] at c0;rw [<-hb.cell (p:=⟨b,off+k*2+1,none⟩) hbw] at c1;obtain ⟨pa,pcap,rfl,hpc,hpm,_⟩:=hip;generalize hp:(ZU rs k).2.length=n at *;generalize (ZU rs k).1=rb at *;have Hp:=Z9 hp;clear hp hcl hb;by_cases hy:y-n<0
    ·go_wp2_with fail
     refine (Pp _ _ _ _ _ (by omega) y0 y1 _).mono ?_;rw [TP (by omega)];rintro e w1 ⟨rfl,hb1⟩;have Hb1:=Z9 hb1;clear hb1;go_wp2_with fail;go_ret;exact ⟨-1,rfl,by omega,fun h=>by omega,(uh Hb).trans ((uh Hb1).mono (uh Hb).size)⟩
    ·go_wp2_with fail
     refine (Pp _ _ _ _ _ (by omega) y0 y1 _).mono ?_;rw [TQ (by omega)];rintro e w1 ⟨rfl,hb1⟩;have Hb1:=Z9 hb1;clear hb1;go_wp2_with fail;go_roundw
     case rel=>exact ⟨k+1,y-n,by omega,by go_num,rfl,by omega,by omega,Y4 (uh Hst) (by rw [uh Hp];omega),(uh Hb).trans ((uh Hb1).mono (uh Hb).size)⟩
     case measure=>exact ms
   ·obtain rfl:k=rs.length:=by omega
    go_wp2_with fail;go_ret;exact ⟨y,rfl,by omega,fun h=>⟨by omega,uh Hst⟩,hb⟩
theorem H7 (f c:Int) (w:World) :
  cB 201 #[.agg #[.int .i64 f,.int .i64 c],.agg #[.int .i64 f,.int .i64 c]] w (.bool true):=by
 go_enter func201,ntmps201;go_wp2_with fail;go_ret;exact ⟨rfl,((ba _ _)).alloc (by simp) _⟩
theorem JJ  {ps:List Z6} (hv:IsPaces w v ps) (hu:IsPaces w u ps) :
  cB 171 #[v,u] w (.bool true):=by
 obtain ⟨a,cap,rfl,hc,hm,hr⟩:=hv;obtain ⟨a',cap',rfl,hc',hm',hr'⟩:=hu;have Hr:=Z9 hr;have Hr':=Z9 hr';clear hr hr';go_enter func171,ntmps171;go_wp2_with fail
 go_loopw [5] (fun i wr=> ∃ k:Nat,k<=ps.length/\i= .int .i64 k/\Below w.heap.size w wr) (fun i _=>ps.length-(intOf i).toNat)
 case atStart=>exact ⟨0,ZR _,rfl,Z0 _ _⟩
 case round=>
  obtain ⟨k,hk,rfl,hb⟩:=hrel;have Hb:=Z9 hb;by_cases hlt:k<ps.length
  ·rcases uh Hr with h0 | ⟨b,off,rfl,hbw,hcl⟩
   ·rw [h0] at hlt;simp at hlt
   rcases uh Hr' with h0 | ⟨b',off',rfl,hbw',hcl'⟩
   ·rw [h0] at hlt;simp at hlt
   obtain ⟨c0,c1⟩:=hcl k hlt;obtain ⟨d0,d1⟩:=hcl' k hlt;rw [<-hb.cell (p:=⟨b,off+k*2,none⟩) hbw] at c0;rw [<-hb.cell (p:=⟨b,off+k*2+1,none⟩) hbw] at c1;rw [<-hb.cell (p:=⟨b',off'+k*2,none⟩) hbw'] at d0;rw [<-hb.cell (p:=⟨b',off'+k*2+1,none⟩) hbw'] at d1;generalize (Z7 ps k).1=f at *;generalize (Z7 ps k).2=c at *;have k0:=Z1 c0;have k1:=Z1 c1;have k2:=Z1 d0;have k3:=Z1 d1;clear hcl hcl' hb c0 c1 d0 d1;go_wp2_with fail;refine wq ?_
   repeat (go_big_quiet_step (exact ZX (H7 _ _ _)))
   refine wpQuiet_nil ?_;intro _ hw';obtain ⟨⟨dq,osq⟩,hw''⟩:=hw';subst hw'';go_wp2_with fail;go_roundw
   case rel=>exact ⟨k+1,by omega,by go_num,(uh Hb).trans ((Z2 _ _ _).mono (uh Hb).size)⟩
   case measure=>exact ms
  ·go_wp2_with fail
   go_ret;exact ⟨rfl,hb⟩
theorem H8  {ps:List Z6} (rb:Int) (hv:IsPaces w v ps) (hu:IsPaces w u ps) :
  cB 135 #[.agg #[.int .i64 rb,v],.agg #[.int .i64 rb,u]] w (.bool true):=by
 have Hv:=Z9 hv;have Hu:=Z9 hu;obtain ⟨a,cap,rfl,hc,hm,hr⟩:=hv;obtain ⟨a',cap',rfl,hc',hm',hr'⟩:=hu;clear hr hr';go_enter func135,ntmps135;go_wp2_with fail;refine ck (JJ ((uh Hv).below (((ba _ _)).alloc (by simp) _)) ((uh Hu).below (((ba _ _)).alloc (by simp) _))) fun w1 hb=> ?_;have Hb:=Z9 hb;clear hb;go_wp2_with fail;go_ret;exact ⟨rfl,(((ba _ _)).alloc (by simp) _).trans ((uh Hb).mono (by simp;omega))⟩
theorem JK  {rs:List Z4} (hv:IsRooms w v rs) (hu:IsRooms w u rs) :
  cB 83 #[v,u] w (.bool true):=by
 obtain ⟨a,cap,rfl,hc,hm,hr⟩:=hv;obtain ⟨a',cap',rfl,hc',hm',hr'⟩:=hu;have Hr:=Z9 hr;have Hr':=Z9 hr';clear hr hr';go_enter func83,ntmps83;go_wp2_with fail
 go_loopw [5] (fun i wr=> ∃ k:Nat,k<=rs.length/\i= .int .i64 k/\Below w.heap.size w wr) (fun i _=>rs.length-(intOf i).toNat)
 case atStart=>exact ⟨0,ZR _,rfl,Z0 _ _⟩
 case round=>
  obtain ⟨k,hk,rfl,hb⟩:=hrel;have Hb:=Z9 hb;by_cases hlt:k<rs.length
  ·rcases uh Hr with h0 | ⟨b,off,rfl,hbw,hcl⟩
   ·rw [h0] at hlt;simp at hlt
   rcases uh Hr' with h0 | ⟨b',off',rfl,hbw',hcl'⟩
   ·rw [h0] at hlt;simp at hlt
   obtain ⟨c0,pv,c1,hip⟩:=hcl k hlt;obtain ⟨d0,pu,d1,hiu⟩:=hcl' k hlt;rw [<-hb.cell (p:=⟨b,off+k*2,none⟩) hbw] at c0;rw [<-hb.cell (p:=⟨b,off+k*2+1,none⟩) hbw] at c1;rw [<-hb.cell (p:=⟨b',off'+k*2,none⟩) hbw'] at d0;rw [<-hb.cell (p:=⟨b',off'+k*2+1,none⟩) hbw'] at d1;have Hip:=Z9 (hip.below hb);have Hiu:=Z9 (hiu.below hb);obtain ⟨pa,pcap,rfl,_⟩:=hip;obtain ⟨pa',pcap',rfl,_⟩:=hiu;generalize (ZU rs k).1=f at *;generalize (ZU rs k).2=ps at *;have k0:=Z1 c0;have k1:=Z1 c1;have k2:=Z1 d0;have k3:=Z1 d1;clear hcl hcl' hb c0 c1 d0 d1;go_wp2_with fail;refine wq ?_
   repeat (go_big_quiet_step (exact ZX (H8 _ ((uh Hip).below (Z2 _ _ _)) ((uh Hiu).below (Z2 _ _ _)))))
   refine wpQuiet_nil ?_;intro _ hw';obtain ⟨⟨dq,osq⟩,hw''⟩:=hw';subst hw'';go_wp2_with fail;go_roundw
   case rel=>exact ⟨k+1,by omega,by go_num,(uh Hb).trans ((Z2 _ _ _).mono (uh Hb).size)⟩
   case measure=>exact ms
  ·go_wp2_with fail
   go_ret;exact ⟨rfl,hb⟩
theorem HJ  {rs:List Z4} (hv:IsRooms w v rs) (hu:IsRooms w u rs) :
  cB 40 #[.agg #[v],.agg #[u]] w (.bool true):=by
 have Hv:=Z9 hv;have Hu:=Z9 hu;obtain ⟨a,cap,rfl,hc,hm,hr⟩:=hv;obtain ⟨a',cap',rfl,hc',hm',hr'⟩:=hu;clear hr hr';go_enter func40,ntmps40;go_wp2_with fail;refine ck (JK ((uh Hv).below (((ba _ _)).alloc (by simp) _)) ((uh Hu).below (((ba _ _)).alloc (by simp) _))) fun w1 hb=> ?_;have Hb:=Z9 hb;clear hb;go_wp2_with fail;go_ret;exact ⟨rfl,(((ba _ _)).alloc (by simp) _).trans ((uh Hb).mono (by simp;omega))⟩
theorem JW:(prog.info? 168).map (fun i=>(i.zero,i.size,i.bytes))=some (some (.agg #[.int .i64 0,.int .i64 0]),2,16):=by kernel_rfl
theorem JX:(prog.info? 126).map (fun i=>(i.zero,i.size,i.bytes))=some (some (.agg #[.int .i64 0,.slice none 0 0]),2,32):=by kernel_rfl
theorem Pr (f c:Int) (w:World) :
  cB 185 #[.agg #[.int .i64 f,.int .i64 c]] w (.agg #[.int .i64 f,.int .i64 c]):=by
 go_enter func185,ntmps185;go_wp2_with fail;exact Y7 (v:= .agg #[.int .i64 f,.int .i64 c]) (by simp [results,results185,go_sem]) rfl ⟨rfl,(((ba _ _)).alloc (by simp) _).alloc (by simp;omega) _⟩
theorem KW  {ps:List Z6} (h:IsPaces w v ps) (hs:ps.length<=1048576) :
  Calls prog 156 #[v] w fun e w'=> ∃ v',e= .returned v'/\IsPaces w' v' ps/\(∀ k,v'.ownBlock=some k->w.heap.size<=k)/\Below w.heap.size w w':=by
 obtain ⟨a,cap,rfl,hc,hm,hr⟩:=h;have Hr:=Z9 hr;clear hr;obtain ⟨i0,hi,hz0,hz1,hz2⟩:=info_parts JW;go_enter func156,ntmps156;go_wp2_with (at_make;refine wpList_make_full _ rfl _ _ 124 rfl w.heap.size 168 i0 (.agg #[.int .i64 0,.int .i64 0]) 2 underlying124 hi hz0 hz1 _ _ _ _ ps.length rfl rfl rfl rfl (by rw [hz2];omega) (by unfold maxLen;omega) (ZY _) ?_;intro w0 hown hgrow)
 have Hown:=Z9 hown;have Hgr:=Z9 hgrow;clear hown hgrow
 go_loopw [4] (fun i wr=> ∃ k:Nat,k<=ps.length/\i= .int .i64 k/\ ∃ xs,wr.ownsRow w.heap.size 168 2 (.slice (some ⟨w.heap.size,0,none⟩) ps.length ps.length) ps.length xs/\Pairs xs (Rl ps) k/\Below w.heap.size w wr) (fun i _=>ps.length-(intOf i).toNat)
 case atStart=>exact ⟨0,ZR _,rfl,_,uh Hown,fun j hj=>by omega,(Z0 _ _).grown (uh Hgr) (ZY _) (fun k e=>by cases e)⟩
 case round=>
  obtain ⟨k,hk,rfl,xs,hown,hpr,hb⟩:=hrel;have Hb:=Z9 hb;by_cases hlt:k<ps.length
  ·rcases uh Hr with h0 | ⟨b,off,rfl,hbw,hcl⟩
   ·rw [h0] at hlt;simp at hlt
   obtain ⟨c0,c1⟩:=hcl k hlt;rw [<-hb.cell (p:=⟨b,off+k*2,none⟩) hbw] at c0;rw [<-hb.cell (p:=⟨b,off+k*2+1,none⟩) hbw] at c1;have hxs:xs.length=ps.length*2:=hown.1;have Ho:=Z9 hown;have Hpr:=Z9 hpr;generalize hp:Z7 ps k=p at c0 c1;obtain ⟨f,c⟩:=p;simp only at c0 c1;have Hp:=Z9 hp;clear hcl hb hown hpr hp;go_wp2_with fail;refine ck (Pr _ _ _) fun w1 hb1=> ?_;have ho1:=SH (uh Ho) hb1;obtain ⟨⟨x0,y0⟩,z0⟩:=V7 ho1 (j:=k*2) (by omega);obtain ⟨⟨x1,y1⟩,z1⟩:=V7 ho1 (j:=k*2+1) (by omega);have Hp2:=Z9 (UB ho1 (k*2) (.int .i64 f) (.int .i64 c));have Hb1:=Z9 hb1;have hsz:=hb1.size;have hsz0:=(uh Hb).size;clear ho1 hb1;go_wp2_with fail;go_roundw
   case rel=>exact ⟨k+1,by omega,by go_num,_,(uh Hp2).1,(uh Hpr).next (by omega) ⟨by rw [uh Hp],by rw [uh Hp]⟩,((uh Hb).trans ((uh Hb1).mono hsz0)).trans (XR (uh Hp2).2 (ZY _) (by omega))⟩
   case measure=>exact ms
  ·obtain rfl:k=ps.length:=by omega
   go_wp2_with fail;go_ret;exact ⟨_,rfl,IsPaces.of_row hown hpr rfl,fun k e=>by cases e;exact ZY _,hb⟩
theorem IsPaces.set  {ps:List Z6} (h:IsPaces w v ps) (b o:Nat) (u:Value) (hn:∀ k,v.ownBlock=some k->k ≠ b):IsPaces (w.setCell ⟨b,o,none⟩ u) v ps:=by
 obtain ⟨a,cap,rfl,hc,hm,hr⟩:=h;refine ⟨a,cap,rfl,hc,hm,?_⟩
 rcases hr with hr | ⟨b',off,rfl,hlt,hcl⟩
 ·exact .inl hr
 ·have hne:b' ≠ b:=hn b' rfl
  refine .inr ⟨b',off,rfl,by simpa using hlt,fun k hk=> ?_⟩;obtain ⟨h1,h2⟩:=hcl k hk;exact ⟨by rw [World.cell?_setCell_other _ _ _ _ (by simp)];exact h1,by rw [World.cell?_setCell_other _ _ _ _ (by simp)];exact h2⟩
theorem IZ  {ps:List Z6} (rb:Int) (h:IsPaces w v ps) (hs:ps.length<=1048576) :
  Calls prog 117 #[.agg #[.int .i64 rb,v]] w fun e w'=> ∃ v',e= .returned (.agg #[.int .i64 rb,v'])/\IsPaces w' v' ps/\(∀ k,v'.ownBlock=some k->w.heap.size<=k)/\Below w.heap.size w w':=by
 have Hv:=Z9 h;obtain ⟨a,cap,rfl,hc,hm,hr⟩:=h;clear hr;have Hb0:Hid (∀ o1 o2 o3:Obj,Below w.heap.size w (((w.alloc o1).alloc o2).alloc o3)):=Z9 (fun o1 o2 o3=>(((ba _ _)).alloc (by simp) _).alloc (by simp;omega) _);go_enter func117,ntmps117;go_wp2_with fail;refine (KW ((uh Hv).below (uh Hb0 _ _ _)) hs).mono ?_;rintro e w1 ⟨v',rfl,hp,hk,hb1⟩;have hsz:w.heap.size+3<=w1.heap.size:=by have:=hb1.size;simp at this;omega
 have hk':∀ k,v'.ownBlock=some k->w.heap.size+3<=k:=fun k e=>by have:=hk k e;simp at this;omega
 obtain ⟨cc,ff⟩:=Rb hb1;have x0:=cc (w.heap.size+2) 0 (by simp);have x1:=cc (w.heap.size+2) 1 (by simp);have y0:=cc (w.heap.size+1) 0 (by simp);have y1:=cc (w.heap.size+1) 1 (by simp);have fx0:=ff (w.heap.size+2) 0 (by simp);have fx1:=ff (w.heap.size+2) 1 (by simp);have fy0:=ff (w.heap.size+1) 0 (by simp);have fy1:=ff (w.heap.size+1) 1 (by simp);have Hp:=Z9 hp;have Hk:=Z9 hk';have Hb1:=Z9 hb1;obtain ⟨a',cap',rfl,_⟩:=hp;clear cc ff hk hk' hb1;go_wp2_with fail;have Q:∀ b o u,b<=w.heap.size+2-> ∀ w' v',IsPaces w' v' ps->(∀ k,v'.ownBlock=some k->w.heap.size+3<=k)->IsPaces (w'.setCell ⟨b,o,none⟩ u) v' ps:=fun b o u hb w' v' h hk=>h.set b o u (fun k e=>by have:=hk k e;omega);have B1:Below w.heap.size w w1:=(uh Hb0 _ _ _).trans ((uh Hb1).mono (by simp;omega));refine Y7 (v:= .agg #[.int .i64 rb,.slice a' ps.length cap']) (by simp [results,results117,go_sem, *]) rfl ⟨_,rfl,?_,fun k e=>by have:=uh Hk k e;omega,?_⟩
 ·exact Q _ _ _ (by omega) _ _ (Q _ _ _ (by omega) _ _ (Q _ _ _ (by omega) _ _ (uh Hp) (uh Hk)) (uh Hk)) (uh Hk)
 ·exact ((B1.setCell (by show _<=w.heap.size+1+1;omega) _).setCell (by show _<=w.heap.size+1;omega) _).setCell (by show _<=w.heap.size+1;omega) _
def Td (w:World) (g:Nat) (rs:List Z4) (j:Nat) (u u':Value):Prop:=u= .int .i64 (ZU rs j).1/\IsPaces w u' (ZU rs j).2/\ ∀ k,u'.ownBlock=some k->g<k
def RoomsFrom (n₀:Nat) (w:World) (v:Value) (rs:List Z4):Prop:=
 ∃ (a:Option Addr) (cap:Nat),v= .slice a rs.length cap/\rs.length<=cap/\cap<=9223372036854775807/\(rs=[]\/ ∃ b off,a=some ⟨b,off,none⟩/\n₀<=b/\b<w.heap.size/\
  ∀ k,k<rs.length->w.cell? ⟨b,off+k*2,none⟩=some (.int .i64 (ZU rs k).1)/\ ∃ pv,w.cell? ⟨b,off+k*2+1,none⟩=some pv/\IsPaces w pv (ZU rs k).2/\ ∀ j,pv.ownBlock=some j->n₀<=j)
theorem RoomsFrom.rm {n₀:Nat}  {rs:List Z4} (h:RoomsFrom n₀ w v rs):IsRooms w v rs:=by
 obtain ⟨a,cap,rfl,hc,hm,hr⟩:=h;refine ⟨a,cap,rfl,hc,hm,?_⟩
 rcases hr with hr | ⟨b,off,rfl,_,hlt,hcl⟩
 ·exact .inl hr
 ·exact .inr ⟨b,off,rfl,hlt,fun k hk=>by obtain ⟨h1,pv,h2,h3,_⟩:=hcl k hk;exact ⟨h1,pv,h2,h3⟩⟩
theorem RoomsFrom.set {n₀:Nat}  {rs:List Z4} (h:RoomsFrom n₀ w v rs) (g o:Nat) (u:Value) (hg:g<n₀):RoomsFrom n₀ (w.setCell ⟨g,o,none⟩ u) v rs:=by
 obtain ⟨a,cap,rfl,hc,hm,hr⟩:=h;refine ⟨a,cap,rfl,hc,hm,?_⟩
 rcases hr with hr | ⟨b,off,rfl,hn,hlt,hcl⟩
 ·exact .inl hr
 ·have hne:b ≠ g:=by omega
  refine .inr ⟨b,off,rfl,hn,by simpa using hlt,fun k hk=> ?_⟩;obtain ⟨h1,pv,h2,h3,h4⟩:=hcl k hk;exact ⟨by rw [World.cell?_setCell_other _ _ _ _ (by simp)];exact h1,pv,by rw [World.cell?_setCell_other _ _ _ _ (by simp)];exact h2,h3.set _ _ _ (fun j e=>by have:=h4 j e;omega),h4⟩
theorem RoomsFrom.of_row {B g n cap t:Nat} {rs:List Z4} {xs:List Value} (h:w.ownsRow B t 2 (.slice (some ⟨g,0,none⟩) n cap) n xs) (hp:Pairs xs (Td w g rs) rs.length) (hn:n=rs.length):RoomsFrom g w (.slice (some ⟨g,0,none⟩) n cap) rs:=by
 subst hn;have h':=h
 rcases h.2 with ⟨hh,_⟩ | ⟨g',cap',cur,hh,hb,hg,hnc,hcm,r⟩
 ·simp at hh
 ·simp only [Value.slice.injEq,Option.some.injEq,Addr.mk.injEq,and_true,true_and] at hh
  obtain ⟨rfl,rfl⟩:=hh;refine ⟨_,cap,rfl,hnc,by unfold maxLen at hcm;omega,.inr ⟨g,0,rfl,ZY _,(Array.getElem?_eq_some_iff.1 hg).1,fun k hk=> ?_⟩⟩;obtain ⟨u,u',h1,h2,rfl,h3,h4⟩:=hp k hk;refine ⟨?_,u',?_,h3,fun j e=>Nat.le_of_lt (h4 j e)⟩
  ·rw [Nat.zero_add,World.ownsRow.cellAt h' _ (by omega)];exact h1
  ·rw [Nat.zero_add,World.ownsRow.cellAt h' _ (by omega)];exact h2
theorem KZ  {rs:List Z4} (h:IsRooms w v rs) (hs:Q8 rs) :
  Calls prog 72 #[v] w fun e w'=> ∃ v',e= .returned v'/\RoomsFrom w.heap.size w' v' rs/\Below w.heap.size w w':=by
 obtain ⟨a,cap,rfl,hc,hm,hr⟩:=h;have Hr:=Z9 hr;clear hr;obtain ⟨hs1,hs2⟩:=hs;have Hs2:=Z9 hs2;clear hs2;obtain ⟨i0,hi,hz0,hz1,hz2⟩:=info_parts JX;go_enter func72,ntmps72;go_wp2_with (at_make;refine wpList_make_full _ rfl _ _ 32 rfl w.heap.size 126 i0 (.agg #[.int .i64 0,.slice none 0 0]) 2 underlying32 hi hz0 hz1 _ _ _ _ rs.length rfl rfl rfl rfl (by rw [hz2];omega) (by unfold maxLen;omega) (ZY _) ?_;intro w0 hown hgrow)
 have Hown:=Z9 hown;have Hgr:=Z9 hgrow;clear hown hgrow
 go_loopw [4] (fun i wr=> ∃ k:Nat,k<=rs.length/\i= .int .i64 k/\ ∃ xs,wr.ownsRow w.heap.size 126 2 (.slice (some ⟨w.heap.size,0,none⟩) rs.length rs.length) rs.length xs/\Pairs xs (Td wr w.heap.size rs) k/\Below w.heap.size w wr) (fun i _=>rs.length-(intOf i).toNat)
 case atStart=>exact ⟨0,ZR _,rfl,_,uh Hown,fun j hj=>by omega,(Z0 _ _).grown (uh Hgr) (ZY _) (fun k e=>by cases e)⟩
 case round=>
  obtain ⟨k,hk,rfl,xs,hown,hpr,hb⟩:=hrel;have Hb:=Z9 hb;by_cases hlt:k<rs.length
  ·rcases uh Hr with h0 | ⟨b,off,rfl,hbw,hcl⟩
   ·rw [h0] at hlt;simp at hlt
   obtain ⟨c0,pv,c1,hip⟩:=hcl k hlt;rw [<-hb.cell (p:=⟨b,off+k*2,none⟩) hbw] at c0;rw [<-hb.cell (p:=⟨b,off+k*2+1,none⟩) hbw] at c1;have hxs:xs.length=rs.length*2:=hown.1;have hg1:w.heap.size<wr.heap.size:=(World.ownsRow.lt hown w.heap.size rfl).2;have Ho:=Z9 hown;have Hpr:=Z9 hpr;have Hip:=Z9 (hip.below hb);obtain ⟨pa,pcap,rfl,_⟩:=hip;have hsk:=uh Hs2 k hlt;generalize hp:ZU rs k=p at *;obtain ⟨rb,ps⟩:=p;simp only at c0 c1 hsk;have Hp:=Z9 hp;clear hcl hb hown hpr hp;go_wp2_with fail;refine (IZ rb (uh Hip) hsk).mono ?_;rintro e w1 ⟨v',rfl,hip',hk',hb1⟩;have ho1:=SH (uh Ho) hb1;obtain ⟨⟨x0,y0⟩,z0⟩:=V7 ho1 (j:=k*2) (by omega);obtain ⟨⟨x1,y1⟩,z1⟩:=V7 ho1 (j:=k*2+1) (by omega);have Hp2:=Z9 (UB ho1 (k*2) (.int .i64 rb) v');have Hip':=Z9 hip';have Hk':=Z9 hk';have Hb1:=Z9 hb1;have hsz:=hb1.size;have hsz0:=(uh Hb).size;obtain ⟨a',cap',rfl,_⟩:=hip';clear ho1 hb1 hk';go_wp2_with fail;have hne:∀ {u:Value},(∀ m,u.ownBlock=some m->w.heap.size<m)-> ∀ {qs},IsPaces wr u qs->IsPaces ((w1.setCell ⟨w.heap.size,k*2,none⟩ (.int .i64 rb)).setCell ⟨w.heap.size,k*2+1,none⟩ (.slice a' ps.length cap')) u qs:=fun hn qs hq=>((hq.below (uh Hb1)).set _ _ _ (fun m e=>by have:=hn m e;omega)).set _ _ _ (fun m e=>by have:=hn m e;omega);have hn':∀ m,(Value.slice a' ps.length cap').ownBlock=some m->w.heap.size<m:=fun m e=>by have:=uh Hk' _ e;omega
   have hlast:Td ((w1.setCell ⟨w.heap.size,k*2,none⟩ (.int .i64 rb)).setCell ⟨w.heap.size,k*2+1,none⟩ (.slice a' ps.length cap')) w.heap.size rs k (.int .i64 rb) (.slice a' ps.length cap'):=by
    unfold Td;rw [uh Hp];exact ⟨rfl,((uh Hip').set _ _ _ (fun m e=>by have:=hn' m e;omega)).set _ _ _ (fun m e=>by have:=hn' m e;omega),hn'⟩
   have hprev:=(uh Hpr).mono (Q:=Td ((w1.setCell ⟨w.heap.size,k*2,none⟩ (.int .i64 rb)).setCell ⟨w.heap.size,k*2+1,none⟩ (.slice a' ps.length cap')) w.heap.size rs) (fun j u u' h=>⟨h.1,hne h.2.2 h.2.1,h.2.2⟩);go_roundw
   case rel=>exact ⟨k+1,by omega,by go_num,_,(uh Hp2).1,hprev.next (by omega) hlast,((uh Hb).trans ((uh Hb1).mono hsz0)).trans (XR (uh Hp2).2 (ZY _) (by omega))⟩
   case measure=>exact ms
  ·obtain rfl:k=rs.length:=by omega
   go_wp2_with fail;go_ret;exact ⟨_,rfl,RoomsFrom.of_row hown hpr rfl,hb⟩
theorem IsRooms.shape  {rs:List Z4} (h:IsRooms w v rs):∃ a cap,v= .slice a rs.length cap/\rs.length<=cap/\cap<=9223372036854775807:=by
 obtain ⟨a,cap,rfl,hc,hm,_⟩:=h;exact ⟨a,cap,rfl,hc,hm⟩
def Xg (rs:List Z4) (n:Int):Nat:=((List.range rs.length).find? fun r=>decide (n<ZW (rs.take (r+1)))).getD 0
def YS (rs:List Z4) (n:Int):Bool:=YF rs && inB n 0 (ZW rs-1)
def M9 (rs:List Z4) (n:Int):Int:=if YS rs n=true then (Xg rs n:Int) else -1
def Vt (ps:List Z6):Int:=(Z7 ps (ps.length-1)).1
def YO (rs:List Z4) (n:Int):Int:=if YS rs n=true then Vt (ZU rs (Xg rs n)).2 else -1
theorem Tv {rs:List Z4} {n:Int} {r:Nat} (hr:r<rs.length) (h:n<ZW (rs.take (r+1))) (hl:∀ j,j<r->ZW (rs.take (j+1))<=n):Xg rs n=r:=by
 unfold Xg
 have:(List.range rs.length).find? (fun r=>decide (n<ZW (rs.take (r+1))))=some r:=by
  rw [List.find?_range_eq_some];refine ⟨by simpa using h,by simpa using hr,fun j hj=> ?_⟩;have:=hl j hj;simp;omega
 rw [this];rfl
theorem XJ {rs:List Z4} {n:Int} (h:YS rs n=true):YF rs=true/\0<=n/\n<ZW rs:=by
 unfold YS at h;simp only [ZJ] at h;have:=ZO h.2;exact ⟨h.1,by omega,by omega⟩
theorem MM {rs:List Z4} {n:Int} (h:YF rs=true) (h0:0<=n) (h1:n<ZW rs):YS rs n=true:=by
 unfold YS;rw [h,Zf (by omega) (by omega)];rfl
theorem Ig {rs:List Z4} {n:Int} (h:YF rs=false):YS rs n=false:=by unfold YS;rw [h];rfl
theorem OG {rs:List Z4} {n:Int} (h:n<0\/ZW rs<=n):YS rs n=false:=by unfold YS;rw [Xt (by omega)];simp
theorem GH {rs:List Z4} {n:Int} (h:YS rs n=true):M9 rs n=Xg rs n:=by unfold M9;rw [if_pos h]
theorem Mo {rs:List Z4} {n:Int} (h:YS rs n=false):M9 rs n= -1:=by unfold M9;rw [h];rfl
theorem Rg {rs:List Z4} {n:Int} (h:YS rs n=true):YO rs n=Vt (ZU rs (Xg rs n)).2:=by unfold YO;rw [if_pos h]
theorem D7 {rs:List Z4} {n:Int} (h:YS rs n=false):YO rs n= -1:=by unfold YO;rw [h];rfl
theorem Vw {rs:List Z4} {n:Int} (h:YS rs n=true) {r:Nat} (hr:r<=rs.length) (hl:∀ j,j<r->ZW (rs.take (j+1))<=n):r<rs.length:=by
 rcases Nat.lt_or_ge r rs.length with h1 | h1
 ·exact h1
 ·obtain rfl:r=rs.length:=by omega
  have hb:=XJ h;have h3:=Zd hb.1;have:=hl (rs.length-1) (by omega);rw [show rs.length-1+1=rs.length by omega,TV] at this;omega
theorem XF {rs:List Z4} (h:YF rs=true) (k:Nat) (hk:k<=rs.length):0<=ZW (rs.take k)/\ZW (rs.take k)<=12:=by
 have h3:=Zd h;have:=SS h3.2.2.1 k hk;omega
theorem Pb {rs:List Z4} {n:Int} (h:YS rs n=true):Xg rs n<rs.length:=by
 have key:∀ d r:Nat,r+d=rs.length->(∀ j,j<r->ZW (rs.take (j+1))<=n)->Xg rs n<rs.length:=by
  intro d
  induction d with
  | zero=>intro r hr hl;have:=Vw h (by omega) hl;omega
  | succ d ih=>
   intro r hr hl;have hlt:=Vw h (r:=r) (by omega) hl;by_cases hc:n<ZW (rs.take (r+1))
   ·rw [Tv hlt hc hl];exact hlt
   ·exact ih (r+1) (by omega) (Y4 hl (by omega))
 exact key rs.length 0 (by omega) (fun j hj=>by omega)
theorem S9  {rs:List Z4} (n:Int) (h:IsRooms w v rs) :
  cB 269 #[.agg #[v],.int .i64 n] w (.int .i64 (M9 rs n)):=by
 have Hv:=Z9 h;obtain ⟨a,cap,rfl,hc,hm,hr⟩:=h;clear hr;by_cases h0:n<0
 ·have H1:=Z9 (Mo (OG (rs:=rs) (.inl h0)))
  go_enter func269,ntmps269;go_wp2_with fail;go_ret;exact ⟨ZQ (uh H1).symm,(ba _ _)⟩
 by_cases h1:Xq rs<=n
 ·have H1:Hid (M9 rs n= -1):=Z9 (Mo (by
   cases hh:YF rs
   ·exact Ig hh
   ·rw [Ve hh] at h1;exact OG (.inr h1)))
  go_enter func269,ntmps269;go_wp2_with fail;refine ck (Wz ((uh Hv).alloc _)) fun w1 hb=> ?_;have Hb:=Z9 hb;clear hb;generalize Xq rs=m at *;go_wp2_with fail;go_ret;exact ⟨ZQ (uh H1).symm,((ba _ _)).trans ((uh Hb).mono (by simp))⟩
 have hh:YF rs=true:=by
  cases hh:YF rs
  ·rw [RN hh] at h1;omega
  ·rfl
 have H:Hid (YS rs n=true):=Z9 (MM hh (by omega) (by rw [Ve hh] at h1;omega));have Hh:=Z9 hh;clear hh;go_enter func269,ntmps269;go_wp2_with fail;refine ck (Wz ((uh Hv).alloc _)) fun w1 hb=> ?_;have hsz:w.heap.size+1<=w1.heap.size:=by have:=hb.size;simpa using this
 have hbox:w1.cell? ⟨w.heap.size,0,none⟩=some (.slice a rs.length cap):=by rw [hb.cell (p:=⟨w.heap.size,0,none⟩) (by simp)];simp
 have B1:Hid (Below w.heap.size w w1):=Z9 (((ba _ _)).trans (hb.mono (by simp)));clear hb;generalize Xq rs=m at *;go_wp2_with fail
 go_loopw [5] (fun i wr=> ∃ r:Nat,r<=rs.length/\i= .int .i64 r/\(∀ j,j<r->ZW (rs.take (j+1))<=n)/\Below w1.heap.size w1 wr) (fun i _=>rs.length-(intOf i).toNat)
 case atStart=>exact ⟨0,ZR _,rfl,fun j hj=>by omega,Z0 _ _⟩
 case round=>
  obtain ⟨r,hr,rfl,hl,hb⟩:=hrel;have hlt:=Vw (uh H) hr hl;have hbox2:wr.cell? ⟨w.heap.size,0,none⟩=some (.slice a rs.length cap):=by rw [hb.cell (p:=⟨w.heap.size,0,none⟩) (by show w.heap.size<w1.heap.size;omega)];exact hbox
  have hz:=hb.size;have hl3:rs.length<=3:=(Zd (uh Hh)).2.1;have Hl:=Z9 hl;have Hb:=Z9 hb;have Hw:Hid (IsRooms wr (.slice a (r+1) cap) (rs.take (r+1))):=Z9 ((((uh Hv).below (uh B1)).below hb).taken (by omega));clear hl hb hbox;go_wp2_with fail;refine ck (WY (uh Hw) ((Sq (uh Hh)).taken _)) fun w2 hb2=> ?_;have hbd:=XF (uh Hh) (r+1) (by omega);have Hb2:=Z9 hb2;clear hb2;by_cases hc2:n<ZW (rs.take (r+1))
  ·have HN:=Z9 (Tv hlt hc2 (uh Hl))
   generalize ZW (rs.take (r+1))=s at *;go_wp2_with fail;go_ret;exact ⟨ZQ (by rw [GH (uh H),uh HN]),(uh B1).trans (((uh Hb).trans ((uh Hb2).mono hz)).mono (by omega))⟩
  ·have hle:ZW (rs.take (r+1))<=n:=by omega
   have Hle:=Z9 (Y4 (uh Hl) hle);generalize ZW (rs.take (r+1))=s at *;go_wp2_with fail;go_roundw
   case rel=>exact ⟨r+1,by omega,by go_num,uh Hle,(uh Hb).trans ((uh Hb2).mono hz)⟩
   case measure=>exact ms
theorem OP  {rs:List Z4} (n:Int) (h:IsRooms w v rs) (hbn:YS rs n=true) :
  cB 143 #[.agg #[v],.int .i64 n] w (.int .i64 (Xg rs n)):=by
 obtain ⟨a,cap,rfl,hc,hm,hr⟩:=h;have Hr:=Z9 hr;have H:=Z9 hbn;have hh:=(XJ hbn).1;have hn0:=(XJ hbn).2.1;have hn1:n<12:=by have h1:=(XJ hbn).2.2;have:=(Zd hh).2.2.2;omega
 have Hh:=Z9 hh;have hl3:rs.length<=3:=(Zd hh).2.1;clear hr hbn hh;go_enter func143,ntmps143;go_wp2_with fail
 go_loop [1,5] (fun q i=> ∃ r:Nat,r<=rs.length/\i= .int .i64 r/\q= .int .i64 (n-ZW (rs.take r))/\(∀ j,j<r->ZW (rs.take (j+1))<=n)) (fun _ i=>rs.length-(intOf i).toNat)
 case atStart=>exact ⟨0,ZR _,rfl,by simp [ZW],fun j hj=>by omega⟩
 case round=>
  obtain ⟨r,hr,rfl,rfl,hl⟩:=hrel;have hlt:=Vw (uh H) hr hl
  rcases uh Hr with e0 | ⟨b,off,rfl,hbw,hcl⟩
  ·rw [e0] at hlt;simp at hlt
  obtain ⟨c0,pv,c1,hip⟩:=hcl r hlt;have hne:b ≠ w.heap.size:=Vd hbw;have Hl:=Z9 hl;have hb0:=XF (uh Hh) r hr;have hb1:=XF (uh Hh) (r+1) hlt;have Hs:=Z9 (Yv rs hlt);have HN:Hid (n<ZW (rs.take (r+1))->Xg rs n=r):=Z9 (fun hx=>Tv hlt hx (uh Hl));have HM:Hid (ZW (rs.take (r+1))<=n-> ∀ j,j<r+1->ZW (rs.take (j+1))<=n):=Z9 (fun hx=>Y4 (uh Hl) hx);rw [Yv rs hlt] at hb1 HN HM;generalize ZW (rs.take r)=s at *;generalize (ZU rs r).1=rb at *;clear hcl hip hl;by_cases hq:rb<=n-s
  ·go_wp2_with fail
   go_round
   case rel=>exact ⟨r+1,by omega,by go_num,by rw [uh Hs];congr 1;omega,uh HM (by omega)⟩
   case measure=>exact ms
  ·go_wp2_with fail
   go_ret;exact ⟨ZQ (by rw [uh HN (by omega)]),(ba _ _)⟩
theorem GI {a:Option Addr} {cap:Nat} {rs:List Z4} {r:Nat} (h:IsRooms w (.slice a rs.length cap) rs) (hr:r<rs.length) (hh:YF rs=true) :
  ∃ b off a' cap',a=some ⟨b,off,none⟩/\b<w.heap.size/\w.cell? ⟨b,off+r*2+1,none⟩=some (.slice (some a') (ZU rs r).2.length cap')/\1<=(ZU rs r).2.length/\(ZU rs r).2.length<=4/\a'.spot=none/\a'.block<w.heap.size/\w.cell? ⟨a'.block,a'.off+((ZU rs r).2.length-1)*2,none⟩=some (.int .i64 (Vt (ZU rs r).2)):=by
 obtain ⟨a0,cap0,he,hc,hm,hr'⟩:=h;cases he
 rcases hr' with e0 | ⟨b,off,rfl,hbw,hcl⟩
 ·rw [e0] at hr;simp at hr
 obtain ⟨_,pv,c1,hip⟩:=hcl r hr;have hb:=Ry (SQ (Zd hh).2.2.1 hr);obtain ⟨pa,pcap,rfl,_,_,hp⟩:=hip
 rcases hp with e1 | ⟨b',off',rfl,hbw',hcl'⟩
 ·rw [e1] at hb;simp at hb
 ·exact ⟨b,off,⟨b',off',none⟩,pcap,rfl,hbw,c1,hb.2.2.1,hb.2.2.2,rfl,hbw',(hcl' _ (by omega)).1⟩
theorem PR  {rs:List Z4} (n:Int) (h:IsRooms w v rs) :
  cB 257 #[.agg #[v],.int .i64 n] w (.int .i64 (YO rs n)):=by
 have Hv:=Z9 h;obtain ⟨a,cap,rfl,hc,hm⟩:∃ a cap,v= .slice a rs.length cap/\rs.length<=cap/\cap<=9223372036854775807:=by obtain ⟨a,cap,rfl,hc,hm,_⟩:=h;exact ⟨a,cap,rfl,hc,hm⟩
 clear h;cases h1:YS rs n
 ·have H2:=Z9 (D7 h1)
  have H3:=Mo h1;have H3':=Z9 H3;clear H3 h1;go_enter func257,ntmps257;go_wp2_with fail;refine (S9 n ((uh Hv).alloc _)).mono ?_;rw [uh H3'];rintro e w1 ⟨rfl,hb⟩;have Hb:=Z9 hb;clear hb;go_wp2_with fail;go_ret;exact ⟨ZQ (uh H2).symm,((ba _ _)).trans ((uh Hb).mono (by simp))⟩
 ·have H2:=Z9 (Rg h1)
  have H3:=Z9 (GH h1);have hlt:=Pb h1;have Hh:=Z9 (XJ h1).1;have hl3:rs.length<=3:=(Zd (XJ h1).1).2.1;clear h1;go_enter func257,ntmps257;go_wp2_with fail;refine (S9 n ((uh Hv).alloc _)).mono ?_;rw [uh H3];rintro e w1 ⟨rfl,hb⟩;have hz:w.heap.size+1<=w1.heap.size:=by have:=hb.size;simpa using this
  have hbox:w1.cell? ⟨w.heap.size,0,none⟩=some (.slice a rs.length cap):=by rw [hb.cell (p:=⟨w.heap.size,0,none⟩) (by simp)];simp
  have hw1:=((uh Hv).alloc _).below hb;have Hb:=Z9 hb;obtain ⟨b,off,a',cap',rfl,hbw,d1,p1,p4,sp,hbw',d2⟩:=GI hw1 hlt (uh Hh);obtain ⟨b',off',sp'⟩:=a';simp only at sp hbw' d2;subst sp;clear hb hw1 H3;generalize Xg rs n=r at *;generalize Vt (ZU rs r).2=fo at *;generalize (ZU rs r).2.length=m at *;have hr0:((r:Int) == -1)=false:=beq_eq_false_iff_ne.2 (by omega);go_wp2_with fail;go_ret;exact ⟨ZQ (uh H2).symm,((ba _ _)).trans ((uh Hb).mono (by simp))⟩
def Vk (rs:List Z4) (n:Int):Bool:=YF rs && inB n 0 ((rs.length:Int)-1)
def Gm (lo hi:Int):Int:=(2:Int) ^ hi.toNat-2 ^ lo.toNat
def Wb (rs:List Z4) (n:Int):Int:=if Vk rs n=true then Gm (ZW (rs.take n.toNat)) (ZW (rs.take (n.toNat+1))) else -1
theorem EI {rs:List Z4} {n:Int} (h:Vk rs n=true):Wb rs n=Gm (ZW (rs.take n.toNat)) (ZW (rs.take (n.toNat+1))):=by unfold Wb;rw [if_pos h]
theorem IT {rs:List Z4} {n:Int} (h:Vk rs n=false):Wb rs n= -1:=by unfold Wb;rw [h];rfl
theorem FA {rs:List Z4} {n:Int} (h:YF rs=false):Vk rs n=false:=by unfold Vk;rw [h];rfl
theorem MP {rs:List Z4} {n:Int} (h:n<0\/rs.length<=n):Vk rs n=false:=by unfold Vk;rw [Xt (by omega)];simp
theorem M7 {s:Int} (h0:0<=s) (h1:s<=12):1<=(2:Int) ^ s.toNat/\(2:Int) ^ s.toNat<=4096:=by
 have key:∀ k:Fin 13,1<=(2:Int) ^ k.val/\(2:Int) ^ k.val<=4096:=by decide
 exact key ⟨s.toNat,by omega⟩
theorem Se {x:Int} (h0 : -100000<=x) (h1:x<=100000):wrap64 x=x:=by unfold wrap64;omega
theorem Uz  {rs:List Z4} (n:Int) (h:IsRooms w v rs) :
  cB 272 #[.agg #[v],.int .i64 n] w (.int .i64 (Wb rs n)):=by
 have Hv:=Z9 h;obtain ⟨a,cap,rfl,hc,hm⟩:∃ a cap,v= .slice a rs.length cap/\rs.length<=cap/\cap<=9223372036854775807:=by obtain ⟨a,cap,rfl,hc,hm,_⟩:=h;exact ⟨a,cap,rfl,hc,hm⟩
 clear h;have Hb0:Hid (Below w.heap.size w (w.alloc (.cells #[.slice a rs.length cap] 34))):=Z9 ((ba _ _));cases h1:YF rs
 ·have H2:=Z9 (IT (FA (n:=n) h1))
  go_enter func272,ntmps272;go_wp2_with fail;refine ck (Yn ((uh Hv).alloc _)) fun w1 hb=> ?_;have Hb:=Z9 hb;clear hb;go_wp2_with fail;go_ret;exact ⟨ZQ (uh H2).symm,(uh Hb0).trans ((uh Hb).mono (by simp))⟩
 by_cases h2:n<0
 ·have H2:=Z9 (IT (MP (rs:=rs) (.inl h2)))
  go_enter func272,ntmps272;go_wp2_with fail;refine ck (Yn ((uh Hv).alloc _)) fun w1 hb=> ?_;have Hb:=Z9 hb;clear hb;go_wp2_with fail;go_ret;exact ⟨ZQ (uh H2).symm,(uh Hb0).trans ((uh Hb).mono (by simp))⟩
 by_cases h3:(rs.length:Int)<=n
 ·have H2:=Z9 (IT (MP (rs:=rs) (.inr h3)))
  go_enter func272,ntmps272;go_wp2_with fail;refine ck (Yn ((uh Hv).alloc _)) fun w1 hb=> ?_;have hbox:w1.cell? ⟨w.heap.size,0,none⟩=some (.slice a rs.length cap):=by rw [hb.cell (p:=⟨w.heap.size,0,none⟩) (by simp)];simp
  have Hb:=Z9 hb;clear hb;go_wp2_with fail;go_ret;exact ⟨ZQ (uh H2).symm,(uh Hb0).trans ((uh Hb).mono (by simp))⟩
 have h4:Vk rs n=true:=by unfold Vk;rw [h1,Zf (by omega) (by omega)];rfl
 have H2:=Z9 (EI h4);obtain ⟨r,rfl⟩:=Int.eq_ofNat_of_zero_le (show 0<=n by omega);have H1:=Z9 h1;have Ha:=Z9 (Sq h1);have hl3:rs.length<=3:=(Zd h1).2.1;have hb0:=XF h1 r (by omega);have hb1:=XF h1 (r+1) (by omega);go_enter func272,ntmps272;go_wp2_with fail;refine ck (Yn ((uh Hv).alloc _)) fun w1 hb=> ?_;have hbox:w1.cell? ⟨w.heap.size,0,none⟩=some (.slice a rs.length cap):=by rw [hb.cell (p:=⟨w.heap.size,0,none⟩) (by simp)];simp
 have k0:=Z1 hbox;have Hb:=Z9 hb;have Hw:=Z9 (((uh Hv).alloc _).below hb);clear hb h4;go_wp2_with fail;refine wq ?_
 repeat (go_big_quiet_step (first | exact ZX (WY (((uh Hw).below (Z2 _ _ _)).taken (n:=r) (by omega)) ((uh Ha).taken _)) | exact ZX (WY (((uh Hw).below (Z2 _ _ _)).taken (n:=r+1) (by omega)) ((uh Ha).taken _))))
 refine wpQuiet_nil ?_;intro _ hw';obtain ⟨⟨dq,osq⟩,hw''⟩:=hw';subst hw'';rw [Zm] at H2;generalize ZW (rs.take r)=s0 at *;generalize ZW (rs.take (r+1))=s1 at *;obtain ⟨x0,x1⟩:=hb0;obtain ⟨y0,y1⟩:=hb1;go_wp2_with fail;go_quiet (fail);go_wp2_with fail;go_ret;refine ⟨ZQ ?_,(uh Hb0).trans (((uh Hb).trans (XQ ((Z2 _ _ _).mono (uh Hb).size) _)).mono (by simp))⟩;have p0:=M7 x0 x1;have p1:=M7 y0 y1;rw [uh H2,Se (x:=2 ^ s1.toNat) (by omega) (by omega),Se (x:=2 ^ s0.toNat) (by omega) (by omega),Se (x:=2 ^ s1.toNat-2 ^ s0.toNat) (by omega) (by omega)];rfl
theorem We {rs:List Z4} (h:rs.all Zn=true) {i:Nat} : ∀ d,i+d<=rs.length->ZW (rs.take i)<=ZW (rs.take (i+d))
 | 0,_=>Int.le_refl _
 | d+1,hd=>by
  have ih:=We h (i:=i) d (by omega);have hb:=Ry (SQ h (j:=i+d) (by omega));rw [<-Nat.add_assoc,Yv rs (by omega)];omega
theorem GJ {rs:List Z4} {n:Int} (h:YS rs n=true) {r:Nat} (hr:r<rs.length):Xg rs n=r ↔ ZW (rs.take r)<=n/\n<ZW (rs.take (r+1)):=by
 have hb:=XJ h;have ha:=(Zd hb.1).2.2.1
 have key:∀ d q:Nat,q+d=rs.length->(∀ j,j<q->ZW (rs.take (j+1))<=n)->ZW (rs.take (Xg rs n))<=n/\n<ZW (rs.take (Xg rs n+1)):=by
  intro d
  induction d with
  | zero=>intro q hq hl;have:=Vw h (by omega) hl;omega
  | succ d ih=>
   intro q hq hl;have hlt:=Vw h (r:=q) (by omega) hl;by_cases hc:n<ZW (rs.take (q+1))
   ·rw [Tv hlt hc hl]
    refine ⟨?_,hc⟩;cases q with
    | zero=>simp [ZW];omega
    | succ q=>exact hl q (by omega)
   ·exact ih (q+1) (by omega) (Y4 hl (by omega))
 constructor
 ·intro e;have:=key rs.length 0 (by omega) (fun j hj=>by omega);rwa [e] at this
 ·intro hx
  refine Tv hr hx.2 (fun j hj=> ?_);have:=We ha (i:=j+1) (r-(j+1)) (by omega);rw [show j+1+(r-(j+1))=r by omega] at this;omega
theorem Tg  {rs:List Z4} (n:Int) (h:IsRooms w v rs) (h1:YS rs n=true) :
  cB 94 #[.agg #[v],.int .i64 n] w (.int .i64 (Vt (ZU rs (Xg rs n)).2)):=by
 have Hv:=Z9 h;obtain ⟨a,cap,rfl,hc,hm⟩:∃ a cap,v= .slice a rs.length cap/\rs.length<=cap/\cap<=9223372036854775807:=by obtain ⟨a,cap,rfl,hc,hm,_⟩:=h;exact ⟨a,cap,rfl,hc,hm⟩
 clear h;have hlt:=Pb h1;have Hh:=Z9 (XJ h1).1;have H1:=Z9 h1;have hl3:rs.length<=3:=(Zd (XJ h1).1).2.1;clear h1;have hw1:=(uh Hv).alloc (.cells #[.slice a rs.length cap] 34);have Hw1:=Z9 hw1;obtain ⟨b,off,a',cap',rfl,hbw,d1,p1,p4,sp,hbw',d2⟩:=GI hw1 hlt (uh Hh);obtain ⟨b',off',sp'⟩:=a';simp only at sp hbw' d2;subst sp;clear hw1;have k0:=Z1 (w:=w.alloc (.cells #[.slice (some ⟨b,off,none⟩) rs.length cap] 34)) (a:=⟨w.heap.size,0,none⟩) (v:= .slice (some ⟨b,off,none⟩) rs.length cap) (by simp);have k1:=Z1 d1;have k2:=Z1 d2;clear d1 d2;go_enter func94,ntmps94;go_wp2_with fail;refine wq ?_
 repeat (go_big_quiet_step (exact ZX (OP n ((uh Hw1).below (Z2 _ _ _)) (uh H1))))
 refine wpQuiet_nil ?_;intro _ hw';obtain ⟨⟨dq,osq⟩,hw''⟩:=hw';subst hw'';generalize hr1:Xg rs n=r at *;generalize hr2:Vt (ZU rs r).2=fo at *;generalize (ZU rs r).2.length=m at *;have Hr1:=Z9 hr1;have Hr2:=Z9 hr2;clear hr1 hr2;go_wp2_with fail;go_ret;exact ⟨ZQ (by rw [uh Hr1,uh Hr2]),((ba _ _)).trans ((Z2 _ _ _).mono (by simp))⟩
end Go.Proofs.YtgdpaigcmoifbaaGreatDoor
