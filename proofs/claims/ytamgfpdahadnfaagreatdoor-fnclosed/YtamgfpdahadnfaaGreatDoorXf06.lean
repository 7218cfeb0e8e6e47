/- Part 6 of what the proof rests on. No condition but those that a theorem names. -/
import Derived.Test.YtamgfpdahadnfaaGreatDoorXf03
import Derived.Test.YtamgfpdahadnfaaGreatDoorXf05
set_option maxHeartbeats 8000000
set_option maxRecDepth 100000
namespace Go.Proofs.YtamgfpdahadnfaaGreatDoor
open Go.ChangeShapes Go.WideShapes Go.ChangeAt Go.RowKit Go.Sort
set_option linter.unusedVariables false
variable {w w' w0 w1 w2 w3 w₀ wr W W' X A B C : World} {v v0 v1 v2 v3 v4 u u0 u1 u2 u3 u4 : Value}
theorem Dw {b:Int} {ps:List Z4} (h:inB b 1 4=false):Zc (b,ps)=false:=by unfold Zc;simp [h]
theorem Dx {b:Int} {ps:List Z4} (h:inB ps.length 1 4=false):Zc (b,ps)=false:=by unfold Zc;simp [h]
theorem Dy {b:Int} {ps:List Z4} (h:inB b 1 4=true) (h2:inB ps.length 1 4=true):Zc (b,ps)=SE ps:=by unfold Zc;simp [h,h2]
theorem YI  {ps:List Z4} (b:Int) (h:IsPaces w v ps) :
  Calls Tryz.prog 266 #[.agg #[.int .i64 b,v]] w fun e w'=>e= .returned (.bool (Zc (b,ps)))/\Below w.heap.size w w':=by
 have Hv:=Z9 h;obtain ⟨a,cap,rfl,hc,hm,hr⟩:=h;clear hr;have hl:(ps.length:Int)<=9223372036854775807:=by omega
 cases h1:inB b 1 4
 ·go_enter Tryz.func266,Tryz.ntmps266
  go_wp2_with fail;refine (Zw _ _ _ _).mono ?_;rintro e w' ⟨rfl,rfl⟩;go_wp2_with fail;go_ret;exact ⟨Z5 (Dw h1).symm,(ba _ _)⟩
 cases h2:inB ps.length 1 4
 ·go_enter Tryz.func266,Tryz.ntmps266
  go_wp2_with fail;refine (Zw _ _ _ _).mono ?_;rintro e w' ⟨rfl,rfl⟩;go_wp2_with fail;refine (Zw _ _ _ _).mono ?_;rintro e w' ⟨rfl,rfl⟩;go_wp2_with fail;go_ret;exact ⟨Z5 (Dx h2).symm,(ba _ _)⟩
 ·have H3:=Z9 (Dy h1 h2)
  go_enter Tryz.func266,Tryz.ntmps266;go_wp2_with fail;refine (Zw _ _ _ _).mono ?_;rintro e w' ⟨rfl,rfl⟩;go_wp2_with fail;refine (Zw _ _ _ _).mono ?_;rintro e w' ⟨rfl,rfl⟩;go_wp2_with fail;refine ck (GX ((uh Hv).below ((ba _ _)))) fun w1 hb=> ?_;go_wp2_with fail;go_ret;exact ⟨Z5 (uh H3).symm,((ba _ _)).trans (hb.mono (by simp))⟩
theorem WW {B:Nat} (h:Below B w w') (n:Nat):Below B w (w'.drewN n):=⟨h.os,h.tape,h.output,h.size,h.block⟩
theorem A8 {ps:List Z4} {k:Nat} {f c:Int} (hp:Z7 ps k=(f,c)) (h:inB f 1 1024=false):WC ps k=false:=by unfold WC TQ;rw [hp];simp [h]
theorem A9 {ps:List Z4} {k:Nat} {f c:Int} (hp:Z7 ps k=(f,c)) (h:inB c 1 1024=false):WC ps k=false:=by unfold WC TQ;rw [hp];simp [h]
theorem zl {ps:List Z4} {k:Nat} {f c f' c':Int} (hp:Z7 ps k=(f,c)) (hz:0<k) (hq:Z7 ps (k-1)=(f',c')) (h1:inB f 1 1024=true) (h2:inB c 1 1024=true):WC ps k=(decide (f'<f) && decide (c'<c)):=by
 unfold WC TQ P0;rw [hp,hq];simp [h1,h2];omega
theorem Bc {ps:List Z4} {f c:Int} (hp:Z7 ps 0=(f,c)) (h1:inB f 1 1024=true) (h2:inB c 1 1024=true):WC ps 0=true:=by unfold WC TQ;rw [hp];simp [h1,h2]
theorem Yv  {ps:List Z4} (rb:Int) (h:IsPaces w v ps) :
  Calls Tryz.prog 174 #[.agg #[.int .i64 rb,v]] w fun e w'=>e= .returned (.bool (Zc (rb,ps)))/\Below w.heap.size w w':=by
 obtain ⟨a,cap,rfl,hc,hm,hr⟩:=h;have Hr:=Z9 hr;clear hr;have hl:(ps.length:Int)<=9223372036854775807:=by omega
 cases h1:inB rb 1 4
 ·go_enter Tryz.func174,Tryz.ntmps174
  go_wp2_with fail;refine (ZU _ _ _ _).mono ?_;rintro e w' ⟨rfl,rfl⟩;go_wp2_with fail;go_ret;exact ⟨Z5 (Dw h1).symm,(ba _ _)⟩
 cases h2:inB ps.length 1 4
 ·go_enter Tryz.func174,Tryz.ntmps174
  go_wp2_with fail;refine (ZU _ _ _ _).mono ?_;rintro e w' ⟨rfl,rfl⟩;go_wp2_with fail;refine (ZU _ _ _ _).mono ?_;rintro e w' ⟨rfl,rfl⟩;go_wp2_with fail;go_ret;exact ⟨Z5 (Dx h2).symm,(ba _ _)⟩
 have H3:=Z9 (Dy h1 h2);go_enter Tryz.func174,Tryz.ntmps174;go_wp2_with fail;refine (ZU _ _ _ _).mono ?_;rintro e w' ⟨rfl,rfl⟩;go_wp2_with fail;refine (ZU _ _ _ _).mono ?_;rintro e w' ⟨rfl,rfl⟩;go_wp2_with fail;clear h1 h2
 go_loopw [3] (fun i wr=> ∃ k:Nat,k<=ps.length/\i= .int .i64 k/\(∀ j,j<k->WC ps j=true)/\Below (w.heap.size+1) (w.alloc (.cells #[.int .i64 rb,.slice a ps.length cap] 112)) wr) (fun i _=>ps.length-(intOf i).toNat)
 case atStart=>exact ⟨0,Zz _,rfl,fun j hj=>by omega,Z1 _ _⟩
 case round=>
  obtain ⟨k,hk,rfl,hst,hb⟩:=hrel;have Hst:=Z9 hst;have Hb:=Z9 hb;clear hst;have hsz:w.heap.size+1<=wr.heap.size:=by have:=hb.size;simpa using this
  have hbox:wr.cell? ⟨w.heap.size,1,none⟩=some (.slice a ps.length cap):=by rw [hb.cell (p:=⟨w.heap.size,1,none⟩) (by simp)];simp
  have hne0:w.heap.size ≠ wr.heap.size:=by omega
  by_cases hlt:k<ps.length
  ·rcases uh Hr with h0 | ⟨b,off,rfl,hbw,hcl⟩
   ·rw [h0] at hlt;simp at hlt
   have hbB:Below w.heap.size w wr:=((ba _ _)).trans (hb.mono (by omega));have hne:b ≠ wr.heap.size:=by omega
   have hne':b ≠ w.heap.size:=by omega
   obtain ⟨c0,c1⟩:=hcl k hlt;rw [<-hbB.cell (p:=⟨b,off+k*2,none⟩) hbw] at c0;rw [<-hbB.cell (p:=⟨b,off+k*2+1,none⟩) hbw] at c1;generalize hp:Z7 ps k=p at c0 c1;have Hp:=Z9 hp;obtain ⟨f,c⟩:=p;simp only at c0 c1;clear hp hb;cases h1:inB f 1 1024
   ·clear hcl
    go_wp2_with fail;go_quiet (exact Yf (ZU _ _ _ _));go_wp2_with fail;go_ret;exact ⟨Z5 (by rw [uh H3];exact (Tk hlt (A8 (uh Hp) h1)).symm),((ba _ _)).trans ((WW ((uh Hb).alloc hsz _) _).mono (by omega))⟩
   cases h2:inB c 1 1024
   ·clear hcl
    go_wp2_with fail;go_quiet (exact Yf (ZU _ _ _ _));go_wp2_with fail;go_ret;exact ⟨Z5 (by rw [uh H3];exact (Tk hlt (A9 (uh Hp) h2)).symm),((ba _ _)).trans ((WW ((uh Hb).alloc hsz _) _).mono (by omega))⟩
   by_cases hz:0<k
   ·have hd:decide (0<k)=true:=VN hz
    obtain ⟨e0,e1⟩:=hcl (k-1) (by omega);rw [<-hbB.cell (p:=⟨b,off+(k-1)*2,none⟩) hbw] at e0;rw [<-hbB.cell (p:=⟨b,off+(k-1)*2+1,none⟩) hbw] at e1;generalize hq:Z7 ps (k-1)=q at e0 e1;have Hq:=Z9 hq;obtain ⟨f',c'⟩:=q;simp only at e0 e1;have q0:(wr.alloc (.cells #[.int .i64 f,.int .i64 c] 114)).cell? ⟨w.heap.size,1,none⟩=some (.slice (some ⟨b,off,none⟩) ps.length cap):=by rw [World.cell?_alloc_old _ _ _ hne0];exact hbox
    have q1:(wr.alloc (.cells #[.int .i64 f,.int .i64 c] 114)).cell? ⟨b,off+(k-1)*2,none⟩=some (.int .i64 f'):=by rw [World.cell?_alloc_old _ _ _ hne];exact e0
    have q2:(wr.alloc (.cells #[.int .i64 f,.int .i64 c] 114)).cell? ⟨b,off+(k-1)*2+1,none⟩=some (.int .i64 c'):=by rw [World.cell?_alloc_old _ _ _ hne];exact e1
    clear hcl hq e0 e1;have Hs:=Z9 (zl (uh Hp) hz (uh Hq) h1 h2);by_cases g1:f<=f'
    ·have g1':decide (f<=f')=true:=VN g1
     go_wp2_with fail;go_quiet (exact Yf (ZU _ _ _ _));go_wp2_with fail;go_ret;exact ⟨Z5 (by rw [uh H3];exact (Tk hlt (by rw [uh Hs];simp;omega)).symm),((ba _ _)).trans ((WW ((uh Hb).alloc hsz _) _).mono (by omega))⟩
    have g1':decide (f<=f')=false:=Xn g1;by_cases g2:c<=c'
    ·have g2':decide (c<=c')=true:=VN g2
     go_wp2_with fail;go_quiet (exact Yf (ZU _ _ _ _));go_wp2_with fail;go_ret;exact ⟨Z5 (by rw [uh H3];exact (Tk hlt (by rw [uh Hs];simp;omega)).symm),((ba _ _)).trans ((WW ((uh Hb).alloc hsz _) _).mono (by omega))⟩
    ·have g2':decide (c<=c')=false:=Xn g2
     go_wp2_with fail;go_quiet (exact Yf (ZU _ _ _ _));go_wp2_with fail;go_roundw
     case rel=>exact ⟨k+1,by omega,by go_num,Yg (uh Hst) (by rw [uh Hs];simp;omega),WW ((uh Hb).alloc hsz _) _⟩
     case measure=>exact ms
   ·obtain rfl:k=0:=by omega
    simp only [Nat.zero_mul,Nat.add_zero] at c0 c1;clear hcl hz;go_wp2_with fail;go_quiet (exact Yf (ZU _ _ _ _));go_wp2_with fail;go_roundw
    case rel=>exact ⟨1,by omega,by go_num,Yg (uh Hst) (Bc (uh Hp) h1 h2),WW ((uh Hb).alloc hsz _) _⟩
    case measure=>exact ms
  ·obtain rfl:k=ps.length:=by omega
   clear hb;go_wp2_with fail;go_ret;exact ⟨Z5 (by rw [uh H3];exact (GW (uh Hst)).symm),((ba _ _)).trans ((uh Hb).mono (by omega))⟩
def Adds (rs:List ZZ):Prop:= ∀ k,k<=rs.length->0<=ZW (rs.take k)/\ZW (rs.take k)<=1000000
theorem IN {rs:List ZZ} (h:rs.all Zc=true) (hl:rs.length<=3):Adds rs:=fun k hk=>by have:=Q9 h k hk;omega
theorem Adds.taken {rs:List ZZ} (h:Adds rs) (n:Nat):Adds (rs.take n):=fun k hk=>by
 have hk':k<=n/\k<=rs.length:=by simp at hk;omega
 rw [List.take_take,Nat.min_eq_left hk'.1];exact h k hk'.2
theorem Ol  {rs:List ZZ} (h:IsRooms w v rs) :
  Calls Tryz.prog 223 #[v] w fun e w'=>e= .returned (.bool (rs.all Zc))/\Below w.heap.size w w':=by
 obtain ⟨a,cap,rfl,hc,hm,hr⟩:=h;have Hr:=Z9 hr;clear hr;go_enter Tryz.func223,Tryz.ntmps223;go_wp2_with fail
 go_loopw [7] (fun i wr=> ∃ k:Nat,k<=rs.length/\i= .int .i64 k/\(∀ j,j<k->Zc (ZN rs j)=true)/\Below w.heap.size w wr) (fun i _=>rs.length-(intOf i).toNat)
 case atStart=>exact ⟨0,Zz _,rfl,fun j hj=>by omega,Z1 _ _⟩
 case round=>
  obtain ⟨k,hk,rfl,hst,hb⟩:=hrel;have Hst:=Z9 hst;have Hb:=Z9 hb;have hsz:=hb.size;clear hst;by_cases hlt:k<rs.length
  ·rcases uh Hr with h0 | ⟨b,off,rfl,hbw,hcl⟩
   ·rw [h0] at hlt;simp at hlt
   obtain ⟨c0,pv,c1,hip⟩:=hcl k hlt;rw [<-hb.cell (p:=⟨b,off+k*2,none⟩) hbw] at c0;rw [<-hb.cell (p:=⟨b,off+k*2+1,none⟩) hbw] at c1;have Hip:=Z9 (hip.below hb);obtain ⟨pa,pcap,rfl,_⟩:=hip;generalize hp:ZN rs k=p at *;obtain ⟨rb,ps⟩:=p;simp only at c0 c1;have Hp:=Z9 hp;clear hp hcl hb;cases hrb:Zc (rb,ps)
   ·go_wp2_with fail
    refine ck (YI rb ((uh Hip).below ((ba _ _)))) fun w1 hb1=> ?_;go_wp2_with fail;go_ret;exact ⟨Z5 (Lu hlt (by rw [uh Hp];exact hrb)).symm,((uh Hb).alloc hsz _).trans (hb1.mono (by simp;omega))⟩
   ·go_wp2_with fail
    refine ck (YI rb ((uh Hip).below ((ba _ _)))) fun w1 hb1=> ?_;have Hb1:=Z9 hb1;clear hb1;go_wp2_with fail;go_roundw
    case rel=>exact ⟨k+1,by omega,by go_num,Yg (uh Hst) (by rw [uh Hp];exact hrb),((uh Hb).alloc hsz _).trans ((uh Hb1).mono (by simp;omega))⟩
    case measure=>exact ms
  ·obtain rfl:k=rs.length:=by omega
   go_wp2_with fail;go_ret;exact ⟨Z5 (Lv (uh Hst)).symm,hb⟩
theorem V6  {rs:List ZZ} (h:IsRooms w v rs) (ha:Adds rs) :
  Calls Tryz.prog 224 #[v] w fun e w'=>e= .returned (.int .i64 (ZW rs))/\Below w.heap.size w w':=by
 obtain ⟨a,cap,rfl,hc,hm,hr⟩:=h;have Hr:=Z9 hr;have Ha:=Z9 ha;clear hr ha;go_enter Tryz.func224,Tryz.ntmps224;go_wp2_with fail
 go_loopw [3,8] (fun s i wr=> ∃ k:Nat,k<=rs.length/\i= .int .i64 k/\s= .int .i64 (ZW (rs.take k))/\Below w.heap.size w wr) (fun _ i _=>rs.length-(intOf i).toNat)
 case atStart=>exact ⟨0,Zz _,rfl,rfl,Z1 _ _⟩
 case round=>
  obtain ⟨k,hk,rfl,rfl,hb⟩:=hrel;have Hb:=Z9 hb;have hsz:=hb.size;by_cases hlt:k<rs.length
  ·rcases uh Hr with h0 | ⟨b,off,rfl,hbw,hcl⟩
   ·rw [h0] at hlt;simp at hlt
   obtain ⟨c0,pv,c1,hip⟩:=hcl k hlt;rw [<-hb.cell (p:=⟨b,off+k*2,none⟩) hbw] at c0;rw [<-hb.cell (p:=⟨b,off+k*2+1,none⟩) hbw] at c1;obtain ⟨pa,pcap,rfl,_⟩:=hip;have hs0:=uh Ha k hk;have hs1:=uh Ha (k+1) hlt;have Hs:=Z9 (XK rs hlt);rw [XK rs hlt] at hs1;generalize ZW (rs.take k)=s at *;generalize (ZN rs k).1=rb at *;obtain ⟨s0,s1⟩:=hs0;obtain ⟨s2,s3⟩:=hs1;clear hcl hb;go_wp2_with fail;go_roundw
   case rel=>exact ⟨k+1,by omega,by go_num,by rw [uh Hs],(uh Hb).alloc hsz _⟩
   case measure=>exact ms
  ·obtain rfl:k=rs.length:=by omega
   go_wp2_with fail;go_ret;exact ⟨ZA (by rw [VA]),hb⟩
theorem Dd {rs:List ZZ} (h:inB rs.length 1 3=false):Y0 rs=false:=by unfold Y0;simp [h]
theorem De {rs:List ZZ} (h:rs.all Zc=false):Y0 rs=false:=by unfold Y0;rw [h];simp
theorem Df {rs:List ZZ} (h:inB rs.length 1 3=true) (h2:rs.all Zc=true):Y0 rs=decide (ZW rs<=8):=by unfold Y0;rw [h,h2];simp
theorem IsRooms.alloc  {rs:List ZZ} (h:IsRooms w v rs) (o:Obj):IsRooms (w.alloc o) v rs:=h.below ((ba _ _))
theorem XB  {rs:List ZZ} (h:IsRooms w v rs) :
  Calls Tryz.prog 175 #[.agg #[v]] w fun e w'=>e= .returned (.bool (Y0 rs))/\Below w.heap.size w w':=by
 have Hv:=Z9 h;obtain ⟨a,cap,rfl,hc,hm,hr⟩:=h;clear hr;have hl:(rs.length:Int)<=9223372036854775807:=by omega
 cases h1:inB rs.length 1 3
 ·go_enter Tryz.func175,Tryz.ntmps175
  go_wp2_with fail;refine (Zw _ _ _ _).mono ?_;rintro e w' ⟨rfl,rfl⟩;go_wp2_with fail;go_ret;exact ⟨Z5 (Dd h1).symm,(ba _ _)⟩
 cases h2:rs.all Zc
 ·have H2:=Z9 (De h2)
  generalize hx:rs.all Zc=x at *;have Hx:=Z9 hx;clear hx;subst h2;go_enter Tryz.func175,Tryz.ntmps175;go_wp2_with fail;refine (Zw _ _ _ _).mono ?_;rintro e w' ⟨rfl,rfl⟩;go_wp2_with fail;refine (Ol ((uh Hv).alloc _)).mono ?_;rw [uh Hx];rintro e w1 ⟨rfl,hb⟩;go_wp2_with fail;go_ret;exact ⟨Z5 (uh H2).symm,((ba _ _)).trans (hb.mono (by simp))⟩
 ·have H3:=Z9 (Df h1 h2)
  have Ha:=Z9 (IN h2 (by have:=ZJ h1;omega));generalize hx:rs.all Zc=x at *;have Hx:=Z9 hx;clear hx;subst h2;go_enter Tryz.func175,Tryz.ntmps175;go_wp2_with fail;refine (Zw _ _ _ _).mono ?_;rintro e w' ⟨rfl,rfl⟩;go_wp2_with fail;refine (Ol ((uh Hv).alloc _)).mono ?_;rw [uh Hx];rintro e w1 ⟨rfl,hb⟩;have hz:w.heap.size+1<=w1.heap.size:=by have:=hb.size;simpa using this
  have hbox:w1.cell? ⟨w.heap.size,0,none⟩=some (.slice a rs.length cap):=by rw [hb.cell (p:=⟨w.heap.size,0,none⟩) (by simp)];simp
  have hw1:=Z9 (((uh Hv).alloc _).below hb);have Hb:=Z9 hb;clear hb;go_wp2_with fail;refine ck (V6 (uh hw1) (uh Ha)) fun w2 hb2=> ?_;have Hb2:=Z9 hb2;clear hb2;go_wp2_with fail;go_ret;exact ⟨Z5 (by rw [uh H3]),((ba _ _)).trans (((uh Hb).trans ((uh Hb2).mono (uh Hb).size)).mono (by simp))⟩
def Wt (rs:List ZZ):Int:=if Y0 rs=true then ZW rs else -1
theorem TZ {rs:List ZZ} (h:Y0 rs=true):Wt rs=ZW rs:=by unfold Wt;rw [if_pos h]
theorem P6 {rs:List ZZ} (h:Y0 rs=false):Wt rs= -1:=by unfold Wt;rw [h];rfl
theorem SV {rs:List ZZ} (h:Y0 rs=true):Adds rs:=IN (Zq h).2.2.1 (Zq h).2.1
theorem VG  {rs:List ZZ} (h:IsRooms w v rs) :
  Calls Tryz.prog 179 #[.agg #[v]] w fun e w'=>e= .returned (.int .i64 (Wt rs))/\Below w.heap.size w w':=by
 have Hv:=Z9 h;obtain ⟨a,cap,rfl,hc,hm,hr⟩:=h;clear hr;cases h1:Y0 rs
 ·have H1:=Z9 h1
  clear h1;go_enter Tryz.func179,Tryz.ntmps179;go_wp2_with fail;refine (XB ((uh Hv).alloc _)).mono ?_;rw [uh H1];rintro e w1 ⟨rfl,hb⟩;go_wp2_with fail;go_ret;exact ⟨ZA (P6 (uh H1)).symm,((ba _ _)).trans (hb.mono (by simp))⟩
 ·have H1:=Z9 h1
  clear h1;go_enter Tryz.func179,Tryz.ntmps179;go_wp2_with fail;refine (XB ((uh Hv).alloc _)).mono ?_;rw [uh H1];rintro e w1 ⟨rfl,hb⟩;have hz:w.heap.size+1<=w1.heap.size:=by have:=hb.size;simpa using this
  have hbox:w1.cell? ⟨w.heap.size,0,none⟩=some (.slice a rs.length cap):=by rw [hb.cell (p:=⟨w.heap.size,0,none⟩) (by simp)];simp
  have hw1:=Z9 (((uh Hv).alloc _).below hb);have Hb:=Z9 hb;clear hb;go_wp2_with fail;refine ck (V6 (uh hw1) (SV (uh H1))) fun w2 hb2=> ?_;have Hb2:=Z9 hb2;clear hb2;go_wp2_with fail;go_ret;exact ⟨ZA (TZ (uh H1)).symm,((ba _ _)).trans (((uh Hb).trans ((uh Hb2).mono (uh Hb).size)).mono (by simp))⟩
theorem RA  {rs:List ZZ} (h:IsRooms w v rs) (ha:Adds rs) :
  Calls Tryz.prog 116 #[.agg #[v]] w fun e w'=>e= .returned (.int .i64 (ZW rs))/\Below w.heap.size w w':=by
 obtain ⟨a,cap,rfl,hc,hm,hr⟩:=h;have Hr:=Z9 hr;have Ha:=Z9 ha;clear hr ha;go_enter Tryz.func116,Tryz.ntmps116;go_wp2_with fail
 go_loop [3,4] (fun s i=> ∃ k:Nat,k<=rs.length/\i= .int .i64 k/\s= .int .i64 (ZW (rs.take k))) (fun _ i=>rs.length-(intOf i).toNat)
 case atStart=>exact ⟨0,Zz _,rfl,rfl⟩
 case round=>
  obtain ⟨k,hk,rfl,rfl⟩:=hrel;by_cases hlt:k<rs.length
  ·rcases uh Hr with h0 | ⟨b,off,rfl,hbw,hcl⟩
   ·rw [h0] at hlt;simp at hlt
   obtain ⟨c0,pv,c1,hip⟩:=hcl k hlt;have hne:b ≠ w.heap.size:=UZ hbw;have hs0:=uh Ha k hk;have hs1:=uh Ha (k+1) hlt;have Hs:=Z9 (XK rs hlt);rw [XK rs hlt] at hs1;generalize ZW (rs.take k)=s at *;generalize (ZN rs k).1=rb at *;obtain ⟨s0,s1⟩:=hs0;obtain ⟨s2,s3⟩:=hs1;clear hcl hip;go_wp2_with fail
   go_round
   case rel=>exact ⟨k+1,by omega,by go_num,by rw [uh Hs]⟩
   case measure=>exact ms
  ·obtain rfl:k=rs.length:=by omega
   go_wp2_with fail;go_ret;exact ⟨ZA (by first | rfl | rw [VA]),(ba _ _)⟩
theorem Uq  {rs:List ZZ} (h:IsRooms w v rs) :
  Calls Tryz.prog 114 #[.agg #[v]] w fun e w'=>e= .returned (.bool (Y0 rs))/\Below w.heap.size w w':=by
 have Hv:=Z9 h;obtain ⟨a,cap,rfl,hc,hm,hr⟩:=h;have Hr:=Z9 hr;clear hr;have hl:(rs.length:Int)<=9223372036854775807:=by omega
 go_enter Tryz.func114,Tryz.ntmps114;go_wp2_with fail
 go_loopw [3] (fun i wr=> ∃ k:Nat,k<=rs.length/\i= .int .i64 k/\(∀ j,j<k->Zc (ZN rs j)=true)/\Below (w.heap.size+1) (w.alloc (.cells #[.slice a rs.length cap] 26)) wr) (fun i _=>rs.length-(intOf i).toNat)
 case atStart=>exact ⟨0,Zz _,rfl,fun j hj=>by omega,Z1 _ _⟩
 case round=>
  obtain ⟨k,hk,rfl,hst,hb⟩:=hrel;have Hst:=Z9 hst;have Hb:=Z9 hb;have hsz:w.heap.size+1<=wr.heap.size:=by have:=hb.size;simpa using this
  have hbox:wr.cell? ⟨w.heap.size,0,none⟩=some (.slice a rs.length cap):=by rw [hb.cell (p:=⟨w.heap.size,0,none⟩) (by simp)];simp
  have hbB:Below w.heap.size w wr:=((ba _ _)).trans (hb.mono (by omega));clear hst;by_cases hlt:k<rs.length
  ·rcases uh Hr with h0 | ⟨b,off,rfl,hbw,hcl⟩
   ·rw [h0] at hlt;simp at hlt
   obtain ⟨c0,pv,c1,hip⟩:=hcl k hlt;rw [<-hbB.cell (p:=⟨b,off+k*2,none⟩) hbw] at c0;rw [<-hbB.cell (p:=⟨b,off+k*2+1,none⟩) hbw] at c1;have Hip:=Z9 (hip.below hbB);obtain ⟨pa,pcap,rfl,_⟩:=hip;generalize hp:ZN rs k=p at *;obtain ⟨rb,ps⟩:=p;simp only at c0 c1;have Hp:=Z9 hp;have HbB:=Z9 hbB;clear hp hcl hb hbB;cases hrb:Zc (rb,ps)
   ·go_wp2_with fail
    refine ck (Yv rb (uh Hip)) fun w1 hb1=> ?_;have Hb1:=Z9 hb1;clear hb1;go_wp2_with fail;go_ret;exact ⟨Z5 (De (Lu hlt (by rw [uh Hp];exact hrb))).symm,(uh HbB).trans ((uh Hb1).mono (uh HbB).size)⟩
   ·go_wp2_with fail
    refine ck (Yv rb (uh Hip)) fun w1 hb1=> ?_;have Hb1:=Z9 hb1;clear hb1;go_wp2_with fail;go_roundw
    case rel=>exact ⟨k+1,by omega,by go_num,Yg (uh Hst) (by rw [uh Hp];exact hrb),(uh Hb).trans ((uh Hb1).mono hsz)⟩
    case measure=>exact ms
  ·obtain rfl:k=rs.length:=by omega
   have h2:=Lv (uh Hst);have HbB:=Z9 hbB;have hw1:=Z9 ((uh Hv).below hbB);clear hb hbB;cases h1:inB rs.length 1 3
   ·have H2:=Z9 (Dd h1)
    clear h2;go_wp2_with fail;refine (ZU _ _ _ _).mono ?_;rintro e w' ⟨rfl,rfl⟩;go_wp2_with fail;go_ret;exact ⟨Z5 (uh H2).symm,uh HbB⟩
   ·have H3:=Z9 (Df h1 h2)
    have Ha:=Z9 (IN h2 (by have:=ZJ h1;omega));clear h2;go_wp2_with fail;refine (ZU _ _ _ _).mono ?_;rintro e w' ⟨rfl,rfl⟩;go_wp2_with fail;refine ck (RA (uh hw1) (uh Ha)) fun w2 hb2=> ?_;have Hb2:=Z9 hb2;clear hb2;go_wp2_with fail;go_ret;exact ⟨Z5 (by rw [uh H3]),(uh HbB).trans ((uh Hb2).mono (uh HbB).size)⟩
theorem IsRooms.shape  {rs:List ZZ} (h:IsRooms w v rs):∃ a cap,v= .slice a rs.length cap/\rs.length<=cap/\cap<=9223372036854775807:=by
 obtain ⟨a,cap,rfl,hc,hm,_⟩:=h;exact ⟨a,cap,rfl,hc,hm⟩
def Xg (rs:List ZZ) (n:Int):Nat:=((List.range rs.length).find? fun r=>decide (n<ZW (rs.take (r+1)))).getD 0
def Ys (rs:List ZZ) (n:Int):Bool:=Y0 rs && inB n 0 (ZW rs-1)
def Kj (rs:List ZZ) (n:Int):Int:=if Ys rs n=true then (Xg rs n:Int) else -1
def Vq (ps:List Z4):Int:=(Z7 ps (ps.length-1)).1
def Zb (rs:List ZZ) (n:Int):Int:=if Ys rs n=true then Vq (ZN rs (Xg rs n)).2 else -1
theorem RK {rs:List ZZ} {n:Int} {r:Nat} (hr:r<rs.length) (h:n<ZW (rs.take (r+1))) (hl:∀ j,j<r->ZW (rs.take (j+1))<=n):Xg rs n=r:=by
 unfold Xg
 have:(List.range rs.length).find? (fun r=>decide (n<ZW (rs.take (r+1))))=some r:=by
  rw [List.find?_range_eq_some];refine ⟨by simpa using h,by simpa using hr,fun j hj=> ?_⟩;have:=hl j hj;simp;omega
 rw [this];rfl
theorem WT {rs:List ZZ} {n:Int} (h:Ys rs n=true):Y0 rs=true/\0<=n/\n<ZW rs:=by
 unfold Ys at h;simp only [ZL] at h;have:=ZJ h.2;exact ⟨h.1,by omega,by omega⟩
theorem JV {rs:List ZZ} {n:Int} (h:Y0 rs=true) (h0:0<=n) (h1:n<ZW rs):Ys rs n=true:=by
 unfold Ys;rw [h,Zp (by omega) (by omega)];rfl
theorem Ei {rs:List ZZ} {n:Int} (h:Y0 rs=false):Ys rs n=false:=by unfold Ys;rw [h];rfl
theorem Mm {rs:List ZZ} {n:Int} (h:n<0\/ZW rs<=n):Ys rs n=false:=by unfold Ys;rw [Wy (by omega)];simp
theorem Dz {rs:List ZZ} {n:Int} (h:Ys rs n=true):Kj rs n=Xg rs n:=by unfold Kj;rw [if_pos h]
theorem Ju {rs:List ZZ} {n:Int} (h:Ys rs n=false):Kj rs n= -1:=by unfold Kj;rw [h];rfl
theorem S8 {rs:List ZZ} {n:Int} (h:Ys rs n=true):Zb rs n=Vq (ZN rs (Xg rs n)).2:=by unfold Zb;rw [if_pos h]
theorem zW {rs:List ZZ} {n:Int} (h:Ys rs n=false):Zb rs n= -1:=by unfold Zb;rw [h];rfl
theorem Ux {rs:List ZZ} {n:Int} (h:Ys rs n=true) {r:Nat} (hr:r<=rs.length) (hl:∀ j,j<r->ZW (rs.take (j+1))<=n):r<rs.length:=by
 rcases Nat.lt_or_ge r rs.length with h1 | h1
 ·exact h1
 ·obtain rfl:r=rs.length:=by omega
  have hb:=WT h;have h3:=Zq hb.1;have:=hl (rs.length-1) (by omega);rw [show rs.length-1+1=rs.length by omega,VA] at this;omega
theorem Xo {rs:List ZZ} (h:Y0 rs=true) (k:Nat) (hk:k<=rs.length):0<=ZW (rs.take k)/\ZW (rs.take k)<=12:=by
 have h3:=Zq h;have:=Q9 h3.2.2.1 k hk;omega
theorem Qh {rs:List ZZ} {n:Int} (h:Ys rs n=true):Xg rs n<rs.length:=by
 have key:∀ d r:Nat,r+d=rs.length->(∀ j,j<r->ZW (rs.take (j+1))<=n)->Xg rs n<rs.length:=by
  intro d
  induction d with
  | zero=>intro r hr hl;have:=Ux h (by omega) hl;omega
  | succ d ih=>
   intro r hr hl;have hlt:=Ux h (r:=r) (by omega) hl;by_cases hc:n<ZW (rs.take (r+1))
   ·rw [RK hlt hc hl];exact hlt
   ·exact ih (r+1) (by omega) (Yg hl (by omega))
 exact key rs.length 0 (by omega) (fun j hj=>by omega)
theorem Ro  {rs:List ZZ} (n:Int) (h:IsRooms w v rs) :
  Calls Tryz.prog 306 #[.agg #[v],.int .i64 n] w fun e w'=>e= .returned (.int .i64 (Kj rs n))/\Below w.heap.size w w':=by
 have Hv:=Z9 h;obtain ⟨a,cap,rfl,hc,hm,hr⟩:=h;clear hr;by_cases h0:n<0
 ·have H1:=Z9 (Ju (Mm (rs:=rs) (.inl h0)))
  go_enter Tryz.func306,Tryz.ntmps306;go_wp2_with fail;go_ret;exact ⟨ZA (uh H1).symm,(ba _ _)⟩
 by_cases h1:Wt rs<=n
 ·have H1:Hid (Kj rs n= -1):=Z9 (Ju (by
   cases hh:Y0 rs
   ·exact Ei hh
   ·rw [TZ hh] at h1;exact Mm (.inr h1)))
  go_enter Tryz.func306,Tryz.ntmps306;go_wp2_with fail;refine ck (VG ((uh Hv).alloc _)) fun w1 hb=> ?_;have Hb:=Z9 hb;clear hb;generalize Wt rs=m at *;go_wp2_with fail;go_ret;exact ⟨ZA (uh H1).symm,((ba _ _)).trans ((uh Hb).mono (by simp))⟩
 have hh:Y0 rs=true:=by
  cases hh:Y0 rs
  ·rw [P6 hh] at h1;omega
  ·rfl
 have H:Hid (Ys rs n=true):=Z9 (JV hh (by omega) (by rw [TZ hh] at h1;omega));have Hh:=Z9 hh;clear hh;go_enter Tryz.func306,Tryz.ntmps306;go_wp2_with fail;refine ck (VG ((uh Hv).alloc _)) fun w1 hb=> ?_;have hsz:w.heap.size+1<=w1.heap.size:=by have:=hb.size;simpa using this
 have hbox:w1.cell? ⟨w.heap.size,0,none⟩=some (.slice a rs.length cap):=by rw [hb.cell (p:=⟨w.heap.size,0,none⟩) (by simp)];simp
 have B1:Hid (Below w.heap.size w w1):=Z9 (((ba _ _)).trans (hb.mono (by simp)));clear hb;generalize Wt rs=m at *;go_wp2_with fail
 go_loopw [5] (fun i wr=> ∃ r:Nat,r<=rs.length/\i= .int .i64 r/\(∀ j,j<r->ZW (rs.take (j+1))<=n)/\Below w1.heap.size w1 wr) (fun i _=>rs.length-(intOf i).toNat)
 case atStart=>exact ⟨0,Zz _,rfl,fun j hj=>by omega,Z1 _ _⟩
 case round=>
  obtain ⟨r,hr,rfl,hl,hb⟩:=hrel;have hlt:=Ux (uh H) hr hl;have hbox2:wr.cell? ⟨w.heap.size,0,none⟩=some (.slice a rs.length cap):=by rw [hb.cell (p:=⟨w.heap.size,0,none⟩) (by show w.heap.size<w1.heap.size;omega)];exact hbox
  have hz:=hb.size;have hl3:rs.length<=3:=(Zq (uh Hh)).2.1;have Hl:=Z9 hl;have Hb:=Z9 hb;have Hw:Hid (IsRooms wr (.slice a (r+1) cap) (rs.take (r+1))):=Z9 ((((uh Hv).below (uh B1)).below hb).taken (by omega));clear hl hb hbox;go_wp2_with fail;refine ck (V6 (uh Hw) ((SV (uh Hh)).taken _)) fun w2 hb2=> ?_;have hbd:=Xo (uh Hh) (r+1) (by omega);have Hb2:=Z9 hb2;clear hb2;by_cases hc2:n<ZW (rs.take (r+1))
  ·have HN:=Z9 (RK hlt hc2 (uh Hl))
   generalize ZW (rs.take (r+1))=s at *;go_wp2_with fail;go_ret;exact ⟨ZA (by rw [Dz (uh H),uh HN]),(uh B1).trans (((uh Hb).trans ((uh Hb2).mono hz)).mono (by omega))⟩
  ·have hle:ZW (rs.take (r+1))<=n:=by omega
   have Hle:=Z9 (Yg (uh Hl) hle);generalize ZW (rs.take (r+1))=s at *;go_wp2_with fail;go_roundw
   case rel=>exact ⟨r+1,by omega,by go_num,uh Hle,(uh Hb).trans ((uh Hb2).mono hz)⟩
   case measure=>exact ms
theorem Qb  {rs:List ZZ} (n:Int) (h:IsRooms w v rs) (hbn:Ys rs n=true) :
  Calls Tryz.prog 172 #[.agg #[v],.int .i64 n] w fun e w'=>e= .returned (.int .i64 (Xg rs n))/\Below w.heap.size w w':=by
 obtain ⟨a,cap,rfl,hc,hm,hr⟩:=h;have Hr:=Z9 hr;have H:=Z9 hbn;have hh:=(WT hbn).1;have hn0:=(WT hbn).2.1;have hn1:n<12:=by have h1:=(WT hbn).2.2;have:=(Zq hh).2.2.2;omega
 have Hh:=Z9 hh;have hl3:rs.length<=3:=(Zq hh).2.1;clear hr hbn hh;go_enter Tryz.func172,Tryz.ntmps172;go_wp2_with fail
 go_loop [1,5] (fun q i=> ∃ r:Nat,r<=rs.length/\i= .int .i64 r/\q= .int .i64 (n-ZW (rs.take r))/\(∀ j,j<r->ZW (rs.take (j+1))<=n)) (fun _ i=>rs.length-(intOf i).toNat)
 case atStart=>exact ⟨0,Zz _,rfl,by simp [ZW],fun j hj=>by omega⟩
 case round=>
  obtain ⟨r,hr,rfl,rfl,hl⟩:=hrel;have hlt:=Ux (uh H) hr hl
  rcases uh Hr with e0 | ⟨b,off,rfl,hbw,hcl⟩
  ·rw [e0] at hlt;simp at hlt
  obtain ⟨c0,pv,c1,hip⟩:=hcl r hlt;have hne:b ≠ w.heap.size:=UZ hbw;have Hl:=Z9 hl;have hb0:=Xo (uh Hh) r hr;have hb1:=Xo (uh Hh) (r+1) hlt;have Hs:=Z9 (XK rs hlt);have HN:Hid (n<ZW (rs.take (r+1))->Xg rs n=r):=Z9 (fun hx=>RK hlt hx (uh Hl));have HM:Hid (ZW (rs.take (r+1))<=n-> ∀ j,j<r+1->ZW (rs.take (j+1))<=n):=Z9 (fun hx=>Yg (uh Hl) hx);rw [XK rs hlt] at hb1 HN HM;generalize ZW (rs.take r)=s at *;generalize (ZN rs r).1=rb at *;clear hcl hip hl;by_cases hq:rb<=n-s
  ·go_wp2_with fail
   go_round
   case rel=>exact ⟨r+1,by omega,by go_num,by rw [uh Hs];congr 1;omega,uh HM (by omega)⟩
   case measure=>exact ms
  ·go_wp2_with fail
   go_ret;exact ⟨ZA (by rw [uh HN (by omega)]),(ba _ _)⟩
theorem DA {a:Option Addr} {cap:Nat} {rs:List ZZ} {r:Nat} (h:IsRooms w (.slice a rs.length cap) rs) (hr:r<rs.length) (hh:Y0 rs=true) :
  ∃ b off a' cap',a=some ⟨b,off,none⟩/\b<w.heap.size/\w.cell? ⟨b,off+r*2+1,none⟩=some (.slice (some a') (ZN rs r).2.length cap')/\1<=(ZN rs r).2.length/\(ZN rs r).2.length<=4/\a'.spot=none/\a'.block<w.heap.size/\w.cell? ⟨a'.block,a'.off+((ZN rs r).2.length-1)*2,none⟩=some (.int .i64 (Vq (ZN rs r).2)):=by
 obtain ⟨a0,cap0,he,hc,hm,hr'⟩:=h;cases he
 rcases hr' with e0 | ⟨b,off,rfl,hbw,hcl⟩
 ·rw [e0] at hr;simp at hr
 obtain ⟨_,pv,c1,hip⟩:=hcl r hr;have hb:=PJ (Q8 (Zq hh).2.2.1 hr);obtain ⟨pa,pcap,rfl,_,_,hp⟩:=hip
 rcases hp with e1 | ⟨b',off',rfl,hbw',hcl'⟩
 ·rw [e1] at hb;simp at hb
 ·exact ⟨b,off,⟨b',off',none⟩,pcap,rfl,hbw,c1,hb.2.2.1,hb.2.2.2,rfl,hbw',(hcl' _ (by omega)).1⟩
theorem NG  {rs:List ZZ} (n:Int) (h:IsRooms w v rs) :
  Calls Tryz.prog 293 #[.agg #[v],.int .i64 n] w fun e w'=>e= .returned (.int .i64 (Zb rs n))/\Below w.heap.size w w':=by
 have Hv:=Z9 h;obtain ⟨a,cap,rfl,hc,hm⟩:∃ a cap,v= .slice a rs.length cap/\rs.length<=cap/\cap<=9223372036854775807:=by obtain ⟨a,cap,rfl,hc,hm,_⟩:=h;exact ⟨a,cap,rfl,hc,hm⟩
 clear h;cases h1:Ys rs n
 ·have H2:=Z9 (zW h1)
  have H3:=Ju h1;have H3':=Z9 H3;clear H3 h1;go_enter Tryz.func293,Tryz.ntmps293;go_wp2_with fail;refine (Ro n ((uh Hv).alloc _)).mono ?_;rw [uh H3'];rintro e w1 ⟨rfl,hb⟩;have Hb:=Z9 hb;clear hb;go_wp2_with fail;go_ret;exact ⟨ZA (uh H2).symm,((ba _ _)).trans ((uh Hb).mono (by simp))⟩
 ·have H2:=Z9 (S8 h1)
  have H3:=Z9 (Dz h1);have hlt:=Qh h1;have Hh:=Z9 (WT h1).1;have hl3:rs.length<=3:=(Zq (WT h1).1).2.1;clear h1;go_enter Tryz.func293,Tryz.ntmps293;go_wp2_with fail;refine (Ro n ((uh Hv).alloc _)).mono ?_;rw [uh H3];rintro e w1 ⟨rfl,hb⟩;have hz:w.heap.size+1<=w1.heap.size:=by have:=hb.size;simpa using this
  have hbox:w1.cell? ⟨w.heap.size,0,none⟩=some (.slice a rs.length cap):=by rw [hb.cell (p:=⟨w.heap.size,0,none⟩) (by simp)];simp
  have hw1:=((uh Hv).alloc _).below hb;have Hb:=Z9 hb;obtain ⟨b,off,a',cap',rfl,hbw,d1,p1,p4,sp,hbw',d2⟩:=DA hw1 hlt (uh Hh);obtain ⟨b',off',sp'⟩:=a';simp only at sp hbw' d2;subst sp;clear hb hw1 H3;generalize Xg rs n=r at *;generalize Vq (ZN rs r).2=fo at *;generalize (ZN rs r).2.length=m at *;have hr0:((r:Int) == -1)=false:=beq_eq_false_iff_ne.2 (by omega);go_wp2_with fail;go_ret;exact ⟨ZA (uh H2).symm,((ba _ _)).trans ((uh Hb).mono (by simp))⟩
theorem U6  {rs:List ZZ} (n:Int) (h:IsRooms w v rs) (h1:Ys rs n=true) :
  Calls Tryz.prog 111 #[.agg #[v],.int .i64 n] w fun e w'=>e= .returned (.int .i64 (Vq (ZN rs (Xg rs n)).2))/\Below w.heap.size w w':=by
 have Hv:=Z9 h;obtain ⟨a,cap,rfl,hc,hm⟩:∃ a cap,v= .slice a rs.length cap/\rs.length<=cap/\cap<=9223372036854775807:=by obtain ⟨a,cap,rfl,hc,hm,_⟩:=h;exact ⟨a,cap,rfl,hc,hm⟩
 clear h;have hlt:=Qh h1;have Hh:=Z9 (WT h1).1;have H1:=Z9 h1;have hl3:rs.length<=3:=(Zq (WT h1).1).2.1;clear h1;have hw1:=(uh Hv).alloc (.cells #[.slice a rs.length cap] 26);have Hw1:=Z9 hw1;obtain ⟨b,off,a',cap',rfl,hbw,d1,p1,p4,sp,hbw',d2⟩:=DA hw1 hlt (uh Hh);obtain ⟨b',off',sp'⟩:=a';simp only at sp hbw' d2;subst sp;clear hw1;have k0:=ZY (w:=w.alloc (.cells #[.slice (some ⟨b,off,none⟩) rs.length cap] 26)) (a:=⟨w.heap.size,0,none⟩) (v:= .slice (some ⟨b,off,none⟩) rs.length cap) (by simp);have k1:=ZY d1;have k2:=ZY d2;clear d1 d2;go_enter Tryz.func111,Tryz.ntmps111;go_wp2_with fail;refine wq ?_
 repeat (go_big_quiet_step (exact ZX (Qb n ((uh Hw1).below (Z0 _ _ _)) (uh H1))))
 refine wpQuiet_nil ?_;intro _ hw';obtain ⟨⟨dq,osq⟩,hw''⟩:=hw';subst hw'';generalize hr1:Xg rs n=r at *;generalize hr2:Vq (ZN rs r).2=fo at *;generalize (ZN rs r).2.length=m at *;have Hr1:=Z9 hr1;have Hr2:=Z9 hr2;clear hr1 hr2;go_wp2_with fail;go_ret;exact ⟨ZA (by rw [uh Hr1,uh Hr2]),((ba _ _)).trans ((Z0 _ _ _).mono (by simp))⟩
def Vp (rs:List ZZ) (n:Int):Bool:=Y0 rs && inB n 0 ((rs.length:Int)-1)
def WG (lo hi:Int):Int:=(2:Int) ^ hi.toNat-2 ^ lo.toNat
def Vv (rs:List ZZ) (n:Int):Int:=if Vp rs n=true then WG (ZW (rs.take n.toNat)) (ZW (rs.take (n.toNat+1))) else -1
theorem EY {rs:List ZZ} {n:Int} (h:Vp rs n=true):Vv rs n=WG (ZW (rs.take n.toNat)) (ZW (rs.take (n.toNat+1))):=by unfold Vv;rw [if_pos h]
theorem EX {rs:List ZZ} {n:Int} (h:Vp rs n=false):Vv rs n= -1:=by unfold Vv;rw [h];rfl
theorem BX {rs:List ZZ} {n:Int} (h:Y0 rs=false):Vp rs n=false:=by unfold Vp;rw [h];rfl
theorem JY {rs:List ZZ} {n:Int} (h:n<0\/rs.length<=n):Vp rs n=false:=by unfold Vp;rw [Wy (by omega)];simp
theorem OV {s:Int} (h0:0<=s) (h1:s<=12):1<=(2:Int) ^ s.toNat/\(2:Int) ^ s.toNat<=4096:=by
 have key:∀ k:Fin 13,1<=(2:Int) ^ k.val/\(2:Int) ^ k.val<=4096:=by decide
 exact key ⟨s.toNat,by omega⟩
theorem SU {x:Int} (h0 : -100000<=x) (h1:x<=100000):wrap64 x=x:=by unfold wrap64;omega
theorem Vm  {rs:List ZZ} (n:Int) (h:IsRooms w v rs) :
  Calls Tryz.prog 248 #[.agg #[v],.int .i64 n] w fun e w'=>e= .returned (.int .i64 (Vv rs n))/\Below w.heap.size w w':=by
 have Hv:=Z9 h;obtain ⟨a,cap,rfl,hc,hm⟩:∃ a cap,v= .slice a rs.length cap/\rs.length<=cap/\cap<=9223372036854775807:=by obtain ⟨a,cap,rfl,hc,hm,_⟩:=h;exact ⟨a,cap,rfl,hc,hm⟩
 clear h;have Hb0:Hid (Below w.heap.size w (w.alloc (.cells #[.slice a rs.length cap] 26))):=Z9 ((ba _ _));cases h1:Y0 rs
 ·have H2:=Z9 (EX (BX (n:=n) h1))
  go_enter Tryz.func248,Tryz.ntmps248;go_wp2_with fail;refine ck (XB ((uh Hv).alloc _)) fun w1 hb=> ?_;have Hb:=Z9 hb;clear hb;go_wp2_with fail;go_ret;exact ⟨ZA (uh H2).symm,(uh Hb0).trans ((uh Hb).mono (by simp))⟩
 by_cases h2:n<0
 ·have H2:=Z9 (EX (JY (rs:=rs) (.inl h2)))
  go_enter Tryz.func248,Tryz.ntmps248;go_wp2_with fail;refine ck (XB ((uh Hv).alloc _)) fun w1 hb=> ?_;have Hb:=Z9 hb;clear hb;go_wp2_with fail;go_ret;exact ⟨ZA (uh H2).symm,(uh Hb0).trans ((uh Hb).mono (by simp))⟩
 by_cases h3:(rs.length:Int)<=n
 ·have H2:=Z9 (EX (JY (rs:=rs) (.inr h3)))
  go_enter Tryz.func248,Tryz.ntmps248;go_wp2_with fail;refine ck (XB ((uh Hv).alloc _)) fun w1 hb=> ?_;have hbox:w1.cell? ⟨w.heap.size,0,none⟩=some (.slice a rs.length cap):=by rw [hb.cell (p:=⟨w.heap.size,0,none⟩) (by simp)];simp
  have Hb:=Z9 hb;clear hb;go_wp2_with fail;go_ret;exact ⟨ZA (uh H2).symm,(uh Hb0).trans ((uh Hb).mono (by simp))⟩
 have h4:Vp rs n=true:=by unfold Vp;rw [h1,Zp (by omega) (by omega)];rfl
 have H2:=Z9 (EY h4);obtain ⟨r,rfl⟩:=Int.eq_ofNat_of_zero_le (show 0<=n by omega);have H1:=Z9 h1;have Ha:=Z9 (SV h1);have hl3:rs.length<=3:=(Zq h1).2.1;have hb0:=Xo h1 r (by omega);have hb1:=Xo h1 (r+1) (by omega);go_enter Tryz.func248,Tryz.ntmps248;go_wp2_with fail;refine ck (XB ((uh Hv).alloc _)) fun w1 hb=> ?_;have hbox:w1.cell? ⟨w.heap.size,0,none⟩=some (.slice a rs.length cap):=by rw [hb.cell (p:=⟨w.heap.size,0,none⟩) (by simp)];simp
 have k0:=ZY hbox;have Hb:=Z9 hb;have Hw:=Z9 (((uh Hv).alloc _).below hb);clear hb h4;go_wp2_with fail;refine wq ?_
 repeat (go_big_quiet_step (first | exact ZX (V6 (((uh Hw).below (Z0 _ _ _)).taken (n:=r) (by omega)) ((uh Ha).taken _)) | exact ZX (V6 (((uh Hw).below (Z0 _ _ _)).taken (n:=r+1) (by omega)) ((uh Ha).taken _))))
 refine wpQuiet_nil ?_;intro _ hw';obtain ⟨⟨dq,osq⟩,hw''⟩:=hw';subst hw'';rw [Zy] at H2;generalize ZW (rs.take r)=s0 at *;generalize ZW (rs.take (r+1))=s1 at *;obtain ⟨x0,x1⟩:=hb0;obtain ⟨y0,y1⟩:=hb1;go_wp2_with fail;go_quiet (fail);go_wp2_with fail;go_ret;refine ⟨ZA ?_,(uh Hb0).trans (((uh Hb).trans (WW ((Z0 _ _ _).mono (uh Hb).size) _)).mono (by simp))⟩;have p0:=OV x0 x1;have p1:=OV y0 y1;rw [uh H2,SU (x:=2 ^ s1.toNat) (by omega) (by omega),SU (x:=2 ^ s0.toNat) (by omega) (by omega),SU (x:=2 ^ s1.toNat-2 ^ s0.toNat) (by omega) (by omega)];rfl
theorem WM {rs:List ZZ} (h:rs.all Zc=true) {i:Nat} : ∀ d,i+d<=rs.length->ZW (rs.take i)<=ZW (rs.take (i+d))
 | 0,_=>Int.le_refl _
 | d+1,hd=>by
  have ih:=WM h (i:=i) d (by omega);have hb:=PJ (Q8 h (j:=i+d) (by omega));rw [<-Nat.add_assoc,XK rs (by omega)];omega
theorem DC {rs:List ZZ} {n:Int} (h:Ys rs n=true) {r:Nat} (hr:r<rs.length):Xg rs n=r ↔ ZW (rs.take r)<=n/\n<ZW (rs.take (r+1)):=by
 have hb:=WT h;have ha:=(Zq hb.1).2.2.1
 have key:∀ d q:Nat,q+d=rs.length->(∀ j,j<q->ZW (rs.take (j+1))<=n)->ZW (rs.take (Xg rs n))<=n/\n<ZW (rs.take (Xg rs n+1)):=by
  intro d
  induction d with
  | zero=>intro q hq hl;have:=Ux h (by omega) hl;omega
  | succ d ih=>
   intro q hq hl;have hlt:=Ux h (r:=q) (by omega) hl;by_cases hc:n<ZW (rs.take (q+1))
   ·rw [RK hlt hc hl]
    refine ⟨?_,hc⟩;cases q with
    | zero=>simp [ZW];omega
    | succ q=>exact hl q (by omega)
   ·exact ih (q+1) (by omega) (Yg hl (by omega))
 constructor
 ·intro e;have:=key rs.length 0 (by omega) (fun j hj=>by omega);rwa [e] at this
 ·intro hx
  refine RK hr hx.2 (fun j hj=> ?_);have:=WM ha (i:=j+1) (r-(j+1)) (by omega);rw [show j+1+(r-(j+1))=r by omega] at this;omega
theorem Rz (b:Int) (h0:0<=b) (h1:b<=12) (w:World):Calls Tryz.prog 70 #[.int .i64 b] w fun e w'=>e= .returned (.int .i64 (2 ^ b.toNat))/\w'=w:=by
 go_enter Tryz.func70,Tryz.ntmps70
 go_wp2
 all_goals
  go_ret;refine ⟨ZA ?_,rfl⟩;have:=OV h0 h1;exact SU (by omega) (by omega)
theorem BD {lo hi:Int} (h0:0<=lo) (h1:lo<=hi) (h2:hi<=8):WG 0 lo+WG lo hi=WG 0 hi/\bits .or .i64 (WG 0 lo) (WG lo hi)=WG 0 hi:=by
 have key:∀ hi:Fin 9,∀ lo:Fin 9,lo.val<=hi.val->WG 0 lo.val+WG lo.val hi.val=WG 0 hi.val/\bits .or .i64 (WG 0 lo.val) (WG lo.val hi.val)=WG 0 hi.val:=by decide +kernel
 have:=key ⟨hi.toNat,by omega⟩ ⟨lo.toNat,by omega⟩ (by show lo.toNat<=hi.toNat;omega);simp only [show ((lo.toNat:Nat):Int)=lo by omega,show ((hi.toNat:Nat):Int)=hi by omega] at this;exact this
theorem zH {lo hi b:Int} (h0:0<=lo) (h1:lo<=hi) (h2:hi<=8) (hb0 : -1<=b) (hb1:b<=8):UU (WG lo hi) b=decide (lo<=b/\b<hi):=by
 have key:∀ b:Fin 10,∀ hi:Fin 9,∀ lo:Fin 9,lo.val<=hi.val->UU (WG lo.val hi.val) ((b.val:Int)-1)=decide ((lo.val:Int)<=(b.val:Int)-1/\(b.val:Int)-1<hi.val):=by decide +kernel
 have:=key ⟨(b+1).toNat,by omega⟩ ⟨hi.toNat,by omega⟩ ⟨lo.toNat,by omega⟩ (by show lo.toNat<=hi.toNat;omega);simp only [show ((lo.toNat:Nat):Int)=lo by omega,show ((hi.toNat:Nat):Int)=hi by omega,show (((b+1).toNat:Nat):Int)-1=b by omega] at this;exact this
open Go.ChangeShapes Go.WideShapes Go.ChangeAt Go.RowKit
theorem Ji  {rs:List ZZ} (hv:IsRooms w v rs) (hu:IsRooms w u rs) :
  Calls Tryz.prog 52 #[.agg #[v],.agg #[u]] w fun e w'=>e= .returned (.bool true)/\Below w.heap.size w w':=by
 have Hv:=Z9 hv;have Hu:=Z9 hu;obtain ⟨a,cap,rfl,hc,hm,hr⟩:=hv;obtain ⟨a',cap',rfl,hc',hm',hr'⟩:=hu;clear hr hr';go_enter Tryz.func52,Tryz.ntmps52;go_wp2_with fail;have B0:Hid (Below w.heap.size w ((w.alloc (.cells #[.slice a rs.length cap] 26)).alloc (.cells #[.slice a' rs.length cap'] 26))):=Z9 (((ba _ _)).alloc (by simp) _)
 go_loopw [5] (fun i wr=> ∃ k:Nat,k<=rs.length/\i= .int .i64 k/\Below (w.heap.size+2) ((w.alloc (.cells #[.slice a rs.length cap] 26)).alloc (.cells #[.slice a' rs.length cap'] 26)) wr) (fun i _=>rs.length-(intOf i).toNat)
 case atStart=>exact ⟨0,Zz _,rfl,Z1 _ _⟩
 case round=>
  obtain ⟨k,hk,rfl,hb⟩:=hrel;have Hb:=Z9 hb;have hzr:w.heap.size+2<=wr.heap.size:=by have:=hb.size;simpa using this
  have c0:wr.cell? ⟨w.heap.size,0,none⟩=some (.slice a rs.length cap):=(hb.cell (p:=⟨w.heap.size,0,none⟩) (by show w.heap.size<w.heap.size+2;omega)).trans (by simp);have c1:wr.cell? ⟨w.heap.size+1,0,none⟩=some (.slice a' rs.length cap'):=(hb.cell (p:=⟨w.heap.size+1,0,none⟩) (by show w.heap.size+1<w.heap.size+2;omega)).trans (by simp);have BW:Hid (Below w.heap.size w wr):=Z9 ((uh B0).trans (hb.mono (by omega)));clear hb;by_cases hlt:k<rs.length
  ·obtain ⟨_,_,e1,_,_,hr⟩:=uh Hv
   obtain ⟨_,_,e2,_,_,hr'⟩:=uh Hu;cases e1;cases e2
   rcases hr with h0 | ⟨b,off,rfl,hbw,hcl⟩
   ·rw [h0] at hlt;simp at hlt
   rcases hr' with h0 | ⟨b',off',rfl,hbw',hcl'⟩
   ·rw [h0] at hlt;simp at hlt
   obtain ⟨d0,pv,d1,hip⟩:=hcl k hlt;obtain ⟨d2,pu,d3,hiu⟩:=hcl' k hlt;rw [<-(uh BW).cell (p:=⟨b,off+k*2,none⟩) hbw] at d0;rw [<-(uh BW).cell (p:=⟨b,off+k*2+1,none⟩) hbw] at d1;rw [<-(uh BW).cell (p:=⟨b',off'+k*2,none⟩) hbw'] at d2;rw [<-(uh BW).cell (p:=⟨b',off'+k*2+1,none⟩) hbw'] at d3;have Hip:=Z9 (hip.below (uh BW));have Hiu:=Z9 (hiu.below (uh BW));obtain ⟨pa,pcap,rfl,hpc,hpm,_⟩:=hip;obtain ⟨pa',pcap',rfl,hpc',hpm',_⟩:=hiu;generalize (ZN rs k).1=f at *;generalize (ZN rs k).2=ps at *;clear hcl hcl';have k0:=ZY c0;have k1:=ZY c1;have k2:=ZY d0;have k3:=ZY d1;have k4:=ZY d2;have k5:=ZY d3;go_wp2_with fail;refine wq ?_
   repeat (go_big_quiet_step (fail))
   refine wpQuiet_nil ?_;intro _ hw';obtain ⟨⟨dq,osq⟩,hw''⟩:=hw';subst hw'';have Hbq:=Z9 (Z0 wr dq osq);have e0:=k0 dq osq;have e1:=k1 dq osq;have e2:=k2 dq osq;have e3:=k3 dq osq;have e4:=k4 dq osq;have e5:=k5 dq osq;clear k0 k1 k2 k3 k4 k5 c0 c1 d0 d1 d2 d3;obtain ⟨w1,hw1⟩:∃ w1,w1=Go.Sort.grow (Go.redrawn wr dq) osq:=⟨_,rfl⟩
   rw [<-hw1] at Hbq e0 e1 e2 e3 e4 e5 ⊢;clear hw1;have HB1:=Z9 ((uh BW).trans ((uh Hbq).mono (uh BW).size));go_wp2_with fail;obtain ⟨wo,hwo⟩:∃ wo,wo=wr:=⟨wr,rfl⟩
   rw [<-hwo] at *;clear hwo
   go_loopw [6] (fun i wr=> ∃ j:Nat,j<=ps.length/\i= .int .i64 j/\Below w1.heap.size w1 wr) (fun i _=>ps.length-(intOf i).toNat)
   case atStart=>exact ⟨0,Zz _,rfl,Z1 _ _⟩
   case round=>
    obtain ⟨j,hj,rfl,hbr⟩:=hrel;have Hbr:=Z9 hbr;have HBr:=Z9 ((uh HB1).trans (hbr.mono (uh HB1).size));have hz1:=(uh Hbq).size;have f0:=(hbr.cell (World.block_lt_of_cell? _ _ e0)).trans e0;have f1:=(hbr.cell (World.block_lt_of_cell? _ _ e1)).trans e1;have f3:=(hbr.cell (World.block_lt_of_cell? _ _ e3)).trans e3;have f5:=(hbr.cell (World.block_lt_of_cell? _ _ e5)).trans e5;clear hbr;by_cases hjl:j<ps.length
    ·obtain ⟨_,_,g1,_,_,hr⟩:=(uh Hip).below ((uh Hbq).trans ((uh Hbr).mono hz1))
     obtain ⟨_,_,g2,_,_,hr'⟩:=(uh Hiu).below ((uh Hbq).trans ((uh Hbr).mono hz1));cases g1;cases g2
     rcases hr with h0 | ⟨pb,poff,rfl,hpbw,hpl⟩
     ·rw [h0] at hjl;simp at hjl
     rcases hr' with h0 | ⟨pb',poff',rfl,hpbw',hpl'⟩
     ·rw [h0] at hjl;simp at hjl
     obtain ⟨c0,c1⟩:=hpl j hjl;obtain ⟨d0,d1⟩:=hpl' j hjl;generalize (Z7 ps j).1=x at *;generalize (Z7 ps j).2=y at *;have k0:=ZY f0;have k1:=ZY f1;have k3:=ZY f3;have k5:=ZY f5;have k6:=ZY c0;have k7:=ZY c1;have k8:=ZY d0;have k9:=ZY d1;clear hpl hpl' e0 e1 e2 e3 e4 e5;go_wp2_with fail;refine wq ?_
     repeat (go_big_quiet_step (fail))
     refine wpQuiet_nil ?_;intro _ hw';obtain ⟨⟨dr,osr⟩,hw''⟩:=hw';subst hw'';go_wp2_with fail;go_roundw
     case rel=>exact ⟨j+1,by omega,by go_num,(uh Hbr).trans ((Z0 _ _ _).mono (uh Hbr).size)⟩
     case measure=>exact ms
    ·go_wp2_with fail
     go_roundw
     case rel=>exact ⟨k+1,by omega,by go_num,(uh Hb).trans (((uh Hbq).trans ((uh Hbr).mono hz1)).mono hzr)⟩
     case measure=>exact ms
  ·go_wp2_with fail
   go_ret;exact ⟨rfl,uh BW⟩
end Go.Proofs.YtamgfpdahadnfaaGreatDoor
