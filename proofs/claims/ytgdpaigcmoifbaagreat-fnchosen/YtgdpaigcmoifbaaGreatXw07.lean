/- Part 7 of what the proof rests on. No condition but those that a theorem names. -/
import Derived.Test.YtgdpaigcmoifbaaGreatXw03
import Derived.Test.YtgdpaigcmoifbaaGreatXw05
set_option maxHeartbeats 8000000
set_option maxRecDepth 100000
namespace Go.Proofs.YtgdpaigcmoifbaaGreat
open Go.ChangeShapes Go.WideShapes Go.ChangeAt Go.RowKit Go.Sort Go.Proofs.Tryz
set_option linter.unusedVariables false
variable {w w' w0 w1 w2 w3 w₀ wr W W' X A B C : World} {v v0 v1 v2 v3 v4 u u0 u1 u2 u3 u4 : Value}
theorem Dv {b:Int} {ps:List Z4} (h:inB b 1 4=false):Y8 (b,ps)=false:=by unfold Y8;simp [h]
theorem Dw {b:Int} {ps:List Z4} (h:inB ps.length 1 4=false):Y8 (b,ps)=false:=by unfold Y8;simp [h]
theorem Dx {b:Int} {ps:List Z4} (h:inB b 1 4=true) (h2:inB ps.length 1 4=true):Y8 (b,ps)=Sv ps:=by unfold Y8;simp [h,h2]
theorem YC  {ps:List Z4} (b:Int) (h:IsPaces w v ps) :
  cB 285 #[.agg #[.int .i64 b,v]] w (.bool (Y8 (b,ps))):=by
 have Hv:=Z9 h;obtain ⟨a,cap,rfl,hc,hm,hr⟩:=h;clear hr;have hl:(ps.length:Int)<=9223372036854775807:=by omega
 cases h1:inB b 1 4
 ·go_enter func285,ntmps285
  go_wp2_with fail;refine (Zy _ _ _ _).mono ?_;rintro e w' ⟨rfl,rfl⟩;go_wp2_with fail;go_ret;exact ⟨Z5 (Dv h1).symm,(ba _ _)⟩
 cases h2:inB ps.length 1 4
 ·go_enter func285,ntmps285
  go_wp2_with fail;refine (Zy _ _ _ _).mono ?_;rintro e w' ⟨rfl,rfl⟩;go_wp2_with fail;refine (Zy _ _ _ _).mono ?_;rintro e w' ⟨rfl,rfl⟩;go_wp2_with fail;go_ret;exact ⟨Z5 (Dw h2).symm,(ba _ _)⟩
 ·have H3:=Z9 (Dx h1 h2)
  go_enter func285,ntmps285;go_wp2_with fail;refine (Zy _ _ _ _).mono ?_;rintro e w' ⟨rfl,rfl⟩;go_wp2_with fail;refine (Zy _ _ _ _).mono ?_;rintro e w' ⟨rfl,rfl⟩;go_wp2_with fail;refine ck (GX ((uh Hv).below ((ba _ _)))) fun w1 hb=> ?_;go_wp2_with fail;go_ret;exact ⟨Z5 (uh H3).symm,((ba _ _)).trans (hb.mono (by simp))⟩
theorem WV {B:Nat} (h:Below B w w') (n:Nat):Below B w (w'.drewN n):=⟨h.os,h.tape,h.output,h.size,h.block⟩
theorem Be {ps:List Z4} {k:Nat} {f c:Int} (hp:Z7 ps k=(f,c)) (h:inB f 1 1024=false):Wo ps k=false:=by unfold Wo TB;rw [hp];simp [h]
theorem Bf {ps:List Z4} {k:Nat} {f c:Int} (hp:Z7 ps k=(f,c)) (h:inB c 1 1024=false):Wo ps k=false:=by unfold Wo TB;rw [hp];simp [h]
theorem zy {ps:List Z4} {k:Nat} {f c f' c':Int} (hp:Z7 ps k=(f,c)) (hz:0<k) (hq:Z7 ps (k-1)=(f',c')) (h1:inB f 1 1024=true) (h2:inB c 1 1024=true):Wo ps k=(decide (f'<f) && decide (c'<c)):=by
 unfold Wo TB P2;rw [hp,hq];simp [h1,h2];omega
theorem Bg {ps:List Z4} {f c:Int} (hp:Z7 ps 0=(f,c)) (h1:inB f 1 1024=true) (h2:inB c 1 1024=true):Wo ps 0=true:=by unfold Wo TB;rw [hp];simp [h1,h2]
theorem Yt  {ps:List Z4} (rb:Int) (h:IsPaces w v ps) :
  cB 192 #[.agg #[.int .i64 rb,v]] w (.bool (Y8 (rb,ps))):=by
 obtain ⟨a,cap,rfl,hc,hm,hr⟩:=h;have Hr:=Z9 hr;clear hr;have hl:(ps.length:Int)<=9223372036854775807:=by omega
 cases h1:inB rb 1 4
 ·go_enter func192,ntmps192
  go_wp2_with fail;refine (ZV _ _ _ _).mono ?_;rintro e w' ⟨rfl,rfl⟩;go_wp2_with fail;go_ret;exact ⟨Z5 (Dv h1).symm,(ba _ _)⟩
 cases h2:inB ps.length 1 4
 ·go_enter func192,ntmps192
  go_wp2_with fail;refine (ZV _ _ _ _).mono ?_;rintro e w' ⟨rfl,rfl⟩;go_wp2_with fail;refine (ZV _ _ _ _).mono ?_;rintro e w' ⟨rfl,rfl⟩;go_wp2_with fail;go_ret;exact ⟨Z5 (Dw h2).symm,(ba _ _)⟩
 have H3:=Z9 (Dx h1 h2);go_enter func192,ntmps192;go_wp2_with fail;refine (ZV _ _ _ _).mono ?_;rintro e w' ⟨rfl,rfl⟩;go_wp2_with fail;refine (ZV _ _ _ _).mono ?_;rintro e w' ⟨rfl,rfl⟩;go_wp2_with fail;clear h1 h2
 go_loopw [3] (fun i wr=> ∃ k:Nat,k<=ps.length/\i= .int .i64 k/\(∀ j,j<k->Wo ps j=true)/\Below (w.heap.size+1) (w.alloc (.cells #[.int .i64 rb,.slice a ps.length cap] 130)) wr) (fun i _=>ps.length-(intOf i).toNat)
 case atStart=>exact ⟨0,ZA _,rfl,fun j hj=>by omega,Z3 _ _⟩
 case round=>
  obtain ⟨k,hk,rfl,hst,hb⟩:=hrel;have Hst:=Z9 hst;have Hb:=Z9 hb;clear hst;have hsz:w.heap.size+1<=wr.heap.size:=by have:=hb.size;simpa using this
  have hbox:wr.cell? ⟨w.heap.size,1,none⟩=some (.slice a ps.length cap):=by rw [hb.cell (p:=⟨w.heap.size,1,none⟩) (by simp)];simp
  have hne0:w.heap.size ≠ wr.heap.size:=by omega
  by_cases hlt:k<ps.length
  ·rcases uh Hr with h0 | ⟨b,off,rfl,hbw,hcl⟩
   ·rw [h0] at hlt;simp at hlt
   have hbB:Below w.heap.size w wr:=((ba _ _)).trans (hb.mono (by omega));have hne:b ≠ wr.heap.size:=by omega
   have hne':b ≠ w.heap.size:=by omega
   obtain ⟨c0,c1⟩:=hcl k hlt;rw [<-hbB.cell (p:=⟨b,off+k*2,none⟩) hbw] at c0;rw [<-hbB.cell (p:=⟨b,off+k*2+1,none⟩) hbw] at c1;generalize hp:Z7 ps k=p at c0 c1;have Hp:=Z9 hp;obtain ⟨f,c⟩:=p;simp only at c0 c1;clear hp hb;cases h1:inB f 1 1024
   ·clear hcl
    go_wp2_with fail;go_quiet (exact Yi (ZV _ _ _ _));go_wp2_with fail;go_ret;exact ⟨Z5 (by rw [uh H3];exact (S5 hlt (Be (uh Hp) h1)).symm),((ba _ _)).trans ((WV ((uh Hb).alloc hsz _) _).mono (by omega))⟩
   cases h2:inB c 1 1024
   ·clear hcl
    go_wp2_with fail;go_quiet (exact Yi (ZV _ _ _ _));go_wp2_with fail;go_ret;exact ⟨Z5 (by rw [uh H3];exact (S5 hlt (Bf (uh Hp) h2)).symm),((ba _ _)).trans ((WV ((uh Hb).alloc hsz _) _).mono (by omega))⟩
   by_cases hz:0<k
   ·have hd:decide (0<k)=true:=V0 hz
    obtain ⟨e0,e1⟩:=hcl (k-1) (by omega);rw [<-hbB.cell (p:=⟨b,off+(k-1)*2,none⟩) hbw] at e0;rw [<-hbB.cell (p:=⟨b,off+(k-1)*2+1,none⟩) hbw] at e1;generalize hq:Z7 ps (k-1)=q at e0 e1;have Hq:=Z9 hq;obtain ⟨f',c'⟩:=q;simp only at e0 e1;have q0:(wr.alloc (.cells #[.int .i64 f,.int .i64 c] 139)).cell? ⟨w.heap.size,1,none⟩=some (.slice (some ⟨b,off,none⟩) ps.length cap):=by rw [World.cell?_alloc_old _ _ _ hne0];exact hbox
    have q1:(wr.alloc (.cells #[.int .i64 f,.int .i64 c] 139)).cell? ⟨b,off+(k-1)*2,none⟩=some (.int .i64 f'):=by rw [World.cell?_alloc_old _ _ _ hne];exact e0
    have q2:(wr.alloc (.cells #[.int .i64 f,.int .i64 c] 139)).cell? ⟨b,off+(k-1)*2+1,none⟩=some (.int .i64 c'):=by rw [World.cell?_alloc_old _ _ _ hne];exact e1
    clear hcl hq e0 e1;have Hs:=Z9 (zy (uh Hp) hz (uh Hq) h1 h2);by_cases g1:f<=f'
    ·have g1':decide (f<=f')=true:=V0 g1
     go_wp2_with fail;go_quiet (exact Yi (ZV _ _ _ _));go_wp2_with fail;go_ret;exact ⟨Z5 (by rw [uh H3];exact (S5 hlt (by rw [uh Hs];simp;omega)).symm),((ba _ _)).trans ((WV ((uh Hb).alloc hsz _) _).mono (by omega))⟩
    have g1':decide (f<=f')=false:=Yb g1;by_cases g2:c<=c'
    ·have g2':decide (c<=c')=true:=V0 g2
     go_wp2_with fail;go_quiet (exact Yi (ZV _ _ _ _));go_wp2_with fail;go_ret;exact ⟨Z5 (by rw [uh H3];exact (S5 hlt (by rw [uh Hs];simp;omega)).symm),((ba _ _)).trans ((WV ((uh Hb).alloc hsz _) _).mono (by omega))⟩
    ·have g2':decide (c<=c')=false:=Yb g2
     go_wp2_with fail;go_quiet (exact Yi (ZV _ _ _ _));go_wp2_with fail;go_roundw
     case rel=>exact ⟨k+1,by omega,by go_num,Yj (uh Hst) (by rw [uh Hs];simp;omega),WV ((uh Hb).alloc hsz _) _⟩
     case measure=>exact ms
   ·obtain rfl:k=0:=by omega
    simp only [Nat.zero_mul,Nat.add_zero] at c0 c1;clear hcl hz;go_wp2_with fail;go_quiet (exact Yi (ZV _ _ _ _));go_wp2_with fail;go_roundw
    case rel=>exact ⟨1,by omega,by go_num,Yj (uh Hst) (Bg (uh Hp) h1 h2),WV ((uh Hb).alloc hsz _) _⟩
    case measure=>exact ms
  ·obtain rfl:k=ps.length:=by omega
   clear hb;go_wp2_with fail;go_ret;exact ⟨Z5 (by rw [uh H3];exact (GW (uh Hst)).symm),((ba _ _)).trans ((uh Hb).mono (by omega))⟩
def Adds (rs:List ZY):Prop:= ∀ k,k<=rs.length->0<=ZW (rs.take k)/\ZW (rs.take k)<=1000000
theorem IS {rs:List ZY} (h:rs.all Y8=true) (hl:rs.length<=3):Adds rs:=fun k hk=>by have:=QW h k hk;omega
theorem Adds.taken {rs:List ZY} (h:Adds rs) (n:Nat):Adds (rs.take n):=fun k hk=>by
 have hk':k<=n/\k<=rs.length:=by simp at hk;omega
 rw [List.take_take,Nat.min_eq_left hk'.1];exact h k hk'.2
theorem Ox  {rs:List ZY} (h:IsRooms w v rs) :
  cB 246 #[v] w (.bool (rs.all Y8)):=by
 obtain ⟨a,cap,rfl,hc,hm,hr⟩:=h;have Hr:=Z9 hr;clear hr;go_enter func246,ntmps246;go_wp2_with fail
 go_loopw [7] (fun i wr=> ∃ k:Nat,k<=rs.length/\i= .int .i64 k/\(∀ j,j<k->Y8 (ZQ rs j)=true)/\Below w.heap.size w wr) (fun i _=>rs.length-(intOf i).toNat)
 case atStart=>exact ⟨0,ZA _,rfl,fun j hj=>by omega,Z3 _ _⟩
 case round=>
  obtain ⟨k,hk,rfl,hst,hb⟩:=hrel;have Hst:=Z9 hst;have Hb:=Z9 hb;have hsz:=hb.size;clear hst;by_cases hlt:k<rs.length
  ·rcases uh Hr with h0 | ⟨b,off,rfl,hbw,hcl⟩
   ·rw [h0] at hlt;simp at hlt
   obtain ⟨c0,pv,c1,hip⟩:=hcl k hlt;rw [<-hb.cell (p:=⟨b,off+k*2,none⟩) hbw] at c0;rw [<-hb.cell (p:=⟨b,off+k*2+1,none⟩) hbw] at c1;have Hip:=Z9 (hip.below hb);obtain ⟨pa,pcap,rfl,_⟩:=hip;generalize hp:ZQ rs k=p at *;obtain ⟨rb,ps⟩:=p;simp only at c0 c1;have Hp:=Z9 hp;clear hp hcl hb;cases hrb:Y8 (rb,ps)
   ·go_wp2_with fail
    refine ck (YC rb ((uh Hip).below ((ba _ _)))) fun w1 hb1=> ?_;go_wp2_with fail;go_ret;exact ⟨Z5 (Lo hlt (by rw [uh Hp];exact hrb)).symm,((uh Hb).alloc hsz _).trans (hb1.mono (by simp;omega))⟩
   ·go_wp2_with fail
    refine ck (YC rb ((uh Hip).below ((ba _ _)))) fun w1 hb1=> ?_;have Hb1:=Z9 hb1;clear hb1;go_wp2_with fail;go_roundw
    case rel=>exact ⟨k+1,by omega,by go_num,Yj (uh Hst) (by rw [uh Hp];exact hrb),((uh Hb).alloc hsz _).trans ((uh Hb1).mono (by simp;omega))⟩
    case measure=>exact ms
  ·obtain rfl:k=rs.length:=by omega
   go_wp2_with fail;go_ret;exact ⟨Z5 (Lp (uh Hst)).symm,hb⟩
theorem V2  {rs:List ZY} (h:IsRooms w v rs) (ha:Adds rs) :
  cB 247 #[v] w (.int .i64 (ZW rs)):=by
 obtain ⟨a,cap,rfl,hc,hm,hr⟩:=h;have Hr:=Z9 hr;have Ha:=Z9 ha;clear hr ha;go_enter func247,ntmps247;go_wp2_with fail
 go_loopw [3,8] (fun s i wr=> ∃ k:Nat,k<=rs.length/\i= .int .i64 k/\s= .int .i64 (ZW (rs.take k))/\Below w.heap.size w wr) (fun _ i _=>rs.length-(intOf i).toNat)
 case atStart=>exact ⟨0,ZA _,rfl,rfl,Z3 _ _⟩
 case round=>
  obtain ⟨k,hk,rfl,rfl,hb⟩:=hrel;have Hb:=Z9 hb;have hsz:=hb.size;by_cases hlt:k<rs.length
  ·rcases uh Hr with h0 | ⟨b,off,rfl,hbw,hcl⟩
   ·rw [h0] at hlt;simp at hlt
   obtain ⟨c0,pv,c1,hip⟩:=hcl k hlt;rw [<-hb.cell (p:=⟨b,off+k*2,none⟩) hbw] at c0;rw [<-hb.cell (p:=⟨b,off+k*2+1,none⟩) hbw] at c1;obtain ⟨pa,pcap,rfl,_⟩:=hip;have hs0:=uh Ha k hk;have hs1:=uh Ha (k+1) hlt;have Hs:=Z9 (XP rs hlt);rw [XP rs hlt] at hs1;generalize ZW (rs.take k)=s at *;generalize (ZQ rs k).1=rb at *;obtain ⟨s0,s1⟩:=hs0;obtain ⟨s2,s3⟩:=hs1;clear hcl hb;go_wp2_with fail;go_roundw
   case rel=>exact ⟨k+1,by omega,by go_num,by rw [uh Hs],(uh Hb).alloc hsz _⟩
   case measure=>exact ms
  ·obtain rfl:k=rs.length:=by omega
   go_wp2_with fail;go_ret;exact ⟨ZB (by rw [Ut]),hb⟩
theorem Da {rs:List ZY} (h:inB rs.length 1 3=false):YW rs=false:=by unfold YW;simp [h]
theorem Db {rs:List ZY} (h:rs.all Y8=false):YW rs=false:=by unfold YW;rw [h];simp
theorem Dc {rs:List ZY} (h:inB rs.length 1 3=true) (h2:rs.all Y8=true):YW rs=decide (ZW rs<=8):=by unfold YW;rw [h,h2];simp
theorem IsRooms.alloc  {rs:List ZY} (h:IsRooms w v rs) (o:Obj):IsRooms (w.alloc o) v rs:=h.below ((ba _ _))
theorem XH  {rs:List ZY} (h:IsRooms w v rs) :
  cB 213 #[.agg #[v]] w (.bool (YW rs)):=by
 have Hv:=Z9 h;obtain ⟨a,cap,rfl,hc,hm,hr⟩:=h;clear hr;have hl:(rs.length:Int)<=9223372036854775807:=by omega
 cases h1:inB rs.length 1 3
 ·go_enter func213,ntmps213
  go_wp2_with fail;refine (Zy _ _ _ _).mono ?_;rintro e w' ⟨rfl,rfl⟩;go_wp2_with fail;go_ret;exact ⟨Z5 (Da h1).symm,(ba _ _)⟩
 cases h2:rs.all Y8
 ·have H2:=Z9 (Db h2)
  generalize hx:rs.all Y8=x at *;have Hx:=Z9 hx;clear hx;subst h2;go_enter func213,ntmps213;go_wp2_with fail;refine (Zy _ _ _ _).mono ?_;rintro e w' ⟨rfl,rfl⟩;go_wp2_with fail;refine (Ox ((uh Hv).alloc _)).mono ?_;rw [uh Hx];rintro e w1 ⟨rfl,hb⟩;go_wp2_with fail;go_ret;exact ⟨Z5 (uh H2).symm,((ba _ _)).trans (hb.mono (by simp))⟩
 ·have H3:=Z9 (Dc h1 h2)
  have Ha:=Z9 (IS h2 (by have:=ZN h1;omega));generalize hx:rs.all Y8=x at *;have Hx:=Z9 hx;clear hx;subst h2;go_enter func213,ntmps213;go_wp2_with fail;refine (Zy _ _ _ _).mono ?_;rintro e w' ⟨rfl,rfl⟩;go_wp2_with fail;refine (Ox ((uh Hv).alloc _)).mono ?_;rw [uh Hx];rintro e w1 ⟨rfl,hb⟩;have hz:w.heap.size+1<=w1.heap.size:=by have:=hb.size;simpa using this
  have hbox:w1.cell? ⟨w.heap.size,0,none⟩=some (.slice a rs.length cap):=by rw [hb.cell (p:=⟨w.heap.size,0,none⟩) (by simp)];simp
  have hw1:=Z9 (((uh Hv).alloc _).below hb);have Hb:=Z9 hb;clear hb;go_wp2_with fail;refine ck (V2 (uh hw1) (uh Ha)) fun w2 hb2=> ?_;have Hb2:=Z9 hb2;clear hb2;go_wp2_with fail;go_ret;exact ⟨Z5 (by rw [uh H3]),((ba _ _)).trans (((uh Hb).trans ((uh Hb2).mono (uh Hb).size)).mono (by simp))⟩
def Wg (rs:List ZY):Int:=if YW rs=true then ZW rs else -1
theorem TP {rs:List ZY} (h:YW rs=true):Wg rs=ZW rs:=by unfold Wg;rw [if_pos h]
theorem P7 {rs:List ZY} (h:YW rs=false):Wg rs= -1:=by unfold Wg;rw [h];rfl
theorem Uk {rs:List ZY} (h:YW rs=true):Adds rs:=IS (Zj h).2.2.1 (Zj h).2.1
theorem VA  {rs:List ZY} (h:IsRooms w v rs) :
  cB 217 #[.agg #[v]] w (.int .i64 (Wg rs)):=by
 have Hv:=Z9 h;obtain ⟨a,cap,rfl,hc,hm,hr⟩:=h;clear hr;cases h1:YW rs
 ·have H1:=Z9 h1
  clear h1;go_enter func217,ntmps217;go_wp2_with fail;refine (XH ((uh Hv).alloc _)).mono ?_;rw [uh H1];rintro e w1 ⟨rfl,hb⟩;go_wp2_with fail;go_ret;exact ⟨ZB (P7 (uh H1)).symm,((ba _ _)).trans (hb.mono (by simp))⟩
 ·have H1:=Z9 h1
  clear h1;go_enter func217,ntmps217;go_wp2_with fail;refine (XH ((uh Hv).alloc _)).mono ?_;rw [uh H1];rintro e w1 ⟨rfl,hb⟩;have hz:w.heap.size+1<=w1.heap.size:=by have:=hb.size;simpa using this
  have hbox:w1.cell? ⟨w.heap.size,0,none⟩=some (.slice a rs.length cap):=by rw [hb.cell (p:=⟨w.heap.size,0,none⟩) (by simp)];simp
  have hw1:=Z9 (((uh Hv).alloc _).below hb);have Hb:=Z9 hb;clear hb;go_wp2_with fail;refine ck (V2 (uh hw1) (Uk (uh H1))) fun w2 hb2=> ?_;have Hb2:=Z9 hb2;clear hb2;go_wp2_with fail;go_ret;exact ⟨ZB (TP (uh H1)).symm,((ba _ _)).trans (((uh Hb).trans ((uh Hb2).mono (uh Hb).size)).mono (by simp))⟩
theorem TA  {rs:List ZY} (h:IsRooms w v rs) (ha:Adds rs) :
  cB 133 #[.agg #[v]] w (.int .i64 (ZW rs)):=by
 obtain ⟨a,cap,rfl,hc,hm,hr⟩:=h;have Hr:=Z9 hr;have Ha:=Z9 ha;clear hr ha;go_enter func133,ntmps133;go_wp2_with fail
 go_loop [3,4] (fun s i=> ∃ k:Nat,k<=rs.length/\i= .int .i64 k/\s= .int .i64 (ZW (rs.take k))) (fun _ i=>rs.length-(intOf i).toNat)
 case atStart=>exact ⟨0,ZA _,rfl,rfl⟩
 case round=>
  obtain ⟨k,hk,rfl,rfl⟩:=hrel;by_cases hlt:k<rs.length
  ·rcases uh Hr with h0 | ⟨b,off,rfl,hbw,hcl⟩
   ·rw [h0] at hlt;simp at hlt
   obtain ⟨c0,pv,c1,hip⟩:=hcl k hlt;have hne:b ≠ w.heap.size:=VH hbw;have hs0:=uh Ha k hk;have hs1:=uh Ha (k+1) hlt;have Hs:=Z9 (XP rs hlt);rw [XP rs hlt] at hs1;generalize ZW (rs.take k)=s at *;generalize (ZQ rs k).1=rb at *;obtain ⟨s0,s1⟩:=hs0;obtain ⟨s2,s3⟩:=hs1;clear hcl hip;go_wp2_with fail
   go_round
   case rel=>exact ⟨k+1,by omega,by go_num,by rw [uh Hs]⟩
   case measure=>exact ms
  ·obtain rfl:k=rs.length:=by omega
   go_wp2_with fail;go_ret;exact ⟨ZB (by first | rfl | rw [Ut]),(ba _ _)⟩
theorem Wm  {rs:List ZY} (h:IsRooms w v rs) :
  cB 131 #[.agg #[v]] w (.bool (YW rs)):=by
 have Hv:=Z9 h;obtain ⟨a,cap,rfl,hc,hm,hr⟩:=h;have Hr:=Z9 hr;clear hr;have hl:(rs.length:Int)<=9223372036854775807:=by omega
 go_enter func131,ntmps131;go_wp2_with fail
 go_loopw [3] (fun i wr=> ∃ k:Nat,k<=rs.length/\i= .int .i64 k/\(∀ j,j<k->Y8 (ZQ rs j)=true)/\Below (w.heap.size+1) (w.alloc (.cells #[.slice a rs.length cap] 26)) wr) (fun i _=>rs.length-(intOf i).toNat)
 case atStart=>exact ⟨0,ZA _,rfl,fun j hj=>by omega,Z3 _ _⟩
 case round=>
  obtain ⟨k,hk,rfl,hst,hb⟩:=hrel;have Hst:=Z9 hst;have Hb:=Z9 hb;have hsz:w.heap.size+1<=wr.heap.size:=by have:=hb.size;simpa using this
  have hbox:wr.cell? ⟨w.heap.size,0,none⟩=some (.slice a rs.length cap):=by rw [hb.cell (p:=⟨w.heap.size,0,none⟩) (by simp)];simp
  have hbB:Below w.heap.size w wr:=((ba _ _)).trans (hb.mono (by omega));clear hst;by_cases hlt:k<rs.length
  ·rcases uh Hr with h0 | ⟨b,off,rfl,hbw,hcl⟩
   ·rw [h0] at hlt;simp at hlt
   obtain ⟨c0,pv,c1,hip⟩:=hcl k hlt;rw [<-hbB.cell (p:=⟨b,off+k*2,none⟩) hbw] at c0;rw [<-hbB.cell (p:=⟨b,off+k*2+1,none⟩) hbw] at c1;have Hip:=Z9 (hip.below hbB);obtain ⟨pa,pcap,rfl,_⟩:=hip;generalize hp:ZQ rs k=p at *;obtain ⟨rb,ps⟩:=p;simp only at c0 c1;have Hp:=Z9 hp;have HbB:=Z9 hbB;clear hp hcl hb hbB;cases hrb:Y8 (rb,ps)
   ·go_wp2_with fail
    refine ck (Yt rb (uh Hip)) fun w1 hb1=> ?_;have Hb1:=Z9 hb1;clear hb1;go_wp2_with fail;go_ret;exact ⟨Z5 (Db (Lo hlt (by rw [uh Hp];exact hrb))).symm,(uh HbB).trans ((uh Hb1).mono (uh HbB).size)⟩
   ·go_wp2_with fail
    refine ck (Yt rb (uh Hip)) fun w1 hb1=> ?_;have Hb1:=Z9 hb1;clear hb1;go_wp2_with fail;go_roundw
    case rel=>exact ⟨k+1,by omega,by go_num,Yj (uh Hst) (by rw [uh Hp];exact hrb),(uh Hb).trans ((uh Hb1).mono hsz)⟩
    case measure=>exact ms
  ·obtain rfl:k=rs.length:=by omega
   have h2:=Lp (uh Hst);have HbB:=Z9 hbB;have hw1:=Z9 ((uh Hv).below hbB);clear hb hbB;cases h1:inB rs.length 1 3
   ·have H2:=Z9 (Da h1)
    clear h2;go_wp2_with fail;refine (ZV _ _ _ _).mono ?_;rintro e w' ⟨rfl,rfl⟩;go_wp2_with fail;go_ret;exact ⟨Z5 (uh H2).symm,uh HbB⟩
   ·have H3:=Z9 (Dc h1 h2)
    have Ha:=Z9 (IS h2 (by have:=ZN h1;omega));clear h2;go_wp2_with fail;refine (ZV _ _ _ _).mono ?_;rintro e w' ⟨rfl,rfl⟩;go_wp2_with fail;refine ck (TA (uh hw1) (uh Ha)) fun w2 hb2=> ?_;have Hb2:=Z9 hb2;clear hb2;go_wp2_with fail;go_ret;exact ⟨Z5 (by rw [uh H3]),(uh HbB).trans ((uh Hb2).mono (uh HbB).size)⟩
open Go.ChangeShapes Go.WideShapes Go.ChangeAt Go.RowKit Go.Sort
theorem IsRooms.shape  {rs:List ZY} (h:IsRooms w v rs):∃ a cap,v= .slice a rs.length cap/\rs.length<=cap/\cap<=9223372036854775807:=by
 obtain ⟨a,cap,rfl,hc,hm,_⟩:=h;exact ⟨a,cap,rfl,hc,hm⟩
def Xl (rs:List ZY) (n:Int):Nat:=((List.range rs.length).find? fun r=>decide (n<ZW (rs.take (r+1)))).getD 0
def YJ (rs:List ZY) (n:Int):Bool:=YW rs && inB n 0 (ZW rs-1)
def Ki (rs:List ZY) (n:Int):Int:=if YJ rs n=true then (Xl rs n:Int) else -1
def Vj (ps:List Z4):Int:=(Z7 ps (ps.length-1)).1
def Zo (rs:List ZY) (n:Int):Int:=if YJ rs n=true then Vj (ZQ rs (Xl rs n)).2 else -1
theorem Rz {rs:List ZY} {n:Int} {r:Nat} (hr:r<rs.length) (h:n<ZW (rs.take (r+1))) (hl:∀ j,j<r->ZW (rs.take (j+1))<=n):Xl rs n=r:=by
 unfold Xl
 have:(List.range rs.length).find? (fun r=>decide (n<ZW (rs.take (r+1))))=some r:=by
  rw [List.find?_range_eq_some];refine ⟨by simpa using h,by simpa using hr,fun j hj=> ?_⟩;have:=hl j hj;simp;omega
 rw [this];rfl
theorem WN {rs:List ZY} {n:Int} (h:YJ rs n=true):YW rs=true/\0<=n/\n<ZW rs:=by
 unfold YJ at h;simp only [ZO] at h;have:=ZN h.2;exact ⟨h.1,by omega,by omega⟩
theorem JU {rs:List ZY} {n:Int} (h:YW rs=true) (h0:0<=n) (h1:n<ZW rs):YJ rs n=true:=by
 unfold YJ;rw [h,Zn (by omega) (by omega)];rfl
theorem Mi {rs:List ZY} {n:Int} (h:YW rs=false):YJ rs n=false:=by unfold YJ;rw [h];rfl
theorem Mj {rs:List ZY} {n:Int} (h:n<0\/ZW rs<=n):YJ rs n=false:=by unfold YJ;rw [Wk (by omega)];simp
theorem Dy {rs:List ZY} {n:Int} (h:YJ rs n=true):Ki rs n=Xl rs n:=by unfold Ki;rw [if_pos h]
theorem Jr {rs:List ZY} {n:Int} (h:YJ rs n=false):Ki rs n= -1:=by unfold Ki;rw [h];rfl
theorem TQ {rs:List ZY} {n:Int} (h:YJ rs n=true):Zo rs n=Vj (ZQ rs (Xl rs n)).2:=by unfold Zo;rw [if_pos h]
theorem F7 {rs:List ZY} {n:Int} (h:YJ rs n=false):Zo rs n= -1:=by unfold Zo;rw [h];rfl
theorem Up {rs:List ZY} {n:Int} (h:YJ rs n=true) {r:Nat} (hr:r<=rs.length) (hl:∀ j,j<r->ZW (rs.take (j+1))<=n):r<rs.length:=by
 rcases Nat.lt_or_ge r rs.length with h1 | h1
 ·exact h1
 ·obtain rfl:r=rs.length:=by omega
  have hb:=WN h;have h3:=Zj hb.1;have:=hl (rs.length-1) (by omega);rw [show rs.length-1+1=rs.length by omega,Ut] at this;omega
theorem Xw {rs:List ZY} (h:YW rs=true) (k:Nat) (hk:k<=rs.length):0<=ZW (rs.take k)/\ZW (rs.take k)<=12:=by
 have h3:=Zj h;have:=QW h3.2.2.1 k hk;omega
theorem Qh {rs:List ZY} {n:Int} (h:YJ rs n=true):Xl rs n<rs.length:=by
 have key:∀ d r:Nat,r+d=rs.length->(∀ j,j<r->ZW (rs.take (j+1))<=n)->Xl rs n<rs.length:=by
  intro d
  induction d with
  | zero=>intro r hr hl;have:=Up h (by omega) hl;omega
  | succ d ih=>
   intro r hr hl;have hlt:=Up h (r:=r) (by omega) hl;by_cases hc:n<ZW (rs.take (r+1))
   ·rw [Rz hlt hc hl];exact hlt
   ·exact ih (r+1) (by omega) (Yj hl (by omega))
 exact key rs.length 0 (by omega) (fun j hj=>by omega)
theorem Rd  {rs:List ZY} (n:Int) (h:IsRooms w v rs) :
  cB 290 #[.agg #[v],.int .i64 n] w (.int .i64 (Ki rs n)):=by
 have Hv:=Z9 h;obtain ⟨a,cap,rfl,hc,hm,hr⟩:=h;clear hr;by_cases h0:n<0
 ·have H1:=Z9 (Jr (Mj (rs:=rs) (.inl h0)))
  go_enter func290,ntmps290;go_wp2_with fail;go_ret;exact ⟨ZB (uh H1).symm,(ba _ _)⟩
 by_cases h1:Wg rs<=n
 ·have H1:Hid (Ki rs n= -1):=Z9 (Jr (by
   cases hh:YW rs
   ·exact Mi hh
   ·rw [TP hh] at h1;exact Mj (.inr h1)))
  go_enter func290,ntmps290;go_wp2_with fail;refine ck (VA ((uh Hv).alloc _)) fun w1 hb=> ?_;have Hb:=Z9 hb;clear hb;generalize Wg rs=m at *;go_wp2_with fail;go_ret;exact ⟨ZB (uh H1).symm,((ba _ _)).trans ((uh Hb).mono (by simp))⟩
 have hh:YW rs=true:=by
  cases hh:YW rs
  ·rw [P7 hh] at h1;omega
  ·rfl
 have H:Hid (YJ rs n=true):=Z9 (JU hh (by omega) (by rw [TP hh] at h1;omega));have Hh:=Z9 hh;clear hh;go_enter func290,ntmps290;go_wp2_with fail;refine ck (VA ((uh Hv).alloc _)) fun w1 hb=> ?_;have hsz:w.heap.size+1<=w1.heap.size:=by have:=hb.size;simpa using this
 have hbox:w1.cell? ⟨w.heap.size,0,none⟩=some (.slice a rs.length cap):=by rw [hb.cell (p:=⟨w.heap.size,0,none⟩) (by simp)];simp
 have B1:Hid (Below w.heap.size w w1):=Z9 (((ba _ _)).trans (hb.mono (by simp)));clear hb;generalize Wg rs=m at *;go_wp2_with fail
 go_loopw [5] (fun i wr=> ∃ r:Nat,r<=rs.length/\i= .int .i64 r/\(∀ j,j<r->ZW (rs.take (j+1))<=n)/\Below w1.heap.size w1 wr) (fun i _=>rs.length-(intOf i).toNat)
 case atStart=>exact ⟨0,ZA _,rfl,fun j hj=>by omega,Z3 _ _⟩
 case round=>
  obtain ⟨r,hr,rfl,hl,hb⟩:=hrel;have hlt:=Up (uh H) hr hl;have hbox2:wr.cell? ⟨w.heap.size,0,none⟩=some (.slice a rs.length cap):=by rw [hb.cell (p:=⟨w.heap.size,0,none⟩) (by show w.heap.size<w1.heap.size;omega)];exact hbox
  have hz:=hb.size;have hl3:rs.length<=3:=(Zj (uh Hh)).2.1;have Hl:=Z9 hl;have Hb:=Z9 hb;have Hw:Hid (IsRooms wr (.slice a (r+1) cap) (rs.take (r+1))):=Z9 ((((uh Hv).below (uh B1)).below hb).taken (by omega));clear hl hb hbox;go_wp2_with fail;refine ck (V2 (uh Hw) ((Uk (uh Hh)).taken _)) fun w2 hb2=> ?_;have hbd:=Xw (uh Hh) (r+1) (by omega);have Hb2:=Z9 hb2;clear hb2;by_cases hc2:n<ZW (rs.take (r+1))
  ·have HN:=Z9 (Rz hlt hc2 (uh Hl))
   generalize ZW (rs.take (r+1))=s at *;go_wp2_with fail;go_ret;exact ⟨ZB (by rw [Dy (uh H),uh HN]),(uh B1).trans (((uh Hb).trans ((uh Hb2).mono hz)).mono (by omega))⟩
  ·have hle:ZW (rs.take (r+1))<=n:=by omega
   have Hle:=Z9 (Yj (uh Hl) hle);generalize ZW (rs.take (r+1))=s at *;go_wp2_with fail;go_roundw
   case rel=>exact ⟨r+1,by omega,by go_num,uh Hle,(uh Hb).trans ((uh Hb2).mono hz)⟩
   case measure=>exact ms
theorem Qb  {rs:List ZY} (n:Int) (h:IsRooms w v rs) (hbn:YJ rs n=true) :
  cB 145 #[.agg #[v],.int .i64 n] w (.int .i64 (Xl rs n)):=by
 obtain ⟨a,cap,rfl,hc,hm,hr⟩:=h;have Hr:=Z9 hr;have H:=Z9 hbn;have hh:=(WN hbn).1;have hn0:=(WN hbn).2.1;have hn1:n<12:=by have h1:=(WN hbn).2.2;have:=(Zj hh).2.2.2;omega
 have Hh:=Z9 hh;have hl3:rs.length<=3:=(Zj hh).2.1;clear hr hbn hh;go_enter func145,ntmps145;go_wp2_with fail
 go_loop [1,5] (fun q i=> ∃ r:Nat,r<=rs.length/\i= .int .i64 r/\q= .int .i64 (n-ZW (rs.take r))/\(∀ j,j<r->ZW (rs.take (j+1))<=n)) (fun _ i=>rs.length-(intOf i).toNat)
 case atStart=>exact ⟨0,ZA _,rfl,by simp [ZW],fun j hj=>by omega⟩
 case round=>
  obtain ⟨r,hr,rfl,rfl,hl⟩:=hrel;have hlt:=Up (uh H) hr hl
  rcases uh Hr with e0 | ⟨b,off,rfl,hbw,hcl⟩
  ·rw [e0] at hlt;simp at hlt
  obtain ⟨c0,pv,c1,hip⟩:=hcl r hlt;have hne:b ≠ w.heap.size:=VH hbw;have Hl:=Z9 hl;have hb0:=Xw (uh Hh) r hr;have hb1:=Xw (uh Hh) (r+1) hlt;have Hs:=Z9 (XP rs hlt);have HN:Hid (n<ZW (rs.take (r+1))->Xl rs n=r):=Z9 (fun hx=>Rz hlt hx (uh Hl));have HM:Hid (ZW (rs.take (r+1))<=n-> ∀ j,j<r+1->ZW (rs.take (j+1))<=n):=Z9 (fun hx=>Yj (uh Hl) hx);rw [XP rs hlt] at hb1 HN HM;generalize ZW (rs.take r)=s at *;generalize (ZQ rs r).1=rb at *;clear hcl hip hl;by_cases hq:rb<=n-s
  ·go_wp2_with fail
   go_round
   case rel=>exact ⟨r+1,by omega,by go_num,by rw [uh Hs];congr 1;omega,uh HM (by omega)⟩
   case measure=>exact ms
  ·go_wp2_with fail
   go_ret;exact ⟨ZB (by rw [uh HN (by omega)]),(ba _ _)⟩
theorem Gv  {rs:List ZY} (n:Int) (h:IsRooms w v rs) :
  cB 79 #[.agg #[v],.int .i64 n] w (.bool (YJ rs n)):=by
 have Hv:=Z9 h;obtain ⟨a,cap,rfl,hc,hm⟩:∃ a cap,v= .slice a rs.length cap/\rs.length<=cap/\cap<=9223372036854775807:=by obtain ⟨a,cap,rfl,hc,hm,_⟩:=h;exact ⟨a,cap,rfl,hc,hm⟩
 clear h;cases h1:YW rs
 ·have H2:=Z9 (Mi (n:=n) h1)
  go_enter func79,ntmps79;go_wp2_with fail;refine ck (Wm ((uh Hv).alloc _)) fun w1 hb=> ?_;have Hb:=Z9 hb;clear hb;go_wp2_with fail;go_ret;exact ⟨Z5 (uh H2).symm,((ba _ _)).trans ((uh Hb).mono (by simp))⟩
 ·have H2:Hid (YJ rs n=inB n 0 (ZW rs-1)):=Z9 (by unfold YJ;rw [h1];rfl)
  have hbs:=Xw h1 rs.length (Z0 _);rw [Ut] at hbs;have H1:=Z9 h1;go_enter func79,ntmps79;go_wp2_with fail;refine ck (Wm ((uh Hv).alloc _)) fun w1 hb=> ?_;have hz:w.heap.size+1<=w1.heap.size:=by have:=hb.size;simpa using this
  have hbox:w1.cell? ⟨w.heap.size,0,none⟩=some (.slice a rs.length cap):=by rw [hb.cell (p:=⟨w.heap.size,0,none⟩) (by simp)];simp
  have hw1:=Z9 (((uh Hv).alloc _).below hb);have Hb:=Z9 hb;clear hb;go_wp2_with fail;refine ck (TA (uh hw1) (Uk (uh H1))) fun w2 hb2=> ?_;have Hb2:=Z9 hb2;clear hb2;generalize ZW rs=s at *;go_wp2_with fail;refine (ZV _ _ _ _).mono ?_;rintro e w' ⟨rfl,rfl⟩;go_wp2_with fail;go_ret;exact ⟨Z5 (uh H2).symm,((ba _ _)).trans (((uh Hb).trans ((uh Hb2).mono (uh Hb).size)).mono (by simp))⟩
theorem Dz {a:Option Addr} {cap:Nat} {rs:List ZY} {r:Nat} (h:IsRooms w (.slice a rs.length cap) rs) (hr:r<rs.length) (hh:YW rs=true) :
  ∃ b off a' cap',a=some ⟨b,off,none⟩/\b<w.heap.size/\w.cell? ⟨b,off+r*2+1,none⟩=some (.slice (some a') (ZQ rs r).2.length cap')/\1<=(ZQ rs r).2.length/\(ZQ rs r).2.length<=4/\a'.spot=none/\a'.block<w.heap.size/\w.cell? ⟨a'.block,a'.off+((ZQ rs r).2.length-1)*2,none⟩=some (.int .i64 (Vj (ZQ rs r).2)):=by
 obtain ⟨a0,cap0,he,hc,hm,hr'⟩:=h;cases he
 rcases hr' with e0 | ⟨b,off,rfl,hbw,hcl⟩
 ·rw [e0] at hr;simp at hr
 obtain ⟨_,pv,c1,hip⟩:=hcl r hr;have hb:=QQ (Tq (Zj hh).2.2.1 hr);obtain ⟨pa,pcap,rfl,_,_,hp⟩:=hip
 rcases hp with e1 | ⟨b',off',rfl,hbw',hcl'⟩
 ·rw [e1] at hb;simp at hb
 ·exact ⟨b,off,⟨b',off',none⟩,pcap,rfl,hbw,c1,hb.2.2.1,hb.2.2.2,rfl,hbw',(hcl' _ (by omega)).1⟩
theorem NQ  {rs:List ZY} (n:Int) (h:IsRooms w v rs) :
  cB 241 #[.agg #[v],.int .i64 n] w (.int .i64 (Zo rs n)):=by
 have Hv:=Z9 h;obtain ⟨a,cap,rfl,hc,hm⟩:∃ a cap,v= .slice a rs.length cap/\rs.length<=cap/\cap<=9223372036854775807:=by obtain ⟨a,cap,rfl,hc,hm,_⟩:=h;exact ⟨a,cap,rfl,hc,hm⟩
 clear h;cases h1:YJ rs n
 ·have H2:=Z9 (F7 h1)
  have H3:=Jr h1;have H3':=Z9 H3;clear H3 h1;go_enter func241,ntmps241;go_wp2_with fail;refine (Rd n ((uh Hv).alloc _)).mono ?_;rw [uh H3'];rintro e w1 ⟨rfl,hb⟩;have Hb:=Z9 hb;clear hb;go_wp2_with fail;go_ret;exact ⟨ZB (uh H2).symm,((ba _ _)).trans ((uh Hb).mono (by simp))⟩
 ·have H2:=Z9 (TQ h1)
  have H3:=Z9 (Dy h1);have hlt:=Qh h1;have Hh:=Z9 (WN h1).1;have hl3:rs.length<=3:=(Zj (WN h1).1).2.1;clear h1;go_enter func241,ntmps241;go_wp2_with fail;refine (Rd n ((uh Hv).alloc _)).mono ?_;rw [uh H3];rintro e w1 ⟨rfl,hb⟩;have hz:w.heap.size+1<=w1.heap.size:=by have:=hb.size;simpa using this
  have hbox:w1.cell? ⟨w.heap.size,0,none⟩=some (.slice a rs.length cap):=by rw [hb.cell (p:=⟨w.heap.size,0,none⟩) (by simp)];simp
  have hw1:=((uh Hv).alloc _).below hb;have Hb:=Z9 hb;obtain ⟨b,off,a',cap',rfl,hbw,d1,p1,p4,sp,hbw',d2⟩:=Dz hw1 hlt (uh Hh);obtain ⟨b',off',sp'⟩:=a';simp only at sp hbw' d2;subst sp;clear hb hw1 H3;generalize Xl rs n=r at *;generalize Vj (ZQ rs r).2=fo at *;generalize (ZQ rs r).2.length=m at *;have hr0:((r:Int) == -1)=false:=beq_eq_false_iff_ne.2 (by omega);go_wp2_with fail;go_ret;exact ⟨ZB (uh H2).symm,((ba _ _)).trans ((uh Hb).mono (by simp))⟩
theorem VL  {rs:List ZY} (n:Int) (h:IsRooms w v rs) (h1:YJ rs n=true) :
  cB 80 #[.agg #[v],.int .i64 n] w (.int .i64 (Vj (ZQ rs (Xl rs n)).2)):=by
 have Hv:=Z9 h;obtain ⟨a,cap,rfl,hc,hm⟩:∃ a cap,v= .slice a rs.length cap/\rs.length<=cap/\cap<=9223372036854775807:=by obtain ⟨a,cap,rfl,hc,hm,_⟩:=h;exact ⟨a,cap,rfl,hc,hm⟩
 clear h;have hlt:=Qh h1;have Hh:=Z9 (WN h1).1;have H1:=Z9 h1;have hl3:rs.length<=3:=(Zj (WN h1).1).2.1;clear h1;have hw1:=(uh Hv).alloc (.cells #[.slice a rs.length cap] 26);have Hw1:=Z9 hw1;obtain ⟨b,off,a',cap',rfl,hbw,d1,p1,p4,sp,hbw',d2⟩:=Dz hw1 hlt (uh Hh);obtain ⟨b',off',sp'⟩:=a';simp only at sp hbw' d2;subst sp;clear hw1;have k0:=ZX (w:=w.alloc (.cells #[.slice (some ⟨b,off,none⟩) rs.length cap] 26)) (a:=⟨w.heap.size,0,none⟩) (v:= .slice (some ⟨b,off,none⟩) rs.length cap) (by simp);have k1:=ZX d1;have k2:=ZX d2;clear d1 d2;go_enter func80,ntmps80;go_wp2_with fail;refine wq ?_
 repeat (go_big_quiet_step (exact ZZ (Qb n ((uh Hw1).below (Z1 _ _ _)) (uh H1))))
 refine wpQuiet_nil ?_;intro _ hw';obtain ⟨⟨dq,osq⟩,hw''⟩:=hw';subst hw'';generalize hr1:Xl rs n=r at *;generalize hr2:Vj (ZQ rs r).2=fo at *;generalize (ZQ rs r).2.length=m at *;have Hr1:=Z9 hr1;have Hr2:=Z9 hr2;clear hr1 hr2;go_wp2_with fail;go_ret;exact ⟨ZB (by rw [uh Hr1,uh Hr2]),((ba _ _)).trans ((Z1 _ _ _).mono (by simp))⟩
theorem UN  {rs:List ZY} (n:Int) (h:IsRooms w v rs) :
  cB 31 #[.agg #[v],.int .i64 n] w (.int .i64 (Zo rs n)):=by
 have Hv:=Z9 h;obtain ⟨a,cap,rfl,hc,hm⟩:∃ a cap,v= .slice a rs.length cap/\rs.length<=cap/\cap<=9223372036854775807:=by obtain ⟨a,cap,rfl,hc,hm,_⟩:=h;exact ⟨a,cap,rfl,hc,hm⟩
 clear h;cases h1:YJ rs n
 ·have H2:=Z9 (F7 h1)
  go_enter func31,ntmps31;go_wp2_with fail;refine ck (Gv n ((uh Hv).alloc _)) fun w1 hb=> ?_;have Hb:=Z9 hb;clear hb;go_wp2_with fail;go_ret;exact ⟨ZB (uh H2).symm,((ba _ _)).trans ((uh Hb).mono (by simp))⟩
 ·have H2:=Z9 (TQ h1)
  have H1:=Z9 h1;go_enter func31,ntmps31;go_wp2_with fail;refine ck (Gv n ((uh Hv).alloc _)) fun w1 hb=> ?_;have hz:w.heap.size+1<=w1.heap.size:=by have:=hb.size;simpa using this
  have hbox:w1.cell? ⟨w.heap.size,0,none⟩=some (.slice a rs.length cap):=by rw [hb.cell (p:=⟨w.heap.size,0,none⟩) (by simp)];simp
  have hw1:=Z9 (((uh Hv).alloc _).below hb);have Hb:=Z9 hb;clear hb;go_wp2_with fail;refine ck (VL n (uh hw1) (uh H1)) fun w2 hb2=> ?_;have Hb2:=Z9 hb2;clear hb2;go_wp2_with fail;go_ret;exact ⟨ZB (uh H2).symm,((ba _ _)).trans (((uh Hb).trans ((uh Hb2).mono (uh Hb).size)).mono (by simp))⟩
def TU (rs:List ZY) (n:Int):Bool:=YW rs && inB n 0 ((rs.length:Int)-1)
def CW (lo hi:Int):Int:=(2:Int) ^ hi.toNat-2 ^ lo.toNat
def U3 (rs:List ZY) (n:Int):Int:=if TU rs n=true then CW (ZW (rs.take n.toNat)) (ZW (rs.take (n.toNat+1))) else -1
theorem A1 {rs:List ZY} {n:Int} (h:TU rs n=true):U3 rs n=CW (ZW (rs.take n.toNat)) (ZW (rs.take (n.toNat+1))):=by unfold U3;rw [if_pos h]
theorem ES {rs:List ZY} {n:Int} (h:TU rs n=false):U3 rs n= -1:=by unfold U3;rw [h];rfl
theorem BT {rs:List ZY} {n:Int} (h:YW rs=false):TU rs n=false:=by unfold TU;rw [h];rfl
theorem JX {rs:List ZY} {n:Int} (h:n<0\/rs.length<=n):TU rs n=false:=by unfold TU;rw [Wk (by omega)];simp
theorem O6 {s:Int} (h0:0<=s) (h1:s<=12):1<=(2:Int) ^ s.toNat/\(2:Int) ^ s.toNat<=4096:=by
 have key:∀ k:Fin 13,1<=(2:Int) ^ k.val/\(2:Int) ^ k.val<=4096:=by decide
 exact key ⟨s.toNat,by omega⟩
theorem SJ {x:Int} (h0 : -100000<=x) (h1:x<=100000):wrap64 x=x:=by unfold wrap64;omega
theorem SR  {rs:List ZY} (n:Int) (h:IsRooms w v rs) :
  cB 237 #[.agg #[v],.int .i64 n] w (.int .i64 (U3 rs n)):=by
 have Hv:=Z9 h;obtain ⟨a,cap,rfl,hc,hm⟩:∃ a cap,v= .slice a rs.length cap/\rs.length<=cap/\cap<=9223372036854775807:=by obtain ⟨a,cap,rfl,hc,hm,_⟩:=h;exact ⟨a,cap,rfl,hc,hm⟩
 clear h;have Hb0:Hid (Below w.heap.size w (w.alloc (.cells #[.slice a rs.length cap] 26))):=Z9 ((ba _ _));cases h1:YW rs
 ·have H2:=Z9 (ES (BT (n:=n) h1))
  go_enter func237,ntmps237;go_wp2_with fail;refine ck (XH ((uh Hv).alloc _)) fun w1 hb=> ?_;have Hb:=Z9 hb;clear hb;go_wp2_with fail;go_ret;exact ⟨ZB (uh H2).symm,(uh Hb0).trans ((uh Hb).mono (by simp))⟩
 by_cases h2:n<0
 ·have H2:=Z9 (ES (JX (rs:=rs) (.inl h2)))
  go_enter func237,ntmps237;go_wp2_with fail;refine ck (XH ((uh Hv).alloc _)) fun w1 hb=> ?_;have Hb:=Z9 hb;clear hb;go_wp2_with fail;go_ret;exact ⟨ZB (uh H2).symm,(uh Hb0).trans ((uh Hb).mono (by simp))⟩
 by_cases h3:(rs.length:Int)<=n
 ·have H2:=Z9 (ES (JX (rs:=rs) (.inr h3)))
  go_enter func237,ntmps237;go_wp2_with fail;refine ck (XH ((uh Hv).alloc _)) fun w1 hb=> ?_;have hbox:w1.cell? ⟨w.heap.size,0,none⟩=some (.slice a rs.length cap):=by rw [hb.cell (p:=⟨w.heap.size,0,none⟩) (by simp)];simp
  have Hb:=Z9 hb;clear hb;go_wp2_with fail;go_ret;exact ⟨ZB (uh H2).symm,(uh Hb0).trans ((uh Hb).mono (by simp))⟩
 have h4:TU rs n=true:=by unfold TU;rw [h1,Zn (by omega) (by omega)];rfl
 have H2:=Z9 (A1 h4);obtain ⟨r,rfl⟩:=Int.eq_ofNat_of_zero_le (show 0<=n by omega);have H1:=Z9 h1;have Ha:=Z9 (Uk h1);have hl3:rs.length<=3:=(Zj h1).2.1;have hb0:=Xw h1 r (by omega);have hb1:=Xw h1 (r+1) (by omega);go_enter func237,ntmps237;go_wp2_with fail;refine ck (XH ((uh Hv).alloc _)) fun w1 hb=> ?_;have hbox:w1.cell? ⟨w.heap.size,0,none⟩=some (.slice a rs.length cap):=by rw [hb.cell (p:=⟨w.heap.size,0,none⟩) (by simp)];simp
 have k0:=ZX hbox;have Hb:=Z9 hb;have Hw:=Z9 (((uh Hv).alloc _).below hb);clear hb h4;go_wp2_with fail;refine wq ?_
 repeat (go_big_quiet_step (first | exact ZZ (V2 (((uh Hw).below (Z1 _ _ _)).taken (n:=r) (by omega)) ((uh Ha).taken _)) | exact ZZ (V2 (((uh Hw).below (Z1 _ _ _)).taken (n:=r+1) (by omega)) ((uh Ha).taken _))))
 refine wpQuiet_nil ?_;intro _ hw';obtain ⟨⟨dq,osq⟩,hw''⟩:=hw';subst hw'';rw [Zp] at H2;generalize ZW (rs.take r)=s0 at *;generalize ZW (rs.take (r+1))=s1 at *;obtain ⟨x0,x1⟩:=hb0;obtain ⟨y0,y1⟩:=hb1;go_wp2_with fail;go_quiet (fail);go_wp2_with fail;go_ret;refine ⟨ZB ?_,(uh Hb0).trans (((uh Hb).trans (WV ((Z1 _ _ _).mono (uh Hb).size) _)).mono (by simp))⟩;have p0:=O6 x0 x1;have p1:=O6 y0 y1;rw [uh H2,SJ (x:=2 ^ s1.toNat) (by omega) (by omega),SJ (x:=2 ^ s0.toNat) (by omega) (by omega),SJ (x:=2 ^ s1.toNat-2 ^ s0.toNat) (by omega) (by omega)];rfl
theorem U8 {rs:List ZY} (h:rs.all Y8=true) {i:Nat} : ∀ d,i+d<=rs.length->ZW (rs.take i)<=ZW (rs.take (i+d))
 | 0,_=>Int.le_refl _
 | d+1,hd=>by
  have ih:=U8 h (i:=i) d (by omega);have hb:=QQ (Tq h (j:=i+d) (by omega));rw [<-Nat.add_assoc,XP rs (by omega)];omega
theorem DA {rs:List ZY} {n:Int} (h:YJ rs n=true) {r:Nat} (hr:r<rs.length):Xl rs n=r ↔ ZW (rs.take r)<=n/\n<ZW (rs.take (r+1)):=by
 have hb:=WN h;have ha:=(Zj hb.1).2.2.1
 have key:∀ d q:Nat,q+d=rs.length->(∀ j,j<q->ZW (rs.take (j+1))<=n)->ZW (rs.take (Xl rs n))<=n/\n<ZW (rs.take (Xl rs n+1)):=by
  intro d
  induction d with
  | zero=>intro q hq hl;have:=Up h (by omega) hl;omega
  | succ d ih=>
   intro q hq hl;have hlt:=Up h (r:=q) (by omega) hl;by_cases hc:n<ZW (rs.take (q+1))
   ·rw [Rz hlt hc hl]
    refine ⟨?_,hc⟩;cases q with
    | zero=>simp [ZW];omega
    | succ q=>exact hl q (by omega)
   ·exact ih (q+1) (by omega) (Yj hl (by omega))
 constructor
 ·intro e;have:=key rs.length 0 (by omega) (fun j hj=>by omega);rwa [e] at this
 ·intro hx
  refine Rz hr hx.2 (fun j hj=> ?_);have:=U8 ha (i:=j+1) (r-(j+1)) (by omega);rw [show j+1+(r-(j+1))=r by omega] at this;omega
theorem Rm (b:Int) (h0:0<=b) (h1:b<=12) (w:World):cE 282 #[.int .i64 b] w (.int .i64 (2 ^ b.toNat)):=by
 go_enter func282,ntmps282
 go_wp2
 all_goals
  go_ret;refine ⟨ZB ?_,rfl⟩;have:=O6 h0 h1;exact SJ (by omega) (by omega)
theorem zM {lo hi b:Int} (h0:0<=lo) (h1:lo<=hi) (h2:hi<=8) (hb0 : -1<=b) (hb1:b<=8):UL (CW lo hi) b=decide (lo<=b/\b<hi):=by
 have key:∀ b:Fin 10,∀ hi:Fin 9,∀ lo:Fin 9,lo.val<=hi.val->UL (CW lo.val hi.val) ((b.val:Int)-1)=decide ((lo.val:Int)<=(b.val:Int)-1/\(b.val:Int)-1<hi.val):=by decide +kernel
 have:=key ⟨(b+1).toNat,by omega⟩ ⟨hi.toNat,by omega⟩ ⟨lo.toNat,by omega⟩ (by show lo.toNat<=hi.toNat;omega);simp only [show ((lo.toNat:Nat):Int)=lo by omega,show ((hi.toNat:Nat):Int)=hi by omega,show (((b+1).toNat:Nat):Int)-1=b by omega] at this;exact this
end Go.Proofs.YtgdpaigcmoifbaaGreat
