/- Part 7 of what the proof rests on. No condition but those that a theorem names. -/
import Derived.Test.YtlcpgkakdieeaaaGreatXk03
set_option maxHeartbeats 8000000
set_option maxRecDepth 100000
namespace Go.Proofs.YtlcpgkakdieeaaaGreat
open Go.ChangeShapes Go.WideShapes Go.ChangeAt Go.RowKit Go.Sort Go.Proofs.Tryz
set_option linter.unusedVariables false
variable {w w' w0 w1 w2 w3 w₀ wr W W' X A B C : World} {v v0 v1 v2 v3 v4 u u0 u1 u2 u3 u4 : Value}
theorem FF {b:Int} {ps:List Z4} (h:inB b 1 4=false):Ze (b,ps)=false:=by unfold Ze;simp [h]
theorem FG {b:Int} {ps:List Z4} (h:inB ps.length 1 4=false):Ze (b,ps)=false:=by unfold Ze;simp [h]
theorem FH {b:Int} {ps:List Z4} (h:inB b 1 4=true) (h2:inB ps.length 1 4=true):Ze (b,ps)=To ps:=by unfold Ze;simp [h,h2]
theorem Sp  {ps:List Z4} (b:Int) (h:IsPaces w v ps) :
  cB 141 #[.agg #[.int .i64 b,v]] w (.bool (Ze (b,ps))):=by
 have Hv:=Z9 h;obtain ⟨a,cap,rfl,hc,hm,hr⟩:=h;clear hr;have hl:(ps.length:Int)<=9223372036854775807:=by omega
 cases h1:inB b 1 4
 ·go_enter func141,ntmps141
  go_wp2_with fail;refine (Zq _ _ _ _).mono ?_;rintro e w' ⟨rfl,rfl⟩;go_wp2_with fail;go_ret;exact ⟨Z5 (FF h1).symm,(ba _ _)⟩
 cases h2:inB ps.length 1 4
 ·go_enter func141,ntmps141
  go_wp2_with fail;refine (Zq _ _ _ _).mono ?_;rintro e w' ⟨rfl,rfl⟩;go_wp2_with fail;refine (Zq _ _ _ _).mono ?_;rintro e w' ⟨rfl,rfl⟩;go_wp2_with fail;go_ret;exact ⟨Z5 (FG h2).symm,(ba _ _)⟩
 ·have H3:=Z9 (FH h1 h2)
  go_enter func141,ntmps141;go_wp2_with fail;refine (Zq _ _ _ _).mono ?_;rintro e w' ⟨rfl,rfl⟩;go_wp2_with fail;refine (Zq _ _ _ _).mono ?_;rintro e w' ⟨rfl,rfl⟩;go_wp2_with fail;refine ck (JG ((uh Hv).below ((ba _ _)))) fun w1 hb=> ?_;go_wp2_with fail;go_ret;exact ⟨Z5 (uh H3).symm,((ba _ _)).trans (hb.mono (by simp))⟩
theorem WS {B:Nat} (h:Below B w w') (n:Nat):Below B w (w'.drewN n):=⟨h.os,h.tape,h.output,h.size,h.block⟩
theorem Dz {ps:List Z4} {k:Nat} {f c:Int} (hp:Z7 ps k=(f,c)) (h:inB f 1 1024=false):Xd ps k=false:=by unfold Xd UN;rw [hp];simp [h]
theorem DA {ps:List Z4} {k:Nat} {f c:Int} (hp:Z7 ps k=(f,c)) (h:inB c 1 1024=false):Xd ps k=false:=by unfold Xd UN;rw [hp];simp [h]
theorem BS {ps:List Z4} {k:Nat} {f c f' c':Int} (hp:Z7 ps k=(f,c)) (hz:0<k) (hq:Z7 ps (k-1)=(f',c')) (h1:inB f 1 1024=true) (h2:inB c 1 1024=true):Xd ps k=(decide (f'<f) && decide (c'<c)):=by
 unfold Xd UN Rh;rw [hp,hq];simp [h1,h2];omega
theorem DC {ps:List Z4} {f c:Int} (hp:Z7 ps 0=(f,c)) (h1:inB f 1 1024=true) (h2:inB c 1 1024=true):Xd ps 0=true:=by unfold Xd UN;rw [hp];simp [h1,h2]
theorem YJ  {ps:List Z4} (rb:Int) (h:IsPaces w v ps) :
  cB 63 #[.agg #[.int .i64 rb,v]] w (.bool (Ze (rb,ps))):=by
 obtain ⟨a,cap,rfl,hc,hm,hr⟩:=h;have Hr:=Z9 hr;clear hr;have hl:(ps.length:Int)<=9223372036854775807:=by omega
 cases h1:inB rb 1 4
 ·go_enter func63,ntmps63
  go_wp2_with fail;refine (ZV _ _ _ _).mono ?_;rintro e w' ⟨rfl,rfl⟩;go_wp2_with fail;go_ret;exact ⟨Z5 (FF h1).symm,(ba _ _)⟩
 cases h2:inB ps.length 1 4
 ·go_enter func63,ntmps63
  go_wp2_with fail;refine (ZV _ _ _ _).mono ?_;rintro e w' ⟨rfl,rfl⟩;go_wp2_with fail;refine (ZV _ _ _ _).mono ?_;rintro e w' ⟨rfl,rfl⟩;go_wp2_with fail;go_ret;exact ⟨Z5 (FG h2).symm,(ba _ _)⟩
 have H3:=Z9 (FH h1 h2);go_enter func63,ntmps63;go_wp2_with fail;refine (ZV _ _ _ _).mono ?_;rintro e w' ⟨rfl,rfl⟩;go_wp2_with fail;refine (ZV _ _ _ _).mono ?_;rintro e w' ⟨rfl,rfl⟩;go_wp2_with fail;clear h1 h2
 go_loopw [3] (fun i wr=> ∃ k:Nat,k<=ps.length/\i= .int .i64 k/\(∀ j,j<k->Xd ps j=true)/\Below (w.heap.size+1) (w.alloc (.cells #[.int .i64 rb,.slice a ps.length cap] 78)) wr) (fun i _=>ps.length-(intOf i).toNat)
 case atStart=>exact ⟨0,ZC _,rfl,fun j hj=>by omega,ZZ _ _⟩
 case round=>
  obtain ⟨k,hk,rfl,hst,hb⟩:=hrel;have Hst:=Z9 hst;have Hb:=Z9 hb;clear hst;have hsz:w.heap.size+1<=wr.heap.size:=by have:=hb.size;simpa using this
  have hbox:wr.cell? ⟨w.heap.size,1,none⟩=some (.slice a ps.length cap):=by rw [hb.cell (p:=⟨w.heap.size,1,none⟩) (by simp)];simp
  have hne0:w.heap.size ≠ wr.heap.size:=by omega
  by_cases hlt:k<ps.length
  ·rcases uh Hr with h0 | ⟨b,off,rfl,hbw,hcl⟩
   ·rw [h0] at hlt;simp at hlt
   have hbB:Below w.heap.size w wr:=((ba _ _)).trans (hb.mono (by omega));have hne:b ≠ wr.heap.size:=by omega
   have hne':b ≠ w.heap.size:=by omega
   obtain ⟨c0,c1⟩:=hcl k hlt;rw [<-hbB.cell (p:=⟨b,off+k*2,none⟩) hbw] at c0;rw [<-hbB.cell (p:=⟨b,off+k*2+1,none⟩) hbw] at c1;generalize hp:Z7 ps k=p at c0 c1;have Hp:=Z9 hp;obtain ⟨f,c⟩:=p;simp only at c0 c1;clear hp hb;cases h1:inB f 1 1024
   ·clear hcl
    go_wp2_with fail;go_quiet (exact Yw (ZV _ _ _ _));go_wp2_with fail;go_ret;exact ⟨Z5 (by rw [uh H3];exact (TP hlt (Dz (uh Hp) h1)).symm),((ba _ _)).trans ((WS ((uh Hb).alloc hsz _) _).mono (by omega))⟩
   cases h2:inB c 1 1024
   ·clear hcl
    go_wp2_with fail;go_quiet (exact Yw (ZV _ _ _ _));go_wp2_with fail;go_ret;exact ⟨Z5 (by rw [uh H3];exact (TP hlt (DA (uh Hp) h2)).symm),((ba _ _)).trans ((WS ((uh Hb).alloc hsz _) _).mono (by omega))⟩
   by_cases hz:0<k
   ·have hd:decide (0<k)=true:=VJ hz
    obtain ⟨e0,e1⟩:=hcl (k-1) (by omega);rw [<-hbB.cell (p:=⟨b,off+(k-1)*2,none⟩) hbw] at e0;rw [<-hbB.cell (p:=⟨b,off+(k-1)*2+1,none⟩) hbw] at e1;generalize hq:Z7 ps (k-1)=q at e0 e1;have Hq:=Z9 hq;obtain ⟨f',c'⟩:=q;simp only at e0 e1;have q0:(wr.alloc (.cells #[.int .i64 f,.int .i64 c] 102)).cell? ⟨w.heap.size,1,none⟩=some (.slice (some ⟨b,off,none⟩) ps.length cap):=by rw [World.cell?_alloc_old _ _ _ hne0];exact hbox
    have q1:(wr.alloc (.cells #[.int .i64 f,.int .i64 c] 102)).cell? ⟨b,off+(k-1)*2,none⟩=some (.int .i64 f'):=by rw [World.cell?_alloc_old _ _ _ hne];exact e0
    have q2:(wr.alloc (.cells #[.int .i64 f,.int .i64 c] 102)).cell? ⟨b,off+(k-1)*2+1,none⟩=some (.int .i64 c'):=by rw [World.cell?_alloc_old _ _ _ hne];exact e1
    clear hcl hq e0 e1;have Hs:=Z9 (BS (uh Hp) hz (uh Hq) h1 h2);by_cases g1:f<=f'
    ·have g1':decide (f<=f')=true:=VJ g1
     go_wp2_with fail;go_quiet (exact Yw (ZV _ _ _ _));go_wp2_with fail;go_ret;exact ⟨Z5 (by rw [uh H3];exact (TP hlt (by rw [uh Hs];simp;omega)).symm),((ba _ _)).trans ((WS ((uh Hb).alloc hsz _) _).mono (by omega))⟩
    have g1':decide (f<=f')=false:=Xs g1;by_cases g2:c<=c'
    ·have g2':decide (c<=c')=true:=VJ g2
     go_wp2_with fail;go_quiet (exact Yw (ZV _ _ _ _));go_wp2_with fail;go_ret;exact ⟨Z5 (by rw [uh H3];exact (TP hlt (by rw [uh Hs];simp;omega)).symm),((ba _ _)).trans ((WS ((uh Hb).alloc hsz _) _).mono (by omega))⟩
    ·have g2':decide (c<=c')=false:=Xs g2
     go_wp2_with fail;go_quiet (exact Yw (ZV _ _ _ _));go_wp2_with fail;go_roundw
     case rel=>exact ⟨k+1,by omega,by go_num,Yi (uh Hst) (by rw [uh Hs];simp;omega),WS ((uh Hb).alloc hsz _) _⟩
     case measure=>exact ms
   ·obtain rfl:k=0:=by omega
    simp only [Nat.zero_mul,Nat.add_zero] at c0 c1;clear hcl hz;go_wp2_with fail;go_quiet (exact Yw (ZV _ _ _ _));go_wp2_with fail;go_roundw
    case rel=>exact ⟨1,by omega,by go_num,Yi (uh Hst) (DC (uh Hp) h1 h2),WS ((uh Hb).alloc hsz _) _⟩
    case measure=>exact ms
  ·obtain rfl:k=ps.length:=by omega
   clear hb;go_wp2_with fail;go_ret;exact ⟨Z5 (by rw [uh H3];exact (JF (uh Hst)).symm),((ba _ _)).trans ((uh Hb).mono (by omega))⟩
def Adds (rs:List ZW):Prop:= ∀ k,k<=rs.length->0<=ZU (rs.take k)/\ZU (rs.take k)<=1000000
theorem Kv {rs:List ZW} (h:rs.all Ze=true) (hl:rs.length<=3):Adds rs:=fun k hk=>by have:=Sc h k hk;omega
theorem Adds.taken {rs:List ZW} (h:Adds rs) (n:Nat):Adds (rs.take n):=fun k hk=>by
 have hk':k<=n/\k<=rs.length:=by simp at hk;omega
 rw [List.take_take,Nat.min_eq_left hk'.1];exact h k hk'.2
theorem PJ  {rs:List ZW} (h:IsRooms w v rs) :
  cB 100 #[v] w (.bool (rs.all Ze)):=by
 obtain ⟨a,cap,rfl,hc,hm,hr⟩:=h;have Hr:=Z9 hr;clear hr;go_enter func100,ntmps100;go_wp2_with fail
 go_loopw [7] (fun i wr=> ∃ k:Nat,k<=rs.length/\i= .int .i64 k/\(∀ j,j<k->Ze (ZR rs j)=true)/\Below w.heap.size w wr) (fun i _=>rs.length-(intOf i).toNat)
 case atStart=>exact ⟨0,ZC _,rfl,fun j hj=>by omega,ZZ _ _⟩
 case round=>
  obtain ⟨k,hk,rfl,hst,hb⟩:=hrel;have Hst:=Z9 hst;have Hb:=Z9 hb;have hsz:=hb.size;clear hst;by_cases hlt:k<rs.length
  ·rcases uh Hr with h0 | ⟨b,off,rfl,hbw,hcl⟩
   ·rw [h0] at hlt;simp at hlt
   obtain ⟨c0,pv,c1,hip⟩:=hcl k hlt;rw [<-hb.cell (p:=⟨b,off+k*2,none⟩) hbw] at c0;rw [<-hb.cell (p:=⟨b,off+k*2+1,none⟩) hbw] at c1;have Hip:=Z9 (hip.below hb);obtain ⟨pa,pcap,rfl,_⟩:=hip;generalize hp:ZR rs k=p at *;obtain ⟨rb,ps⟩:=p;simp only at c0 c1;have Hp:=Z9 hp;clear hp hcl hb;cases hrb:Ze (rb,ps)
   ·go_wp2_with fail
    refine ck (Sp rb ((uh Hip).below ((ba _ _)))) fun w1 hb1=> ?_;go_wp2_with fail;go_ret;exact ⟨Z5 (Na hlt (by rw [uh Hp];exact hrb)).symm,((uh Hb).alloc hsz _).trans (hb1.mono (by simp;omega))⟩
   ·go_wp2_with fail
    refine ck (Sp rb ((uh Hip).below ((ba _ _)))) fun w1 hb1=> ?_;have Hb1:=Z9 hb1;clear hb1;go_wp2_with fail;go_roundw
    case rel=>exact ⟨k+1,by omega,by go_num,Yi (uh Hst) (by rw [uh Hp];exact hrb),((uh Hb).alloc hsz _).trans ((uh Hb1).mono (by simp;omega))⟩
    case measure=>exact ms
  ·obtain rfl:k=rs.length:=by omega
   go_wp2_with fail;go_ret;exact ⟨Z5 (Nb (uh Hst)).symm,hb⟩
theorem Ue  {rs:List ZW} (h:IsRooms w v rs) (ha:Adds rs) :
  cB 101 #[v] w (.int .i64 (ZU rs)):=by
 obtain ⟨a,cap,rfl,hc,hm,hr⟩:=h;have Hr:=Z9 hr;have Ha:=Z9 ha;clear hr ha;go_enter func101,ntmps101;go_wp2_with fail
 go_loopw [3,8] (fun s i wr=> ∃ k:Nat,k<=rs.length/\i= .int .i64 k/\s= .int .i64 (ZU (rs.take k))/\Below w.heap.size w wr) (fun _ i _=>rs.length-(intOf i).toNat)
 case atStart=>exact ⟨0,ZC _,rfl,rfl,ZZ _ _⟩
 case round=>
  obtain ⟨k,hk,rfl,rfl,hb⟩:=hrel;have Hb:=Z9 hb;have hsz:=hb.size;by_cases hlt:k<rs.length
  ·rcases uh Hr with h0 | ⟨b,off,rfl,hbw,hcl⟩
   ·rw [h0] at hlt;simp at hlt
   obtain ⟨c0,pv,c1,hip⟩:=hcl k hlt;rw [<-hb.cell (p:=⟨b,off+k*2,none⟩) hbw] at c0;rw [<-hb.cell (p:=⟨b,off+k*2+1,none⟩) hbw] at c1;obtain ⟨pa,pcap,rfl,_⟩:=hip;have hs0:=uh Ha k hk;have hs1:=uh Ha (k+1) hlt;have Hs:=Z9 (XJ rs hlt);rw [XJ rs hlt] at hs1;generalize ZU (rs.take k)=s at *;generalize (ZR rs k).1=rb at *;obtain ⟨s0,s1⟩:=hs0;obtain ⟨s2,s3⟩:=hs1;clear hcl hb;go_wp2_with fail;go_roundw
   case rel=>exact ⟨k+1,by omega,by go_num,by rw [uh Hs],(uh Hb).alloc hsz _⟩
   case measure=>exact ms
  ·obtain rfl:k=rs.length:=by omega
   go_wp2_with fail;go_ret;exact ⟨ZA (by rw [UZ]),hb⟩
theorem Fl {rs:List ZW} (h:inB rs.length 1 3=false):Y1 rs=false:=by unfold Y1;simp [h]
theorem Fm {rs:List ZW} (h:rs.all Ze=false):Y1 rs=false:=by unfold Y1;rw [h];simp
theorem Fo {rs:List ZW} (h:inB rs.length 1 3=true) (h2:rs.all Ze=true):Y1 rs=decide (ZU rs<=8):=by unfold Y1;rw [h,h2];simp
theorem IsRooms.alloc  {rs:List ZW} (h:IsRooms w v rs) (o:Obj):IsRooms (w.alloc o) v rs:=h.below ((ba _ _))
theorem UG  {rs:List ZW} (h:IsRooms w v rs) :
  cB 58 #[.agg #[v]] w (.bool (Y1 rs)):=by
 have Hv:=Z9 h;obtain ⟨a,cap,rfl,hc,hm,hr⟩:=h;clear hr;have hl:(rs.length:Int)<=9223372036854775807:=by omega
 cases h1:inB rs.length 1 3
 ·go_enter func58,ntmps58
  go_wp2_with fail;refine (Zq _ _ _ _).mono ?_;rintro e w' ⟨rfl,rfl⟩;go_wp2_with fail;go_ret;exact ⟨Z5 (Fl h1).symm,(ba _ _)⟩
 cases h2:rs.all Ze
 ·have H2:=Z9 (Fm h2)
  generalize hx:rs.all Ze=x at *;have Hx:=Z9 hx;clear hx;subst h2;go_enter func58,ntmps58;go_wp2_with fail;refine (Zq _ _ _ _).mono ?_;rintro e w' ⟨rfl,rfl⟩;go_wp2_with fail;refine (PJ ((uh Hv).alloc _)).mono ?_;rw [uh Hx];rintro e w1 ⟨rfl,hb⟩;go_wp2_with fail;go_ret;exact ⟨Z5 (uh H2).symm,((ba _ _)).trans (hb.mono (by simp))⟩
 ·have H3:=Z9 (Fo h1 h2)
  have Ha:=Z9 (Kv h2 (by have:=ZN h1;omega));generalize hx:rs.all Ze=x at *;have Hx:=Z9 hx;clear hx;subst h2;go_enter func58,ntmps58;go_wp2_with fail;refine (Zq _ _ _ _).mono ?_;rintro e w' ⟨rfl,rfl⟩;go_wp2_with fail;refine (PJ ((uh Hv).alloc _)).mono ?_;rw [uh Hx];rintro e w1 ⟨rfl,hb⟩;have hz:w.heap.size+1<=w1.heap.size:=by have:=hb.size;simpa using this
  have hbox:w1.cell? ⟨w.heap.size,0,none⟩=some (.slice a rs.length cap):=by rw [hb.cell (p:=⟨w.heap.size,0,none⟩) (by simp)];simp
  have hw1:=Z9 (((uh Hv).alloc _).below hb);have Hb:=Z9 hb;clear hb;go_wp2_with fail;refine ck (Ue (uh hw1) (uh Ha)) fun w2 hb2=> ?_;have Hb2:=Z9 hb2;clear hb2;go_wp2_with fail;go_ret;exact ⟨Z5 (by rw [uh H3]),((ba _ _)).trans (((uh Hb).trans ((uh Hb2).mono (uh Hb).size)).mono (by simp))⟩
def WT (rs:List ZW):Int:=if Y1 rs=true then ZU rs else -1
theorem UB {rs:List ZW} (h:Y1 rs=true):WT rs=ZU rs:=by unfold WT;rw [if_pos h]
theorem Rk {rs:List ZW} (h:Y1 rs=false):WT rs= -1:=by unfold WT;rw [h];rfl
theorem TD {rs:List ZW} (h:Y1 rs=true):Adds rs:=Kv (Zi h).2.2.1 (Zi h).2.1
theorem VS  {rs:List ZW} (h:IsRooms w v rs) :
  cB 60 #[.agg #[v]] w (.int .i64 (WT rs)):=by
 have Hv:=Z9 h;obtain ⟨a,cap,rfl,hc,hm,hr⟩:=h;clear hr;cases h1:Y1 rs
 ·have H1:=Z9 h1
  clear h1;go_enter func60,ntmps60;go_wp2_with fail;refine (UG ((uh Hv).alloc _)).mono ?_;rw [uh H1];rintro e w1 ⟨rfl,hb⟩;go_wp2_with fail;go_ret;exact ⟨ZA (Rk (uh H1)).symm,((ba _ _)).trans (hb.mono (by simp))⟩
 ·have H1:=Z9 h1
  clear h1;go_enter func60,ntmps60;go_wp2_with fail;refine (UG ((uh Hv).alloc _)).mono ?_;rw [uh H1];rintro e w1 ⟨rfl,hb⟩;have hz:w.heap.size+1<=w1.heap.size:=by have:=hb.size;simpa using this
  have hbox:w1.cell? ⟨w.heap.size,0,none⟩=some (.slice a rs.length cap):=by rw [hb.cell (p:=⟨w.heap.size,0,none⟩) (by simp)];simp
  have hw1:=Z9 (((uh Hv).alloc _).below hb);have Hb:=Z9 hb;clear hb;go_wp2_with fail;refine ck (Ue (uh hw1) (TD (uh H1))) fun w2 hb2=> ?_;have Hb2:=Z9 hb2;clear hb2;go_wp2_with fail;go_ret;exact ⟨ZA (UB (uh H1)).symm,((ba _ _)).trans (((uh Hb).trans ((uh Hb2).mono (uh Hb).size)).mono (by simp))⟩
theorem Uo  {rs:List ZW} (h:IsRooms w v rs) (ha:Adds rs) :
  cB 62 #[.agg #[v]] w (.int .i64 (ZU rs)):=by
 obtain ⟨a,cap,rfl,hc,hm,hr⟩:=h;have Hr:=Z9 hr;have Ha:=Z9 ha;clear hr ha;go_enter func62,ntmps62;go_wp2_with fail
 go_loop [3,4] (fun s i=> ∃ k:Nat,k<=rs.length/\i= .int .i64 k/\s= .int .i64 (ZU (rs.take k))) (fun _ i=>rs.length-(intOf i).toNat)
 case atStart=>exact ⟨0,ZC _,rfl,rfl⟩
 case round=>
  obtain ⟨k,hk,rfl,rfl⟩:=hrel;by_cases hlt:k<rs.length
  ·rcases uh Hr with h0 | ⟨b,off,rfl,hbw,hcl⟩
   ·rw [h0] at hlt;simp at hlt
   obtain ⟨c0,pv,c1,hip⟩:=hcl k hlt;have hne:b ≠ w.heap.size:=Vj hbw;have hs0:=uh Ha k hk;have hs1:=uh Ha (k+1) hlt;have Hs:=Z9 (XJ rs hlt);rw [XJ rs hlt] at hs1;generalize ZU (rs.take k)=s at *;generalize (ZR rs k).1=rb at *;obtain ⟨s0,s1⟩:=hs0;obtain ⟨s2,s3⟩:=hs1;clear hcl hip;go_wp2_with fail
   go_round
   case rel=>exact ⟨k+1,by omega,by go_num,by rw [uh Hs]⟩
   case measure=>exact ms
  ·obtain rfl:k=rs.length:=by omega
   go_wp2_with fail;go_ret;exact ⟨ZA (by first | rfl | rw [UZ]),(ba _ _)⟩
theorem W6  {rs:List ZW} (h:IsRooms w v rs) :
  cB 28 #[.agg #[v]] w (.bool (Y1 rs)):=by
 have Hv:=Z9 h;obtain ⟨a,cap,rfl,hc,hm,hr⟩:=h;have Hr:=Z9 hr;clear hr;have hl:(rs.length:Int)<=9223372036854775807:=by omega
 go_enter func28,ntmps28;go_wp2_with fail
 go_loopw [3] (fun i wr=> ∃ k:Nat,k<=rs.length/\i= .int .i64 k/\(∀ j,j<k->Ze (ZR rs j)=true)/\Below (w.heap.size+1) (w.alloc (.cells #[.slice a rs.length cap] 26)) wr) (fun i _=>rs.length-(intOf i).toNat)
 case atStart=>exact ⟨0,ZC _,rfl,fun j hj=>by omega,ZZ _ _⟩
 case round=>
  obtain ⟨k,hk,rfl,hst,hb⟩:=hrel;have Hst:=Z9 hst;have Hb:=Z9 hb;have hsz:w.heap.size+1<=wr.heap.size:=by have:=hb.size;simpa using this
  have hbox:wr.cell? ⟨w.heap.size,0,none⟩=some (.slice a rs.length cap):=by rw [hb.cell (p:=⟨w.heap.size,0,none⟩) (by simp)];simp
  have hbB:Below w.heap.size w wr:=((ba _ _)).trans (hb.mono (by omega));clear hst;by_cases hlt:k<rs.length
  ·rcases uh Hr with h0 | ⟨b,off,rfl,hbw,hcl⟩
   ·rw [h0] at hlt;simp at hlt
   obtain ⟨c0,pv,c1,hip⟩:=hcl k hlt;rw [<-hbB.cell (p:=⟨b,off+k*2,none⟩) hbw] at c0;rw [<-hbB.cell (p:=⟨b,off+k*2+1,none⟩) hbw] at c1;have Hip:=Z9 (hip.below hbB);obtain ⟨pa,pcap,rfl,_⟩:=hip;generalize hp:ZR rs k=p at *;obtain ⟨rb,ps⟩:=p;simp only at c0 c1;have Hp:=Z9 hp;have HbB:=Z9 hbB;clear hp hcl hb hbB;cases hrb:Ze (rb,ps)
   ·go_wp2_with fail
    refine ck (YJ rb (uh Hip)) fun w1 hb1=> ?_;have Hb1:=Z9 hb1;clear hb1;go_wp2_with fail;go_ret;exact ⟨Z5 (Fm (Na hlt (by rw [uh Hp];exact hrb))).symm,(uh HbB).trans ((uh Hb1).mono (uh HbB).size)⟩
   ·go_wp2_with fail
    refine ck (YJ rb (uh Hip)) fun w1 hb1=> ?_;have Hb1:=Z9 hb1;clear hb1;go_wp2_with fail;go_roundw
    case rel=>exact ⟨k+1,by omega,by go_num,Yi (uh Hst) (by rw [uh Hp];exact hrb),(uh Hb).trans ((uh Hb1).mono hsz)⟩
    case measure=>exact ms
  ·obtain rfl:k=rs.length:=by omega
   have h2:=Nb (uh Hst);have HbB:=Z9 hbB;have hw1:=Z9 ((uh Hv).below hbB);clear hb hbB;cases h1:inB rs.length 1 3
   ·have H2:=Z9 (Fl h1)
    clear h2;go_wp2_with fail;refine (ZV _ _ _ _).mono ?_;rintro e w' ⟨rfl,rfl⟩;go_wp2_with fail;go_ret;exact ⟨Z5 (uh H2).symm,uh HbB⟩
   ·have H3:=Z9 (Fo h1 h2)
    have Ha:=Z9 (Kv h2 (by have:=ZN h1;omega));clear h2;go_wp2_with fail;refine (ZV _ _ _ _).mono ?_;rintro e w' ⟨rfl,rfl⟩;go_wp2_with fail;refine ck (Uo (uh hw1) (uh Ha)) fun w2 hb2=> ?_;have Hb2:=Z9 hb2;clear hb2;go_wp2_with fail;go_ret;exact ⟨Z5 (by rw [uh H3]),(uh HbB).trans ((uh Hb2).mono (uh HbB).size)⟩
open Go.ChangeShapes Go.WideShapes Go.ChangeAt Go.RowKit Go.Sort
theorem IsRooms.shape  {rs:List ZW} (h:IsRooms w v rs):∃ a cap,v= .slice a rs.length cap/\rs.length<=cap/\cap<=9223372036854775807:=by
 obtain ⟨a,cap,rfl,hc,hm,_⟩:=h;exact ⟨a,cap,rfl,hc,hm⟩
def Xc (rs:List ZW) (n:Int):Nat:=((List.range rs.length).find? fun r=>decide (n<ZU (rs.take (r+1)))).getD 0
def YX (rs:List ZW) (n:Int):Bool:=Y1 rs && inB n 0 (ZU rs-1)
def Mc (rs:List ZW) (n:Int):Int:=if YX rs n=true then (Xc rs n:Int) else -1
def VC (ps:List Z4):Int:=(Z7 ps (ps.length-1)).1
def Zw (rs:List ZW) (n:Int):Int:=if YX rs n=true then VC (ZR rs (Xc rs n)).2 else -1
theorem Oo {rs:List ZW} {n:Int} {r:Nat} (hr:r<rs.length) (h:n<ZU (rs.take (r+1))) (hl:∀ j,j<r->ZU (rs.take (j+1))<=n):Xc rs n=r:=by
 unfold Xc
 have:(List.range rs.length).find? (fun r=>decide (n<ZU (rs.take (r+1))))=some r:=by
  rw [List.find?_range_eq_some];refine ⟨by simpa using h,by simpa using hr,fun j hj=> ?_⟩;have:=hl j hj;simp;omega
 rw [this];rfl
theorem WX {rs:List ZW} {n:Int} (h:YX rs n=true):Y1 rs=true/\0<=n/\n<ZU rs:=by
 unfold YX at h;simp only [ZP] at h;have:=ZN h.2;exact ⟨h.1,by omega,by omega⟩
theorem LF {rs:List ZW} {n:Int} (h:Y1 rs=true) (h0:0<=n) (h1:n<ZU rs):YX rs n=true:=by
 unfold YX;rw [h,Zo (by omega) (by omega)];rfl
theorem NN {rs:List ZW} {n:Int} (h:Y1 rs=false):YX rs n=false:=by unfold YX;rw [h];rfl
theorem NO {rs:List ZW} {n:Int} (h:n<0\/ZU rs<=n):YX rs n=false:=by unfold YX;rw [Vd (by omega)];simp
theorem FI {rs:List ZW} {n:Int} (h:YX rs n=true):Mc rs n=Xc rs n:=by unfold Mc;rw [if_pos h]
theorem La {rs:List ZW} {n:Int} (h:YX rs n=false):Mc rs n= -1:=by unfold Mc;rw [h];rfl
theorem UE {rs:List ZW} {n:Int} (h:YX rs n=true):Zw rs n=VC (ZR rs (Xc rs n)).2:=by unfold Zw;rw [if_pos h]
theorem IM {rs:List ZW} {n:Int} (h:YX rs n=false):Zw rs n= -1:=by unfold Zw;rw [h];rfl
theorem RX {rs:List ZW} {n:Int} (h:YX rs n=true) {r:Nat} (hr:r<=rs.length) (hl:∀ j,j<r->ZU (rs.take (j+1))<=n):r<rs.length:=by
 rcases Nat.lt_or_ge r rs.length with h1 | h1
 ·exact h1
 ·obtain rfl:r=rs.length:=by omega
  have hb:=WX h;have h3:=Zi hb.1;have:=hl (rs.length-1) (by omega);rw [show rs.length-1+1=rs.length by omega,UZ] at this;omega
theorem U0 {rs:List ZW} (h:Y1 rs=true) (k:Nat) (hk:k<=rs.length):0<=ZU (rs.take k)/\ZU (rs.take k)<=12:=by
 have h3:=Zi h;have:=Sc h3.2.2.1 k hk;omega
theorem Tt {rs:List ZW} {n:Int} (h:YX rs n=true):Xc rs n<rs.length:=by
 have key:∀ d r:Nat,r+d=rs.length->(∀ j,j<r->ZU (rs.take (j+1))<=n)->Xc rs n<rs.length:=by
  intro d
  induction d with
  | zero=>intro r hr hl;have:=RX h (by omega) hl;omega
  | succ d ih=>
   intro r hr hl;have hlt:=RX h (r:=r) (by omega) hl;by_cases hc:n<ZU (rs.take (r+1))
   ·rw [Oo hlt hc hl];exact hlt
   ·exact ih (r+1) (by omega) (Yi hl (by omega))
 exact key rs.length 0 (by omega) (fun j hj=>by omega)
theorem So  {rs:List ZW} (n:Int) (h:IsRooms w v rs) :
  cB 154 #[.agg #[v],.int .i64 n] w (.int .i64 (Mc rs n)):=by
 have Hv:=Z9 h;obtain ⟨a,cap,rfl,hc,hm,hr⟩:=h;clear hr;by_cases h0:n<0
 ·have H1:=Z9 (La (NO (rs:=rs) (.inl h0)))
  go_enter func154,ntmps154;go_wp2_with fail;go_ret;exact ⟨ZA (uh H1).symm,(ba _ _)⟩
 by_cases h1:WT rs<=n
 ·have H1:Hid (Mc rs n= -1):=Z9 (La (by
   cases hh:Y1 rs
   ·exact NN hh
   ·rw [UB hh] at h1;exact NO (.inr h1)))
  go_enter func154,ntmps154;go_wp2_with fail;refine ck (VS ((uh Hv).alloc _)) fun w1 hb=> ?_;have Hb:=Z9 hb;clear hb;generalize WT rs=m at *;go_wp2_with fail;go_ret;exact ⟨ZA (uh H1).symm,((ba _ _)).trans ((uh Hb).mono (by simp))⟩
 have hh:Y1 rs=true:=by
  cases hh:Y1 rs
  ·rw [Rk hh] at h1;omega
  ·rfl
 have H:Hid (YX rs n=true):=Z9 (LF hh (by omega) (by rw [UB hh] at h1;omega));have Hh:=Z9 hh;clear hh;go_enter func154,ntmps154;go_wp2_with fail;refine ck (VS ((uh Hv).alloc _)) fun w1 hb=> ?_;have hsz:w.heap.size+1<=w1.heap.size:=by have:=hb.size;simpa using this
 have hbox:w1.cell? ⟨w.heap.size,0,none⟩=some (.slice a rs.length cap):=by rw [hb.cell (p:=⟨w.heap.size,0,none⟩) (by simp)];simp
 have B1:Hid (Below w.heap.size w w1):=Z9 (((ba _ _)).trans (hb.mono (by simp)));clear hb;generalize WT rs=m at *;go_wp2_with fail
 go_loopw [5] (fun i wr=> ∃ r:Nat,r<=rs.length/\i= .int .i64 r/\(∀ j,j<r->ZU (rs.take (j+1))<=n)/\Below w1.heap.size w1 wr) (fun i _=>rs.length-(intOf i).toNat)
 case atStart=>exact ⟨0,ZC _,rfl,fun j hj=>by omega,ZZ _ _⟩
 case round=>
  obtain ⟨r,hr,rfl,hl,hb⟩:=hrel;have hlt:=RX (uh H) hr hl;have hbox2:wr.cell? ⟨w.heap.size,0,none⟩=some (.slice a rs.length cap):=by rw [hb.cell (p:=⟨w.heap.size,0,none⟩) (by show w.heap.size<w1.heap.size;omega)];exact hbox
  have hz:=hb.size;have hl3:rs.length<=3:=(Zi (uh Hh)).2.1;have Hl:=Z9 hl;have Hb:=Z9 hb;have Hw:Hid (IsRooms wr (.slice a (r+1) cap) (rs.take (r+1))):=Z9 ((((uh Hv).below (uh B1)).below hb).taken (by omega));clear hl hb hbox;go_wp2_with fail;refine ck (Ue (uh Hw) ((TD (uh Hh)).taken _)) fun w2 hb2=> ?_;have hbd:=U0 (uh Hh) (r+1) (by omega);have Hb2:=Z9 hb2;clear hb2;by_cases hc2:n<ZU (rs.take (r+1))
  ·have HN:=Z9 (Oo hlt hc2 (uh Hl))
   generalize ZU (rs.take (r+1))=s at *;go_wp2_with fail;go_ret;exact ⟨ZA (by rw [FI (uh H),uh HN]),(uh B1).trans (((uh Hb).trans ((uh Hb2).mono hz)).mono (by omega))⟩
  ·have hle:ZU (rs.take (r+1))<=n:=by omega
   have Hle:=Z9 (Yi (uh Hl) hle);generalize ZU (rs.take (r+1))=s at *;go_wp2_with fail;go_roundw
   case rel=>exact ⟨r+1,by omega,by go_num,uh Hle,(uh Hb).trans ((uh Hb2).mono hz)⟩
   case measure=>exact ms
theorem Rq  {rs:List ZW} (n:Int) (h:IsRooms w v rs) (hbn:YX rs n=true) :
  cB 87 #[.agg #[v],.int .i64 n] w (.int .i64 (Xc rs n)):=by
 obtain ⟨a,cap,rfl,hc,hm,hr⟩:=h;have Hr:=Z9 hr;have H:=Z9 hbn;have hh:=(WX hbn).1;have hn0:=(WX hbn).2.1;have hn1:n<12:=by have h1:=(WX hbn).2.2;have:=(Zi hh).2.2.2;omega
 have Hh:=Z9 hh;have hl3:rs.length<=3:=(Zi hh).2.1;clear hr hbn hh;go_enter func87,ntmps87;go_wp2_with fail
 go_loop [1,5] (fun q i=> ∃ r:Nat,r<=rs.length/\i= .int .i64 r/\q= .int .i64 (n-ZU (rs.take r))/\(∀ j,j<r->ZU (rs.take (j+1))<=n)) (fun _ i=>rs.length-(intOf i).toNat)
 case atStart=>exact ⟨0,ZC _,rfl,by simp [ZU],fun j hj=>by omega⟩
 case round=>
  obtain ⟨r,hr,rfl,rfl,hl⟩:=hrel;have hlt:=RX (uh H) hr hl
  rcases uh Hr with e0 | ⟨b,off,rfl,hbw,hcl⟩
  ·rw [e0] at hlt;simp at hlt
  obtain ⟨c0,pv,c1,hip⟩:=hcl r hlt;have hne:b ≠ w.heap.size:=Vj hbw;have Hl:=Z9 hl;have hb0:=U0 (uh Hh) r hr;have hb1:=U0 (uh Hh) (r+1) hlt;have Hs:=Z9 (XJ rs hlt);have HN:Hid (n<ZU (rs.take (r+1))->Xc rs n=r):=Z9 (fun hx=>Oo hlt hx (uh Hl));have HM:Hid (ZU (rs.take (r+1))<=n-> ∀ j,j<r+1->ZU (rs.take (j+1))<=n):=Z9 (fun hx=>Yi (uh Hl) hx);rw [XJ rs hlt] at hb1 HN HM;generalize ZU (rs.take r)=s at *;generalize (ZR rs r).1=rb at *;clear hcl hip hl;by_cases hq:rb<=n-s
  ·go_wp2_with fail
   go_round
   case rel=>exact ⟨r+1,by omega,by go_num,by rw [uh Hs];congr 1;omega,uh HM (by omega)⟩
   case measure=>exact ms
  ·go_wp2_with fail
   go_ret;exact ⟨ZA (by rw [uh HN (by omega)]),(ba _ _)⟩
theorem Je  {rs:List ZW} (n:Int) (h:IsRooms w v rs) :
  cB 51 #[.agg #[v],.int .i64 n] w (.bool (YX rs n)):=by
 have Hv:=Z9 h;obtain ⟨a,cap,rfl,hc,hm⟩:∃ a cap,v= .slice a rs.length cap/\rs.length<=cap/\cap<=9223372036854775807:=by obtain ⟨a,cap,rfl,hc,hm,_⟩:=h;exact ⟨a,cap,rfl,hc,hm⟩
 clear h;cases h1:Y1 rs
 ·have H2:=Z9 (NN (n:=n) h1)
  go_enter func51,ntmps51;go_wp2_with fail;refine ck (W6 ((uh Hv).alloc _)) fun w1 hb=> ?_;have Hb:=Z9 hb;clear hb;go_wp2_with fail;go_ret;exact ⟨Z5 (uh H2).symm,((ba _ _)).trans ((uh Hb).mono (by simp))⟩
 ·have H2:Hid (YX rs n=inB n 0 (ZU rs-1)):=Z9 (by unfold YX;rw [h1];rfl)
  have hbs:=U0 h1 rs.length (Z0 _);rw [UZ] at hbs;have H1:=Z9 h1;go_enter func51,ntmps51;go_wp2_with fail;refine ck (W6 ((uh Hv).alloc _)) fun w1 hb=> ?_;have hz:w.heap.size+1<=w1.heap.size:=by have:=hb.size;simpa using this
  have hbox:w1.cell? ⟨w.heap.size,0,none⟩=some (.slice a rs.length cap):=by rw [hb.cell (p:=⟨w.heap.size,0,none⟩) (by simp)];simp
  have hw1:=Z9 (((uh Hv).alloc _).below hb);have Hb:=Z9 hb;clear hb;go_wp2_with fail;refine ck (Uo (uh hw1) (TD (uh H1))) fun w2 hb2=> ?_;have Hb2:=Z9 hb2;clear hb2;generalize ZU rs=s at *;go_wp2_with fail;refine (ZV _ _ _ _).mono ?_;rintro e w' ⟨rfl,rfl⟩;go_wp2_with fail;go_ret;exact ⟨Z5 (uh H2).symm,((ba _ _)).trans (((uh Hb).trans ((uh Hb2).mono (uh Hb).size)).mono (by simp))⟩
theorem FJ {a:Option Addr} {cap:Nat} {rs:List ZW} {r:Nat} (h:IsRooms w (.slice a rs.length cap) rs) (hr:r<rs.length) (hh:Y1 rs=true) :
  ∃ b off a' cap',a=some ⟨b,off,none⟩/\b<w.heap.size/\w.cell? ⟨b,off+r*2+1,none⟩=some (.slice (some a') (ZR rs r).2.length cap')/\1<=(ZR rs r).2.length/\(ZR rs r).2.length<=4/\a'.spot=none/\a'.block<w.heap.size/\w.cell? ⟨a'.block,a'.off+((ZR rs r).2.length-1)*2,none⟩=some (.int .i64 (VC (ZR rs r).2)):=by
 obtain ⟨a0,cap0,he,hc,hm,hr'⟩:=h;cases he
 rcases hr' with e0 | ⟨b,off,rfl,hbw,hcl⟩
 ·rw [e0] at hr;simp at hr
 obtain ⟨_,pv,c1,hip⟩:=hcl r hr;have hb:=Lb (Pr (Zi hh).2.2.1 hr);obtain ⟨pa,pcap,rfl,_,_,hp⟩:=hip
 rcases hp with e1 | ⟨b',off',rfl,hbw',hcl'⟩
 ·rw [e1] at hb;simp at hb
 ·exact ⟨b,off,⟨b',off',none⟩,pcap,rfl,hbw,c1,hb.2.2.1,hb.2.2.2,rfl,hbw',(hcl' _ (by omega)).1⟩
theorem O9  {rs:List ZW} (n:Int) (h:IsRooms w v rs) :
  cB 116 #[.agg #[v],.int .i64 n] w (.int .i64 (Zw rs n)):=by
 have Hv:=Z9 h;obtain ⟨a,cap,rfl,hc,hm⟩:∃ a cap,v= .slice a rs.length cap/\rs.length<=cap/\cap<=9223372036854775807:=by obtain ⟨a,cap,rfl,hc,hm,_⟩:=h;exact ⟨a,cap,rfl,hc,hm⟩
 clear h;cases h1:YX rs n
 ·have H2:=Z9 (IM h1)
  have H3:=La h1;have H3':=Z9 H3;clear H3 h1;go_enter func116,ntmps116;go_wp2_with fail;refine (So n ((uh Hv).alloc _)).mono ?_;rw [uh H3'];rintro e w1 ⟨rfl,hb⟩;have Hb:=Z9 hb;clear hb;go_wp2_with fail;go_ret;exact ⟨ZA (uh H2).symm,((ba _ _)).trans ((uh Hb).mono (by simp))⟩
 ·have H2:=Z9 (UE h1)
  have H3:=Z9 (FI h1);have hlt:=Tt h1;have Hh:=Z9 (WX h1).1;have hl3:rs.length<=3:=(Zi (WX h1).1).2.1;clear h1;go_enter func116,ntmps116;go_wp2_with fail;refine (So n ((uh Hv).alloc _)).mono ?_;rw [uh H3];rintro e w1 ⟨rfl,hb⟩;have hz:w.heap.size+1<=w1.heap.size:=by have:=hb.size;simpa using this
  have hbox:w1.cell? ⟨w.heap.size,0,none⟩=some (.slice a rs.length cap):=by rw [hb.cell (p:=⟨w.heap.size,0,none⟩) (by simp)];simp
  have hw1:=((uh Hv).alloc _).below hb;have Hb:=Z9 hb;obtain ⟨b,off,a',cap',rfl,hbw,d1,p1,p4,sp,hbw',d2⟩:=FJ hw1 hlt (uh Hh);obtain ⟨b',off',sp'⟩:=a';simp only at sp hbw' d2;subst sp;clear hb hw1 H3;generalize Xc rs n=r at *;generalize VC (ZR rs r).2=fo at *;generalize (ZR rs r).2.length=m at *;have hr0:((r:Int) == -1)=false:=beq_eq_false_iff_ne.2 (by omega);go_wp2_with fail;go_ret;exact ⟨ZA (uh H2).symm,((ba _ _)).trans ((uh Hb).mono (by simp))⟩
theorem Wh  {rs:List ZW} (n:Int) (h:IsRooms w v rs) (h1:YX rs n=true) :
  cB 46 #[.agg #[v],.int .i64 n] w (.int .i64 (VC (ZR rs (Xc rs n)).2)):=by
 have Hv:=Z9 h;obtain ⟨a,cap,rfl,hc,hm⟩:∃ a cap,v= .slice a rs.length cap/\rs.length<=cap/\cap<=9223372036854775807:=by obtain ⟨a,cap,rfl,hc,hm,_⟩:=h;exact ⟨a,cap,rfl,hc,hm⟩
 clear h;have hlt:=Tt h1;have Hh:=Z9 (WX h1).1;have H1:=Z9 h1;have hl3:rs.length<=3:=(Zi (WX h1).1).2.1;clear h1;have hw1:=(uh Hv).alloc (.cells #[.slice a rs.length cap] 26);have Hw1:=Z9 hw1;obtain ⟨b,off,a',cap',rfl,hbw,d1,p1,p4,sp,hbw',d2⟩:=FJ hw1 hlt (uh Hh);obtain ⟨b',off',sp'⟩:=a';simp only at sp hbw' d2;subst sp;clear hw1;have k0:=ZY (w:=w.alloc (.cells #[.slice (some ⟨b,off,none⟩) rs.length cap] 26)) (a:=⟨w.heap.size,0,none⟩) (v:= .slice (some ⟨b,off,none⟩) rs.length cap) (by simp);have k1:=ZY d1;have k2:=ZY d2;clear d1 d2;go_enter func46,ntmps46;go_wp2_with fail;refine wq ?_
 repeat (go_big_quiet_step (exact ZX (Rq n ((uh Hw1).below (Z1 _ _ _)) (uh H1))))
 refine wpQuiet_nil ?_;intro _ hw';obtain ⟨⟨dq,osq⟩,hw''⟩:=hw';subst hw'';generalize hr1:Xc rs n=r at *;generalize hr2:VC (ZR rs r).2=fo at *;generalize (ZR rs r).2.length=m at *;have Hr1:=Z9 hr1;have Hr2:=Z9 hr2;clear hr1 hr2;go_wp2_with fail;go_ret;exact ⟨ZA (by rw [uh Hr1,uh Hr2]),((ba _ _)).trans ((Z1 _ _ _).mono (by simp))⟩
theorem Ww  {rs:List ZW} (n:Int) (h:IsRooms w v rs) :
  cB 18 #[.agg #[v],.int .i64 n] w (.int .i64 (Zw rs n)):=by
 have Hv:=Z9 h;obtain ⟨a,cap,rfl,hc,hm⟩:∃ a cap,v= .slice a rs.length cap/\rs.length<=cap/\cap<=9223372036854775807:=by obtain ⟨a,cap,rfl,hc,hm,_⟩:=h;exact ⟨a,cap,rfl,hc,hm⟩
 clear h;cases h1:YX rs n
 ·have H2:=Z9 (IM h1)
  go_enter func18,ntmps18;go_wp2_with fail;refine ck (Je n ((uh Hv).alloc _)) fun w1 hb=> ?_;have Hb:=Z9 hb;clear hb;go_wp2_with fail;go_ret;exact ⟨ZA (uh H2).symm,((ba _ _)).trans ((uh Hb).mono (by simp))⟩
 ·have H2:=Z9 (UE h1)
  have H1:=Z9 h1;go_enter func18,ntmps18;go_wp2_with fail;refine ck (Je n ((uh Hv).alloc _)) fun w1 hb=> ?_;have hz:w.heap.size+1<=w1.heap.size:=by have:=hb.size;simpa using this
  have hbox:w1.cell? ⟨w.heap.size,0,none⟩=some (.slice a rs.length cap):=by rw [hb.cell (p:=⟨w.heap.size,0,none⟩) (by simp)];simp
  have hw1:=Z9 (((uh Hv).alloc _).below hb);have Hb:=Z9 hb;clear hb;go_wp2_with fail;refine ck (Wh n (uh hw1) (uh H1)) fun w2 hb2=> ?_;have Hb2:=Z9 hb2;clear hb2;go_wp2_with fail;go_ret;exact ⟨ZA (uh H2).symm,((ba _ _)).trans (((uh Hb).trans ((uh Hb2).mono (uh Hb).size)).mono (by simp))⟩
theorem ED {s:Int} (h0:0<=s) (h1:s<=12):1<=(2:Int) ^ s.toNat/\(2:Int) ^ s.toNat<=4096:=by
 have key:∀ k:Fin 13,1<=(2:Int) ^ k.val/\(2:Int) ^ k.val<=4096:=by decide
 exact key ⟨s.toNat,by omega⟩
theorem Il {x:Int} (h0 : -100000<=x) (h1:x<=100000):wrap64 x=x:=by unfold wrap64;omega
theorem Sz (b:Int) (h0:0<=b) (h1:b<=12) (w:World):cE 212 #[.int .i64 b] w (.int .i64 (2 ^ b.toNat)):=by
 go_enter func212,ntmps212
 go_wp2
 all_goals
  go_ret;refine ⟨ZA ?_,rfl⟩;have:=ED h0 h1;exact Il (by omega) (by omega)
open Go.ChangeShapes Go.WideShapes Go.ChangeAt Go.RowKit Go.Proofs.Tryz
theorem KV  {rs:List ZW} (hv:IsRooms w v rs) (hu:IsRooms w u rs) :
  cB 39 #[.agg #[v],.agg #[u]] w (.bool true):=by
 have Hv:=Z9 hv;have Hu:=Z9 hu;obtain ⟨a,cap,rfl,hc,hm,hr⟩:=hv;obtain ⟨a',cap',rfl,hc',hm',hr'⟩:=hu;clear hr hr';go_enter func39,ntmps39;go_wp2_with fail;have B0:Hid (Below w.heap.size w ((w.alloc (.cells #[.slice a rs.length cap] 26)).alloc (.cells #[.slice a' rs.length cap'] 26))):=Z9 (((ba _ _)).alloc (by simp) _)
 go_loopw [5] (fun i wr=> ∃ k:Nat,k<=rs.length/\i= .int .i64 k/\Below (w.heap.size+2) ((w.alloc (.cells #[.slice a rs.length cap] 26)).alloc (.cells #[.slice a' rs.length cap'] 26)) wr) (fun i _=>rs.length-(intOf i).toNat)
 case atStart=>exact ⟨0,ZC _,rfl,ZZ _ _⟩
 case round=>
  obtain ⟨k,hk,rfl,hb⟩:=hrel;have Hb:=Z9 hb;have hzr:w.heap.size+2<=wr.heap.size:=by have:=hb.size;simpa using this
  have c0:wr.cell? ⟨w.heap.size,0,none⟩=some (.slice a rs.length cap):=(hb.cell (p:=⟨w.heap.size,0,none⟩) (by show w.heap.size<w.heap.size+2;omega)).trans (by simp);have c1:wr.cell? ⟨w.heap.size+1,0,none⟩=some (.slice a' rs.length cap'):=(hb.cell (p:=⟨w.heap.size+1,0,none⟩) (by show w.heap.size+1<w.heap.size+2;omega)).trans (by simp);have BW:Hid (Below w.heap.size w wr):=Z9 ((uh B0).trans (hb.mono (by omega)));clear hb;by_cases hlt:k<rs.length
  ·obtain ⟨_,_,e1,_,_,hr⟩:=uh Hv
   obtain ⟨_,_,e2,_,_,hr'⟩:=uh Hu;cases e1;cases e2
   rcases hr with h0 | ⟨b,off,rfl,hbw,hcl⟩
   ·rw [h0] at hlt;simp at hlt
   rcases hr' with h0 | ⟨b',off',rfl,hbw',hcl'⟩
   ·rw [h0] at hlt;simp at hlt
   obtain ⟨d0,pv,d1,hip⟩:=hcl k hlt;obtain ⟨d2,pu,d3,hiu⟩:=hcl' k hlt;rw [<-(uh BW).cell (p:=⟨b,off+k*2,none⟩) hbw] at d0;rw [<-(uh BW).cell (p:=⟨b,off+k*2+1,none⟩) hbw] at d1;rw [<-(uh BW).cell (p:=⟨b',off'+k*2,none⟩) hbw'] at d2;rw [<-(uh BW).cell (p:=⟨b',off'+k*2+1,none⟩) hbw'] at d3;have Hip:=Z9 (hip.below (uh BW));have Hiu:=Z9 (hiu.below (uh BW));obtain ⟨pa,pcap,rfl,hpc,hpm,_⟩:=hip;obtain ⟨pa',pcap',rfl,hpc',hpm',_⟩:=hiu;generalize (ZR rs k).1=f at *;generalize (ZR rs k).2=ps at *;clear hcl hcl';have k0:=ZY c0;have k1:=ZY c1;have k2:=ZY d0;have k3:=ZY d1;have k4:=ZY d2;have k5:=ZY d3;go_wp2_with fail;refine wq ?_
   repeat (go_big_quiet_step (fail))
   refine wpQuiet_nil ?_;intro _ hw';obtain ⟨⟨dq,osq⟩,hw''⟩:=hw';subst hw'';have Hbq:=Z9 (Z1 wr dq osq);have e0:=k0 dq osq;have e1:=k1 dq osq;have e2:=k2 dq osq;have e3:=k3 dq osq;have e4:=k4 dq osq;have e5:=k5 dq osq;clear k0 k1 k2 k3 k4 k5 c0 c1 d0 d1 d2 d3;obtain ⟨w1,hw1⟩:∃ w1,w1=Go.Sort.grow (Go.redrawn wr dq) osq:=⟨_,rfl⟩
   rw [<-hw1] at Hbq e0 e1 e2 e3 e4 e5 ⊢;clear hw1;have HB1:=Z9 ((uh BW).trans ((uh Hbq).mono (uh BW).size));go_wp2_with fail;obtain ⟨wo,hwo⟩:∃ wo,wo=wr:=⟨wr,rfl⟩
   rw [<-hwo] at *;clear hwo
   go_loopw [6] (fun i wr=> ∃ j:Nat,j<=ps.length/\i= .int .i64 j/\Below w1.heap.size w1 wr) (fun i _=>ps.length-(intOf i).toNat)
   case atStart=>exact ⟨0,ZC _,rfl,ZZ _ _⟩
   case round=>
    obtain ⟨j,hj,rfl,hbr⟩:=hrel;have Hbr:=Z9 hbr;have HBr:=Z9 ((uh HB1).trans (hbr.mono (uh HB1).size));have hz1:=(uh Hbq).size;have f0:=(hbr.cell (World.block_lt_of_cell? _ _ e0)).trans e0;have f1:=(hbr.cell (World.block_lt_of_cell? _ _ e1)).trans e1;have f3:=(hbr.cell (World.block_lt_of_cell? _ _ e3)).trans e3;have f5:=(hbr.cell (World.block_lt_of_cell? _ _ e5)).trans e5;clear hbr;by_cases hjl:j<ps.length
    ·obtain ⟨_,_,g1,_,_,hr⟩:=(uh Hip).below ((uh Hbq).trans ((uh Hbr).mono hz1))
     obtain ⟨_,_,g2,_,_,hr'⟩:=(uh Hiu).below ((uh Hbq).trans ((uh Hbr).mono hz1));cases g1;cases g2
     rcases hr with h0 | ⟨pb,poff,rfl,hpbw,hpl⟩
     ·rw [h0] at hjl;simp at hjl
     rcases hr' with h0 | ⟨pb',poff',rfl,hpbw',hpl'⟩
     ·rw [h0] at hjl;simp at hjl
     obtain ⟨c0,c1⟩:=hpl j hjl;obtain ⟨d0,d1⟩:=hpl' j hjl;generalize (Z7 ps j).1=x at *;generalize (Z7 ps j).2=y at *;have k0:=ZY f0;have k1:=ZY f1;have k3:=ZY f3;have k5:=ZY f5;have k6:=ZY c0;have k7:=ZY c1;have k8:=ZY d0;have k9:=ZY d1;clear hpl hpl' e0 e1 e2 e3 e4 e5;go_wp2_with fail;refine wq ?_
     repeat (go_big_quiet_step (fail))
     refine wpQuiet_nil ?_;intro _ hw';obtain ⟨⟨dr,osr⟩,hw''⟩:=hw';subst hw'';go_wp2_with fail;go_roundw
     case rel=>exact ⟨j+1,by omega,by go_num,(uh Hbr).trans ((Z1 _ _ _).mono (uh Hbr).size)⟩
     case measure=>exact ms
    ·go_wp2_with fail
     go_roundw
     case rel=>exact ⟨k+1,by omega,by go_num,(uh Hb).trans (((uh Hbq).trans ((uh Hbr).mono hz1)).mono hzr)⟩
     case measure=>exact ms
  ·go_wp2_with fail
   go_ret;exact ⟨rfl,uh BW⟩
end Go.Proofs.YtlcpgkakdieeaaaGreat
