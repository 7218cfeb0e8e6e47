/- Part 3 of what the proof rests on. No condition but those that a theorem names. -/
import Derived.Test.YtmdgokjeobnnaaaGreatDoorXt01
import Derived.Deep.QuietTactic
import Derived.BigQuiet
import Derived.Laws.OwnMore
import Derived.OwnWalk
import Derived.Maps.AppendAt
import Derived.Lib.SmallJoins
import Derived.Deep.RegionWith
import Derived.Deep.Fields
import Derived.Deep.Slices
set_option maxHeartbeats 8000000
set_option maxRecDepth 100000
namespace Go.Proofs.YtmdgokjeobnnaaaGreatDoor
open Go.ChangeShapes Go.WideShapes Go.ChangeAt Go.RowKit
set_option linter.unusedVariables false
abbrev Z1:=Int × Int
abbrev Z5:=Int × List Z1
def ZY (ps:List Z1) (k:Nat):Z1:=ps.getD k (0,0)
def ZO (rs:List Z5) (k:Nat):Z5:=rs.getD k (0,[])
def IsPaces (w:World) (v:Value) (ps:List Z1):Prop:=
 ∃ (a:Option Addr) (cap:Nat),v= .slice a ps.length cap/\ps.length<=cap/\cap<=9223372036854775807/\(ps=[]\/ ∃ b off,a=some ⟨b,off,none⟩/\b<w.heap.size/\
  ∀ k,k<ps.length->w.cell? ⟨b,off+k*2,none⟩=some (.int .i64 (ZY ps k).1)/\w.cell? ⟨b,off+k*2+1,none⟩=some (.int .i64 (ZY ps k).2))
def IsRooms (w:World) (v:Value) (rs:List Z5):Prop:=
 ∃ (a:Option Addr) (cap:Nat),v= .slice a rs.length cap/\rs.length<=cap/\cap<=9223372036854775807/\(rs=[]\/ ∃ b off,a=some ⟨b,off,none⟩/\b<w.heap.size/\
  ∀ k,k<rs.length->w.cell? ⟨b,off+k*2,none⟩=some (.int .i64 (ZO rs k).1)/\ ∃ pv,w.cell? ⟨b,off+k*2+1,none⟩=some pv/\IsPaces w pv (ZO rs k).2)
theorem IsPaces.below {w w':World} {v:Value} {ps:List Z1} (h:IsPaces w v ps) (hb:Below w.heap.size w w'):IsPaces w' v ps:=by
 obtain ⟨a,cap,rfl,hc,hm,hr⟩:=h;refine ⟨a,cap,rfl,hc,hm,?_⟩
 rcases hr with hr | ⟨b,off,rfl,hlt,hcl⟩
 ·exact .inl hr
 ·refine .inr ⟨b,off,rfl,YH hlt hb.size,fun k hk=> ?_⟩
  obtain ⟨h1,h2⟩:=hcl k hk;exact ⟨by rw [hb.cell (p:=⟨b,off+k*2,none⟩) hlt];exact h1,by rw [hb.cell (p:=⟨b,off+k*2+1,none⟩) hlt];exact h2⟩
theorem IsRooms.below {w w':World} {v:Value} {rs:List Z5} (h:IsRooms w v rs) (hb:Below w.heap.size w w'):IsRooms w' v rs:=by
 obtain ⟨a,cap,rfl,hc,hm,hr⟩:=h;refine ⟨a,cap,rfl,hc,hm,?_⟩
 rcases hr with hr | ⟨b,off,rfl,hlt,hcl⟩
 ·exact .inl hr
 ·refine .inr ⟨b,off,rfl,YH hlt hb.size,fun k hk=> ?_⟩
  obtain ⟨h1,pv,h2,h3⟩:=hcl k hk;exact ⟨by rw [hb.cell (p:=⟨b,off+k*2,none⟩) hlt];exact h1,pv,by rw [hb.cell (p:=⟨b,off+k*2+1,none⟩) hlt];exact h2,h3.below hb⟩
def QE (p:Z1):Bool:=inB p.1 1 1024 && inB p.2 1 1024
def Ig (p q:Z1):Bool:=decide (q.1<p.1) && decide (q.2<p.2)
def V1 (ps:List Z1) (k:Nat):Bool:=QE (ZY ps k) && (k ==0 || Ig (ZY ps k) (ZY ps (k-1)))
def Um (ps:List Z1):Bool:=(List.range ps.length).all (V1 ps)
def Zc (r:Z5):Bool:=inB r.1 1 4 && (inB r.2.length 1 4 && Um r.2)
def ZV (rs:List Z5):Int:=(rs.map (·.1)).sum
def YB (rs:List Z5):Bool:=inB rs.length 1 3 && (rs.all Zc && decide (ZV rs<=8))
theorem IV {ps:List Z1} (h:∀ j,j<ps.length->V1 ps j=true):Um ps=true:=by
 unfold Um;rw [List.all_eq_true];intro j hj;exact h j (List.mem_range.1 hj)
theorem Td {ps:List Z1} {j:Nat} (hj:j<ps.length) (h:V1 ps j=false):Um ps=false:=by
 unfold Um;rw [List.all_eq_false];exact ⟨j,List.mem_range.2 hj,by simp [h]⟩
theorem Ps {ps:List Z1} (h:Um ps=true) {j:Nat} (hj:j<ps.length):V1 ps j=true:=by
 unfold Um at h;rw [List.all_eq_true] at h;exact h j (List.mem_range.2 hj)
theorem QT {rs:List Z5} {k:Nat} (h:k<rs.length):ZO rs k ∈ rs:=by
 unfold ZO;simp [List.getD,h]
theorem Lr {rs:List Z5} (h:∀ j,j<rs.length->Zc (ZO rs j)=true):rs.all Zc=true:=by
 rw [List.all_eq_true];intro r hr;obtain ⟨j,hj,rfl⟩:=List.getElem_of_mem hr;have:=h j hj;unfold ZO at this;simpa [List.getD,hj] using this
theorem Lq {rs:List Z5} {j:Nat} (hj:j<rs.length) (h:Zc (ZO rs j)=false):rs.all Zc=false:=by
 rw [List.all_eq_false];exact ⟨_,QT hj,by simp [h]⟩
theorem RK {rs:List Z5} (h:rs.all Zc=true) {j:Nat} (hj:j<rs.length):Zc (ZO rs j)=true:=by
 rw [List.all_eq_true] at h;exact h _ (QT hj)
theorem OY {r:Z5} (h:Zc r=true):1<=r.1/\r.1<=4/\1<=r.2.length/\r.2.length<=4:=by
 unfold Zc at h;simp only [ZR] at h;have h1:=ZS h.1;have h2:=ZS h.2.1;omega
theorem Xp (rs:List Z5) {k:Nat} (h:k<rs.length):ZV (rs.take (k+1))=ZV (rs.take k)+(ZO rs k).1:=by
 unfold ZV ZO;rw [List.take_succ_eq_append_getElem h,List.map_append,List.sum_append];simp [List.getD,h]
theorem TX {rs:List Z5} (h:rs.all Zc=true):∀ k,k<=rs.length->(k:Int)<=ZV (rs.take k)/\ZV (rs.take k)<=4*k
 | 0,_=>by simp [ZV]
 | k+1,hk=>by
  have ih:=TX h k (by omega);have hb:=OY (RK h (j:=k) (by omega));rw [Xp rs (by omega)];omega
theorem SQ (rs:List Z5):ZV (rs.take rs.length)=ZV rs:=by rw [List.take_length]
theorem Zo {rs:List Z5} (h:YB rs=true):1<=rs.length/\rs.length<=3/\rs.all Zc=true/\ZV rs<=8:=by
 unfold YB at h;simp only [ZR,YV] at h;have h1:=ZS h.1;exact ⟨by omega,by omega,h.2.1,h.2.2⟩
open Go.ChangeShapes Go.WideShapes Go.ChangeAt Go.RowKit Go.Sort Go.Proofs.Tryz
theorem GB {W w1:World} {B:Nat} (hb:Below B W w1):(∀ b o,b<B->w1.cell? ⟨b,o,none⟩=W.cell? ⟨b,o,none⟩)/\(∀ b o,b<B->w1.frozen? ⟨b,o,none⟩=W.frozen? ⟨b,o,none⟩):=
 ⟨fun b o h=>hb.cell (p:=⟨b,o,none⟩) h,fun b o h=>hb.frozen (p:=⟨b,o,none⟩) h⟩
theorem UQ (lo n hi:Int) (w:World):cE 53 #[.int .i64 lo,.int .i64 n,.int .i64 hi] w (.bool (inB n lo hi)):=by
 by_cases h1:lo<=n
 ·by_cases h2:n<=hi
  all_goals
   go_enter func53,ntmps53
   go_wp2
   go_ret;exact ⟨ZU (by unfold inB;simp [h1,h2]),rfl⟩
 ·go_enter func53,ntmps53
  go_wp2
  go_ret;exact ⟨ZU (by unfold inB;simp;omega),rfl⟩
theorem WR {P:Nat->Prop} {k:Nat} (h:∀ j,j<k->P j) (hk:P k):∀ j,j<k+1->P j:=fun j hj=>by
 by_cases e:j<k
 ·exact h j e
 ·obtain rfl:j=k:=by omega
  exact hk
structure But (bc:Nat) (w w':World):Prop where
 os:w'.os=w.os
 tape:w'.tape=w.tape
 output:w'.output=w.output
 size:w.heap.size<=w'.heap.size
 block:∀ k,k<w.heap.size->k ≠ bc->w'.heap[k]?=w.heap[k]?
theorem But.refl (bc:Nat) (w:World):But bc w w:=⟨rfl,rfl,rfl,Z3 _,fun _ _ _=>rfl⟩
theorem But.trans {bc:Nat} {a b c:World} (h:But bc a b) (k:But bc b c):But bc a c:=
 ⟨k.os.trans h.os,k.tape.trans h.tape,k.output.trans h.output,XA h.size k.size,fun i hi hn=>(k.block i (YH hi h.size) hn).trans (h.block i hi hn)⟩
theorem But.below {bc B:Nat} {a w:World} (h:But bc a w) (hB:B<=bc) (hs:B<=a.heap.size):Below B a w:=
 ⟨h.os,h.tape,h.output,h.size,fun k hk=>h.block k (YH hk hs) (by omega)⟩
theorem But.later {bc:Nat} {a b c:World} (h:But bc a b) (k:Below b.heap.size b c):But bc a c:=
 h.trans ⟨k.os,k.tape,k.output,k.size,fun i hi _=>k.block i hi⟩
theorem But.within {bc:Nat} {a b c:World} (h:But bc a b) (k:Below a.heap.size b c):But bc a c:=
 ⟨k.os.trans h.os,k.tape.trans h.tape,k.output.trans h.output,XA h.size k.size,fun i hi hn=>(k.block i hi).trans (h.block i hi hn)⟩
theorem But.setCell {bc:Nat} {a w:World} (h:But bc a w) (o:Nat) (v:Value):But bc a (w.setCell ⟨bc,o,none⟩ v):=
 h.trans ⟨rfl,rfl,rfl,by simp,fun k hk hn=>Below.heap_setCell w ⟨bc,o,none⟩ v k hn⟩
theorem But.cell {bc:Nat} {w w':World} (h:But bc w w') {p:Addr} (hp:p.block<w.heap.size) (hn:p.block ≠ bc):w'.cell? p=w.cell? p:=
 World.cell?_of_block (w:=w) (h.block p.block hp hn)
theorem X8 {w w':World} {B t size n:Nat} {v:Value} {xs:List Value} (h:w.ownsRow B t size v n xs) (hs:∀ k,v.ownBlock=some k->w'.heap[k]?=w.heap[k]?):w'.ownsRow B t size v n xs:=by
 refine ⟨h.1,?_⟩
 rcases h.2 with hz | ⟨g,cap,cur,rfl,hb,hg,r⟩
 ·exact .inl hz
 ·exact .inr ⟨g,cap,cur,rfl,hb,(hs g rfl).trans hg,r⟩
theorem Va {w:World} {B B' t size n:Nat} {v:Value} {xs:List Value} (h:w.ownsRow B t size v n xs) (hb:B'<=B):w.ownsRow B' t size v n xs:=by
 refine ⟨h.1,?_⟩
 rcases h.2 with hz | ⟨g,cap,cur,rfl,hb',r⟩
 ·exact .inl hz
 ·exact .inr ⟨g,cap,cur,rfl,by omega,r⟩
def XD (ps:List Z1):List Value:=ps.flatMap fun p=>[.int .i64 p.1,.int .i64 p.2]
def QN (qs:List (Z5 × Value)):List Value:=qs.flatMap fun q=>[.int .i64 q.1.1,q.2]
theorem Pt {α:Type} {f g:α->Value} : ∀ l:List α,(l.flatMap fun p=>[f p,g p]).length=l.length*2
 | []=>rfl
 | p::l=>by rw [List.flatMap_cons,List.length_append,Pt l];simp;omega
theorem Vc {α:Type} {f g:α->Value} : ∀ (l:List α) (k:Nat) (h:k<l.length),(l.flatMap fun p=>[f p,g p])[k*2]?=some (f l[k])/\(l.flatMap fun p=>[f p,g p])[k*2+1]?=some (g l[k])
 | p::l,0,_=>by simp
 | p::l,k+1,h=>by
  have ih:=Vc (f:=f) (g:=g) l k (by simpa using h);rw [List.flatMap_cons,show (k+1)*2=k*2+2 by omega,show k*2+2+1=(k*2+1)+2 by omega];simpa using ih
theorem Ni {a b c:World} {row:Option Nat} (h:a.grownBy b row) (k:b.grownBy c row):a.grownBy c row:=
 ⟨k.os.trans h.os,k.tape.trans h.tape,k.output.trans h.output,XA h.size k.size,fun i hi hn=>(k.block i (YH hi h.size) hn).trans (h.block i hi hn)⟩
theorem Ts (w:World) (r:Option Nat):w.grownBy w r:=⟨rfl,rfl,rfl,Z3 _,fun _ _ _=>rfl⟩
theorem UI {w:World} {b o:Nat} (h:w.heap.size<=b):w.frozen? ⟨b,o,none⟩=false:=by
 unfold World.frozen?;rw [Array.getElem?_eq_none h]
theorem Hj {b:Int} {ps:List Z1} (h:inB b 1 4=false):Zc (b,ps)=false:=by unfold Zc;simp [h]
theorem HH {b:Int} {ps:List Z1} (h:inB ps.length 1 4=false):Zc (b,ps)=false:=by unfold Zc;simp [h]
theorem HJ {b:Int} {ps:List Z1} (h:inB b 1 4=true) (h2:inB ps.length 1 4=true):Zc (b,ps)=Um ps:=by unfold Zc;simp [h,h2]
theorem XB {B:Nat} {w w':World} (h:Below B w w') (n:Nat):Below B w (w'.drewN n):=⟨h.os,h.tape,h.output,h.size,h.block⟩
theorem Jm {ps:List Z1} {k:Nat} {f c:Int} (hp:ZY ps k=(f,c)) (h:inB f 1 1024=false):V1 ps k=false:=by unfold V1 QE;rw [hp];simp [h]
theorem Jn {ps:List Z1} {k:Nat} {f c:Int} (hp:ZY ps k=(f,c)) (h:inB c 1 1024=false):V1 ps k=false:=by unfold V1 QE;rw [hp];simp [h]
theorem H8 {ps:List Z1} {k:Nat} {f c f' c':Int} (hp:ZY ps k=(f,c)) (hz:0<k) (hq:ZY ps (k-1)=(f',c')) (h1:inB f 1 1024=true) (h2:inB c 1 1024=true):V1 ps k=(decide (f'<f) && decide (c'<c)):=by
 unfold V1 QE Ig;rw [hp,hq];simp [h1,h2];omega
theorem Jo {ps:List Z1} {f c:Int} (hp:ZY ps 0=(f,c)) (h1:inB f 1 1024=true) (h2:inB c 1 1024=true):V1 ps 0=true:=by unfold V1 QE;rw [hp];simp [h1,h2]
theorem YS {w:World} {v:Value} {ps:List Z1} (rb:Int) (h:IsPaces w v ps) :
  cB 80 #[.agg #[.int .i64 rb,v]] w (.bool (Zc (rb,ps))):=by
 obtain ⟨a,cap,rfl,hc,hm,hr⟩:=h;have Hr:=Z9 hr;clear hr;have hl:(ps.length:Int)<=9223372036854775807:=by omega
 cases h1:inB rb 1 4
 ·go_enter func80,ntmps80
  go_wp2_with fail;refine (Z4 _ _ _ _).mono ?_;rintro e w' ⟨rfl,rfl⟩;go_wp2_with fail;go_ret;exact ⟨ZU (Hj h1).symm,(ba _ _)⟩
 cases h2:inB ps.length 1 4
 ·go_enter func80,ntmps80
  go_wp2_with fail;refine (Z4 _ _ _ _).mono ?_;rintro e w' ⟨rfl,rfl⟩;go_wp2_with fail;refine (Z4 _ _ _ _).mono ?_;rintro e w' ⟨rfl,rfl⟩;go_wp2_with fail;go_ret;exact ⟨ZU (HH h2).symm,(ba _ _)⟩
 have H3:=Z9 (HJ h1 h2);go_enter func80,ntmps80;go_wp2_with fail;refine (Z4 _ _ _ _).mono ?_;rintro e w' ⟨rfl,rfl⟩;go_wp2_with fail;refine (Z4 _ _ _ _).mono ?_;rintro e w' ⟨rfl,rfl⟩;go_wp2_with fail;clear h1 h2
 go_loopw [3] (fun i wr=> ∃ k:Nat,k<=ps.length/\i= .int .i64 k/\(∀ j,j<k->V1 ps j=true)/\Below (w.heap.size+1) (w.alloc (.cells #[.int .i64 rb,.slice a ps.length cap] 112)) wr) (fun i _=>ps.length-(intOf i).toNat)
 case atStart=>exact ⟨0,Zi _,rfl,fun j hj=>by omega,Z2 _ _⟩
 case round=>
  obtain ⟨k,hk,rfl,hst,hb⟩:=hrel;have Hst:=Z9 hst;have Hb:=Z9 hb;clear hst;have hsz:w.heap.size+1<=wr.heap.size:=by have:=hb.size;simpa using this
  have hbox:wr.cell? ⟨w.heap.size,1,none⟩=some (.slice a ps.length cap):=by rw [hb.cell (p:=⟨w.heap.size,1,none⟩) (by simp)];simp
  have hne0:w.heap.size ≠ wr.heap.size:=by omega
  by_cases hlt:k<ps.length
  ·rcases uh Hr with h0 | ⟨b,off,rfl,hbw,hcl⟩
   ·rw [h0] at hlt;simp at hlt
   have hbB:Below w.heap.size w wr:=((ba _ _)).trans (hb.mono (by omega));have hne:b ≠ wr.heap.size:=by omega
   have hne':b ≠ w.heap.size:=by omega
   obtain ⟨c0,c1⟩:=hcl k hlt;rw [<-hbB.cell (p:=⟨b,off+k*2,none⟩) hbw] at c0;rw [<-hbB.cell (p:=⟨b,off+k*2+1,none⟩) hbw] at c1;generalize hp:ZY ps k=p at c0 c1;have Hp:=Z9 hp;obtain ⟨f,c⟩:=p;simp only at c0 c1;clear hp hb;cases h1:inB f 1 1024
   ·clear hcl
    go_wp2_with fail;go_quiet (exact YG (Z4 _ _ _ _));go_wp2_with fail;go_ret;exact ⟨ZU (by rw [uh H3];exact (Td hlt (Jm (uh Hp) h1)).symm),((ba _ _)).trans ((XB ((uh Hb).alloc hsz _) _).mono (by omega))⟩
   cases h2:inB c 1 1024
   ·clear hcl
    go_wp2_with fail;go_quiet (exact YG (Z4 _ _ _ _));go_wp2_with fail;go_ret;exact ⟨ZU (by rw [uh H3];exact (Td hlt (Jn (uh Hp) h2)).symm),((ba _ _)).trans ((XB ((uh Hb).alloc hsz _) _).mono (by omega))⟩
   by_cases hz:0<k
   ·have hd:decide (0<k)=true:=Wa hz
    obtain ⟨e0,e1⟩:=hcl (k-1) (by omega);rw [<-hbB.cell (p:=⟨b,off+(k-1)*2,none⟩) hbw] at e0;rw [<-hbB.cell (p:=⟨b,off+(k-1)*2+1,none⟩) hbw] at e1;generalize hq:ZY ps (k-1)=q at e0 e1;have Hq:=Z9 hq;obtain ⟨f',c'⟩:=q;simp only at e0 e1;have q0:(wr.alloc (.cells #[.int .i64 f,.int .i64 c] 145)).cell? ⟨w.heap.size,1,none⟩=some (.slice (some ⟨b,off,none⟩) ps.length cap):=by rw [World.cell?_alloc_old _ _ _ hne0];exact hbox
    have q1:(wr.alloc (.cells #[.int .i64 f,.int .i64 c] 145)).cell? ⟨b,off+(k-1)*2,none⟩=some (.int .i64 f'):=by rw [World.cell?_alloc_old _ _ _ hne];exact e0
    have q2:(wr.alloc (.cells #[.int .i64 f,.int .i64 c] 145)).cell? ⟨b,off+(k-1)*2+1,none⟩=some (.int .i64 c'):=by rw [World.cell?_alloc_old _ _ _ hne];exact e1
    clear hcl hq e0 e1;have Hs:=Z9 (H8 (uh Hp) hz (uh Hq) h1 h2);by_cases g1:f<=f'
    ·have g1':decide (f<=f')=true:=Wa g1
     go_wp2_with fail;go_quiet (exact YG (Z4 _ _ _ _));go_wp2_with fail;go_ret;exact ⟨ZU (by rw [uh H3];exact (Td hlt (by rw [uh Hs];simp;omega)).symm),((ba _ _)).trans ((XB ((uh Hb).alloc hsz _) _).mono (by omega))⟩
    have g1':decide (f<=f')=false:=Ya g1;by_cases g2:c<=c'
    ·have g2':decide (c<=c')=true:=Wa g2
     go_wp2_with fail;go_quiet (exact YG (Z4 _ _ _ _));go_wp2_with fail;go_ret;exact ⟨ZU (by rw [uh H3];exact (Td hlt (by rw [uh Hs];simp;omega)).symm),((ba _ _)).trans ((XB ((uh Hb).alloc hsz _) _).mono (by omega))⟩
    ·have g2':decide (c<=c')=false:=Ya g2
     go_wp2_with fail;go_quiet (exact YG (Z4 _ _ _ _));go_wp2_with fail;go_roundw
     case rel=>exact ⟨k+1,by omega,by go_num,WR (uh Hst) (by rw [uh Hs];simp;omega),XB ((uh Hb).alloc hsz _) _⟩
     case measure=>exact ms
   ·obtain rfl:k=0:=by omega
    simp only [Nat.zero_mul,Nat.add_zero] at c0 c1;clear hcl hz;go_wp2_with fail;go_quiet (exact YG (Z4 _ _ _ _));go_wp2_with fail;go_roundw
    case rel=>exact ⟨1,by omega,by go_num,WR (uh Hst) (Jo (uh Hp) h1 h2),XB ((uh Hb).alloc hsz _) _⟩
    case measure=>exact ms
  ·obtain rfl:k=ps.length:=by omega
   clear hb;go_wp2_with fail;go_ret;exact ⟨ZU (by rw [uh H3];exact (IV (uh Hst)).symm),((ba _ _)).trans ((uh Hb).mono (by omega))⟩
open Go.ChangeShapes Go.WideShapes Go.ChangeAt Go.RowKit Go.Sort
section
variable {α : Type} {t k : Nat} {enc : α → List Value}
def VK (enc:α->List Value) (xs:List α):List Value:=xs.flatMap enc
theorem WN (hk:∀ x,(enc x).length=k):∀ xs:List α,(VK enc xs).length=xs.length*k
 | []=>by simp [VK]
 | x::xs=>by
  have ih:=WN hk xs;unfold VK at ih ⊢;rw [List.flatMap_cons,List.length_append,ih,hk,Zn,Nat.add_mul];omega
theorem Nf (xs ys:List α):VK enc (xs++ys)=VK enc xs++VK enc ys:=by unfold VK;rw [List.flatMap_append]
def N4 (L:List Value) (o:Nat):List Value->List Value
 | []=>L
 | u::us=>N4 (L.set o u) (o+1) us
def Sz (w:World) (g o:Nat):List Value->World
 | []=>w
 | u::us=>Sz (w.setCell ⟨g,o,none⟩ u) g (o+1) us
theorem N6:∀ (us L:List Value) (o:Nat),(N4 L o us).length=L.length
 | [],L,o=>rfl
 | u::us,L,o=>by unfold N4;rw [N6 us];simp
theorem N5:∀ (us L:List Value) (o m:Nat),o+us.length<=L.length->(N4 L o us)[m]?=if o<=m/\m<o+us.length then us[m-o]? else L[m]?
 | [],L,o,m,h=>by unfold N4;rw [if_neg (by simp)]
 | u::us,L,o,m,h=>by
  unfold N4;have ih:=N5 us (L.set o u) (o+1) m (by simp at h ⊢;omega);rw [ih];simp only [Zn] at h ⊢;by_cases h1:o+1<=m/\m<o+1+us.length
  ·rw [if_pos h1,if_pos (by omega),show m-o=(m-(o+1))+1 by omega];rfl
  ·rw [if_neg h1]
   by_cases h2:m=o
   ·subst h2;rw [if_pos (by omega),List.getElem?_set_self (by omega)];simp
   ·rw [if_neg (by omega),List.getElem?_set_ne (by omega)]
theorem NP {B t n cap g sz:Nat} : ∀ (us:List Value) {w:World} {xs:List Value} (o:Nat),w.ownsRow B t sz (.slice (some ⟨g,0,none⟩) n cap) n xs->
  (Sz w g o us).ownsRow B t sz (.slice (some ⟨g,0,none⟩) n cap) n (N4 xs o us)/\w.grownBy (Sz w g o us) (some g)
 | [],w,xs,o,h=>⟨h,Ts _ _⟩
 | u::us,w,xs,o,h=>by
  obtain ⟨h1,h2⟩:=World.ownsRow.stored h o u;obtain ⟨h3,h4⟩:=NP us (o+1) h1;exact ⟨h3,Ni h2 h4⟩
def RecAt (t k:Nat) (enc:α->List Value) (n₀:Nat) (w:World) (v:Value) (xs:List α):Prop:=w.ownsRow n₀ t k v xs.length (VK enc xs)
theorem RecAt.lt {n₀:Nat} {w:World} {v:Value} {xs:List α} (h:RecAt t k enc n₀ w v xs) {i:Nat} (hi:v.ownBlock=some i):n₀<=i/\i<w.heap.size:=World.ownsRow.lt h i hi
theorem RecAt.mono {n₀ n₁:Nat} {w:World} {v:Value} {xs:List α} (h:RecAt t k enc n₀ w v xs) (hn:n₁<=n₀):RecAt t k enc n₁ w v xs:=Va h hn
theorem RecAt.same {n₀:Nat} {w w':World} {v:Value} {xs:List α} (h:RecAt t k enc n₀ w v xs) (hs:∀ i,v.ownBlock=some i->w'.heap[i]?=w.heap[i]?):RecAt t k enc n₀ w' v xs:=X8 h hs
theorem RecAt.later {n₀:Nat} {w w':World} {v:Value} {xs:List α} (h:RecAt t k enc n₀ w v xs) (hb:Below w.heap.size w w'):RecAt t k enc n₀ w' v xs:=h.same fun i hi=>hb.block i (h.lt hi).2
theorem RecAt.shape {n₀:Nat} {w:World} {v:Value} {xs:List α} (h:RecAt t k enc n₀ w v xs):∃ a cap,v= .slice a xs.length cap:=by
 rcases h.2 with ⟨rfl,hz⟩ | ⟨g,cap,cur,rfl,_⟩
 ·exact ⟨none,0,by rw [hz]⟩
 ·exact ⟨_,cap,rfl⟩
end
section
variable {α : Type} [Inhabited α] {t k : Nat} {enc : α → List Value}
def Z8 (xs:List α) (j:Nat):α:=xs.getD j default
theorem Py {xs:List α} {j:Nat} (h:j<xs.length):Z8 xs j=xs[j]:=by unfold Z8;simp [List.getD,h]
theorem Sv {xs:List α} {j:Nat} (h:j<xs.length):Z8 xs j ∈ xs:=by rw [Py h];exact List.getElem_mem h
theorem ZC {xs:List α} {i:Nat} {x:α} (h:i<xs.length) (j:Nat):Z8 (xs.set i x) j=if j=i then x else Z8 xs j:=by
 unfold Z8;by_cases e:j=i
 ·subst e;simp [List.getD,h]
 ·rw [if_neg e];simp [List.getD,Ne.symm e]
theorem WM (hk:∀ x,(enc x).length=k):∀ (xs:List α) (j:Nat),j<xs.length-> ∀ i,i<k->(VK enc xs)[j*k+i]?=(enc (Z8 xs j))[i]?
 | x::xs,0,_,i,hi=>by
  unfold VK Z8;rw [List.flatMap_cons,Nat.zero_mul,Nat.zero_add,List.getElem?_append_left (by rw [hk];exact hi)];rfl
 | x::xs,j+1,h,i,hi=>by
  have ih:=WM hk xs j (by simpa using h) i hi;unfold VK Z8 at ih ⊢;rw [List.flatMap_cons,List.getElem?_append_right (by rw [hk,Nat.add_mul];omega),hk,show (j+1)*k+i-k=j*k+i by rw [Nat.add_mul];omega,ih];rfl
theorem Iw (hk:∀ x,(enc x).length=k) (h0:0<k) (xs:List α) (j:Nat) (hj:j<xs.length) (x:α):N4 (VK enc xs) (j*k) (enc x)=VK enc (xs.set j x):=by
 have hl:=WN hk xs;have hjk:j*k+k<=xs.length*k:=by rw [<-Nat.succ_mul];exact Nat.mul_le_mul_right k hj
 apply List.ext_getElem?;intro m;by_cases hm:m<xs.length*k
 ·have hd:m / k<xs.length:=(Nat.div_lt_iff_lt_mul h0).2 hm
  have hr:m%k<k:=Nat.mod_lt _ h0;have he:m=m / k*k+m%k:=by rw [Nat.mul_comm];exact (Nat.div_add_mod m k).symm
  have hg:=WM hk (xs.set j x) (m / k) (by simpa using hd) (m%k) hr;have hg0:=WM hk xs (m / k) hd (m%k) hr;rw [<-he] at hg hg0;rw [N5 _ _ _ _ (by rw [hl,hk];exact hjk),hg,hk,ZC hj,hg0];by_cases e:m / k=j
  ·rw [if_pos e,if_pos (by rw [<-e];omega),show m-j*k=m%k by rw [<-e];omega]
  ·rw [if_neg e,if_neg]
   intro ⟨h1,h2⟩;apply e;exact Nat.div_eq_of_lt_le h1 (by rw [Nat.succ_mul];exact h2)
 ·rw [List.getElem?_eq_none (by rw [N6,hl];omega),List.getElem?_eq_none (by rw [WN hk];simp;omega)]
def IsRec (k:Nat) (enc:α->List Value) (w:World) (v:Value) (xs:List α):Prop:=
 ∃ (a:Option Addr) (cap:Nat),v= .slice a xs.length cap/\xs.length<=cap/\cap<=9223372036854775807/\(xs=[]\/ ∃ b off,a=some ⟨b,off,none⟩/\b<w.heap.size/\
  ∀ j,j<xs.length-> ∀ i u,(enc (Z8 xs j))[i]?=some u->w.cell? ⟨b,off+j*k+i,none⟩=some u)
theorem IsRec.below {w w':World} {v:Value} {xs:List α} (h:IsRec k enc w v xs) (hb:Below w.heap.size w w'):IsRec k enc w' v xs:=by
 obtain ⟨a,cap,rfl,hc,hm,hr⟩:=h;refine ⟨a,cap,rfl,hc,hm,?_⟩
 rcases hr with hr | ⟨b,off,rfl,hlt,hcl⟩
 ·exact .inl hr
 ·exact .inr ⟨b,off,rfl,YH hlt hb.size,fun j hj i u hu=>(hb.cell (p:=⟨b,off+j*k+i,none⟩) hlt).trans (hcl j hj i u hu)⟩
theorem IsRec.shape {w:World} {v:Value} {xs:List α} (h:IsRec k enc w v xs):∃ a cap,v= .slice a xs.length cap/\xs.length<=cap/\cap<=9223372036854775807:=by
 obtain ⟨a,cap,rfl,hc,hm,_⟩:=h;exact ⟨a,cap,rfl,hc,hm⟩
theorem RecAt.recs (hk:∀ x,(enc x).length=k) (h0:0<k) {n₀:Nat} {w:World} {v:Value} {xs:List α} (h:RecAt t k enc n₀ w v xs):IsRec k enc w v xs:=by
 have h':=h
 rcases h.2 with ⟨rfl,hz⟩ | ⟨g,cap,cur,rfl,hb,hg,hnc,hcm,r⟩
 ·exact ⟨none,0,by rw [hz],by omega,by omega,.inl (List.eq_nil_of_length_eq_zero hz)⟩
 ·refine ⟨_,cap,rfl,hnc,by unfold maxLen at hcm;omega,.inr ⟨g,0,rfl,(Array.getElem?_eq_some_iff.1 hg).1,fun j hj i u hu=> ?_⟩⟩
  have hi:i<k:=by
   rcases Nat.lt_or_ge i k with h | h
   ·exact h
   ·rw [List.getElem?_eq_none (by rw [hk];exact h)] at hu;cases hu
  have hjk:j*k+k<=xs.length*k:=by rw [<-Nat.succ_mul];exact Nat.mul_le_mul_right k hj
  rw [Nat.zero_add,World.ownsRow.cellAt h' (j*k+i) (by omega),WM hk xs j hj i hi];exact hu
theorem RecAt.view (hk:∀ x,(enc x).length=k) (h0:0<k) {n₀ n cap:Nat} {w:World} {a:Option Addr} {xs:List α} (h:RecAt t k enc n₀ w (.slice a n cap) xs) (hn:n=xs.length) (hl:0<xs.length):∃ g,a=some ⟨g,0,none⟩/\n₀<=g/\g<w.heap.size/\
  (∀ j,j<xs.length-> ∀ i u,(enc (Z8 xs j))[i]?=some u->w.cell? ⟨g,j*k+i,none⟩=some u)/\(∀ o,w.frozen? ⟨g,o,none⟩=false):=by
 subst hn;have h':=h
 rcases h.2 with ⟨hv,hz⟩ | ⟨g,cap',cur,hv,hb,hg,hnc,hcm,r⟩
 ·omega
 ·cases hv
  refine ⟨g,rfl,hb,(Array.getElem?_eq_some_iff.1 hg).1,fun j hj i u hu=> ?_,fun o=>World.ownsRow.frozenAt h' o⟩
  have hi:i<k:=by
   rcases Nat.lt_or_ge i k with h | h
   ·exact h
   ·rw [List.getElem?_eq_none (by rw [hk];exact h)] at hu;cases hu
  have hjk:j*k+k<=xs.length*k:=by rw [<-Nat.succ_mul];exact Nat.mul_le_mul_right k hj
  rw [World.ownsRow.cellAt h' (j*k+i) (by omega),WM hk xs j hj i hi];exact hu
theorem RecAt.put (hk:∀ x,(enc x).length=k) (h0:0<k) {n₀ n cap g:Nat} {w:World} {xs:List α} (h:RecAt t k enc n₀ w (.slice (some ⟨g,0,none⟩) n cap) xs) (hn:n=xs.length) {j:Nat} (hj:j<xs.length) (x:α) :
  RecAt t k enc n₀ (Sz w g (j*k) (enc x)) (.slice (some ⟨g,0,none⟩) n cap) (xs.set j x)/\w.grownBy (Sz w g (j*k) (enc x)) (some g):=by
 subst hn;obtain ⟨h1,h2⟩:=NP (enc x) (j*k) h;rw [Iw hk h0 xs j hj x] at h1;refine ⟨?_,h2⟩;unfold RecAt;rw [VH];exact h1
end
end Go.Proofs.YtmdgokjeobnnaaaGreatDoor
namespace Go.Proofs.YtmdgokjeobnnaaaGreatDoor
open Go.ChangeShapes Go.WideShapes Go.ChangeAt Go.RowKit Go.Sort
set_option linter.unusedVariables false
section
variable {α : Type} {t k : Nat} {enc : α → List Value}
theorem JY [Inhabited α] (hk:∀ x,(enc x).length=k) (h0:0<k) (z:α) (zs:Array Value) (hz:zs.toList=enc z) (n:Nat):(madeCells zs (n*k)).toList=VK enc (List.replicate n z):=by
 have hs:zs.size=k:=by rw [<-Array.length_toList,hz,hk]
 apply List.ext_getElem?;intro m;by_cases hm:m<n*k
 ·have hd:m / k<n:=(Nat.div_lt_iff_lt_mul h0).2 hm
  have hr:m%k<k:=Nat.mod_lt _ h0;have he:m=m / k*k+m%k:=by rw [Nat.mul_comm];exact (Nat.div_add_mod m k).symm
  have hg:=WM hk (List.replicate n z) (m / k) (by simpa using hd) (m%k) hr;rw [<-he] at hg;have hrec:Z8 (List.replicate n z) (m / k)=z:=by unfold Z8;simp [List.getD,hd]
  rw [hg,hrec,<-hz];simp [madeCells,hm,hs,hr]
 ·rw [List.getElem?_eq_none (by simp [madeCells];omega),List.getElem?_eq_none (by rw [WN hk];simp;omega)]
end
end Go.Proofs.YtmdgokjeobnnaaaGreatDoor
namespace Go.Proofs.YtmdgokjeobnnaaaGreatDoor
open Go.ChangeShapes Go.WideShapes Go.ChangeAt Go.RowKit Go.Sort Go.Proofs.Tryz
set_option linter.unusedVariables false
abbrev Zy:=Int × Int × Int
def XC (p:Zy):List Value:=[.int .i64 p.1,.int .i64 p.2.1,.int .i64 p.2.2]
theorem Yf (p:Zy):(XC p).length=3:=rfl
abbrev WD (w:World) (v:Value) (ps:List Zy):Prop:=IsRec 3 XC w v ps
abbrev GuildsAt (n₀:Nat) (w:World) (v:Value) (ps:List Zy):Prop:=RecAt 106 3 XC n₀ w v ps
theorem JJ:(prog.info? 106).map (fun i=>(i.zero,i.size,i.bytes))=some (some (.agg #[.int .i64 0,.int .i64 0,.int .i64 0]),3,24):=by kernel_rfl
theorem GuildsAt.list {n₀:Nat} {w:World} {v:Value} {ps:List Zy} (h:GuildsAt n₀ w v ps):WD w v ps:=RecAt.recs Yf (by omega) h
theorem RS {w:World} {b off:Nat} {ps:List Zy} (h:∀ j,j<ps.length-> ∀ i u,(XC (Z8 ps j))[i]?=some u->w.cell? ⟨b,off+j*3+i,none⟩=some u) {j:Nat} (hj:j<ps.length) :
  w.cell? ⟨b,off+j*3,none⟩=some (.int .i64 (Z8 ps j).1)/\w.cell? ⟨b,off+j*3+1,none⟩=some (.int .i64 (Z8 ps j).2.1)/\w.cell? ⟨b,off+j*3+2,none⟩=some (.int .i64 (Z8 ps j).2.2):=
 ⟨h j hj 0 _ rfl,h j hj 1 _ rfl,h j hj 2 _ rfl⟩
open Go.ChangeShapes Go.WideShapes Go.ChangeAt Go.RowKit Go.Sort
def Xd (lo hi:Int):Bool:=inB lo 0 1024 && inB hi 0 1024 && decide (lo<=hi)
def UJ (g:Zy) (n:Int):Bool:=inB g.1 (-1) (n-1) && Xd g.2.1 g.2.2
theorem JH {g:Zy} {n:Int} (h:UJ g n=true) : -1<=g.1/\g.1<=n-1/\Xd g.2.1 g.2.2=true:=by
 unfold UJ at h;simp only [ZR] at h;exact ⟨(ZS h.1).1,(ZS h.1).2,h.2⟩
def Vh (ps:List Zy) (k:Nat):Bool:=(List.range k).all fun i=>UJ (Z8 ps i) i
theorem Rg (ps:List Zy) (k:Nat):Vh ps (k+1)=(Vh ps k && UJ (Z8 ps k) k):=by unfold Vh;rw [List.range_succ,List.all_append];simp
theorem Ia {ps:List Zy} {k n:Nat} (hk:k<n) (h:UJ (Z8 ps k) k=false):Vh ps n=false:=by
 unfold Vh;rw [List.all_eq_false];exact ⟨k,List.mem_range.2 hk,by simp [h]⟩
theorem Oi {ps:List Zy} {k n:Nat} (h:Vh ps n=true) (hk:k<n):UJ (Z8 ps k) k=true:=by
 unfold Vh at h;exact List.all_eq_true.1 h k (List.mem_range.2 hk)
def YD (ps:List Zy):Bool:=Vh ps ps.length && decide (ps.length<=6)
theorem Xg {ps:List Zy} (h:YD ps=true):Vh ps ps.length=true/\ps.length<=6:=by
 unfold YD at h;simpa using h
theorem Ph {ps:List Zy} {k:Nat} (hk:k<ps.length) (h:UJ (Z8 ps k) k=false):YD ps=false:=by unfold YD;rw [Ia hk h];rfl
theorem Tt {ps:List Zy} (h:YD ps=true) {g:Int} (h0:0<=g) (h1:g<ps.length) : -1<=(Z8 ps g.toNat).1/\(Z8 ps g.toNat).1<=g-1/\Xd (Z8 ps g.toNat).2.1 (Z8 ps g.toNat).2.2=true:=by
 have:=JH (Oi (Xg h).1 (k:=g.toNat) (by omega));rw [show ((g.toNat:Nat):Int)=g by omega] at this;exact this
def Rv (b:Int × Int) (lo hi:Int):Int × Int:=(min (max lo b.1) b.2,min (max hi (min (max lo b.1) b.2)) b.2)
def Sg (ps:List Zy):Nat->Int->Int × Int
 | 0,_=>(0,1024)
 | n+1,g=>if g<0 then (0,1024) else Rv (Sg ps n (Z8 ps g.toNat).1) (Z8 ps g.toNat).2.1 (Z8 ps g.toNat).2.2
def bnd (ps:List Zy) (g:Int):Int × Int:=Sg ps (g+1).toNat g
theorem Lh {b:Int × Int} {lo hi:Int} (h0:0<=b.1) (h1:b.1<=b.2) (h2:b.2<=1024):b.1<=(Rv b lo hi).1/\(Rv b lo hi).1<=(Rv b lo hi).2/\(Rv b lo hi).2<=b.2:=by
 unfold Rv;refine ⟨?_,?_,?_⟩<;>simp only<;>omega
theorem KT (ps:List Zy):∀ (n:Nat) (g:Int),0<=(Sg ps n g).1/\(Sg ps n g).1<=(Sg ps n g).2/\(Sg ps n g).2<=1024
 | 0,g=>by unfold Sg;simp
 | n+1,g=>by
  unfold Sg
  split
  ·simp
  ·obtain ⟨h0,h1,h2⟩:=KT ps n (Z8 ps g.toNat).1
   obtain ⟨h3,h4,h5⟩:=Lh (lo:=(Z8 ps g.toNat).2.1) (hi:=(Z8 ps g.toNat).2.2) h0 h1 h2;exact ⟨by omega,h4,by omega⟩
theorem Gj (ps:List Zy) (g:Int):0<=(bnd ps g).1/\(bnd ps g).1<=(bnd ps g).2/\(bnd ps g).2<=1024:=KT ps _ g
theorem Pa {ps:List Zy} (h:YD ps=true):∀ (n m:Nat) (g:Int),g<n->g<m->g<ps.length->Sg ps n g=Sg ps m g
 | 0,0,g,_,_,_=>rfl
 | 0,m+1,g,h1,h2,h3=>by unfold Sg;rw [if_pos (by omega)]
 | n+1,0,g,h1,h2,h3=>by unfold Sg;rw [if_pos (by omega)]
 | n+1,m+1,g,h1,h2,h3=>by
  unfold Sg;by_cases h0:g<0
  ·rw [if_pos h0,if_pos h0]
  ·rw [if_neg h0,if_neg h0]
   obtain ⟨a0,a1,_⟩:=Tt h (g:=g) (by omega) h3;rw [Pa h n m (Z8 ps g.toNat).1 (by omega) (by omega) (by omega)]
theorem MY (ps:List Zy) {g:Int} (h:g<0):bnd ps g=(0,1024):=by
 unfold bnd;rw [show (g+1).toNat=0 by omega];rfl
theorem Ik {ps:List Zy} (h:YD ps=true) {g:Int} (h0:0<=g) (h1:g<ps.length):bnd ps g=Rv (bnd ps (Z8 ps g.toNat).1) (Z8 ps g.toNat).2.1 (Z8 ps g.toNat).2.2:=by
 obtain ⟨a0,a1,_⟩:=Tt h h0 h1;unfold bnd;rw [show (g+1).toNat=g.toNat+1 by omega];show (if g<0 then (0,1024) else _)=_;rw [if_neg (by omega),Pa h g.toNat ((Z8 ps g.toNat).1+1).toNat _ (by omega) (by omega) (by omega)]
theorem YL {B:Nat} {w w':World} (h:Below B w w') (n:Nat):Below B w (w'.drewN n):=⟨h.os,h.tape,h.output,h.size,h.block⟩
theorem YA (x:Int) (w:World):cE 84 #[.int .i64 x] w (.bool (inB x 0 1024)):=by
 go_enter func84,ntmps84;go_wp2_with (go_at_call 27;refine (Z4 _ _ _ _).mono ?_;rintro e w' ⟨rfl,rfl⟩)
 go_ret;exact ⟨rfl,rfl⟩
theorem YZ (lo hi:Int) (w:World):cE 81 #[.int .i64 lo,.int .i64 hi] w (.bool (Xd lo hi)):=by
 cases h1:inB lo 0 1024
 ·have hp:Xd lo hi=false:=by unfold Xd;rw [h1];rfl
  rw [hp];clear hp;go_enter func81,ntmps81;go_wp2_with (go_at_call 84;refine (YA _ _).mono ?_;rintro e w' ⟨rfl,rfl⟩)
  go_ret;exact ⟨rfl,rfl⟩
 ·cases h2:inB hi 0 1024
  ·have hp:Xd lo hi=false:=by unfold Xd;rw [h1,h2];rfl
   rw [hp];clear hp;go_enter func81,ntmps81;go_wp2_with (go_at_call 84;refine (YA _ _).mono ?_;rintro e w' ⟨rfl,rfl⟩)
   go_ret;exact ⟨rfl,rfl⟩
  ·have hp:Xd lo hi=decide (lo<=hi):=by unfold Xd;rw [h1,h2];rfl
   rw [hp];clear hp;by_cases h3:lo<=hi
   all_goals
    go_enter func81,ntmps81;go_wp2_with (go_at_call 84;refine (YA _ _).mono ?_;rintro e w' ⟨rfl,rfl⟩)
    go_ret;exact ⟨ZU (by first | (simp;done) | (simp;omega)),rfl⟩
theorem SA {w:World} {v:Value} {ps:List Zy} (h:WD w v ps) :
  cB 61 #[v] w (.bool (YD ps)):=by
 obtain ⟨a,cap,rfl,hc,hm,hr⟩:=h;have Hr:=Z9 hr;clear hr;go_enter func61,ntmps61;go_wp2_with fail
 go_loopw [3] (fun i wr=> ∃ k:Nat,k<=ps.length/\i= .int .i64 k/\Vh ps k=true/\Below w.heap.size w wr) (fun i _=>ps.length-(intOf i).toNat)
 case atStart=>exact ⟨0,Zi _,rfl,rfl,Z2 _ _⟩
 case round=>
  obtain ⟨k,hk,rfl,hst,hb⟩:=hrel;have Hst:=Z9 hst;have Hb:=Z9 hb;clear hst;by_cases hlt:k<ps.length
  ·rcases uh Hr with h0 | ⟨b,off,rfl,hbw,hcl⟩
   ·rw [h0] at hlt;simp at hlt
   obtain ⟨c0,c1,c2⟩:=RS hcl hlt;rw [<-hb.cell (p:=⟨b,off+k*3,none⟩) hbw] at c0;rw [<-hb.cell (p:=⟨b,off+k*3+1,none⟩) hbw] at c1;rw [<-hb.cell (p:=⟨b,off+k*3+2,none⟩) hbw] at c2;generalize hp:Z8 ps k=p at c0 c1 c2;have Hp:=Z9 hp;clear hp;obtain ⟨x0,x1,x2⟩:=p;simp only at c0 c1 c2;clear hcl hb;have hg:UJ (x0,x1,x2) k=(inB x0 (-1) ((k:Int)-1) && Xd x1 x2):=rfl;have Hg:=Z9 hg;clear hg;cases h1:inB x0 (-1) ((k:Int)-1)
   ·go_wp2_with fail
    go_quiet (first | exact YG (Z4 _ _ _ _) | exact YG (YZ _ _ _));go_wp2_with fail;go_ret;exact ⟨ZU (Ph hlt (by rw [uh Hp,uh Hg,h1];rfl)).symm,YL (uh Hb) _⟩
   cases h2:Xd x1 x2
   ·go_wp2_with fail
    go_quiet (first | exact YG (Z4 _ _ _ _) | exact YG (YZ _ _ _));go_wp2_with fail;go_ret;exact ⟨ZU (Ph hlt (by rw [uh Hp,uh Hg,h1,h2];rfl)).symm,YL (uh Hb) _⟩
   ·go_wp2_with fail
    go_quiet (first | exact YG (Z4 _ _ _ _) | exact YG (YZ _ _ _));go_wp2_with fail;go_roundw
    case rel=>exact ⟨k+1,by omega,by go_num,by rw [Rg,uh Hst,uh Hp,uh Hg,h1,h2];rfl,YL (uh Hb) _⟩
    case measure=>exact ms
  ·obtain rfl:k=ps.length:=by omega
   by_cases hbig:ps.length<=6
   all_goals
    go_wp2_with fail;go_ret;exact ⟨ZU (by unfold YD;rw [uh Hst];simp;omega),hb⟩
theorem RZ {ps:List Zy} (g:Int) (lo hi:Int) {w:World} {v:Value} (h:WD w v ps)
  (hB:cB 178 #[v,.int .i64 g] w (.tuple #[.int .i64 (bnd ps g).1,.int .i64 (bnd ps g).2])) :
  cB 174 #[v,.int .i64 g,.int .i64 lo,.int .i64 hi] w (.tuple #[.int .i64 (Rv (bnd ps g) lo hi).1,.int .i64 (Rv (bnd ps g) lo hi).2]):=by
 have HB:=Z9 hB;clear hB;obtain ⟨a,cap,rfl,_⟩:=h;unfold Rv;go_enter func174,ntmps174;go_wp2_with fail;refine ck (uh HB) fun w1 hb1=> ?_;go_wp2_with (go_at_call 175;refine (UA _ _ _ _).mono ?_;rintro e w' ⟨rfl,rfl⟩)
 go_ret2
 exact ⟨rfl,hb1⟩
theorem OQ {ps:List Zy} (hg:YD ps=true):∀ (n:Nat) (g:Int) {w:World} {v:Value},WD w v ps-> -1<=g->g<n->g<ps.length->
  cB 178 #[v,.int .i64 g] w (.tuple #[.int .i64 (bnd ps g).1,.int .i64 (bnd ps g).2]):=by
 intro n
 induction n with
 | zero=>
  intro g w v h h0 h1 h2;obtain rfl:g= -1:=by omega
  rw [MY ps (by omega)];obtain ⟨a,cap,rfl,_⟩:=h;go_enter func178,ntmps178;go_wp2_with fail
  go_ret2
  exact ⟨rfl,Z2 _ _⟩
 | succ n ih=>
  intro g w v h h0 h1 h2;by_cases hg0:g<0
  ·obtain rfl:g= -1:=by omega
   rw [MY ps (by omega)];obtain ⟨a,cap,rfl,_⟩:=h;go_enter func178,ntmps178;go_wp2_with fail
   go_ret2
   exact ⟨rfl,Z2 _ _⟩
  ·obtain ⟨k,rfl⟩:∃ k:Nat,g=k:=⟨g.toNat,by omega⟩
   have hlt:k<ps.length:=by omega
   obtain ⟨a0,a1,_⟩:=Tt hg (g:=(k:Int)) (by omega) h2;have hs:=Ik hg (g:=(k:Int)) (by omega) h2;rw [show ((k:Int)).toNat=k by omega] at a0 a1 hs;rw [hs];clear hs;have Hi:=Z9 h;obtain ⟨a,cap,rfl,hc,hm,hr⟩:=h
   rcases hr with hz | ⟨b,off,rfl,hbw,hcl⟩
   ·rw [hz] at hlt;simp at hlt
   obtain ⟨c0,c1,c2⟩:=RS hcl hlt;clear hcl;generalize hp:Z8 ps k=p at *;obtain ⟨x0,x1,x2⟩:=p;simp only at c0 c1 c2 a0 a1;have k0:=ZX c0;have k1:=ZX c1;have k2:=ZX c2;have ih':=fun (w':World) (h:WD w' (.slice (some ⟨b,off,none⟩) ps.length cap) ps)=>RZ x0 x1 x2 h (ih x0 h a0 (by omega) (by omega));have Ih:=Z9 ih';clear ih ih' hp;go_enter func178,ntmps178;go_wp2_with fail;refine wq ?_
   repeat (go_big_quiet_step (exact ZW (uh Ih _ ((uh Hi).below (Z0 _ _ _)))))
   refine wpQuiet_nil ?_;intro _ hw';obtain ⟨⟨dq,osq⟩,hw''⟩:=hw';subst hw'';go_wp2_with fail
   go_ret2
   exact ⟨rfl,Z0 _ _ _⟩
def GL (rs:List Z5):Prop:= ∀ k,k<=rs.length->0<=ZV (rs.take k)/\ZV (rs.take k)<=1000000
theorem KR {rs:List Z5} (h:rs.all Zc=true) (hl:rs.length<=3):GL rs:=fun k hk=>by have:=TX h k hk;omega
theorem GV {rs:List Z5} (h:inB rs.length 1 3=false):YB rs=false:=by unfold YB;simp [h]
theorem GW {rs:List Z5} (h:rs.all Zc=false):YB rs=false:=by unfold YB;rw [h];simp
theorem GX {rs:List Z5} (h:inB rs.length 1 3=true) (h2:rs.all Zc=true):YB rs=decide (ZV rs<=8):=by unfold YB;rw [h,h2];simp
theorem IsRooms.alloc {w:World} {v:Value} {rs:List Z5} (h:IsRooms w v rs) (o:Obj):IsRooms (w.alloc o) v rs:=h.below ((ba _ _))
abbrev Z6:=Int × Int × Int × Int × Int × Int × Int × Int × Int × Int × Int
def ZZ (p:Z6):List Value:=[.int .i64 p.1,.int .i64 p.2.1,.int .i64 p.2.2.1,.int .i64 p.2.2.2.1,.int .i64 p.2.2.2.2.1,.int .i64 p.2.2.2.2.2.1,.int .i64 p.2.2.2.2.2.2.1,.int .i64 p.2.2.2.2.2.2.2.1,.int .i64 p.2.2.2.2.2.2.2.2.1,.int .i64 p.2.2.2.2.2.2.2.2.2.1,.int .i64 p.2.2.2.2.2.2.2.2.2.2]
theorem ZT (p:Z6):(ZZ p).length=11:=rfl
abbrev MO (w:World) (v:Value) (ps:List Z6):Prop:=IsRec 11 ZZ w v ps
abbrev SmithsAt (n₀:Nat) (w:World) (v:Value) (ps:List Z6):Prop:=RecAt 79 11 ZZ n₀ w v ps
theorem SmithsAt.list {n₀:Nat} {w:World} {v:Value} {ps:List Z6} (h:SmithsAt n₀ w v ps):MO w v ps:=RecAt.recs ZT (by omega) h
theorem YM {w:World} {b off:Nat} {ps:List Z6} (h:∀ j,j<ps.length-> ∀ i u,(ZZ (Z8 ps j))[i]?=some u->w.cell? ⟨b,off+j*11+i,none⟩=some u) {j:Nat} (hj:j<ps.length) :
  w.cell? ⟨b,off+j*11,none⟩=some (.int .i64 (Z8 ps j).1)/\w.cell? ⟨b,off+j*11+1,none⟩=some (.int .i64 (Z8 ps j).2.1)/\w.cell? ⟨b,off+j*11+2,none⟩=some (.int .i64 (Z8 ps j).2.2.1)/\w.cell? ⟨b,off+j*11+3,none⟩=some (.int .i64 (Z8 ps j).2.2.2.1)/\w.cell? ⟨b,off+j*11+4,none⟩=some (.int .i64 (Z8 ps j).2.2.2.2.1)/\w.cell? ⟨b,off+j*11+5,none⟩=some (.int .i64 (Z8 ps j).2.2.2.2.2.1)/\w.cell? ⟨b,off+j*11+6,none⟩=some (.int .i64 (Z8 ps j).2.2.2.2.2.2.1)/\w.cell? ⟨b,off+j*11+7,none⟩=some (.int .i64 (Z8 ps j).2.2.2.2.2.2.2.1)/\w.cell? ⟨b,off+j*11+8,none⟩=some (.int .i64 (Z8 ps j).2.2.2.2.2.2.2.2.1)/\w.cell? ⟨b,off+j*11+9,none⟩=some (.int .i64 (Z8 ps j).2.2.2.2.2.2.2.2.2.1)/\w.cell? ⟨b,off+j*11+10,none⟩=some (.int .i64 (Z8 ps j).2.2.2.2.2.2.2.2.2.2):=
 ⟨h j hj 0 _ rfl,h j hj 1 _ rfl,h j hj 2 _ rfl,h j hj 3 _ rfl,h j hj 4 _ rfl,h j hj 5 _ rfl,h j hj 6 _ rfl,h j hj 7 _ rfl,h j hj 8 _ rfl,h j hj 9 _ rfl,h j hj 10 _ rfl⟩
theorem I9 {w:World} {g o:Nat} {x:Z6} (h:∀ i u,(ZZ x)[i]?=some u->w.cell? ⟨g,o+i,none⟩=some u):w.cell? ⟨g,o+0,none⟩=some (.int .i64 x.1)/\w.cell? ⟨g,o+1,none⟩=some (.int .i64 x.2.1)/\w.cell? ⟨g,o+2,none⟩=some (.int .i64 x.2.2.1)/\w.cell? ⟨g,o+3,none⟩=some (.int .i64 x.2.2.2.1)/\w.cell? ⟨g,o+4,none⟩=some (.int .i64 x.2.2.2.2.1)/\w.cell? ⟨g,o+5,none⟩=some (.int .i64 x.2.2.2.2.2.1)/\w.cell? ⟨g,o+6,none⟩=some (.int .i64 x.2.2.2.2.2.2.1)/\w.cell? ⟨g,o+7,none⟩=some (.int .i64 x.2.2.2.2.2.2.2.1)/\w.cell? ⟨g,o+8,none⟩=some (.int .i64 x.2.2.2.2.2.2.2.2.1)/\w.cell? ⟨g,o+9,none⟩=some (.int .i64 x.2.2.2.2.2.2.2.2.2.1)/\w.cell? ⟨g,o+10,none⟩=some (.int .i64 x.2.2.2.2.2.2.2.2.2.2):=⟨h 0 _ rfl,h 1 _ rfl,h 2 _ rfl,h 3 _ rfl,h 4 _ rfl,h 5 _ rfl,h 6 _ rfl,h 7 _ rfl,h 8 _ rfl,h 9 _ rfl,h 10 _ rfl⟩
theorem Iy {w:World} {g:Nat} (h:∀ o,w.frozen? ⟨g,o,none⟩=false) (o:Nat):w.frozen? ⟨g,o+0,none⟩=false/\w.frozen? ⟨g,o+1,none⟩=false/\w.frozen? ⟨g,o+2,none⟩=false/\w.frozen? ⟨g,o+3,none⟩=false/\w.frozen? ⟨g,o+4,none⟩=false/\w.frozen? ⟨g,o+5,none⟩=false/\w.frozen? ⟨g,o+6,none⟩=false/\w.frozen? ⟨g,o+7,none⟩=false/\w.frozen? ⟨g,o+8,none⟩=false/\w.frozen? ⟨g,o+9,none⟩=false/\w.frozen? ⟨g,o+10,none⟩=false:=⟨h _,h _,h _,h _,h _,h _,h _,h _,h _,h _,h _⟩
theorem Ga {w:World} {g:Nat} (h:∀ o,w.frozen? ⟨g,o,none⟩=false) (o:Nat):w.frozen? ⟨g,o,none⟩=false/\w.frozen? ⟨g,o+1,none⟩=false/\w.frozen? ⟨g,o+2,none⟩=false/\w.frozen? ⟨g,o+3,none⟩=false/\w.frozen? ⟨g,o+4,none⟩=false/\w.frozen? ⟨g,o+5,none⟩=false/\w.frozen? ⟨g,o+6,none⟩=false/\w.frozen? ⟨g,o+7,none⟩=false/\w.frozen? ⟨g,o+8,none⟩=false/\w.frozen? ⟨g,o+9,none⟩=false/\w.frozen? ⟨g,o+10,none⟩=false:=Iy h o
theorem O7 {rs:List Z5} (h:YB rs=true):GL rs:=KR (Zo h).2.2.1 (Zo h).2.1
theorem Ug {w:World} {v:Value} {rs:List Z5} (h:IsRooms w v rs) (ha:GL rs) :
  cB 62 #[.agg #[v]] w (.int .i64 (ZV rs)):=by
 obtain ⟨a,cap,rfl,hc,hm,hr⟩:=h;have Hr:=Z9 hr;have Ha:=Z9 ha;clear hr ha;go_enter func62,ntmps62;go_wp2_with fail
 go_loop [3,4] (fun s i=> ∃ k:Nat,k<=rs.length/\i= .int .i64 k/\s= .int .i64 (ZV (rs.take k))) (fun _ i=>rs.length-(intOf i).toNat)
 case atStart=>exact ⟨0,Zi _,rfl,rfl⟩
 case round=>
  obtain ⟨k,hk,rfl,rfl⟩:=hrel;by_cases hlt:k<rs.length
  ·rcases uh Hr with h0 | ⟨b,off,rfl,hbw,hcl⟩
   ·rw [h0] at hlt;simp at hlt
   obtain ⟨c0,pv,c1,hip⟩:=hcl k hlt;have hne:b ≠ w.heap.size:=KS hbw;have hs0:=uh Ha k hk;have hs1:=uh Ha (k+1) hlt;have Hs:=Z9 (Xp rs hlt);rw [Xp rs hlt] at hs1;generalize ZV (rs.take k)=s at *;generalize (ZO rs k).1=rb at *;obtain ⟨s0,s1⟩:=hs0;obtain ⟨s2,s3⟩:=hs1;clear hcl hip;go_wp2_with fail
   go_round
   case rel=>exact ⟨k+1,by omega,by go_num,by rw [uh Hs]⟩
   case measure=>exact ms
  ·obtain rfl:k=rs.length:=by omega
   go_wp2_with fail;go_ret;exact ⟨Za (by first | rfl | rw [SQ]),(ba _ _)⟩
theorem V0 {w:World} {v:Value} {rs:List Z5} (h:IsRooms w v rs) :
  cB 60 #[.agg #[v]] w (.bool (YB rs)):=by
 have Hv:=Z9 h;obtain ⟨a,cap,rfl,hc,hm,hr⟩:=h;have Hr:=Z9 hr;clear hr;have hl:(rs.length:Int)<=9223372036854775807:=by omega
 go_enter func60,ntmps60;go_wp2_with fail
 go_loopw [3] (fun i wr=> ∃ k:Nat,k<=rs.length/\i= .int .i64 k/\(∀ j,j<k->Zc (ZO rs j)=true)/\Below (w.heap.size+1) (w.alloc (.cells #[.slice a rs.length cap] 34)) wr) (fun i _=>rs.length-(intOf i).toNat)
 case atStart=>exact ⟨0,Zi _,rfl,fun j hj=>by omega,Z2 _ _⟩
 case round=>
  obtain ⟨k,hk,rfl,hst,hb⟩:=hrel;have Hst:=Z9 hst;have Hb:=Z9 hb;have hsz:w.heap.size+1<=wr.heap.size:=by have:=hb.size;simpa using this
  have hbox:wr.cell? ⟨w.heap.size,0,none⟩=some (.slice a rs.length cap):=by rw [hb.cell (p:=⟨w.heap.size,0,none⟩) (by simp)];simp
  have hbB:Below w.heap.size w wr:=((ba _ _)).trans (hb.mono (by omega));clear hst;by_cases hlt:k<rs.length
  ·rcases uh Hr with h0 | ⟨b,off,rfl,hbw,hcl⟩
   ·rw [h0] at hlt;simp at hlt
   obtain ⟨c0,pv,c1,hip⟩:=hcl k hlt;rw [<-hbB.cell (p:=⟨b,off+k*2,none⟩) hbw] at c0;rw [<-hbB.cell (p:=⟨b,off+k*2+1,none⟩) hbw] at c1;have Hip:=Z9 (hip.below hbB);obtain ⟨pa,pcap,rfl,_⟩:=hip;generalize hp:ZO rs k=p at *;obtain ⟨rb,ps⟩:=p;simp only at c0 c1;have Hp:=Z9 hp;have HbB:=Z9 hbB;clear hp hcl hb hbB;cases hrb:Zc (rb,ps)
   ·go_wp2_with fail
    refine ck (YS rb (uh Hip)) fun w1 hb1=> ?_;have Hb1:=Z9 hb1;clear hb1;go_wp2_with fail;go_ret;exact ⟨ZU (GW (Lq hlt (by rw [uh Hp];exact hrb))).symm,(uh HbB).trans ((uh Hb1).mono (uh HbB).size)⟩
   ·go_wp2_with fail
    refine ck (YS rb (uh Hip)) fun w1 hb1=> ?_;have Hb1:=Z9 hb1;clear hb1;go_wp2_with fail;go_roundw
    case rel=>exact ⟨k+1,by omega,by go_num,WR (uh Hst) (by rw [uh Hp];exact hrb),(uh Hb).trans ((uh Hb1).mono hsz)⟩
    case measure=>exact ms
  ·obtain rfl:k=rs.length:=by omega
   have h2:=Lr (uh Hst);have HbB:=Z9 hbB;have hw1:=Z9 ((uh Hv).below hbB);clear hb hbB;cases h1:inB rs.length 1 3
   ·have H2:=Z9 (GV h1)
    clear h2;go_wp2_with fail;refine (Z4 _ _ _ _).mono ?_;rintro e w' ⟨rfl,rfl⟩;go_wp2_with fail;go_ret;exact ⟨ZU (uh H2).symm,uh HbB⟩
   ·have H3:=Z9 (GX h1 h2)
    have Ha:=Z9 (KR h2 (by have:=ZS h1;omega));clear h2;go_wp2_with fail;refine (Z4 _ _ _ _).mono ?_;rintro e w' ⟨rfl,rfl⟩;go_wp2_with fail;refine ck (Ug (uh hw1) (uh Ha)) fun w2 hb2=> ?_;have Hb2:=Z9 hb2;clear hb2;go_wp2_with fail;go_ret;exact ⟨ZU (by rw [uh H3]),(uh HbB).trans ((uh Hb2).mono (uh HbB).size)⟩
abbrev E11:Array Value:=#[.int .i64 0,.int .i64 0,.int .i64 0,.int .i64 0,.int .i64 0,.int .i64 0,.int .i64 0,.int .i64 0,.int .i64 0,.int .i64 0,.int .i64 0]
abbrev I11 (a b c d e f g h i j k:Int):Array Value:=#[.int .i64 a,.int .i64 b,.int .i64 c,.int .i64 d,.int .i64 e,.int .i64 f,.int .i64 g,.int .i64 h,.int .i64 i,.int .i64 j,.int .i64 k]
def Blk (w:World) (R:Nat) (t:TypeId) (cs:Array Value):Prop:=w.heap[R]?=some (.cells cs t (0,0))
section
variable {w w' : World} {R B : Nat} {t : TypeId} {cs : Array Value}
theorem Blk.lt (h:Blk w R t cs):R<w.heap.size:=(Array.getElem?_eq_some_iff.1 h).1
theorem Blk.cell (h:Blk w R t cs) {i:Nat} {v:Value} (hi:cs[i]?=some v):w.cell? ⟨R,i,none⟩=some v:=by simp [World.cell?,show w.heap[R]?=_ from h,hi]
theorem Blk.free (h:Blk w R t cs) (i:Nat):w.frozen? ⟨R,i,none⟩=false:=frozen_of_row w R i cs t h
theorem Blk.new (w:World) (t:TypeId) (cs:Array Value):Blk (w.alloc (.cells cs t)) w.heap.size t cs:=by show (w.heap.push _)[w.heap.size]?=_;simp
theorem Blk.same (h:Blk w R t cs) (hs:w'.heap[R]?=w.heap[R]?):Blk w' R t cs:=hs.trans h
theorem Blk.below (h:Blk w R t cs) (hb:Below B w w') (hR:R<B):Blk w' R t cs:=h.same (hb.block R hR)
theorem Blk.alloc (h:Blk w R t cs) (o:Obj):Blk (w.alloc o) R t cs:=h.below ((Z2 w.heap.size w).alloc (Z3 _) o) h.lt
theorem Blk.set (h:Blk w R t cs) (i:Nat) (v:Value):Blk (w.setCell ⟨R,i,none⟩ v) R t (cs.setIfInBounds i v):=heap_setCell_same w R i cs t v h
theorem Blk.other (h:Blk w R t cs) {a:Addr} (ha:R ≠ a.block) (v:Value):Blk (w.setCell a v) R t cs:=h.same (heap_setCell_other w a R v ha)
theorem Blk.drewN (h:Blk w R t cs) (n:Nat):Blk (w.drewN n) R t cs:=h
end
theorem MZ (w:World) {t:TypeId} {cs:Array Value} {i:Nat} {v:Value} (hi:cs[i]?=some v):(w.alloc (.cells cs t)).cell? ⟨w.heap.size,i,none⟩=some v:=(Blk.new w t cs).cell hi
theorem Blk.c2 {w:World} {R:Nat} {t:TypeId} {v0 v1:Value} (h:Blk w R t #[v0,v1]):w.cell? ⟨R,0,none⟩=some v0/\w.cell? ⟨R,1,none⟩=some v1:=⟨h.cell rfl,h.cell rfl⟩
theorem Blk.c3 {w:World} {R:Nat} {t:TypeId} {v0 v1 v2:Value} (h:Blk w R t #[v0,v1,v2]):w.cell? ⟨R,0,none⟩=some v0/\w.cell? ⟨R,1,none⟩=some v1/\w.cell? ⟨R,2,none⟩=some v2:=⟨h.cell rfl,h.cell rfl,h.cell rfl⟩
theorem Blk.c4 {w:World} {R:Nat} {t:TypeId} {v0 v1 v2 v3:Value} (h:Blk w R t #[v0,v1,v2,v3]):w.cell? ⟨R,0,none⟩=some v0/\w.cell? ⟨R,1,none⟩=some v1/\w.cell? ⟨R,2,none⟩=some v2/\w.cell? ⟨R,3,none⟩=some v3:=⟨h.cell rfl,h.cell rfl,h.cell rfl,h.cell rfl⟩
theorem Blk.c6 {w:World} {R:Nat} {t:TypeId} {v0 v1 v2 v3 v4 v5:Value} (h:Blk w R t #[v0,v1,v2,v3,v4,v5]):w.cell? ⟨R,0,none⟩=some v0/\w.cell? ⟨R,1,none⟩=some v1/\w.cell? ⟨R,2,none⟩=some v2/\w.cell? ⟨R,3,none⟩=some v3/\w.cell? ⟨R,4,none⟩=some v4/\w.cell? ⟨R,5,none⟩=some v5:=⟨h.cell rfl,h.cell rfl,h.cell rfl,h.cell rfl,h.cell rfl,h.cell rfl⟩
theorem Blk.c11 {w:World} {R:Nat} {t:TypeId} {v0 v1 v2 v3 v4 v5 v6 v7 v8 v9 v10:Value} (h:Blk w R t #[v0,v1,v2,v3,v4,v5,v6,v7,v8,v9,v10]):w.cell? ⟨R,0,none⟩=some v0/\w.cell? ⟨R,1,none⟩=some v1/\w.cell? ⟨R,2,none⟩=some v2/\w.cell? ⟨R,3,none⟩=some v3/\w.cell? ⟨R,4,none⟩=some v4/\w.cell? ⟨R,5,none⟩=some v5/\w.cell? ⟨R,6,none⟩=some v6/\w.cell? ⟨R,7,none⟩=some v7/\w.cell? ⟨R,8,none⟩=some v8/\w.cell? ⟨R,9,none⟩=some v9/\w.cell? ⟨R,10,none⟩=some v10:=⟨h.cell rfl,h.cell rfl,h.cell rfl,h.cell rfl,h.cell rfl,h.cell rfl,h.cell rfl,h.cell rfl,h.cell rfl,h.cell rfl,h.cell rfl⟩
theorem bl {w w':World} {R:Nat} {t:TypeId} {cs:Array Value} (h:Hid (Blk w R t cs)) (hb:Below w.heap.size w w'):Hid (Blk w' R t cs):=Z9 ((uh h).below hb (uh h).lt)
theorem bt {w a b:World} (h:Hid (Below w.heap.size w a)) (hb:Below a.heap.size a b):Hid (Below w.heap.size w b):=Z9 ((uh h).trans (hb.mono (uh h).size))
theorem Blk.f3 {w:World} {R:Nat} {t:TypeId} {cs:Array Value} (h:Blk w R t cs):w.frozen? ⟨R,0,none⟩=false/\w.frozen? ⟨R,1,none⟩=false/\w.frozen? ⟨R,2,none⟩=false:=⟨h.free 0,h.free 1,h.free 2⟩
theorem Blk.f4 {w:World} {R:Nat} {t:TypeId} {cs:Array Value} (h:Blk w R t cs):w.frozen? ⟨R,0,none⟩=false/\w.frozen? ⟨R,1,none⟩=false/\w.frozen? ⟨R,2,none⟩=false/\w.frozen? ⟨R,3,none⟩=false:=⟨h.free 0,h.free 1,h.free 2,h.free 3⟩
theorem Blk.f6 {w:World} {R:Nat} {t:TypeId} {cs:Array Value} (h:Blk w R t cs):w.frozen? ⟨R,0,none⟩=false/\w.frozen? ⟨R,1,none⟩=false/\w.frozen? ⟨R,2,none⟩=false/\w.frozen? ⟨R,3,none⟩=false/\w.frozen? ⟨R,4,none⟩=false/\w.frozen? ⟨R,5,none⟩=false:=⟨h.free 0,h.free 1,h.free 2,h.free 3,h.free 4,h.free 5⟩
theorem Blk.f11 {w:World} {R:Nat} {t:TypeId} {cs:Array Value} (h:Blk w R t cs):w.frozen? ⟨R,0,none⟩=false/\w.frozen? ⟨R,1,none⟩=false/\w.frozen? ⟨R,2,none⟩=false/\w.frozen? ⟨R,3,none⟩=false/\w.frozen? ⟨R,4,none⟩=false/\w.frozen? ⟨R,5,none⟩=false/\w.frozen? ⟨R,6,none⟩=false/\w.frozen? ⟨R,7,none⟩=false/\w.frozen? ⟨R,8,none⟩=false/\w.frozen? ⟨R,9,none⟩=false/\w.frozen? ⟨R,10,none⟩=false:=⟨h.free 0,h.free 1,h.free 2,h.free 3,h.free 4,h.free 5,h.free 6,h.free 7,h.free 8,h.free 9,h.free 10⟩
theorem SH (w:World) (t:TypeId) (cs:Array Value) (u:TypeId) (ds:Array Value):∃ W,(w.alloc (.cells cs t)).alloc (.cells ds u)=W/\Hid (Blk W w.heap.size t cs)/\Hid (Blk W (w.heap.size+1) u ds)/\Hid (Below w.heap.size w W):=by
 refine ⟨_,rfl,Z9 ((Blk.new w _ _).alloc _),Z9 ?_,Z9 (((ba _ _)).alloc (by simp) _)⟩;have k:=Blk.new (w.alloc (.cells cs t)) u ds;rw [XX] at k;exact k
theorem GI (w:World) (t:TypeId) (cs:Array Value) (u:TypeId) (ds:Array Value) (v:TypeId) (es:Array Value):∃ W,((w.alloc (.cells cs t)).alloc (.cells ds u)).alloc (.cells es v)=W/\Hid (Blk W w.heap.size t cs)/\Hid (Blk W (w.heap.size+1) u ds)/\Hid (Blk W (w.heap.size+1+1) v es)/\Hid (Below w.heap.size w W):=by
 refine ⟨_,rfl,Z9 (((Blk.new w _ _).alloc _).alloc _),Z9 ?_,Z9 ?_,Z9 ((((ba _ _)).alloc (by simp) _).alloc (by simp;omega) _)⟩
 ·have k:=(Blk.new (w.alloc (.cells cs t)) u ds).alloc (.cells es v)
  rw [XX] at k;exact k
 ·have k:=Blk.new ((w.alloc (.cells cs t)).alloc (.cells ds u)) v es
  rw [XX,XX] at k;exact k
theorem NO (w:World) (t:TypeId) (cs:Array Value):∃ W,w.alloc (.cells cs t)=W/\Hid (Below w.heap.size w W)/\Hid (Blk W w.heap.size t cs):=⟨_,rfl,Z9 ((ba _ _)),Z9 (Blk.new _ _ _)⟩
theorem Xr (w:World) (t:TypeId) (cs:Array Value):Hid (Below w.heap.size w (w.alloc (.cells cs t)))/\Hid (Blk (w.alloc (.cells cs t)) w.heap.size t cs):=⟨Z9 ((ba _ _)),Z9 (Blk.new _ _ _)⟩
theorem YW (w:World) (t:TypeId) (cs:Array Value):∃ W,w.alloc (.cells cs t)=W/\Below w.heap.size w W/\Hid (Blk W w.heap.size t cs):=⟨_,rfl,(ba _ _),Z9 (Blk.new _ _ _)⟩
theorem Blk.fill11 {w₀ w:World} {B R:Nat} {t:TypeId} {u0 u1 u2 u3 u4 u5 u6 u7 u8 u9 u10:Value} (v0 v1 v2 v3 v4 v5 v6 v7 v8 v9 v10:Value) (h:Blk w R t #[u0,u1,u2,u3,u4,u5,u6,u7,u8,u9,u10]) (hb:Below B w₀ w) (hR:B<=R):∃ Y,((((((((((w.setCell ⟨R,0,none⟩ v0).setCell ⟨R,1,none⟩ v1).setCell ⟨R,2,none⟩ v2).setCell ⟨R,3,none⟩ v3).setCell ⟨R,4,none⟩ v4).setCell ⟨R,5,none⟩ v5).setCell ⟨R,6,none⟩ v6).setCell ⟨R,7,none⟩ v7).setCell ⟨R,8,none⟩ v8).setCell ⟨R,9,none⟩ v9).setCell ⟨R,10,none⟩ v10=Y/\Blk Y R t #[v0,v1,v2,v3,v4,v5,v6,v7,v8,v9,v10]/\Below B w₀ Y:=by
 have h0:Blk _ R t #[v0,u1,u2,u3,u4,u5,u6,u7,u8,u9,u10]:=h.set 0 v0;have h1:Blk _ R t #[v0,v1,u2,u3,u4,u5,u6,u7,u8,u9,u10]:=h0.set 1 v1;have h2:Blk _ R t #[v0,v1,v2,u3,u4,u5,u6,u7,u8,u9,u10]:=h1.set 2 v2;have h3:Blk _ R t #[v0,v1,v2,v3,u4,u5,u6,u7,u8,u9,u10]:=h2.set 3 v3;have h4:Blk _ R t #[v0,v1,v2,v3,v4,u5,u6,u7,u8,u9,u10]:=h3.set 4 v4;have h5:Blk _ R t #[v0,v1,v2,v3,v4,v5,u6,u7,u8,u9,u10]:=h4.set 5 v5;have h6:Blk _ R t #[v0,v1,v2,v3,v4,v5,v6,u7,u8,u9,u10]:=h5.set 6 v6;have h7:Blk _ R t #[v0,v1,v2,v3,v4,v5,v6,v7,u8,u9,u10]:=h6.set 7 v7;have h8:Blk _ R t #[v0,v1,v2,v3,v4,v5,v6,v7,v8,u9,u10]:=h7.set 8 v8;have h9:Blk _ R t #[v0,v1,v2,v3,v4,v5,v6,v7,v8,v9,u10]:=h8.set 9 v9;have h10:Blk _ R t #[v0,v1,v2,v3,v4,v5,v6,v7,v8,v9,v10]:=h9.set 10 v10;refine ⟨_,rfl,h10,?_⟩
 iterate 11 (refine YU ?_ hR _)
 exact hb
end Go.Proofs.YtmdgokjeobnnaaaGreatDoor
namespace Go.Proofs.YtmdgokjeobnnaaaGreatDoor
open Go.ChangeShapes Go.WideShapes Go.ChangeAt Go.RowKit Go.Sort
set_option linter.unusedVariables false
theorem IsRooms.shape {w:World} {v:Value} {rs:List Z5} (h:IsRooms w v rs):∃ a cap,v= .slice a rs.length cap/\rs.length<=cap/\cap<=9223372036854775807:=by
 obtain ⟨a,cap,rfl,hc,hm,_⟩:=h;exact ⟨a,cap,rfl,hc,hm⟩
abbrev WC:=Bool × Int × Int
def XI (p:WC):List Value:=[.bool p.1,.int .i64 p.2.1,.int .i64 p.2.2]
theorem Zx (p:WC):(XI p).length=3:=rfl
abbrev KP (w:World) (v:Value) (ps:List WC):Prop:=IsRec 3 XI w v ps
abbrev DesksAt (n₀:Nat) (w:World) (v:Value) (ps:List WC):Prop:=RecAt 82 3 XI n₀ w v ps
theorem DesksAt.list {n₀:Nat} {w:World} {v:Value} {ps:List WC} (h:DesksAt n₀ w v ps):KP w v ps:=RecAt.recs Zx (by omega) h
theorem Yv {w:World} {b off:Nat} {ps:List WC} (h:∀ j,j<ps.length-> ∀ i u,(XI (Z8 ps j))[i]?=some u->w.cell? ⟨b,off+j*3+i,none⟩=some u) {j:Nat} (hj:j<ps.length) :
  w.cell? ⟨b,off+j*3,none⟩=some (.bool (Z8 ps j).1)/\w.cell? ⟨b,off+j*3+1,none⟩=some (.int .i64 (Z8 ps j).2.1)/\w.cell? ⟨b,off+j*3+2,none⟩=some (.int .i64 (Z8 ps j).2.2):=
 ⟨h j hj 0 _ rfl,h j hj 1 _ rfl,h j hj 2 _ rfl⟩
open Go.ChangeShapes Go.WideShapes Go.ChangeAt Go.RowKit Go.Sort Go.Deep
def UG (z:Int):List Value:=[.int .i64 z]
theorem Yo (z:Int):(UG z).length=1:=rfl
abbrev Ic (w:World) (v:Value) (zs:List Int):Prop:=IsRec 1 UG w v zs
abbrev NumsAt (n₀:Nat) (w:World) (v:Value) (zs:List Int):Prop:=RecAt 2 1 UG n₀ w v zs
theorem NumsAt.list {n₀:Nat} {w:World} {v:Value} {zs:List Int} (h:NumsAt n₀ w v zs):Ic w v zs:=RecAt.recs Yo (by omega) h
theorem IS {w:World} {b off:Nat} {zs:List Int} (h:∀ j,j<zs.length-> ∀ i u,(UG (Z8 zs j))[i]?=some u->w.cell? ⟨b,off+j*1+i,none⟩=some u) {j:Nat} (hj:j<zs.length) :
  w.cell? ⟨b,off+j,none⟩=some (.int .i64 (Z8 zs j)):=by
 have:=h j hj 0 _ rfl;simpa using this
structure Z7 where
 rm:List Z5
 gd:List Zy
 sm:List Z6
 dk:List WC
 pc:List Int
 now:Int
structure Smy (w:World) (v0 v1 v2 v3 v4:Value) (m:Z7):Prop where
 rm:IsRooms w v0 m.rm
 gd:WD w v1 m.gd
 sm:MO w v2 m.sm
 dk:KP w v3 m.dk
 pc:Ic w v4 m.pc
theorem Smy.below {w w':World} {v0 v1 v2 v3 v4:Value} {m:Z7} (h:Smy w v0 v1 v2 v3 v4 m) (hb:Below w.heap.size w w'):Smy w' v0 v1 v2 v3 v4 m:=
 ⟨h.rm.below hb,h.gd.below hb,h.sm.below hb,h.dk.below hb,h.pc.below hb⟩
theorem Smy.alloc {w:World} {v0 v1 v2 v3 v4:Value} {m:Z7} (h:Smy w v0 v1 v2 v3 v4 m) (o:Obj):Smy (w.alloc o) v0 v1 v2 v3 v4 m:=h.below ((ba _ _))
theorem RecAt.set_old {α:Type} {t k:Nat} {enc:α->List Value} {n₀:Nat} {w:World} {v:Value} {xs:List α} (h:RecAt t k enc n₀ w v xs) (g o:Nat) (u:Value) (hg:g<n₀):RecAt t k enc n₀ (w.setCell ⟨g,o,none⟩ u) v xs:=
 h.same fun i hi=>heap_setCell_other w _ i u (by have:=(h.lt hi).1;show i ≠ g;omega)
abbrev E6:Array Value:=#[.slice none 0 0,.slice none 0 0,.slice none 0 0,.slice none 0 0,.slice none 0 0,.int .i64 0]
abbrev S6 (a0:Option Addr) (p0:Nat) (a1:Option Addr) (p1:Nat) (a2:Option Addr) (p2:Nat) (a3:Option Addr) (p3:Nat) (a4:Option Addr) (p4:Nat) (m:Z7):Array Value:=#[.slice a0 m.rm.length p0,.slice a1 m.gd.length p1,.slice a2 m.sm.length p2,.slice a3 m.dk.length p3,.slice a4 m.pc.length p4,.int .i64 m.now]
theorem Smy.five {w:World} {v0 v1 v2 v3 v4:Value} {m:Z7} (h:Smy w v0 v1 v2 v3 v4 m):∃ a0 p0 a1 p1 a2 p2 a3 p3 a4 p4,v0= .slice a0 m.rm.length p0/\v1= .slice a1 m.gd.length p1/\v2= .slice a2 m.sm.length p2/\v3= .slice a3 m.dk.length p3/\v4= .slice a4 m.pc.length p4/\m.rm.length<=p0/\p0<=9223372036854775807/\m.gd.length<=p1/\p1<=9223372036854775807/\m.sm.length<=p2/\p2<=9223372036854775807/\m.dk.length<=p3/\p3<=9223372036854775807/\m.pc.length<=p4/\p4<=9223372036854775807:=by
 obtain ⟨a0,p0,e0,x0,y0,_⟩:=h.rm;obtain ⟨a1,p1,e1,x1,y1,_⟩:=h.gd;obtain ⟨a2,p2,e2,x2,y2,_⟩:=h.sm;obtain ⟨a3,p3,e3,x3,y3,_⟩:=h.dk;obtain ⟨a4,p4,e4,x4,y4,_⟩:=h.pc;exact ⟨a0,p0,a1,p1,a2,p2,a3,p3,a4,p4,e0,e1,e2,e3,e4,x0,y0,x1,y1,x2,y2,x3,y3,x4,y4⟩
def ltB (a b:Z1):Bool:=decide (a.1<b.1\/(a.1=b.1/\a.2<b.2))
theorem Ge {a b:Z1} : ltB a b=true ↔ (a.1<b.1\/(a.1=b.1/\a.2<b.2)):=by unfold ltB;exact decide_eq_true_iff
theorem IK {a b:Z1} : ltB a b=false ↔ ¬ (a.1<b.1\/(a.1=b.1/\a.2<b.2)):=by unfold ltB;exact decide_eq_false_iff_not
theorem Lf {a b:Z1} (h:ltB a b=true):ltB b a=false:=by rw [Ge] at h;rw [IK];omega
theorem IL {a b c:Z1} (h:ltB b a=false) (k:ltB c b=false):ltB c a=false:=by rw [IK] at *;omega
theorem NT {ps:List Z1} {n k:Nat} (h:k<n):ZY (ps.take n) k=ZY ps k:=by unfold ZY;simp [List.getD,h]
abbrev Ris (ps:List Z1):Prop:=ps.Pairwise fun a b=>ltB b a=false
theorem VU {ps:List Z1} {k:Nat} (h:k<ps.length):ZY ps k ∈ ps:=by unfold ZY;simp [List.getD,h]
theorem L1 {ps:List Z1} {x:Z1} (h:x ∈ ps):∃ k,k<ps.length/\ZY ps k=x:=by
 obtain ⟨k,hk,rfl⟩:=List.getElem_of_mem h;exact ⟨k,hk,by unfold ZY;simp [List.getD,hk]⟩
def X6 (e:Z1):List Z1->Nat
 | []=>0
 | p::ps=>if ltB p e then X6 e ps+1 else 0
def QM (ps:List Z1) (e:Z1):List Z1:=ps.take (X6 e ps)++e::ps.drop (X6 e ps)
theorem Qx (e:Z1):∀ ps:List Z1,X6 e ps<=ps.length
 | []=>Z3 _
 | p::ps=>by have:=Qx e ps;unfold X6;split<;>simp<;>omega
theorem Qy (e:Z1):∀ (ps:List Z1) (k:Nat),k<X6 e ps->ltB (ZY ps k) e=true
 | [],k,h=>by simp [X6] at h
 | p::ps,k,h=>by
  unfold X6 at h
  split at h
  ·cases k with
   | zero=>simpa [ZY] using ‹ltB p e=true›
   | succ k=>
    have:=Qy e ps k (by omega);simpa [ZY] using this
  ·omega
theorem Qw (e:Z1):∀ (ps:List Z1),X6 e ps<ps.length->ltB (ZY ps (X6 e ps)) e=false
 | [],h=>by simp at h
 | p::ps,h=>by
  unfold X6 at h ⊢;by_cases hp:ltB p e=true
  ·rw [if_pos hp] at h ⊢
   have:=Qw e ps (by simpa using h);simpa [ZY] using this
  ·rw [if_neg hp] at h ⊢
   simpa [ZY] using hp
theorem II {e:Z1} {ps:List Z1} {k:Nat} (hk:k<=ps.length) (h:∀ j,j<k->ltB (ZY ps j) e=true) (hn:k=ps.length\/ltB (ZY ps k) e=false):X6 e ps=k:=by
 rcases Nat.lt_trichotomy (X6 e ps) k with h1 | h1 | h1
 ·have h2:=Qw e ps (by omega)
  rw [h _ h1] at h2;cases h2
 ·exact h1
 ·rcases hn with hn | hn
  ·have:=Qx e ps;omega
  ·have:=Qy e ps k h1
   rw [hn] at this;cases this
theorem Ss (ps:List Z1) (e:Z1):(QM ps e).Perm (ps++[e]):=by
 unfold QM;have h1:(ps.take (X6 e ps)++e::ps.drop (X6 e ps)).Perm (e::(ps.take (X6 e ps)++ps.drop (X6 e ps))):=List.perm_middle;rw [List.take_append_drop] at h1;exact h1.trans (List.perm_append_comm (l₁:=[e]) (l₂:=ps))
theorem IW (ps:List Z1) (e:Z1):(QM ps e).length=ps.length+1:=by have:=(Ss ps e).length_eq;simpa using this
theorem IY {ps:List Z1} (h:Ris ps) (e:Z1):Ris (QM ps e):=by
 have hle:=Qx e ps
 have hdr:∀ y ∈ ps.drop (X6 e ps),ltB y e=false:=fun y hy=>by
  obtain ⟨k,hk,rfl⟩:=List.getElem_of_mem hy;have hk':X6 e ps+k<ps.length:=by simp at hk;omega
  rw [List.getElem_drop];have h0:=Qw e ps (by omega);have e0:ZY ps (X6 e ps)=ps[X6 e ps]'(by omega):=by unfold ZY;simp [List.getD,(by omega:X6 e ps<ps.length)]
  rw [e0] at h0;by_cases hz:k=0
  ·subst hz;simpa using h0
  ·have h1:=List.pairwise_iff_getElem.1 h (X6 e ps) (X6 e ps+k) (by omega) hk' (by omega)
   exact IL h0 h1
 have hta:∀ y ∈ ps.take (X6 e ps),ltB y e=true:=fun y hy=>by
  obtain ⟨k,hk,rfl⟩:=List.getElem_of_mem hy;have hk':k<X6 e ps:=by simp at hk;omega
  have:=Qy e ps k hk';rw [List.getElem_take];unfold ZY at this;simpa [List.getD,(by omega:k<ps.length)] using this
 unfold QM Ris;rw [List.pairwise_append,List.pairwise_cons];refine ⟨h.sublist (List.take_sublist _ _),⟨fun y hy=>hdr y hy,h.sublist (List.drop_sublist _ _)⟩,fun a ha b hb=> ?_⟩
 rcases List.mem_cons.1 hb with rfl | hb
 ·exact Lf (hta a ha)
 ·exact IL (Lf (hta a ha)) (hdr b hb)
open Go.ChangeShapes Go.WideShapes Go.ChangeAt Go.RowKit Go.Sort Go.Proofs.Tryz
theorem Sm:(prog.info? 183).map (fun i=>(i.zero,i.size,i.bytes))=some (some (.agg #[.int .i64 0,.int .i64 0]),2,16):=by kernel_rfl
theorem QG (ps:List Z1):(XD ps).length=ps.length*2:=by unfold XD;exact Pt ps
theorem PR (ps qs:List Z1):XD (ps++qs)=XD ps++XD qs:=by unfold XD;rw [List.flatMap_append]
def EntsAt (n₀:Nat) (w:World) (v:Value) (ps:List Z1):Prop:=w.ownsRow n₀ 183 2 v ps.length (XD ps)
theorem EntsAt.lt {n₀:Nat} {w:World} {v:Value} {ps:List Z1} (h:EntsAt n₀ w v ps) {k:Nat} (hk:v.ownBlock=some k):n₀<=k/\k<w.heap.size:=World.ownsRow.lt h k hk
theorem EntsAt.mono {n₀ n₁:Nat} {w:World} {v:Value} {ps:List Z1} (h:EntsAt n₀ w v ps) (hn:n₁<=n₀):EntsAt n₁ w v ps:=Va h hn
theorem EntsAt.same {n₀:Nat} {w w':World} {v:Value} {ps:List Z1} (h:EntsAt n₀ w v ps) (hs:∀ k,v.ownBlock=some k->w'.heap[k]?=w.heap[k]?):EntsAt n₀ w' v ps:=X8 h hs
theorem EntsAt.later {n₀:Nat} {w w':World} {v:Value} {ps:List Z1} (h:EntsAt n₀ w v ps) (hb:Below w.heap.size w w'):EntsAt n₀ w' v ps:=h.same fun k hk=>hb.block k (h.lt hk).2
theorem EntsAt.pc {n₀:Nat} {w:World} {v:Value} {ps:List Z1} (h:EntsAt n₀ w v ps):IsPaces w v ps:=by
 have h':=h
 rcases h.2 with ⟨rfl,hz⟩ | ⟨g,cap,cur,rfl,hb,hg,hnc,hcm,r⟩
 ·exact ⟨none,0,by rw [hz],by omega,by omega,.inl (List.eq_nil_of_length_eq_zero hz)⟩
 ·refine ⟨_,cap,rfl,hnc,by unfold maxLen at hcm;omega,.inr ⟨g,0,rfl,(Array.getElem?_eq_some_iff.1 hg).1,fun k hk=> ?_⟩⟩
  have hp:=Vc (f:=fun p:Z1=>Value.int .i64 p.1) (g:=fun p:Z1=>Value.int .i64 p.2) ps k hk;have hat:ZY ps k=ps[k]:=by unfold ZY;simp [List.getD,hk]
  rw [Nat.zero_add,hat];exact ⟨(World.ownsRow.cellAt h' (k*2) (by omega)).trans hp.1,(World.ownsRow.cellAt h' (k*2+1) (by omega)).trans hp.2⟩
theorem EntsAt.shape {n₀:Nat} {w:World} {v:Value} {ps:List Z1} (h:EntsAt n₀ w v ps):∃ a cap,v= .slice a ps.length cap:=by
 rcases h.2 with ⟨rfl,hz⟩ | ⟨g,cap,cur,rfl,_⟩
 ·exact ⟨none,0,by rw [hz]⟩
 ·exact ⟨_,cap,rfl⟩
theorem IsPaces.cut {w:World} {a:Option Addr} {len cap:Nat} {ps:List Z1} (h:IsPaces w (.slice a len cap) ps) {n:Nat} (hn:n<=ps.length):IsPaces w (.slice a n cap) (ps.take n):=by
 obtain ⟨a',cap',he,hc,hm,hr⟩:=h;cases he;have hl:(ps.take n).length=n:=by simp;omega
 refine ⟨a,cap,by rw [hl],by omega,hm,?_⟩
 rcases hr with hr | ⟨b,off,rfl,hlt,hcl⟩
 ·exact .inl (by rw [hr];simp)
 ·refine .inr ⟨b,off,rfl,hlt,fun k hk=> ?_⟩
  rw [NT (by omega)];exact hcl k (by omega)
theorem Ot (g o i:Nat):(⟨g,o,none⟩:Addr).add i=⟨g,o+i,none⟩:=by unfold Addr.add;split<;>simp_all
theorem NX {e k bytes:Nat} {z:Value} (h:(prog.info? e).map (fun i=>(i.zero,i.size,i.bytes))=some (some z,k,bytes)):∃ i,prog.info? e=some i/\i.zero=some z/\i.size=k/\i.bytes=bytes:=by
 cases hi:prog.info? e with
 | none=>rw [hi] at h;cases h
 | some i=>
  rw [hi] at h;simp only [Option.map_some,Option.some.injEq,Prod.mk.injEq] at h;exact ⟨i,rfl,h.1,h.2.1,h.2.2⟩
theorem Rx {w:World} {base t ty e size n:Nat} {i:TypeInfo} (ht:prog.underlying t=some (.slice e)) (hi:prog.info? e=some i) {v:Value} {xs:List Value} (hown:w.ownsRow base e size v n xs) (a:Option Addr) (c:Nat) :
  (Builtin.append_ #[t,t] ty #[v,.slice a 0 c]).run prog w= .ok v w:=by
 rcases hown.2 with ⟨rfl,rfl⟩ | ⟨g,cap,cur,rfl,_,_,hnc,_⟩
 ·cases a<;>simp [Builtin.append_,run_underlying ht,sizeOf,typeInfo,hi,Builtin.lenOf,Builtin.firstCells,loadCells,loadCellsFrom]
 ·cases a<;>simp [Builtin.append_,run_underlying ht,sizeOf,typeInfo,hi,Builtin.lenOf,Builtin.firstCells,hnc,storeCells,loadCells,loadCellsFrom]
structure RI {α:Type} (e k:Nat) (z:Value) (enc:α->List Value):Prop where
 info:(prog.info? e).map (fun i=>(i.zero,i.size,i.bytes))=some (some z,k,8*k)
 zero:z.cells.size=k
 len:∀ x,(enc x).length=k
 pos:0<k
 few:k<=100
 one:∀ x,∀ u ∈ enc x,u.oneCell'=true
section
variable {α : Type} {e k : Nat} {enc : α → List Value}
theorem Iv (hone:∀ x:α,∀ u ∈ enc x,u.oneCell'=true) (qs:List α):∀ u ∈ VK enc qs,u.oneCell'=true:=fun u hu=>by
 unfold VK at hu;obtain ⟨p,_,hp⟩:=List.mem_flatMap.1 hu;exact hone p u hp
theorem XE {B g:Nat} {w:World} (hg:g=w.heap.size) (hB:B<=g):RecAt e k enc B (w.alloc (.cells #[] e)) (.slice (some ⟨g,0,none⟩) 0 0) []:=by
 subst hg;exact ⟨by simp [VK],.inr ⟨_,0,#[],rfl,hB,heap_alloc_new w _,Z3 _,Zi _,by simp,by simp [VK]⟩⟩
end
section
variable {α : Type} [Inhabited α] {e k : Nat} {enc : α → List Value} {z : Value}
theorem Km (hk:∀ x,(enc x).length=k) (h0:0<k) {w:World} {b off:Nat} {qs:List α} (h:∀ j,j<qs.length-> ∀ i u,(enc (Z8 qs j))[i]?=some u->w.cell? ⟨b,off+j*k+i,none⟩=some u) :
  ∀ (j:Nat) (u:Value),(VK enc qs)[j]?=some u->w.cell? ((⟨b,off,none⟩:Addr).add j)=some u:=fun j u hj=>by
 have hlt:j<qs.length*k:=by
  rcases Nat.lt_or_ge j (qs.length*k) with h | h
  ·exact h
  ·rw [List.getElem?_eq_none (by rw [WN hk];exact h)] at hj;cases hj
 have hd:j / k<qs.length:=(Nat.div_lt_iff_lt_mul h0).2 hlt;have hr:j%k<k:=Nat.mod_lt _ h0;have he:j=j / k*k+j%k:=by rw [Nat.mul_comm];exact (Nat.div_add_mod j k).symm
 rw [Ot];rw [he,WM hk qs (j / k) hd (j%k) hr] at hj;have:=h (j / k) hd (j%k) u hj;rw [Nat.add_assoc,<-he] at this;exact this
theorem Xn (T:RI e k z enc) {w:World} {base t ty:Nat} (ht:prog.underlying t=some (.slice e)) {v x:Value} {ps qs:List α} (hown:RecAt e k enc base w v ps) (hx:IsRec k enc w x qs) (hb:ps.length+qs.length<=4000) (hbase:base<=w.heap.size) :
  ∃ v' w',(Builtin.append_ #[t,t] ty #[v,x]).run prog w= .ok v' w'/\RecAt e k enc base w' v' (ps++qs)/\w.grownBy w' v.ownBlock/\(v'.ownBlock=v.ownBlock\/v'.ownBlock=some w.heap.size):=by
 obtain ⟨i0,hi,hz0,hz1,hz2⟩:=NX T.info;obtain ⟨a,c,rfl,hc,hm,hr⟩:=hx;by_cases h0:qs=[]
 ·subst h0
  refine ⟨v,w,Rx ht hi hown a c,by simpa using hown,Ts _ _,.inl rfl⟩
 ·rcases hr with hr | ⟨b,off,rfl,hlt,hcl⟩
  ·exact absurd hr h0
  ·have hk:=T.few
   have hmul:(ps.length+qs.length)*(8*k)<=4000*800:=Nat.mul_le_mul hb (by omega)
   obtain ⟨v',w',hr,h2,h3,_,h5⟩:=run_append_own_at (P:=prog) w base t ty e i0 z k (8*k) ht hi hz0 hz1 hz2 T.zero T.pos v ps.length _ hown ⟨b,off,none⟩ qs.length c (VK enc qs) (WN T.len qs)
    (Km T.len T.pos hcl) (Iv T.one qs) (by simp only [maxLen];omega) (by omega) hbase
   refine ⟨v',w',hr,?_,h3,h5⟩;unfold RecAt;rw [Nf,List.length_append];exact h2
theorem Zm (T:RI e k z enc) {w:World} {ops:Array Oper} {rest:List Oper} {o:Oper} {a:Act} {Q:Exit->Act->World->Prop} (hgd:o.guard=none) (s x:Operand) (t:TypeId) (ht:prog.underlying t=some (.slice e))
  (ho:o.op= .call { callee:= .builtin .append,args:=#[s,x],argTypes:=#[t,t] }) (base:Nat) (v u:Value) (ps qs:List α) (hs:a.eval s=v) (hx:a.eval x=u) (hown:RecAt e k enc base w v ps) (hr:IsRec k enc w u qs)
  (hb:ps.length+qs.length<=4000) (hbase:base<=w.heap.size)
  (h:∀ v' w',RecAt e k enc base w' v' (ps++qs)->w.grownBy w' v.ownBlock->(v'.ownBlock=v.ownBlock\/v'.ownBlock=some w.heap.size)->wpList prog ops Q rest (a.put o.dst v') w') :
  wpList prog ops Q (o::rest) a w:=by
 refine wpList_plain hgd fun K hK=> ?_;obtain ⟨v',w',hrun,h2,h3,h5⟩:=Xn T (ty:=o.type) ht hown hr hb hbase;unfold Oper.wp execOp;simp only [ho,resolve,invoke,builtin,Sem.run_bind,Sem.run_pure,Result.andThen_ok,List.map_toArray,List.map_cons,List.map_nil,hs,hx,hrun];exact hK _ _ (h v' w' h2 h3 h5)
theorem Uo {w:World} (x:α) {g c:Nat} (hg:g=w.heap.size) (hc:1<=c) (hc2:c<=4000):IsRec k enc (w.alloc (.cells (enc x).toArray e)) (.slice (some ⟨g,0,none⟩) 1 c) [x]:=by
 subst hg;refine ⟨_,c,rfl,hc,by omega,.inr ⟨_,0,rfl,by simp,fun j hj i u hu=> ?_⟩⟩;obtain rfl:j=0:=by simpa using hj
 rw [Nat.zero_mul,Nat.zero_add,World.cell?_alloc_at _ _ _ _ rfl];have hr:Z8 [x] 0=x:=rfl;rw [hr] at hu;simpa using hu
theorem JF (hk:∀ x,(enc x).length=k) (h0:0<k) (xs:List α) {j i:Nat} (hj:j<xs.length) (hi:i<k) (u:Value) (x:α) (hx:enc x=(enc (Z8 xs j)).set i u):(VK enc xs).set (j*k+i) u=VK enc (xs.set j x):=by
 have hl:=WN hk xs;have hjk:j*k+k<=xs.length*k:=by rw [<-Nat.succ_mul];exact Nat.mul_le_mul_right k hj
 apply List.ext_getElem?;intro m;by_cases hm:m<xs.length*k
 ·have hd:m / k<xs.length:=(Nat.div_lt_iff_lt_mul h0).2 hm
  have hr:m%k<k:=Nat.mod_lt _ h0;have he:m=m / k*k+m%k:=by rw [Nat.mul_comm];exact (Nat.div_add_mod m k).symm
  have hg:=WM hk (xs.set j x) (m / k) (by simpa using hd) (m%k) hr;have hg0:=WM hk xs (m / k) hd (m%k) hr;rw [<-he] at hg hg0;rw [hg,ZC hj];by_cases e:m / k=j
  ·rw [if_pos e,hx]
   by_cases ei:m%k=i
   ·have hmi:m=j*k+i:=by rw [<-e,<-ei];exact he
    rw [ei,hmi,List.getElem?_set_self (by rw [hl];omega),List.getElem?_set_self (by rw [hk];exact hi)]
   ·have hmi:j*k+i ≠ m:=by rw [<-e];omega
    rw [List.getElem?_set_ne hmi,List.getElem?_set_ne (Ne.symm ei),hg0,e]
  ·rw [if_neg e,List.getElem?_set_ne,hg0]
   intro h;apply e;rw [<-h];exact Nat.div_eq_of_lt_le (Nat.le_add_right _ _) (by rw [Nat.succ_mul];omega)
 ·rw [List.getElem?_eq_none (by simp;omega),List.getElem?_eq_none (by rw [WN hk];simp;omega)]
theorem RecAt.put1 (hk:∀ x,(enc x).length=k) (h0:0<k) {t n₀ n cap g:Nat} {w:World} {xs:List α} (h:RecAt t k enc n₀ w (.slice (some ⟨g,0,none⟩) n cap) xs) (hn:n=xs.length) {j i:Nat} (hj:j<xs.length) (hi:i<k) (u:Value) (x:α) (hx:enc x=(enc (Z8 xs j)).set i u) :
  RecAt t k enc n₀ (w.setCell ⟨g,j*k+i,none⟩ u) (.slice (some ⟨g,0,none⟩) n cap) (xs.set j x)/\w.grownBy (w.setCell ⟨g,j*k+i,none⟩ u) (some g):=by
 subst hn;obtain ⟨h1,h2⟩:=World.ownsRow.stored h (j*k+i) u;rw [JF hk h0 xs hj hi u x hx] at h1;refine ⟨?_,h2⟩;unfold RecAt;rw [VH];exact h1
end
end Go.Proofs.YtmdgokjeobnnaaaGreatDoor
namespace Go.Proofs.YtmdgokjeobnnaaaGreatDoor
open Go.ChangeShapes Go.WideShapes Go.ChangeAt Go.RowKit Go.Sort Go.Proofs.Tryz
set_option linter.unusedVariables false
def PacesAt (n₀:Nat) (w:World) (v:Value) (ps:List Z1):Prop:=w.ownsRow n₀ 145 2 v ps.length (XD ps)
theorem PacesAt.lt {n₀:Nat} {w:World} {v:Value} {ps:List Z1} (h:PacesAt n₀ w v ps) {k:Nat} (hk:v.ownBlock=some k):n₀<=k/\k<w.heap.size:=World.ownsRow.lt h k hk
theorem PacesAt.pc {n₀:Nat} {w:World} {v:Value} {ps:List Z1} (h:PacesAt n₀ w v ps):IsPaces w v ps:=by
 have h':=h
 rcases h.2 with ⟨rfl,hz⟩ | ⟨g,cap,cur,rfl,hb,hg,hnc,hcm,r⟩
 ·exact ⟨none,0,by rw [hz],by omega,by omega,.inl (List.eq_nil_of_length_eq_zero hz)⟩
 ·refine ⟨_,cap,rfl,hnc,by unfold maxLen at hcm;omega,.inr ⟨g,0,rfl,(Array.getElem?_eq_some_iff.1 hg).1,fun k hk=> ?_⟩⟩
  have hp:=Vc (f:=fun p:Z1=>Value.int .i64 p.1) (g:=fun p:Z1=>Value.int .i64 p.2) ps k hk;have hat:ZY ps k=ps[k]:=by unfold ZY;simp [List.getD,hk]
  rw [Nat.zero_add,hat];exact ⟨(World.ownsRow.cellAt h' (k*2) (by omega)).trans hp.1,(World.ownsRow.cellAt h' (k*2+1) (by omega)).trans hp.2⟩
structure OwnHall (n₀:Nat) (w:World) (v:Value) (qs:List (Z5 × Value)):Prop where
 row:w.ownsRow n₀ 112 2 v qs.length (QN qs)
 pc:∀ q ∈ qs,PacesAt n₀ w q.2 q.1.2
 off:∀ q ∈ qs,∀ b,q.2.ownBlock=some b->v.ownBlock ≠ some b
 apart:(qs.map (·.2)).Pairwise fun x y=> ∀ b,x.ownBlock=some b->y.ownBlock ≠ some b
theorem OwnHall.nil (n₀:Nat) (w:World):OwnHall n₀ w (.slice none 0 0) []:=
 ⟨World.ownsRow_nil w n₀ _ _,fun _ h=>(by cases h),fun _ h=>(by cases h),List.Pairwise.nil⟩
theorem OwnHall.lt {n₀:Nat} {w:World} {v:Value} {qs:List (Z5 × Value)} (h:OwnHall n₀ w v qs) {k:Nat} (hk:v.ownBlock=some k\/ ∃ q ∈ qs,q.2.ownBlock=some k):n₀<=k/\k<w.heap.size:=by
 rcases hk with hk | ⟨q,hq,hk⟩
 ·exact World.ownsRow.lt h.row k hk
 ·exact (h.pc q hq).lt hk
theorem OwnHall.same {n₀:Nat} {w w':World} {v:Value} {qs:List (Z5 × Value)} (h:OwnHall n₀ w v qs) (hs:∀ k,n₀<=k->k<w.heap.size->w'.heap[k]?=w.heap[k]?):OwnHall n₀ w' v qs:=
 ⟨X8 h.row (fun k e=>hs k (h.lt (.inl e)).1 (h.lt (.inl e)).2),fun q hq=>X8 (h.pc q hq) (fun k e=>hs k (h.lt (.inr ⟨q,hq,e⟩)).1 (h.lt (.inr ⟨q,hq,e⟩)).2),h.off,h.apart⟩
theorem OwnHall.later {n₀:Nat} {w w':World} {v:Value} {qs:List (Z5 × Value)} (h:OwnHall n₀ w v qs) (hb:Below w.heap.size w w'):OwnHall n₀ w' v qs:=h.same (fun k _ hk=>hb.block k hk)
theorem OwnHall.but {n₀ bc:Nat} {w w':World} {v:Value} {qs:List (Z5 × Value)} (h:OwnHall n₀ w v qs) (hb:But bc w w') (hbc:bc<n₀\/w.heap.size<=bc):OwnHall n₀ w' v qs:=h.same (fun k h0 hk=>hb.block k hk (by omega))
theorem OwnHall.mono {n₀ n₁:Nat} {w:World} {v:Value} {qs:List (Z5 × Value)} (h:OwnHall n₀ w v qs) (hn:n₁<=n₀):OwnHall n₁ w v qs:=
 ⟨Va h.row hn,fun q hq=>Va (h.pc q hq) hn,h.off,h.apart⟩
theorem OwnHall.rm {n₀:Nat} {w:World} {v:Value} {qs:List (Z5 × Value)} (h:OwnHall n₀ w v qs):IsRooms w v (qs.map (·.1)):=by
 have h':=h.row;have hlen:(qs.map (·.1)).length=qs.length:=by simp
 rcases h.row.2 with ⟨rfl,hz⟩ | ⟨g,cap,cur,rfl,hb,hg,hnc,hcm,r⟩
 ·exact ⟨none,0,by rw [hlen,hz],by omega,by omega,.inl (by rw [List.eq_nil_of_length_eq_zero hz];rfl)⟩
 ·refine ⟨_,cap,by rw [hlen],by rw [hlen];exact hnc,by unfold maxLen at hcm;omega,.inr ⟨g,0,rfl,(Array.getElem?_eq_some_iff.1 hg).1,fun k hk=> ?_⟩⟩
  rw [hlen] at hk;have hp:=Vc (f:=fun q:Z5 × Value=>Value.int .i64 q.1.1) (g:=fun q:Z5 × Value=>q.2) qs k hk;have hat:ZO (qs.map (·.1)) k=qs[k].1:=by unfold ZO;simp [List.getD,hk]
  rw [Nat.zero_add,hat];exact ⟨(World.ownsRow.cellAt h' (k*2) (by omega)).trans hp.1,qs[k].2,(World.ownsRow.cellAt h' (k*2+1) (by omega)).trans hp.2,(h.pc _ (List.getElem_mem hk)).pc⟩
theorem OwnHall.push {n₀:Nat} {w w1:World} {v v' pv:Value} {qs:List (Z5 × Value)} {rb:Int} {ps:List Z1} {o:Obj} (h:OwnHall n₀ w v qs) (hp:PacesAt n₀ w pv ps)
  (hoff:∀ b,pv.ownBlock=some b->v.ownBlock ≠ some b) (hap:∀ q ∈ qs,∀ b,q.2.ownBlock=some b->pv.ownBlock ≠ some b)
  (hown:w1.ownsRow n₀ 112 2 v' (qs.length+1) (QN qs++[.int .i64 rb,pv])) (hg:(w.alloc o).grownBy w1 v.ownBlock) (hat:v'.ownBlock=v.ownBlock\/v'.ownBlock=some (w.alloc o).heap.size) :
  OwnHall n₀ w1 v' (qs++[((rb,ps),pv)]):=by
 have hk:∀ k,k<w.heap.size->v.ownBlock ≠ some k->w1.heap[k]?=w.heap[k]?:=fun k hk hn=>(hg.block k (by simp;omega) (fun e=>hn e.symm)).trans (Below.heap_alloc w o k hk)
 have hv':∀ k,k<w.heap.size->v'.ownBlock=some k->v.ownBlock=some k:=fun k hk e=>by
  rcases hat with e' | e'
  ·rw [<-e'];exact e
  ·rw [e'] at e;simp at e;omega
 refine ⟨?_,fun q hq=> ?_,fun q hq b e=> ?_,?_⟩
 ·simpa [QN] using hown
 ·rcases List.mem_append.1 hq with hq | hq
  ·exact X8 (h.pc q hq) (fun k e=>hk k (h.lt (.inr ⟨q,hq,e⟩)).2 (h.off q hq k e))
  ·obtain rfl:q=((rb,ps),pv):=by simpa using hq
   exact X8 hp (fun k e=>hk k (hp.lt e).2 (hoff k e))
 ·rcases List.mem_append.1 hq with hq | hq
  ·exact fun e'=>h.off q hq b e (hv' b (h.lt (.inr ⟨q,hq,e⟩)).2 e')
  ·obtain rfl:q=((rb,ps),pv):=by simpa using hq
   exact fun e'=>hoff b e (hv' b (hp.lt e).2 e')
 ·rw [List.map_append,List.pairwise_append]
  refine ⟨h.apart,by simp,fun x hx y hy b e=> ?_⟩;obtain ⟨q,hq,rfl⟩:=List.mem_map.1 hx;obtain rfl:y=pv:=by simpa using hy
  exact hap q hq b e
theorem JK:(prog.info? 145).map (fun i=>(i.zero,i.size,i.bytes))=some (some (.agg #[.int .i64 0,.int .i64 0]),2,16):=by kernel_rfl
theorem Pj:(prog.info? 112).map (fun i=>(i.zero,i.size,i.bytes))=some (some (.agg #[.int .i64 0,.slice none 0 0]),2,32):=by kernel_rfl
theorem OwnHall.shape {n₀:Nat} {w:World} {v:Value} {qs:List (Z5 × Value)} (h:OwnHall n₀ w v qs):∃ a cap,v= .slice a qs.length cap:=by
 rcases h.row.2 with ⟨rfl,hz⟩ | ⟨g,cap,cur,rfl,_⟩
 ·exact ⟨none,0,by rw [hz]⟩
 ·exact ⟨_,cap,rfl⟩
theorem PacesAt.shape {n₀:Nat} {w:World} {v:Value} {ps:List Z1} (h:PacesAt n₀ w v ps):∃ a cap,v= .slice a ps.length cap:=by
 rcases h.2 with ⟨rfl,hz⟩ | ⟨g,cap,cur,rfl,_⟩
 ·exact ⟨none,0,by rw [hz]⟩
 ·exact ⟨_,cap,rfl⟩
open Go.ChangeShapes Go.WideShapes Go.ChangeAt Go.RowKit Go.Sort
theorem PacesAt.mono {n₀ n₁:Nat} {w:World} {v:Value} {ps:List Z1} (h:PacesAt n₀ w v ps) (hn:n₁<=n₀):PacesAt n₁ w v ps:=Va h hn
def P3 (u v:Value):Prop:= ∀ b,u.ownBlock=some b->v.ownBlock ≠ some b
def Rl (u v:Value) (qs:List (Z5 × Value)):Prop:=P3 u v/\ ∀ q ∈ qs,P3 u q.2
structure FullSmy (n₀:Nat) (w:World) (v0 v1 v2 v3 v4:Value) (m:Z7) (qs:List (Z5 × Value)):Prop where
 hall:OwnHall n₀ w v0 qs
 rm:qs.map (·.1)=m.rm
 gd:GuildsAt n₀ w v1 m.gd
 sm:SmithsAt n₀ w v2 m.sm
 dk:DesksAt n₀ w v3 m.dk
 pc:NumsAt n₀ w v4 m.pc
 h1:Rl v1 v0 qs
 h2:Rl v2 v0 qs
 h3:Rl v3 v0 qs
 h4:Rl v4 v0 qs
 a12:P3 v1 v2
 a13:P3 v1 v3
 a14:P3 v1 v4
 a23:P3 v2 v3
 a24:P3 v2 v4
 a34:P3 v3 v4
theorem FullSmy.smy {n₀:Nat} {w:World} {v0 v1 v2 v3 v4:Value} {m:Z7} {qs:List (Z5 × Value)} (h:FullSmy n₀ w v0 v1 v2 v3 v4 m qs):Smy w v0 v1 v2 v3 v4 m:=
 ⟨by rw [<-h.rm];exact h.hall.rm,h.gd.list,h.sm.list,h.dk.list,h.pc.list⟩
theorem OwnHall.set_old {n₀:Nat} {w:World} {v:Value} {qs:List (Z5 × Value)} (h:OwnHall n₀ w v qs) (g o:Nat) (u:Value) (hg:g<n₀):OwnHall n₀ (w.setCell ⟨g,o,none⟩ u) v qs:=
 h.same fun k h0 hk=>heap_setCell_other w _ k u (by show k ≠ g;omega)
theorem FullSmy.below {n₀:Nat} {w w':World} {v0 v1 v2 v3 v4:Value} {m:Z7} {qs:List (Z5 × Value)} (h:FullSmy n₀ w v0 v1 v2 v3 v4 m qs) (hb:Below w.heap.size w w'):FullSmy n₀ w' v0 v1 v2 v3 v4 m qs:=
 ⟨h.hall.later hb,h.rm,RecAt.later h.gd hb,RecAt.later h.sm hb,RecAt.later h.dk hb,RecAt.later h.pc hb,h.h1,h.h2,h.h3,h.h4,h.a12,h.a13,h.a14,h.a23,h.a24,h.a34⟩
theorem FullSmy.set {n₀:Nat} {w:World} {v0 v1 v2 v3 v4:Value} {m:Z7} {qs:List (Z5 × Value)} (h:FullSmy n₀ w v0 v1 v2 v3 v4 m qs) (g o:Nat) (u:Value) (hg:g<n₀):FullSmy n₀ (w.setCell ⟨g,o,none⟩ u) v0 v1 v2 v3 v4 m qs:=
 ⟨h.hall.set_old g o u hg,h.rm,RecAt.set_old h.gd g o u hg,RecAt.set_old h.sm g o u hg,RecAt.set_old h.dk g o u hg,RecAt.set_old h.pc g o u hg,h.h1,h.h2,h.h3,h.h4,h.a12,h.a13,h.a14,h.a23,h.a24,h.a34⟩
theorem FullSmy.mono {n₀ n₁:Nat} {w:World} {v0 v1 v2 v3 v4:Value} {m:Z7} {qs:List (Z5 × Value)} (h:FullSmy n₀ w v0 v1 v2 v3 v4 m qs) (hn:n₁<=n₀):FullSmy n₁ w v0 v1 v2 v3 v4 m qs:=
 ⟨h.hall.mono hn,h.rm,RecAt.mono h.gd hn,RecAt.mono h.sm hn,RecAt.mono h.dk hn,RecAt.mono h.pc hn,h.h1,h.h2,h.h3,h.h4,h.a12,h.a13,h.a14,h.a23,h.a24,h.a34⟩
abbrev Yp:=Int × Int × Int × Int
end Go.Proofs.YtmdgokjeobnnaaaGreatDoor
