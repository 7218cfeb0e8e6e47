/- Part 3 of what the proof rests on. No condition but those that a theorem names. -/
import Derived.Test.YtgdpaigcmoifbaaGreatXw01
import Derived.Deep.QuietTactic
import Derived.BigQuiet
import Derived.Laws.OwnMore
import Derived.OwnWalk
import Derived.Maps.AppendAt
import Derived.Lib.SmallJoins
import Derived.Deep.RegionWith
import Derived.Deep.RegionHeld3
import Derived.Deep.DrawnRows
import Derived.BigRegion
set_option maxHeartbeats 8000000
set_option maxRecDepth 100000
namespace Go.Proofs.YtgdpaigcmoifbaaGreat
open Go.ChangeShapes Go.WideShapes Go.ChangeAt Go.RowKit
set_option linter.unusedVariables false
abbrev Z4:=Int × Int
abbrev ZY:=Int × List Z4
def Z7 (ps:List Z4) (k:Nat):Z4:=ps.getD k (0,0)
def ZQ (rs:List ZY) (k:Nat):ZY:=rs.getD k (0,[])
def IsPaces (w:World) (v:Value) (ps:List Z4):Prop:=
 ∃ (a:Option Addr) (cap:Nat),v= .slice a ps.length cap/\ps.length<=cap/\cap<=9223372036854775807/\(ps=[]\/ ∃ b off,a=some ⟨b,off,none⟩/\b<w.heap.size/\
  ∀ k,k<ps.length->w.cell? ⟨b,off+k*2,none⟩=some (.int .i64 (Z7 ps k).1)/\w.cell? ⟨b,off+k*2+1,none⟩=some (.int .i64 (Z7 ps k).2))
def IsRooms (w:World) (v:Value) (rs:List ZY):Prop:=
 ∃ (a:Option Addr) (cap:Nat),v= .slice a rs.length cap/\rs.length<=cap/\cap<=9223372036854775807/\(rs=[]\/ ∃ b off,a=some ⟨b,off,none⟩/\b<w.heap.size/\
  ∀ k,k<rs.length->w.cell? ⟨b,off+k*2,none⟩=some (.int .i64 (ZQ rs k).1)/\ ∃ pv,w.cell? ⟨b,off+k*2+1,none⟩=some pv/\IsPaces w pv (ZQ rs k).2)
theorem IsPaces.below {w w':World} {v:Value} {ps:List Z4} (h:IsPaces w v ps) (hb:Below w.heap.size w w'):IsPaces w' v ps:=by
 obtain ⟨a,cap,rfl,hc,hm,hr⟩:=h;refine ⟨a,cap,rfl,hc,hm,?_⟩
 rcases hr with hr | ⟨b,off,rfl,hlt,hcl⟩
 ·exact .inl hr
 ·refine .inr ⟨b,off,rfl,Y0 hlt hb.size,fun k hk=> ?_⟩
  obtain ⟨h1,h2⟩:=hcl k hk;exact ⟨by rw [hb.cell (p:=⟨b,off+k*2,none⟩) hlt];exact h1,by rw [hb.cell (p:=⟨b,off+k*2+1,none⟩) hlt];exact h2⟩
theorem IsRooms.below {w w':World} {v:Value} {rs:List ZY} (h:IsRooms w v rs) (hb:Below w.heap.size w w'):IsRooms w' v rs:=by
 obtain ⟨a,cap,rfl,hc,hm,hr⟩:=h;refine ⟨a,cap,rfl,hc,hm,?_⟩
 rcases hr with hr | ⟨b,off,rfl,hlt,hcl⟩
 ·exact .inl hr
 ·refine .inr ⟨b,off,rfl,Y0 hlt hb.size,fun k hk=> ?_⟩
  obtain ⟨h1,pv,h2,h3⟩:=hcl k hk;exact ⟨by rw [hb.cell (p:=⟨b,off+k*2,none⟩) hlt];exact h1,pv,by rw [hb.cell (p:=⟨b,off+k*2+1,none⟩) hlt];exact h2,h3.below hb⟩
theorem Ic {rs:List ZY} {n k:Nat} (h:k<n):ZQ (rs.take n) k=ZQ rs k:=by
 unfold ZQ;simp [List.getD,h]
theorem IsRooms.taken {w:World} {a:Option Addr} {len cap:Nat} {rs:List ZY} (h:IsRooms w (.slice a len cap) rs) {n:Nat} (hn:n<=len):IsRooms w (.slice a n cap) (rs.take n):=by
 obtain ⟨a',cap',he,hc,hm,hr⟩:=h;cases he;have hl:(rs.take n).length=n:=by simp;omega
 refine ⟨a,cap,by rw [hl],by omega,hm,?_⟩
 rcases hr with hr | ⟨b,off,rfl,hlt,hcl⟩
 ·exact .inl (by rw [hr];simp)
 ·refine .inr ⟨b,off,rfl,hlt,fun k hk=> ?_⟩
  rw [Ic (by omega)];exact hcl k (by omega)
def TB (p:Z4):Bool:=inB p.1 1 1024 && inB p.2 1 1024
def P2 (p q:Z4):Bool:=decide (q.1<p.1) && decide (q.2<p.2)
def Wo (ps:List Z4) (k:Nat):Bool:=TB (Z7 ps k) && (k ==0 || P2 (Z7 ps k) (Z7 ps (k-1)))
def Sv (ps:List Z4):Bool:=(List.range ps.length).all (Wo ps)
def Y8 (r:ZY):Bool:=inB r.1 1 4 && (inB r.2.length 1 4 && Sv r.2)
def ZW (rs:List ZY):Int:=(rs.map (·.1)).sum
def YW (rs:List ZY):Bool:=inB rs.length 1 3 && (rs.all Y8 && decide (ZW rs<=8))
theorem GW {ps:List Z4} (h:∀ j,j<ps.length->Wo ps j=true):Sv ps=true:=by
 unfold Sv;rw [List.all_eq_true];intro j hj;exact h j (List.mem_range.1 hj)
theorem S5 {ps:List Z4} {j:Nat} (hj:j<ps.length) (h:Wo ps j=false):Sv ps=false:=by
 unfold Sv;rw [List.all_eq_false];exact ⟨j,List.mem_range.2 hj,by simp [h]⟩
theorem J9 {ps:List Z4} (h:Sv ps=true) {j:Nat} (hj:j<ps.length):Wo ps j=true:=by
 unfold Sv at h;rw [List.all_eq_true] at h;exact h j (List.mem_range.2 hj)
theorem MJ {rs:List ZY} {k:Nat} (h:k<rs.length):ZQ rs k ∈ rs:=by
 unfold ZQ;simp [List.getD,h]
theorem Lp {rs:List ZY} (h:∀ j,j<rs.length->Y8 (ZQ rs j)=true):rs.all Y8=true:=by
 rw [List.all_eq_true];intro r hr;obtain ⟨j,hj,rfl⟩:=List.getElem_of_mem hr;have:=h j hj;unfold ZQ at this;simpa [List.getD,hj] using this
theorem Lo {rs:List ZY} {j:Nat} (hj:j<rs.length) (h:Y8 (ZQ rs j)=false):rs.all Y8=false:=by
 rw [List.all_eq_false];exact ⟨_,MJ hj,by simp [h]⟩
theorem Tq {rs:List ZY} (h:rs.all Y8=true) {j:Nat} (hj:j<rs.length):Y8 (ZQ rs j)=true:=by
 rw [List.all_eq_true] at h;exact h _ (MJ hj)
theorem QQ {r:ZY} (h:Y8 r=true):1<=r.1/\r.1<=4/\1<=r.2.length/\r.2.length<=4:=by
 unfold Y8 at h;simp only [ZO] at h;have h1:=ZN h.1;have h2:=ZN h.2.1;omega
theorem XP (rs:List ZY) {k:Nat} (h:k<rs.length):ZW (rs.take (k+1))=ZW (rs.take k)+(ZQ rs k).1:=by
 unfold ZW ZQ;rw [List.take_succ_eq_append_getElem h,List.map_append,List.sum_append];simp [List.getD,h]
theorem QW {rs:List ZY} (h:rs.all Y8=true):∀ k,k<=rs.length->(k:Int)<=ZW (rs.take k)/\ZW (rs.take k)<=4*k
 | 0,_=>by simp [ZW]
 | k+1,hk=>by
  have ih:=QW h k (by omega);have hb:=QQ (Tq h (j:=k) (by omega));rw [XP rs (by omega)];omega
theorem Ut (rs:List ZY):ZW (rs.take rs.length)=ZW rs:=by rw [List.take_length]
theorem Zj {rs:List ZY} (h:YW rs=true):1<=rs.length/\rs.length<=3/\rs.all Y8=true/\ZW rs<=8:=by
 unfold YW at h;simp only [ZO,YZ] at h;have h1:=ZN h.1;exact ⟨by omega,by omega,h.2.1,h.2.2⟩
open Go.ChangeShapes Go.WideShapes Go.ChangeAt Go.RowKit Go.Sort Go.Proofs.Tryz
theorem Ls {W w1:World} {B:Nat} (hb:Below B W w1):(∀ b o,b<B->w1.cell? ⟨b,o,none⟩=W.cell? ⟨b,o,none⟩)/\(∀ b o,b<B->w1.frozen? ⟨b,o,none⟩=W.frozen? ⟨b,o,none⟩):=
 ⟨fun b o h=>hb.cell (p:=⟨b,o,none⟩) h,fun b o h=>hb.frozen (p:=⟨b,o,none⟩) h⟩
theorem Zy (lo n hi:Int) (w:World):cE 219 #[.int .i64 lo,.int .i64 n,.int .i64 hi] w (.bool (inB n lo hi)):=by
 by_cases h1:lo<=n
 ·by_cases h2:n<=hi
  all_goals
   go_enter func219,ntmps219
   go_wp2
   go_ret;exact ⟨Z5 (by unfold inB;simp [h1,h2]),rfl⟩
 ·go_enter func219,ntmps219
  go_wp2
  go_ret;exact ⟨Z5 (by unfold inB;simp;omega),rfl⟩
theorem Yj {P:Nat->Prop} {k:Nat} (h:∀ j,j<k->P j) (hk:P k):∀ j,j<k+1->P j:=fun j hj=>by
 by_cases e:j<k
 ·exact h j e
 ·obtain rfl:j=k:=by omega
  exact hk
structure But (bc:Nat) (w w':World):Prop where
 os:w'.os=w.os
 tape:w'.tape=w.tape
 output:w'.output=w.output
 size:w.heap.size<=w'.heap.size
 block:∀ k,k<w.heap.size->k ≠ bc->w'.heap[k]?=w.heap[k]?
theorem But.refl (bc:Nat) (w:World):But bc w w:=⟨rfl,rfl,rfl,Z0 _,fun _ _ _=>rfl⟩
theorem But.trans {bc:Nat} {a b c:World} (h:But bc a b) (k:But bc b c):But bc a c:=
 ⟨k.os.trans h.os,k.tape.trans h.tape,k.output.trans h.output,Xv h.size k.size,fun i hi hn=>(k.block i (Y0 hi h.size) hn).trans (h.block i hi hn)⟩
theorem But.below {bc B:Nat} {a w:World} (h:But bc a w) (hB:B<=bc) (hs:B<=a.heap.size):Below B a w:=
 ⟨h.os,h.tape,h.output,h.size,fun k hk=>h.block k (Y0 hk hs) (by omega)⟩
theorem But.later {bc:Nat} {a b c:World} (h:But bc a b) (k:Below b.heap.size b c):But bc a c:=
 h.trans ⟨k.os,k.tape,k.output,k.size,fun i hi _=>k.block i hi⟩
theorem But.within {bc:Nat} {a b c:World} (h:But bc a b) (k:Below a.heap.size b c):But bc a c:=
 ⟨k.os.trans h.os,k.tape.trans h.tape,k.output.trans h.output,Xv h.size k.size,fun i hi hn=>(k.block i hi).trans (h.block i hi hn)⟩
theorem But.setCell {bc:Nat} {a w:World} (h:But bc a w) (o:Nat) (v:Value):But bc a (w.setCell ⟨bc,o,none⟩ v):=
 h.trans ⟨rfl,rfl,rfl,by simp,fun k hk hn=>Below.heap_setCell w ⟨bc,o,none⟩ v k hn⟩
theorem But.cell {bc:Nat} {w w':World} (h:But bc w w') {p:Addr} (hp:p.block<w.heap.size) (hn:p.block ≠ bc):w'.cell? p=w.cell? p:=
 World.cell?_of_block (w:=w) (h.block p.block hp hn)
theorem Xj {w w':World} {B t size n:Nat} {v:Value} {xs:List Value} (h:w.ownsRow B t size v n xs) (hs:∀ k,v.ownBlock=some k->w'.heap[k]?=w.heap[k]?):w'.ownsRow B t size v n xs:=by
 refine ⟨h.1,?_⟩
 rcases h.2 with hz | ⟨g,cap,cur,rfl,hb,hg,r⟩
 ·exact .inl hz
 ·exact .inr ⟨g,cap,cur,rfl,hb,(hs g rfl).trans hg,r⟩
theorem SZ {w:World} {B B' t size n:Nat} {v:Value} {xs:List Value} (h:w.ownsRow B t size v n xs) (hb:B'<=B):w.ownsRow B' t size v n xs:=by
 refine ⟨h.1,?_⟩
 rcases h.2 with hz | ⟨g,cap,cur,rfl,hb',r⟩
 ·exact .inl hz
 ·exact .inr ⟨g,cap,cur,rfl,by omega,r⟩
def YQ (ps:List Z4):List Value:=ps.flatMap fun p=>[.int .i64 p.1,.int .i64 p.2]
def Rw (qs:List (ZY × Value)):List Value:=qs.flatMap fun q=>[.int .i64 q.1.1,q.2]
theorem Kc {α:Type} {f g:α->Value} : ∀ l:List α,(l.flatMap fun p=>[f p,g p]).length=l.length*2
 | []=>rfl
 | p::l=>by rw [List.flatMap_cons,List.length_append,Kc l];simp;omega
theorem Uo {α:Type} {f g:α->Value} : ∀ (l:List α) (k:Nat) (h:k<l.length),(l.flatMap fun p=>[f p,g p])[k*2]?=some (f l[k])/\(l.flatMap fun p=>[f p,g p])[k*2+1]?=some (g l[k])
 | p::l,0,_=>by simp
 | p::l,k+1,h=>by
  have ih:=Uo (f:=f) (g:=g) l k (by simpa using h);rw [List.flatMap_cons,show (k+1)*2=k*2+2 by omega,show k*2+2+1=(k*2+1)+2 by omega];simpa using ih
theorem Ra {a b c:World} {row:Option Nat} (h:a.grownBy b row) (k:b.grownBy c row):a.grownBy c row:=
 ⟨k.os.trans h.os,k.tape.trans h.tape,k.output.trans h.output,Xv h.size k.size,fun i hi hn=>(k.block i (Y0 hi h.size) hn).trans (h.block i hi hn)⟩
theorem GQ {w:World} {B g n cap t:Nat} {xs:List Value} (h:w.ownsRow B t 2 (.slice (some ⟨g,0,none⟩) n cap) n xs) (j:Nat) (u u':Value) :
  ((w.setCell ⟨g,j,none⟩ u).setCell ⟨g,j+1,none⟩ u').ownsRow B t 2 (.slice (some ⟨g,0,none⟩) n cap) n ((xs.set j u).set (j+1) u')/\w.grownBy ((w.setCell ⟨g,j,none⟩ u).setCell ⟨g,j+1,none⟩ u') (some g):=by
 have h1:=World.ownsRow.stored h j u;have h2:=World.ownsRow.stored h1.1 (j+1) u';exact ⟨h2.1,Ra h1.2 h2.2⟩
theorem yJ (f c:Int):∀ (ps:List Z4) (j:Nat),j<ps.length->((YQ ps).set (j*2) (.int .i64 f)).set (j*2+1) (.int .i64 c)=YQ (ps.set j (f,c))
 | p::ps,0,_=>by simp [YQ]
 | p::ps,j+1,h=>by
  have ih:=yJ f c ps j (by simpa using h);unfold YQ at ih ⊢;rw [List.flatMap_cons,show (j+1)*2=j*2+2 by omega,show j*2+2+1=(j*2+1)+2 by omega];simpa using ih
theorem Sg (w:World) (r:Option Nat):w.grownBy w r:=⟨rfl,rfl,rfl,Z0 _,fun _ _ _=>rfl⟩
theorem Sf {w:World} {b o:Nat} (h:w.heap.size<=b):w.frozen? ⟨b,o,none⟩=false:=by
 unfold World.frozen?;rw [Array.getElem?_eq_none h]
open Go.ChangeShapes Go.WideShapes Go.ChangeAt Go.RowKit Go.Sort
section
variable {α : Type} {t k : Nat} {enc : α → List Value}
def UR (enc:α->List Value) (xs:List α):List Value:=xs.flatMap enc
theorem V3 (hk:∀ x,(enc x).length=k):∀ xs:List α,(UR enc xs).length=xs.length*k
 | []=>by simp [UR]
 | x::xs=>by
  have ih:=V3 hk xs;unfold UR at ih ⊢;rw [List.flatMap_cons,List.length_append,ih,hk,YL,Nat.add_mul];omega
theorem Og (xs ys:List α):UR enc (xs++ys)=UR enc xs++UR enc ys:=by unfold UR;rw [List.flatMap_append]
def Ig (L:List Value) (o:Nat):List Value->List Value
 | []=>L
 | u::us=>Ig (L.set o u) (o+1) us
def Pd (w:World) (g o:Nat):List Value->World
 | []=>w
 | u::us=>Pd (w.setCell ⟨g,o,none⟩ u) g (o+1) us
theorem Ij:∀ (us L:List Value) (o:Nat),(Ig L o us).length=L.length
 | [],L,o=>rfl
 | u::us,L,o=>by unfold Ig;rw [Ij us];simp
theorem Ii:∀ (us L:List Value) (o m:Nat),o+us.length<=L.length->(Ig L o us)[m]?=if o<=m/\m<o+us.length then us[m-o]? else L[m]?
 | [],L,o,m,h=>by unfold Ig;rw [if_neg (by simp)]
 | u::us,L,o,m,h=>by
  unfold Ig;have ih:=Ii us (L.set o u) (o+1) m (by simp at h ⊢;omega);rw [ih];simp only [YL] at h ⊢;by_cases h1:o+1<=m/\m<o+1+us.length
  ·rw [if_pos h1,if_pos (by omega),show m-o=(m-(o+1))+1 by omega];rfl
  ·rw [if_neg h1]
   by_cases h2:m=o
   ·subst h2;rw [if_pos (by omega),List.getElem?_set_self (by omega)];simp
   ·rw [if_neg (by omega),List.getElem?_set_ne (by omega)]
theorem GR {B t n cap g sz:Nat} : ∀ (us:List Value) {w:World} {xs:List Value} (o:Nat),w.ownsRow B t sz (.slice (some ⟨g,0,none⟩) n cap) n xs->
  (Pd w g o us).ownsRow B t sz (.slice (some ⟨g,0,none⟩) n cap) n (Ig xs o us)/\w.grownBy (Pd w g o us) (some g)
 | [],w,xs,o,h=>⟨h,Sg _ _⟩
 | u::us,w,xs,o,h=>by
  obtain ⟨h1,h2⟩:=World.ownsRow.stored h o u;obtain ⟨h3,h4⟩:=GR us (o+1) h1;exact ⟨h3,Ra h2 h4⟩
def RecAt (t k:Nat) (enc:α->List Value) (n₀:Nat) (w:World) (v:Value) (xs:List α):Prop:=w.ownsRow n₀ t k v xs.length (UR enc xs)
theorem RecAt.lt {n₀:Nat} {w:World} {v:Value} {xs:List α} (h:RecAt t k enc n₀ w v xs) {i:Nat} (hi:v.ownBlock=some i):n₀<=i/\i<w.heap.size:=World.ownsRow.lt h i hi
theorem RecAt.mono {n₀ n₁:Nat} {w:World} {v:Value} {xs:List α} (h:RecAt t k enc n₀ w v xs) (hn:n₁<=n₀):RecAt t k enc n₁ w v xs:=SZ h hn
theorem RecAt.same {n₀:Nat} {w w':World} {v:Value} {xs:List α} (h:RecAt t k enc n₀ w v xs) (hs:∀ i,v.ownBlock=some i->w'.heap[i]?=w.heap[i]?):RecAt t k enc n₀ w' v xs:=Xj h hs
theorem RecAt.later {n₀:Nat} {w w':World} {v:Value} {xs:List α} (h:RecAt t k enc n₀ w v xs) (hb:Below w.heap.size w w'):RecAt t k enc n₀ w' v xs:=h.same fun i hi=>hb.block i (h.lt hi).2
theorem RecAt.grown {n₀:Nat} {w w':World} {v:Value} {xs:List α} {r:Option Nat} (h:RecAt t k enc n₀ w v xs) (hg:w.grownBy w' r) (hr:∀ i,v.ownBlock=some i->r ≠ some i):RecAt t k enc n₀ w' v xs:=h.same fun i hi=>hg.block i (h.lt hi).2 (fun e=>hr i hi e.symm)
theorem RecAt.shape {n₀:Nat} {w:World} {v:Value} {xs:List α} (h:RecAt t k enc n₀ w v xs):∃ a cap,v= .slice a xs.length cap:=by
 rcases h.2 with ⟨rfl,hz⟩ | ⟨g,cap,cur,rfl,_⟩
 ·exact ⟨none,0,by rw [hz]⟩
 ·exact ⟨_,cap,rfl⟩
end
section
variable {α : Type} [Inhabited α] {t k : Nat} {enc : α → List Value}
def Z8 (xs:List α) (j:Nat):α:=xs.getD j default
theorem QO {xs:List α} {j:Nat} (h:j<xs.length):Z8 xs j=xs[j]:=by unfold Z8;simp [List.getD,h]
theorem Wd {xs:List α} {j:Nat} (h:j<xs.length):Z8 xs j ∈ xs:=by rw [QO h];exact List.getElem_mem h
theorem ZD {xs:List α} {i:Nat} {x:α} (h:i<xs.length) (j:Nat):Z8 (xs.set i x) j=if j=i then x else Z8 xs j:=by
 unfold Z8;by_cases e:j=i
 ·subst e;simp [List.getD,h]
 ·rw [if_neg e];simp [List.getD,Ne.symm e]
theorem Vz (hk:∀ x,(enc x).length=k):∀ (xs:List α) (j:Nat),j<xs.length-> ∀ i,i<k->(UR enc xs)[j*k+i]?=(enc (Z8 xs j))[i]?
 | x::xs,0,_,i,hi=>by
  unfold UR Z8;rw [List.flatMap_cons,Nat.zero_mul,Nat.zero_add,List.getElem?_append_left (by rw [hk];exact hi)];rfl
 | x::xs,j+1,h,i,hi=>by
  have ih:=Vz hk xs j (by simpa using h) i hi;unfold UR Z8 at ih ⊢;rw [List.flatMap_cons,List.getElem?_append_right (by rw [hk,Nat.add_mul];omega),hk,show (j+1)*k+i-k=j*k+i by rw [Nat.add_mul];omega,ih];rfl
theorem Ac (hk:∀ x,(enc x).length=k) (h0:0<k) (xs:List α) (j:Nat) (hj:j<xs.length) (x:α):Ig (UR enc xs) (j*k) (enc x)=UR enc (xs.set j x):=by
 have hl:=V3 hk xs;have hjk:j*k+k<=xs.length*k:=by rw [<-Nat.succ_mul];exact Nat.mul_le_mul_right k hj
 apply List.ext_getElem?;intro m;by_cases hm:m<xs.length*k
 ·have hd:m / k<xs.length:=(Nat.div_lt_iff_lt_mul h0).2 hm
  have hr:m%k<k:=Nat.mod_lt _ h0;have he:m=m / k*k+m%k:=by rw [Nat.mul_comm];exact (Nat.div_add_mod m k).symm
  have hg:=Vz hk (xs.set j x) (m / k) (by simpa using hd) (m%k) hr;have hg0:=Vz hk xs (m / k) hd (m%k) hr;rw [<-he] at hg hg0;rw [Ii _ _ _ _ (by rw [hl,hk];exact hjk),hg,hk,ZD hj,hg0];by_cases e:m / k=j
  ·rw [if_pos e,if_pos (by rw [<-e];omega),show m-j*k=m%k by rw [<-e];omega]
  ·rw [if_neg e,if_neg]
   intro ⟨h1,h2⟩;apply e;exact Nat.div_eq_of_lt_le h1 (by rw [Nat.succ_mul];exact h2)
 ·rw [List.getElem?_eq_none (by rw [Ij,hl];omega),List.getElem?_eq_none (by rw [V3 hk];simp;omega)]
def IsRec (k:Nat) (enc:α->List Value) (w:World) (v:Value) (xs:List α):Prop:=
 ∃ (a:Option Addr) (cap:Nat),v= .slice a xs.length cap/\xs.length<=cap/\cap<=9223372036854775807/\(xs=[]\/ ∃ b off,a=some ⟨b,off,none⟩/\b<w.heap.size/\
  ∀ j,j<xs.length-> ∀ i u,(enc (Z8 xs j))[i]?=some u->w.cell? ⟨b,off+j*k+i,none⟩=some u)
theorem IsRec.below {w w':World} {v:Value} {xs:List α} (h:IsRec k enc w v xs) (hb:Below w.heap.size w w'):IsRec k enc w' v xs:=by
 obtain ⟨a,cap,rfl,hc,hm,hr⟩:=h;refine ⟨a,cap,rfl,hc,hm,?_⟩
 rcases hr with hr | ⟨b,off,rfl,hlt,hcl⟩
 ·exact .inl hr
 ·exact .inr ⟨b,off,rfl,Y0 hlt hb.size,fun j hj i u hu=>(hb.cell (p:=⟨b,off+j*k+i,none⟩) hlt).trans (hcl j hj i u hu)⟩
theorem IsRec.shape {w:World} {v:Value} {xs:List α} (h:IsRec k enc w v xs):∃ a cap,v= .slice a xs.length cap/\xs.length<=cap/\cap<=9223372036854775807:=by
 obtain ⟨a,cap,rfl,hc,hm,_⟩:=h;exact ⟨a,cap,rfl,hc,hm⟩
theorem RecAt.recs (hk:∀ x,(enc x).length=k) (h0:0<k) {n₀:Nat} {w:World} {v:Value} {xs:List α} (h:RecAt t k enc n₀ w v xs):IsRec k enc w v xs:=by
 have h':=h
 rcases h.2 with ⟨rfl,hz⟩ | ⟨g,cap,cur,rfl,hb,hg,hnc,hcm,r⟩
 ·exact ⟨none,0,by rw [hz],by omega,by omega,.inl (List.eq_nil_of_length_eq_zero hz)⟩
 ·refine ⟨_,cap,rfl,hnc,by unfold maxLen at hcm;omega,.inr ⟨g,0,rfl,(Array.getElem?_eq_some_iff.1 hg).1,fun j hj i u hu=> ?_⟩⟩
  have hi:i<k:=by
   rcases Nat.lt_or_ge i k with h | h
   ·exact h
   ·rw [List.getElem?_eq_none (by rw [hk];exact h)] at hu;cases hu
  have hjk:j*k+k<=xs.length*k:=by rw [<-Nat.succ_mul];exact Nat.mul_le_mul_right k hj
  rw [Nat.zero_add,World.ownsRow.cellAt h' (j*k+i) (by omega),Vz hk xs j hj i hi];exact hu
theorem RecAt.view (hk:∀ x,(enc x).length=k) (h0:0<k) {n₀ n cap:Nat} {w:World} {a:Option Addr} {xs:List α} (h:RecAt t k enc n₀ w (.slice a n cap) xs) (hn:n=xs.length) (hl:0<xs.length):∃ g,a=some ⟨g,0,none⟩/\n₀<=g/\g<w.heap.size/\
  (∀ j,j<xs.length-> ∀ i u,(enc (Z8 xs j))[i]?=some u->w.cell? ⟨g,j*k+i,none⟩=some u)/\(∀ o,w.frozen? ⟨g,o,none⟩=false):=by
 subst hn;have h':=h
 rcases h.2 with ⟨hv,hz⟩ | ⟨g,cap',cur,hv,hb,hg,hnc,hcm,r⟩
 ·omega
 ·cases hv
  refine ⟨g,rfl,hb,(Array.getElem?_eq_some_iff.1 hg).1,fun j hj i u hu=> ?_,fun o=>World.ownsRow.frozenAt h' o⟩
  have hi:i<k:=by
   rcases Nat.lt_or_ge i k with h | h
   ·exact h
   ·rw [List.getElem?_eq_none (by rw [hk];exact h)] at hu;cases hu
  have hjk:j*k+k<=xs.length*k:=by rw [<-Nat.succ_mul];exact Nat.mul_le_mul_right k hj
  rw [World.ownsRow.cellAt h' (j*k+i) (by omega),Vz hk xs j hj i hi];exact hu
theorem RecAt.put (hk:∀ x,(enc x).length=k) (h0:0<k) {n₀ n cap g:Nat} {w:World} {xs:List α} (h:RecAt t k enc n₀ w (.slice (some ⟨g,0,none⟩) n cap) xs) (hn:n=xs.length) {j:Nat} (hj:j<xs.length) (x:α) :
  RecAt t k enc n₀ (Pd w g (j*k) (enc x)) (.slice (some ⟨g,0,none⟩) n cap) (xs.set j x)/\w.grownBy (Pd w g (j*k) (enc x)) (some g):=by
 subst hn;obtain ⟨h1,h2⟩:=GR (enc x) (j*k) h;rw [Ac hk h0 xs j hj x] at h1;refine ⟨?_,h2⟩;unfold RecAt;rw [V1];exact h1
end
end Go.Proofs.YtgdpaigcmoifbaaGreat
namespace Go.Proofs.YtgdpaigcmoifbaaGreat
open Go.ChangeShapes Go.WideShapes Go.ChangeAt Go.RowKit Go.Sort
set_option linter.unusedVariables false
section
variable {α : Type} {t k : Nat} {enc : α → List Value}
theorem B8 [Inhabited α] (hk:∀ x,(enc x).length=k) (h0:0<k) (z:α) (zs:Array Value) (hz:zs.toList=enc z) (n:Nat):(madeCells zs (n*k)).toList=UR enc (List.replicate n z):=by
 have hs:zs.size=k:=by rw [<-Array.length_toList,hz,hk]
 apply List.ext_getElem?;intro m;by_cases hm:m<n*k
 ·have hd:m / k<n:=(Nat.div_lt_iff_lt_mul h0).2 hm
  have hr:m%k<k:=Nat.mod_lt _ h0;have he:m=m / k*k+m%k:=by rw [Nat.mul_comm];exact (Nat.div_add_mod m k).symm
  have hg:=Vz hk (List.replicate n z) (m / k) (by simpa using hd) (m%k) hr;rw [<-he] at hg;have hrec:Z8 (List.replicate n z) (m / k)=z:=by unfold Z8;simp [List.getD,hd]
  rw [hg,hrec,<-hz];simp [madeCells,hm,hs,hr]
 ·rw [List.getElem?_eq_none (by simp [madeCells];omega),List.getElem?_eq_none (by rw [V3 hk];simp;omega)]
end
end Go.Proofs.YtgdpaigcmoifbaaGreat
namespace Go.Proofs.YtgdpaigcmoifbaaGreat
open Go.ChangeShapes Go.WideShapes Go.ChangeAt Go.RowKit Go.Sort Go.Proofs.Tryz
set_option linter.unusedVariables false
abbrev Zs:=Int × Int × Int
def Wh (p:Zs):List Value:=[.int .i64 p.1,.int .i64 p.2.1,.int .i64 p.2.2]
theorem Xy (p:Zs):(Wh p).length=3:=rfl
abbrev XF (w:World) (v:Value) (ps:List Zs):Prop:=IsRec 3 Wh w v ps
abbrev GuildsAt (n₀:Nat) (w:World) (v:Value) (ps:List Zs):Prop:=RecAt 145 3 Wh n₀ w v ps
theorem BP:(prog.info? 145).map (fun i=>(i.zero,i.size,i.bytes))=some (some (.agg #[.int .i64 0,.int .i64 0,.int .i64 0]),3,24):=by kernel_rfl
theorem GuildsAt.list {n₀:Nat} {w:World} {v:Value} {ps:List Zs} (h:GuildsAt n₀ w v ps):XF w v ps:=RecAt.recs Xy (by omega) h
theorem Tt {w:World} {b off:Nat} {ps:List Zs} (h:∀ j,j<ps.length-> ∀ i u,(Wh (Z8 ps j))[i]?=some u->w.cell? ⟨b,off+j*3+i,none⟩=some u) {j:Nat} (hj:j<ps.length) :
  w.cell? ⟨b,off+j*3,none⟩=some (.int .i64 (Z8 ps j).1)/\w.cell? ⟨b,off+j*3+1,none⟩=some (.int .i64 (Z8 ps j).2.1)/\w.cell? ⟨b,off+j*3+2,none⟩=some (.int .i64 (Z8 ps j).2.2):=
 ⟨h j hj 0 _ rfl,h j hj 1 _ rfl,h j hj 2 _ rfl⟩
open Go.ChangeShapes Go.WideShapes Go.ChangeAt Go.RowKit Go.Sort
def Ye (lo hi:Int):Bool:=inB lo 0 1024 && inB hi 0 1024 && decide (lo<=hi)
theorem AL {lo hi:Int} (h:Ye lo hi=true):0<=lo/\lo<=1024/\0<=hi/\hi<=1024/\lo<=hi:=by
 unfold Ye at h;simp only [ZO,YZ] at h;obtain ⟨⟨h1,h2⟩,h3⟩:=h;exact ⟨(ZN h1).1,(ZN h1).2,(ZN h2).1,(ZN h2).2,h3⟩
def Xh (g:Zs) (n:Int):Bool:=inB g.1 (-1) (n-1) && Ye g.2.1 g.2.2
theorem JR {g:Zs} {n:Int} (h:Xh g n=true) : -1<=g.1/\g.1<=n-1/\Ye g.2.1 g.2.2=true:=by
 unfold Xh at h;simp only [ZO] at h;exact ⟨(ZN h.1).1,(ZN h.1).2,h.2⟩
def TF (ps:List Zs) (k:Nat):Bool:=(List.range k).all fun i=>Xh (Z8 ps i) i
theorem Qj (ps:List Zs) (k:Nat):TF ps (k+1)=(TF ps k && Xh (Z8 ps k) k):=by unfold TF;rw [List.range_succ,List.all_append];simp
theorem zH {ps:List Zs} {k n:Nat} (hk:k<n) (h:Xh (Z8 ps k) k=false):TF ps n=false:=by
 unfold TF;rw [List.all_eq_false];exact ⟨k,List.mem_range.2 hk,by simp [h]⟩
theorem Iz {ps:List Zs} {k n:Nat} (h:TF ps n=true) (hk:k<n):Xh (Z8 ps k) k=true:=by
 unfold TF at h;exact List.all_eq_true.1 h k (List.mem_range.2 hk)
def Za (ps:List Zs):Bool:=TF ps ps.length && decide (ps.length<=6)
theorem Vh {ps:List Zs} (h:Za ps=true):TF ps ps.length=true/\ps.length<=6:=by
 unfold Za at h;simpa using h
theorem OV {ps:List Zs} {k:Nat} (hk:k<ps.length) (h:Xh (Z8 ps k) k=false):Za ps=false:=by unfold Za;rw [zH hk h];rfl
theorem I9 {ps:List Zs} (h:6<ps.length):Za ps=false:=by unfold Za;simp;omega
theorem Sh {ps:List Zs} (h:Za ps=true) {g:Int} (h0:0<=g) (h1:g<ps.length) : -1<=(Z8 ps g.toNat).1/\(Z8 ps g.toNat).1<=g-1/\Ye (Z8 ps g.toNat).2.1 (Z8 ps g.toNat).2.2=true:=by
 have:=JR (Iz (Vh h).1 (k:=g.toNat) (by omega));rw [show ((g.toNat:Nat):Int)=g by omega] at this;exact this
def Uy (b:Int × Int) (lo hi:Int):Int × Int:=(min (max lo b.1) b.2,min (max hi (min (max lo b.1) b.2)) b.2)
def ON (ps:List Zs):Nat->Int->Int × Int
 | 0,_=>(0,1024)
 | n+1,g=>if g<0 then (0,1024) else Uy (ON ps n (Z8 ps g.toNat).1) (Z8 ps g.toNat).2.1 (Z8 ps g.toNat).2.2
def bnd (ps:List Zs) (g:Int):Int × Int:=ON ps (g+1).toNat g
theorem Dr {b:Int × Int} {lo hi:Int} (h0:0<=b.1) (h1:b.1<=b.2) (h2:b.2<=1024):b.1<=(Uy b lo hi).1/\(Uy b lo hi).1<=(Uy b lo hi).2/\(Uy b lo hi).2<=b.2:=by
 unfold Uy;refine ⟨?_,?_,?_⟩<;>simp only<;>omega
theorem CX (ps:List Zs):∀ (n:Nat) (g:Int),0<=(ON ps n g).1/\(ON ps n g).1<=(ON ps n g).2/\(ON ps n g).2<=1024
 | 0,g=>by unfold ON;simp
 | n+1,g=>by
  unfold ON
  split
  ·simp
  ·obtain ⟨h0,h1,h2⟩:=CX ps n (Z8 ps g.toNat).1
   obtain ⟨h3,h4,h5⟩:=Dr (lo:=(Z8 ps g.toNat).2.1) (hi:=(Z8 ps g.toNat).2.2) h0 h1 h2;exact ⟨by omega,h4,by omega⟩
theorem yp (ps:List Zs) (g:Int):0<=(bnd ps g).1/\(bnd ps g).1<=(bnd ps g).2/\(bnd ps g).2<=1024:=CX ps _ g
theorem JM {ps:List Zs} (h:Za ps=true):∀ (n m:Nat) (g:Int),g<n->g<m->g<ps.length->ON ps n g=ON ps m g
 | 0,0,g,_,_,_=>rfl
 | 0,m+1,g,h1,h2,h3=>by unfold ON;rw [if_pos (by omega)]
 | n+1,0,g,h1,h2,h3=>by unfold ON;rw [if_pos (by omega)]
 | n+1,m+1,g,h1,h2,h3=>by
  unfold ON;by_cases h0:g<0
  ·rw [if_pos h0,if_pos h0]
  ·rw [if_neg h0,if_neg h0]
   obtain ⟨a0,a1,_⟩:=Sh h (g:=g) (by omega) h3;rw [JM h n m (Z8 ps g.toNat).1 (by omega) (by omega) (by omega)]
theorem Pq (ps:List Zs) {g:Int} (h:g<0):bnd ps g=(0,1024):=by
 unfold bnd;rw [show (g+1).toNat=0 by omega];rfl
theorem FJ {ps:List Zs} (h:Za ps=true) {g:Int} (h0:0<=g) (h1:g<ps.length):bnd ps g=Uy (bnd ps (Z8 ps g.toNat).1) (Z8 ps g.toNat).2.1 (Z8 ps g.toNat).2.2:=by
 obtain ⟨a0,a1,_⟩:=Sh h h0 h1;unfold bnd;rw [show (g+1).toNat=g.toNat+1 by omega];show (if g<0 then (0,1024) else _)=_;rw [if_neg (by omega),JM h g.toNat ((Z8 ps g.toNat).1+1).toNat _ (by omega) (by omega) (by omega)]
def isB (ps:List Zs) (g:Int):Bool:=Za ps && inB g (-1) ((ps.length:Int)-1)
def SI (ps:List Zs) (g lo hi:Int):Int × Int:=if isB ps g && Ye lo hi then Uy (bnd ps g) lo hi else (-1,-1)
theorem KF {ps:List Zs} {g lo hi:Int} (h:(isB ps g && Ye lo hi)=false):SI ps g lo hi=(-1,-1):=by unfold SI;rw [h];rfl
theorem KG {ps:List Zs} {g lo hi:Int} (h:isB ps g=true) (h':Ye lo hi=true):SI ps g lo hi=Uy (bnd ps g) lo hi:=by unfold SI;rw [h,h'];rfl
theorem zv {lo hi:Int} (h0:0<=lo) (h1:lo<=hi) (h2:hi<=1024):Ye lo hi=true:=by unfold Ye;rw [Zn h0 (by omega),Zn (by omega) h2];simp;omega
theorem Jo {lo hi:Int} (h:lo<0\/hi<lo\/1024<hi):Ye lo hi=false:=by
 cases e:Ye lo hi
 ·rfl
 ·have:=AL e;omega
theorem Th (lo hi:Int) (w:World):cE 283 #[.int .i64 lo,.int .i64 hi] w (.bool (Ye lo hi)):=by
 by_cases h1:0<=lo
 ·by_cases h2:lo<=hi
  ·by_cases h3:hi<=1024
   all_goals
    go_enter func283,ntmps283
    go_wp2
    go_ret;exact ⟨Z5 (by first | exact (zv h1 h2 h3).symm | exact (Jo (by omega)).symm),rfl⟩
  ·go_enter func283,ntmps283
   go_wp2
   go_ret;exact ⟨Z5 (Jo (by omega)).symm,rfl⟩
 ·go_enter func283,ntmps283
  go_wp2
  go_ret;exact ⟨Z5 (Jo (by omega)).symm,rfl⟩
theorem Rb (a lo hi n:Int) (w:World):cB 230 #[.agg #[.int .i64 a,.int .i64 lo,.int .i64 hi],.int .i64 n] w (.bool (Xh (a,lo,hi) n)):=by
 by_cases h1 : -1<=a
 ·by_cases h2:a<n
  ·have hg:Xh (a,lo,hi) n=Ye lo hi:=by unfold Xh;rw [Zn h1 (by omega)];rfl
   rw [hg];clear hg;go_enter func230,ntmps230;go_wp2_with (go_at_call 283;refine (Th _ _ _).mono ?_;rintro e w' ⟨rfl,rfl⟩)
   go_ret;exact ⟨rfl,(ba _ _)⟩
  ·have hg:Xh (a,lo,hi) n=false:=by unfold Xh;rw [Wk (.inr (by omega))];rfl
   rw [hg];clear hg;go_enter func230,ntmps230;go_wp2_with fail;go_ret;exact ⟨rfl,(ba _ _)⟩
 ·have hg:Xh (a,lo,hi) n=false:=by unfold Xh;rw [Wk (.inl (by omega))];rfl
  rw [hg];clear hg;go_enter func230,ntmps230;go_wp2_with fail;go_ret;exact ⟨rfl,(ba _ _)⟩
theorem V9 {w:World} {v:Value} {ps:List Zs} (h:XF w v ps) :
  cB 214 #[v] w (.bool (Za ps)):=by
 obtain ⟨a,cap,rfl,hc,hm,hr⟩:=h;have Hr:=Z9 hr;clear hr;by_cases hbig:6<ps.length
 ·go_enter func214,ntmps214
  go_wp2_with fail;go_ret;exact ⟨Z5 (I9 hbig).symm,Z3 _ _⟩
 go_enter func214,ntmps214;go_wp2_with fail
 go_loopw [10] (fun i wr=> ∃ k:Nat,k<=ps.length/\i= .int .i64 k/\TF ps k=true/\Below w.heap.size w wr) (fun i _=>ps.length-(intOf i).toNat)
 case atStart=>exact ⟨0,ZA _,rfl,rfl,Z3 _ _⟩
 case round=>
  obtain ⟨k,hk,rfl,hst,hb⟩:=hrel;have Hst:=Z9 hst;have Hb:=Z9 hb;clear hst;by_cases hlt:k<ps.length
  ·rcases uh Hr with h0 | ⟨b,off,rfl,hbw,hcl⟩
   ·rw [h0] at hlt;simp at hlt
   have hbr:b<wr.heap.size:=Y0 hbw hb.size;obtain ⟨c0,c1,c2⟩:=Tt hcl hlt;rw [<-hb.cell (p:=⟨b,off+k*3,none⟩) hbw] at c0;rw [<-hb.cell (p:=⟨b,off+k*3+1,none⟩) hbw] at c1;rw [<-hb.cell (p:=⟨b,off+k*3+2,none⟩) hbw] at c2;generalize hp:Z8 ps k=p at c0 c1 c2;have Hp:=Z9 hp;clear hp;obtain ⟨x0,x1,x2⟩:=p;simp only at c0 c1 c2;have hsz:=hb.size;clear hcl hb;go_wp2_with fail;refine ck (Rb _ _ _ _ _) fun w1 hb1=> ?_;have Hb1:=Z9 ((uh Hb).trans (((Z3 _ _).alloc hsz _).trans (hb1.mono (by simp;omega))));clear hb1;cases hg:Xh (x0,x1,x2) k
   ·go_wp2_with fail
    go_ret;exact ⟨Z5 (OV hlt (by rw [uh Hp];exact hg)).symm,uh Hb1⟩
   ·go_wp2_with fail
    go_roundw
    case rel=>exact ⟨k+1,by omega,by go_num,by rw [Qj,uh Hst,uh Hp,hg];rfl,uh Hb1⟩
    case measure=>exact ms
  ·obtain rfl:k=ps.length:=by omega
   go_wp2_with fail;go_ret;exact ⟨Z5 (by unfold Za;rw [uh Hst];simp;omega),hb⟩
theorem PF (a lo hi l h:Int) (w:World):Calls prog 232 #[.agg #[.int .i64 a,.int .i64 lo,.int .i64 hi],.int .i64 l,.int .i64 h] w
  fun e w'=>e= .returned (.tuple #[.int .i64 (Uy (lo,hi) l h).1,.int .i64 (Uy (lo,hi) l h).2])/\Below w.heap.size w w':=by
 unfold Uy;go_enter func232,ntmps232;go_wp2_with (go_at_call 185;refine (UJ _ _ _ _).mono ?_;rintro e w' ⟨rfl,rfl⟩)
 go_ret2
 exact ⟨rfl,(ba _ _)⟩
theorem Il (a lo hi a' l h:Int) (w:World):Calls prog 284 #[.agg #[.int .i64 a,.int .i64 lo,.int .i64 hi,.int .i64 a',.int .i64 l,.int .i64 h]] w
  fun e w'=>e= .returned (.agg #[.int .i64 a',.int .i64 (Uy (lo,hi) l h).1,.int .i64 (Uy (lo,hi) l h).2])/\Below w.heap.size w w':=by
 go_enter func284,ntmps284;go_wp2_with fail;refine ck (PF _ _ _ _ _ _) fun w1 hb1=> ?_;have hz:w.heap.size+1<w1.heap.size:=by have:=hb1.size;simp at this;omega
 have Hb1:=Z9 hb1;obtain ⟨hc,hf⟩:=Ls hb1;clear hb1;go_wp2_with fail
 exact Zz (v:= .agg #[.int .i64 a',.int .i64 (Uy (lo,hi) l h).1,.int .i64 (Uy (lo,hi) l h).2]) (by simp [results,results284,go_sem,hc]) rfl
  ⟨rfl,((((((ba _ _)).alloc (by simp) _).trans ((uh Hb1).mono (by simp;omega))).setCell (by simp) _).setCell (by simp) _).setCell (by simp) _⟩
theorem Lb {ps:List Zs} (hg:Za ps=true):∀ (n:Nat) (g:Int) {w:World} {v:Value},XF w v ps-> -1<=g->g<n->g<ps.length->
  Calls prog 231 #[v,.int .i64 g] w fun e w'=> ∃ x,e= .returned (.agg #[.int .i64 x,.int .i64 (bnd ps g).1,.int .i64 (bnd ps g).2])/\Below w.heap.size w w':=by
 intro n
 induction n with
 | zero=>
  intro g w v h h0 h1 h2;obtain rfl:g= -1:=by omega
  rw [Pq ps (by omega)];obtain ⟨a,cap,rfl,_⟩:=h;go_enter func231,ntmps231;go_wp2_with fail;exact Zz (v:= .agg #[.int .i64 (-1),.int .i64 0,.int .i64 1024]) (by simp [results,results231,go_sem]) rfl ⟨-1,rfl,(ba _ _)⟩
 | succ n ih=>
  intro g w v h h0 h1 h2;by_cases hg0:g= -1
  ·subst hg0
   rw [Pq ps (by omega)];obtain ⟨a,cap,rfl,_⟩:=h;go_enter func231,ntmps231;go_wp2_with fail;exact Zz (v:= .agg #[.int .i64 (-1),.int .i64 0,.int .i64 1024]) (by simp [results,results231,go_sem]) rfl ⟨-1,rfl,(ba _ _)⟩
  ·obtain ⟨k,rfl⟩:∃ k:Nat,g=k:=⟨g.toNat,by omega⟩
   have hlt:k<ps.length:=by omega
   obtain ⟨a0,a1,_⟩:=Sh hg (g:=(k:Int)) (by omega) h2;have hs:=FJ hg (g:=(k:Int)) (by omega) h2;rw [show ((k:Int)).toNat=k by omega] at a0 a1 hs;rw [hs];clear hs;have Hi:=Z9 h;obtain ⟨a,cap,rfl,hc,hm,hr⟩:=h
   rcases hr with hz | ⟨b,off,rfl,hbw,hcl⟩
   ·rw [hz] at hlt;simp at hlt
   obtain ⟨c0,c1,c2⟩:=Tt hcl hlt;clear hcl;generalize hW:w.alloc (.cells #[.int .i64 0,.int .i64 0,.int .i64 0] 145)=W;have HB:Hid (Below w.heap.size w W):=Z9 (by rw [<-hW];exact (ba _ _));have hsz:w.heap.size<W.heap.size:=by rw [<-hW];simp
   have hbW:b<W.heap.size:=by omega
   rw [<-(uh HB).cell (p:=⟨b,off+k*3,none⟩) hbw] at c0;rw [<-(uh HB).cell (p:=⟨b,off+k*3+1,none⟩) hbw] at c1;rw [<-(uh HB).cell (p:=⟨b,off+k*3+2,none⟩) hbw] at c2
   have D:Hid ((∃ u,W.cell? ⟨w.heap.size,0,none⟩=some u)/\(∃ u,W.cell? ⟨w.heap.size,1,none⟩=some u)/\(∃ u,W.cell? ⟨w.heap.size,2,none⟩=some u)/\W.frozen? ⟨w.heap.size,0,none⟩=false/\W.frozen? ⟨w.heap.size,1,none⟩=false/\W.frozen? ⟨w.heap.size,2,none⟩=false):=
    Z9 (by rw [<-hW];exact ⟨⟨_,by simp;rfl⟩,⟨_,by simp;rfl⟩,⟨_,by simp;rfl⟩,by simp,by simp,by simp⟩)
   have HW:=Z9 hW;clear hW;have Hc:=Z9 (And.intro c0 (And.intro c1 c2));generalize hp:Z8 ps k=p at *;obtain ⟨x0,x1,x2⟩:=p;simp only at c0 c1 c2 a0 a1;have ih':=fun (w:World) (v:Value) (h:XF w v ps)=>ih x0 h a0 (by omega) (by omega);have Ih:=Z9 ih';clear ih ih' hp;go_enter func231,ntmps231;go_wp2_with fail;rw [uh HW]
   go_region_with (first
    | (go_at_call 231;refine (uh Ih _ _ ?_).mono ?_;(first | exact (uh Hi).below (uh HB) | exact ((uh Hi).below (uh HB)).below ((Z3 _ _).drew));rintro e w1 ⟨y,rfl,hb1⟩;have B1:Hid (Below W.heap.size W w1):=Z9 (by first | exact hb1 | exact ((Z3 _ _).drew).trans (hb1.mono (by simp)));have e0:=((uh B1).cell (p:=⟨b,off+k*3,none⟩) hbW).trans (uh Hc).1;have e1:=((uh B1).cell (p:=⟨b,off+k*3+1,none⟩) hbW).trans (uh Hc).2.1;have e2:=((uh B1).cell (p:=⟨b,off+k*3+2,none⟩) hbW).trans (uh Hc).2.2;clear hb1)
    | (go_at_call 284;refine (Il _ _ _ _ _ _ _).mono ?_;rintro e w2 ⟨rfl,hb2⟩;have B2:Hid (Below W.heap.size W w2):=Z9 ((uh B1).trans (hb2.mono (uh B1).size));obtain ⟨⟨u0,q0⟩,⟨u1,q1⟩,⟨u2,q2⟩,f0,f1,f2⟩:=uh D;have d0:=((uh B2).cell (p:=⟨w.heap.size,0,none⟩) hsz).trans q0;have d1:=((uh B2).cell (p:=⟨w.heap.size,1,none⟩) hsz).trans q1;have d2:=((uh B2).cell (p:=⟨w.heap.size,2,none⟩) hsz).trans q2;have z0:=((uh B2).frozen (p:=⟨w.heap.size,0,none⟩) hsz).trans f0;have z1:=((uh B2).frozen (p:=⟨w.heap.size,1,none⟩) hsz).trans f1;have z2:=((uh B2).frozen (p:=⟨w.heap.size,2,none⟩) hsz).trans f2;clear hb2 q0 q1 q2 f0 f1 f2))
   all_goals
    go_wp2_with fail
    exact Zz (v:= .agg #[.int .i64 x0,.int .i64 (Uy (bnd ps x0) x1 x2).1,.int .i64 (Uy (bnd ps x0) x1 x2).2]) (by simp [results,results231,go_sem,d0,d1,d2]) rfl
     ⟨x0,rfl,((((uh HB).trans ((uh B2).mono (by omega))).setCell (Z0 _) _).setCell (Z0 _) _).setCell (Z0 _) _⟩
theorem Mh {w:World} {v:Value} {ps:List Zs} (g lo hi:Int) (h:XF w v ps) :
  cB 184 #[v,.int .i64 g,.int .i64 lo,.int .i64 hi] w (.tuple #[.int .i64 (SI ps g lo hi).1,.int .i64 (SI ps g lo hi).2]):=by
 have Hi:=Z9 h;obtain ⟨a,cap,rfl,hc,hm,hr⟩:=h;clear hr;generalize hW:w.alloc (.cells #[.int .i64 g,.int .i64 lo,.int .i64 hi] 145)=W;have HB:Hid (Below w.heap.size w W):=Z9 (by rw [<-hW];exact (ba _ _));have hsz:w.heap.size<W.heap.size:=by rw [<-hW];simp
 have D:Hid (W.cell? ⟨w.heap.size,0,none⟩=some (.int .i64 g)/\W.cell? ⟨w.heap.size,1,none⟩=some (.int .i64 lo)/\W.cell? ⟨w.heap.size,2,none⟩=some (.int .i64 hi)):=Z9 (by rw [<-hW];simp);have HW:=Z9 hW;clear hW;have hsv:(Za ps && Xh (g,lo,hi) ps.length)=(isB ps g && Ye lo hi):=by unfold Xh isB;rw [Bool.and_assoc]
 cases hG:Za ps
 ·rw [KF (by rw [<-hsv,hG];rfl)]
  clear hsv;go_enter func184,ntmps184;go_wp2_with fail;rw [uh HW];refine (V9 ((uh Hi).below (uh HB))).mono ?_;rw [hG];rintro e w1 ⟨rfl,hb1⟩;have B1:=Z9 ((uh HB).trans (hb1.mono (by omega)));clear hb1;go_wp2_with fail
  go_ret2
  exact ⟨rfl,uh B1⟩
 ·cases hQ:Xh (g,lo,hi) ps.length
  ·rw [KF (by rw [<-hsv,hG,hQ];rfl)]
   clear hsv;go_enter func184,ntmps184;go_wp2_with fail;rw [uh HW];refine (V9 ((uh Hi).below (uh HB))).mono ?_;rw [hG];rintro e w1 ⟨rfl,hb1⟩;have d0:=(hb1.cell (p:=⟨w.heap.size,0,none⟩) hsz).trans (uh D).1;have d1:=(hb1.cell (p:=⟨w.heap.size,1,none⟩) hsz).trans (uh D).2.1;have d2:=(hb1.cell (p:=⟨w.heap.size,2,none⟩) hsz).trans (uh D).2.2;have B1:=Z9 ((uh HB).trans (hb1.mono (by omega)));clear hb1;go_wp2_with fail;refine (Rb _ _ _ _ _).mono ?_;rw [hQ];rintro e w2 ⟨rfl,hb2⟩;have B2:=Z9 ((uh B1).trans (hb2.mono (uh B1).size));clear hb2;go_wp2_with fail
   go_ret2
   exact ⟨rfl,uh B2⟩
  ·obtain ⟨g0,g1,g2⟩:=JR hQ
   have hisB:isB ps g=true:=by unfold isB;rw [hG,Zn g0 (by simpa using g1)];rfl
   rw [KG hisB g2];clear hsv hisB;have hlt:g<ps.length:=by simp only at g1;omega
   simp only at g0;go_enter func184,ntmps184;go_wp2_with fail;rw [uh HW];refine (V9 ((uh Hi).below (uh HB))).mono ?_;rw [hG];rintro e w1 ⟨rfl,hb1⟩;have d0:=(hb1.cell (p:=⟨w.heap.size,0,none⟩) hsz).trans (uh D).1;have d1:=(hb1.cell (p:=⟨w.heap.size,1,none⟩) hsz).trans (uh D).2.1;have d2:=(hb1.cell (p:=⟨w.heap.size,2,none⟩) hsz).trans (uh D).2.2;have B1:=Z9 ((uh HB).trans (hb1.mono (by omega)));clear hb1;go_wp2_with fail;refine (Rb _ _ _ _ _).mono ?_;rw [hQ];rintro e w2 ⟨rfl,hb2⟩;have B2:=Z9 ((uh B1).trans (hb2.mono (uh B1).size));clear hb2;go_wp2_with fail;refine (Lb hG (g+1).toNat g ((uh Hi).below (uh B2)) g0 (by omega) hlt).mono ?_;rintro e w3 ⟨x,rfl,hb3⟩;have B3:=Z9 ((uh B2).trans (hb3.mono (uh B2).size));clear hb3;go_wp2_with fail;refine ck (PF _ _ _ _ _ _) fun w4 hb4=> ?_;have B4:=Z9 ((uh B3).trans (hb4.mono (uh B3).size));clear hb4;go_wp2_with fail
   go_ret2
   exact ⟨rfl,uh B4⟩
theorem P9 (f c:Int) (w:World):cB 325 #[.agg #[.int .i64 f,.int .i64 c]] w (.bool (TB (f,c))):=by
 cases h1:inB f 1 1024
 ·go_enter func325,ntmps325
  go_wp2_with fail;refine (Zy _ _ _ _).mono ?_;rintro e w' ⟨rfl,rfl⟩;go_wp2_with fail;go_ret;exact ⟨Z5 (by unfold TB;simp [h1]),(ba _ _)⟩
 ·go_enter func325,ntmps325
  go_wp2_with fail;refine (Zy _ _ _ _).mono ?_;rintro e w' ⟨rfl,rfl⟩;go_wp2_with fail;refine (Zy _ _ _ _).mono ?_;rintro e w' ⟨rfl,rfl⟩;go_wp2_with fail;go_ret;exact ⟨Z5 (by unfold TB;simp [h1]),(ba _ _)⟩
theorem Rg (f c f' c':Int) (w:World):cB 326 #[.agg #[.int .i64 f,.int .i64 c],.agg #[.int .i64 f',.int .i64 c']] w (.bool (P2 (f,c) (f',c'))):=by
 by_cases h1:f'<f
 ·go_enter func326,ntmps326
  go_wp2_with fail
  all_goals
   go_ret;exact ⟨Z5 (by unfold P2;simp [h1]),((ba _ _)).alloc (by simp) _⟩
 ·go_enter func326,ntmps326
  go_wp2_with fail
  all_goals
   go_ret;exact ⟨Z5 (by unfold P2;simp;omega),((ba _ _)).alloc (by simp) _⟩
theorem zz {ps:List Z4} {k:Nat} {p:Z4} (hp:Z7 ps k=p) (h:TB p=false):Wo ps k=false:=by unfold Wo;rw [hp];simp [h]
theorem zx {ps:List Z4} {p:Z4} (hp:Z7 ps 0=p) (h:TB p=true):Wo ps 0=true:=by unfold Wo;rw [hp];simp [h]
theorem DE {ps:List Z4} {k:Nat} {p q:Z4} (hp:Z7 ps (k+1)=p) (hq:Z7 ps k=q) (h:TB p=true):Wo ps (k+1)=P2 p q:=by unfold Wo;simp [hp,hq,h]
theorem GX {w:World} {v:Value} {ps:List Z4} (h:IsPaces w v ps) :
  cB 316 #[v] w (.bool (Sv ps)):=by
 obtain ⟨a,cap,rfl,hc,hm,hr⟩:=h;have Hr:=Z9 hr;clear hr;go_enter func316,ntmps316;go_wp2_with fail
 go_loopw [7] (fun i wr=> ∃ k:Nat,k<=ps.length/\i= .int .i64 k/\(∀ j,j<k->Wo ps j=true)/\Below w.heap.size w wr) (fun i _=>ps.length-(intOf i).toNat)
 case atStart=>exact ⟨0,ZA _,rfl,fun j hj=>by omega,Z3 _ _⟩
 case round=>
  obtain ⟨k,hk,rfl,hst,hb⟩:=hrel;have Hst:=Z9 hst;have Hb:=Z9 hb;clear hst;by_cases hlt:k<ps.length
  ·rcases uh Hr with h0 | ⟨b,off,rfl,hbw,hcl⟩
   ·rw [h0] at hlt;simp at hlt
   have hbr:b<wr.heap.size:=Y0 hbw hb.size;have hne:b ≠ wr.heap.size:=VH hbr;obtain ⟨c0,c1⟩:=hcl k hlt;rw [<-hb.cell (p:=⟨b,off+k*2,none⟩) hbw] at c0;rw [<-hb.cell (p:=⟨b,off+k*2+1,none⟩) hbw] at c1;generalize hp:Z7 ps k=p at c0 c1;have Hp:=Z9 hp;clear hp;obtain ⟨f,c⟩:=p;simp only at c0 c1;have d0:(wr.alloc (.cells #[.int .i64 f,.int .i64 c] 139)).cell? ⟨wr.heap.size,0,none⟩=some (.int .i64 f):=by simp
   have d1:(wr.alloc (.cells #[.int .i64 f,.int .i64 c] 139)).cell? ⟨wr.heap.size,1,none⟩=some (.int .i64 c):=by simp
   have k0:=ZX d0;have k1:=ZX d1;clear d0 d1;cases hpb:TB (f,c)
   ·clear hcl
    go_wp2_with fail;refine wq ?_
    repeat (go_big_quiet_step (first | exact ZZ (P9 _ _ _) | exact ZZ (Rg _ _ _ _ _)))
    refine wpQuiet_nil ?_;intro _ hw';obtain ⟨⟨dq,osq⟩,hw''⟩:=hw';subst hw'';go_wp2_with fail;go_ret;exact ⟨Z5 (S5 hlt (zz (uh Hp) hpb)).symm,(uh Hb).trans (((Z3 _ _).alloc (uh Hb).size _).trans ((Z1 _ _ _).mono (by simp;have:=(uh Hb).size;omega)))⟩
   ·by_cases hz:0<k
    ·have hd:decide (0<k)=true:=V0 hz
     obtain ⟨e0,e1⟩:=hcl (k-1) (by omega);rw [<-hb.cell (p:=⟨b,off+(k-1)*2,none⟩) hbw] at e0;rw [<-hb.cell (p:=⟨b,off+(k-1)*2+1,none⟩) hbw] at e1;generalize hq:Z7 ps (k-1)=q at e0 e1;have Hq:=Z9 hq;clear hq;obtain ⟨f',c'⟩:=q;simp only at e0 e1;have m0:=ZX (w:=wr.alloc (.cells #[.int .i64 f,.int .i64 c] 139)) (a:=⟨b,off+(k-1)*2,none⟩) (v:= .int .i64 f') (by rw [World.cell?_alloc_old _ _ _ hne];exact e0);have m1:=ZX (w:=wr.alloc (.cells #[.int .i64 f,.int .i64 c] 139)) (a:=⟨b,off+(k-1)*2+1,none⟩) (v:= .int .i64 c') (by rw [World.cell?_alloc_old _ _ _ hne];exact e1);clear hcl e0 e1;cases hab:P2 (f,c) (f',c')
     all_goals
      go_wp2_with fail;refine wq ?_
      repeat (go_big_quiet_step (first | exact ZZ (P9 _ _ _) | exact ZZ (Rg _ _ _ _ _)))
      refine wpQuiet_nil ?_;intro _ hw';obtain ⟨⟨dq,osq⟩,hw''⟩:=hw';subst hw'';go_wp2_with fail
     ·go_ret
      exact ⟨Z5 (S5 hlt (by obtain ⟨m,rfl⟩:∃ m,k=m+1:=⟨k-1,by omega⟩;rw [DE (uh Hp) (uh Hq) hpb];exact hab)).symm,(uh Hb).trans (((Z3 _ _).alloc (uh Hb).size _).trans ((Z1 _ _ _).mono (by simp;have:=(uh Hb).size;omega)))⟩
     ·have hs:Wo ps k=true:=by obtain ⟨m,rfl⟩:∃ m,k=m+1:=⟨k-1,by omega⟩;rw [DE (uh Hp) (uh Hq) hpb];exact hab
      go_roundw
      case rel=>exact ⟨k+1,by omega,by go_num,Yj (uh Hst) hs,(uh Hb).trans (((Z3 _ _).alloc (uh Hb).size _).trans ((Z1 _ _ _).mono (by simp;have:=(uh Hb).size;omega)))⟩
      case measure=>exact ms
    ·obtain rfl:k=0:=by omega
     simp only [Nat.zero_mul,Nat.add_zero] at c0 c1;clear hcl hz;go_wp2_with fail;refine wq ?_
     repeat (go_big_quiet_step (first | exact ZZ (P9 _ _ _) | exact ZZ (Rg _ _ _ _ _)))
     refine wpQuiet_nil ?_;intro _ hw';obtain ⟨⟨dq,osq⟩,hw''⟩:=hw';subst hw'';go_wp2_with fail;go_roundw
     case rel=>exact ⟨1,by omega,by go_num,Yj (uh Hst) (zx (uh Hp) hpb),(uh Hb).trans (((Z3 _ _).alloc (uh Hb).size _).trans ((Z1 _ _ _).mono (by simp;have:=(uh Hb).size;omega)))⟩
     case measure=>exact ms
  ·obtain rfl:k=ps.length:=by omega
   go_wp2_with fail;go_ret;exact ⟨Z5 (GW (uh Hst)).symm,hb⟩
def ltB (a b:Z4):Bool:=decide (a.1<b.1\/(a.1=b.1/\a.2<b.2))
theorem Ax {a b:Z4} : ltB a b=true ↔ (a.1<b.1\/(a.1=b.1/\a.2<b.2)):=by unfold ltB;exact decide_eq_true_iff
theorem J4 {a b:Z4} : ltB a b=false ↔ ¬ (a.1<b.1\/(a.1=b.1/\a.2<b.2)):=by unfold ltB;exact decide_eq_false_iff_not
theorem PD (a:Z4):ltB a a=false:=by rw [J4];omega
theorem QI {a b:Z4} (h:ltB a b=true):ltB b a=false:=by rw [Ax] at h;rw [J4];omega
theorem Sm {a b c:Z4} (h:ltB b a=false) (k:ltB c b=false):ltB c a=false:=by rw [J4] at *;omega
theorem yC {a b c:Z4} (h:ltB a b=true) (k:ltB b c=true):ltB a c=true:=by rw [Ax] at *;omega
theorem yB {a b:Z4} (h:ltB b a=false) (k:ltB a b=false):a=b:=by
  rw [J4] at *;obtain ⟨a1,a2⟩:=a;obtain ⟨b1,b2⟩:=b;simp only at h k;rw [show a1=b1 by omega,show a2=b2 by omega]
def swp (ps:List Z4) (i j:Nat):List Z4:=(ps.set i (Z7 ps j)).set j (Z7 ps i)
theorem zF (ps:List Z4) (i j:Nat):(swp ps i j).length=ps.length:=by simp [swp]
theorem Mz {ps:List Z4} {i:Nat} {x:Z4} (h:i<ps.length) (k:Nat):Z7 (ps.set i x) k=if k=i then x else Z7 ps k:=by
  unfold Z7;by_cases e:k=i
  · subst e;simp [List.getD,h]
  · rw [if_neg e];simp [List.getD,Ne.symm e]
theorem RF {ps:List Z4} {i j:Nat} (hi:i<ps.length) (hj:j<ps.length) (k:Nat):Z7 (swp ps i j) k=if k=j then Z7 ps i else if k=i then Z7 ps j else Z7 ps k:=by
  unfold swp;rw [Mz (by simpa using hj),Mz hi]
theorem RG {ps:List Z4} {i j:Nat} (hi:i<ps.length) (hj:j<ps.length):(swp ps i j).Perm ps:=by
  have:=List.set_set_perm hi hj;unfold swp Z7;simpa [List.getD,hi,hj] using this
def HeapTo (ps:List Z4) (n:Nat):Prop:= ∀ k,0<k->k<n->ltB (Z7 ps k) (Z7 ps ((k-1) / 2))=false
def UpTo (ps:List Z4) (n j:Nat):Prop:=
  (∀ k,0<k->k<n->k ≠ j->ltB (Z7 ps k) (Z7 ps ((k-1) / 2))=false)/\
  (∀ k,0<k->k<n->(k-1) / 2=j->0<j->ltB (Z7 ps k) (Z7 ps ((j-1) / 2))=false)
def DnTo (ps:List Z4) (n i0 i:Nat):Prop:=
  (∀ k,0<k->k<n->(k-1) / 2 ≠ i->(k ≠ i0\/i ≠ i0)->ltB (Z7 ps k) (Z7 ps ((k-1) / 2))=false)/\
  (∀ k,0<k->k<n->(k-1) / 2=i->0<i->ltB (Z7 ps k) (Z7 ps ((i-1) / 2))=false)
theorem UpTo.done {ps:List Z4} {n j:Nat} (h:UpTo ps n j) (hd:j=0\/ltB (Z7 ps j) (Z7 ps ((j-1) / 2))=false):HeapTo ps n:=fun k h0 hn=>by
  by_cases e:k=j
  · subst e
    rcases hd with hd | hd
    · omega
    · exact hd
  · exact h.1 k h0 hn e
theorem UpTo.step {ps:List Z4} {n j:Nat} (h:UpTo ps n j) (hj0:0<j) (hj:j<n) (hn:n<=ps.length) (hl:ltB (Z7 ps j) (Z7 ps ((j-1) / 2))=true):UpTo (swp ps ((j-1) / 2) j) n ((j-1) / 2):=by
  have hi:(j-1) / 2<j:=by omega
  have at':=fun k=>RF (ps:=ps) (i:=(j-1) / 2) (j:=j) (by omega) (by omega) k;generalize hi':(j-1) / 2=i at *;have hp:ltB (Z7 ps i) (Z7 ps j)=false:=QI hl;refine ⟨fun k k0 kn kne=> ?_,fun k k0 kn kp i0=> ?_⟩
  · rw [at' k,at' ((k-1) / 2)]
    by_cases e1:k=j
    · subst e1
      rw [if_pos rfl,hi',if_neg (by omega),if_pos rfl];exact hp
    · rw [if_neg e1,if_neg kne]
      by_cases e2:(k-1) / 2=j
      · rw [if_pos e2]
        have:=h.2 k k0 kn e2 hj0
        rwa [hi'] at this
      · rw [if_neg e2]
        by_cases e3:(k-1) / 2=i
        · rw [if_pos e3]
          have:=h.1 k k0 kn e1;rw [e3] at this;exact Sm hp this
        · rw [if_neg e3]
          exact h.1 k k0 kn e1
  · rw [at' k,at' ((i-1) / 2),if_neg (by omega:(i-1) / 2 ≠ j),if_neg (by omega:(i-1) / 2 ≠ i)]
    by_cases e1:k=j
    · rw [if_pos e1]
      exact h.1 i i0 (by omega) (by omega)
    · rw [if_neg e1,if_neg (by omega)]
      have h1:=h.1 k k0 kn e1;rw [kp] at h1;exact Sm (h.1 i i0 (by omega) (by omega)) h1
theorem DnTo.still {ps:List Z4} {n i:Nat} (h:DnTo ps n i i) (hd:∀ k,0<k->k<n->(k-1) / 2=i->ltB (Z7 ps k) (Z7 ps i)=false):UpTo ps n i:=
  ⟨fun k k0 kn kne=>by
    by_cases e:(k-1) / 2=i
    · rw [e];exact hd k k0 kn e
    · exact h.1 k k0 kn e (.inl kne),h.2⟩
theorem DnTo.moved {ps:List Z4} {n i0 i:Nat} (h:DnTo ps n i0 i) (hm:i ≠ i0) (hd:∀ k,0<k->k<n->(k-1) / 2=i->ltB (Z7 ps k) (Z7 ps i)=false):HeapTo ps n:=fun k k0 kn=>by
  by_cases e:(k-1) / 2=i
  · rw [e];exact hd k k0 kn e
  · exact h.1 k k0 kn e (.inr hm)
theorem DnTo.step {ps : List Z4} {n i0 i j : Nat} (h : DnTo ps n i0 i) (hi0 : i0 ≤ i) (hj0 : 0 < j) (hji : (j - 1) / 2 = i) (hj : j < n) (hn : n ≤ ps.length) (hl : ltB (Z7 ps j) (Z7 ps i) = true)
    (hm : ∀ k, 0 < k → k < n → (k - 1) / 2 = i → ltB (Z7 ps k) (Z7 ps j) = false) : DnTo (swp ps i j) n i0 j := by
  have at' := fun k => RF (ps := ps) (i := i) (j := j) (by omega) (by omega) k;have hp : ltB (Z7 ps i) (Z7 ps j) = false := QI hl;refine ⟨fun k k0 kn kne _ => ?_, fun k k0 kn kp _ => ?_⟩
  · rw [at' k, at' ((k - 1) / 2), if_neg kne]
    by_cases e1 : k = j
    · subst e1
      rw [if_pos rfl, if_pos hji];exact hp
    · rw [if_neg e1]
      by_cases e2 : k = i
      · subst e2
        rw [if_pos rfl, if_neg (by omega)];exact h.2 j hj0 hj hji k0
      · rw [if_neg e2]
        by_cases e3 : (k - 1) / 2 = i
        · rw [if_pos e3]
          exact hm k k0 kn e3
        · rw [if_neg e3]
          exact h.1 k k0 kn e3 (by omega)
  · rw [at' k, at' ((j - 1) / 2), hji, if_neg (by omega : k ≠ j), if_neg (by omega : k ≠ i), if_neg (by omega : i ≠ j), if_pos rfl]
    have := h.1 k k0 kn (by omega) (by omega)
    rwa [kp] at this
theorem HeapTo.least {ps:List Z4} {n:Nat} (h:HeapTo ps n):∀ k,k<n->ltB (Z7 ps k) (Z7 ps 0)=false:=by
  intro k
  induction k using Nat.strongRecOn with
  | ind k ih=>
    intro hk;by_cases e:k=0
    · subst e;exact PD _
    · exact Sm (ih ((k-1) / 2) (by omega) (by omega)) (h k (by omega) hk)
theorem Qs {ps qs:List Z4} {k:Nat} (h:k<ps.length):Z7 (ps++qs) k=Z7 ps k:=by unfold Z7;simp [List.getD,List.getElem?_append_left h]
theorem U1 {ps:List Z4} {n k:Nat} (h:k<n):Z7 (ps.take n) k=Z7 ps k:=by unfold Z7;simp [List.getD,h]
theorem HeapTo.push {ps:List Z4} (e:Z4) (h:HeapTo ps ps.length):UpTo (ps++[e]) (ps.length+1) ps.length:=
  ⟨fun k k0 kn kne=>by rw [Qs (by omega),Qs (by omega)];exact h k k0 (by omega),fun k k0 kn kp h0=>by omega⟩
theorem HeapTo.swap {ps:List Z4} {n i:Nat} (h:HeapTo ps (n+1)) (hl:ps.length=n+1) (hi:i<n):DnTo (swp ps i n) n i i:=by
  have at':=fun k=>RF (ps:=ps) (i:=i) (j:=n) (by omega) (by omega) k;refine ⟨fun k k0 kn kne kd=> ?_,fun k k0 kn kp i0=> ?_⟩
  · rw [at' k,at' ((k-1) / 2),if_neg (by omega),if_neg (by omega),if_neg (by omega),if_neg kne]
    exact h k k0 (by omega)
  · rw [at' k,at' ((i-1) / 2),if_neg (by omega),if_neg (by omega),if_neg (by omega),if_neg (by omega)]
    have h1:=h k k0 (by omega);rw [kp] at h1;exact Sm (h i i0 (by omega)) h1
abbrev Ris (ps:List Z4):Prop:=ps.Pairwise fun a b=>ltB b a=false
theorem yK {ps qs:List Z4} (h:Ris ps) (k:Ris qs) (hp:ps.Perm qs):ps=qs:=
  hp.eq_of_pairwise (le:=fun a b=>ltB b a=false) (fun _ _ _ _ h1 h2=>yB h1 h2) h k
theorem AU {ps:List Z4} (h:Ris ps):HeapTo ps ps.length:=fun k k0 kn=>by
  have hk:(k-1) / 2<k:=by omega
  have:=List.pairwise_iff_getElem.1 h ((k-1) / 2) k (by omega) kn hk;unfold Z7;simpa [List.getD,kn,(by omega:(k-1) / 2<ps.length)] using this
theorem AW {ps : List Z4} {x : Z4} (h : Ris ps) (hx : ∀ y ∈ ps, ltB x y = false) : Ris (ps ++ [x]) := by
  unfold Ris; rw [List.pairwise_append]
  exact ⟨h, by simp, fun a ha b hb => by obtain rfl : b = x := by simpa using hb
                                         exact hx a ha⟩
theorem Nc {ps:List Z4} {n:Nat} (h:ps.length=n+1):ps.take n++[Z7 ps n]=ps:=by
  have e:Z7 ps n=ps[n]:=by unfold Z7;simp [List.getD,h]
  rw [e,<-List.take_succ_eq_append_getElem (by omega),List.take_of_length_le (by omega)]
theorem WR {ps:List Z4} {k:Nat} (h:k<ps.length):Z7 ps k ∈ ps:=by unfold Z7;simp [List.getD,h]
theorem So {ps:List Z4} {x:Z4} (h:x ∈ ps):∃ k,k<ps.length/\Z7 ps k=x:=by
  obtain ⟨k,hk,rfl⟩:=List.getElem_of_mem h;exact ⟨k,hk,by unfold Z7;simp [List.getD,hk]⟩
def LP (p:Z4):Bool:=inB p.1 (-1000000000000) 1000000000000 && inB p.2 0 99
def Vw (ps:List Z4) (who:Int):Int:=match ps.findIdx? (fun p=>p.2 ==who) with
  | some k=>k
  | none=> -1
def Vs (ps:List Z4) (k:Nat):Bool:=LP (Z7 ps k) && ((k ==0 || ltB (Z7 ps (k-1)) (Z7 ps k)) && decide (Vw (ps.take k) (Z7 ps k).2<0))
def Yh (ps:List Z4):Bool:=decide (ps.length<=100) && (List.range ps.length).all (Vs ps)
def XI (e:Z4):List Z4->Nat
  | []=>0
  | p::ps=>if ltB p e then XI e ps+1 else 0
def Vm (ps:List Z4) (e:Z4):List Z4:=ps.take (XI e ps)++e::ps.drop (XI e ps)
def Sy (ps:List Z4) (e:Z4):List Z4 × Bool:=if Yh ps then if Yh (Vm ps e) then (Vm ps e,true) else (ps,false) else ([],false)
def Se (ps:List Z4):Z4 × Bool:=if Yh ps && decide (0<ps.length) then (Z7 ps 0,true) else ((0,0),false)
theorem LS {ps:List Z4} {who:Int} (h:∀ j,j<ps.length->(Z7 ps j).2 ≠ who):Vw ps who= -1:=by
  unfold Vw;rw [List.findIdx?_eq_none_iff.2];intro p hp;obtain ⟨k,hk,rfl⟩:=So hp;simpa using h k hk
theorem D7 {ps:List Z4} {who:Int} {k:Nat} (hk:k<ps.length) (h:(Z7 ps k).2=who) (hn:∀ j,j<k->(Z7 ps j).2 ≠ who):Vw ps who=k:=by
  have e:∀ j (hj:j<ps.length),Z7 ps j=ps[j]:=fun j hj=>by unfold Z7;simp [List.getD,hj]
  unfold Vw;rw [List.findIdx?_eq_some_iff_getElem.2 ⟨hk,by rw [<-e k hk];simpa using h,fun j hj=>by rw [<-e j (by omega)];simpa using hn j hj⟩]
theorem Of (ps:List Z4) (who:Int):(Vw ps who= -1/\ ∀ j,j<ps.length->(Z7 ps j).2 ≠ who)\/ ∃ k:Nat,Vw ps who=k/\k<ps.length/\(Z7 ps k).2=who/\ ∀ j,j<k->(Z7 ps j).2 ≠ who:=by
  have e:∀ j (hj:j<ps.length),Z7 ps j=ps[j]:=fun j hj=>by unfold Z7;simp [List.getD,hj]
  cases hf:ps.findIdx? (fun p=>p.2 ==who) with
  | none=>
    left;refine ⟨by unfold Vw;rw [hf],fun j hj=> ?_⟩;have:=List.findIdx?_eq_none_iff.1 hf _ (WR hj);simpa using this
  | some k=>
    right;obtain ⟨hk,h1,h2⟩:=List.findIdx?_eq_some_iff_getElem.1 hf;refine ⟨k,by unfold Vw;rw [hf],hk,by rw [e k hk];simpa using h1,fun j hj=> ?_⟩;have:=h2 j hj;rw [e j (by omega)];simpa using this
theorem zV (ps:List Z4) (who:Int) : -1<=Vw ps who/\Vw ps who<ps.length:=by
  rcases Of ps who with ⟨h,_⟩ | ⟨k,h,hk,_⟩<;>omega
theorem G9 {ps:List Z4} (hl:ps.length<=100) (h:∀ j,j<ps.length->Vs ps j=true):Yh ps=true:=by
  unfold Yh;simp only [ZO,YZ,List.all_eq_true];exact ⟨hl,fun j hj=>h j (List.mem_range.1 hj)⟩
theorem MF {ps:List Z4} {j:Nat} (hj:j<ps.length) (h:Vs ps j=false):Yh ps=false:=by
  unfold Yh;rw [Bool.and_eq_false_iff];right;rw [List.all_eq_false];exact ⟨j,List.mem_range.2 hj,by simp [h]⟩
theorem EK {ps:List Z4} (hl:100<ps.length):Yh ps=false:=by
  unfold Yh;rw [Bool.and_eq_false_iff];left;exact Yb (by omega)
theorem Co {ps:List Z4} (h:Yh ps=true):ps.length<=100/\ ∀ j,j<ps.length->Vs ps j=true:=by
  unfold Yh at h;simp only [ZO,YZ,List.all_eq_true] at h;exact ⟨h.1,fun j hj=>h.2 j (List.mem_range.2 hj)⟩
theorem Na {ps : List Z4} {k : Nat} (h : Vs ps k = true) : LP (Z7 ps k) = true ∧ (0 < k → ltB (Z7 ps (k - 1)) (Z7 ps k) = true) ∧ Vw (ps.take k) (Z7 ps k).2 < 0 := by
  unfold Vs at h; simp only [ZO, Bool.or_eq_true, YZ, beq_iff_eq] at h
  exact ⟨h.1, fun h0 => by rcases h.2.1 with e | e; · omega
                           · exact e, h.2.2⟩
structure IsQ (ps:List Z4):Prop where
  len:ps.length<=100
  ent:∀ p ∈ ps,LP p=true
  ord:ps.Pairwise fun a b=>ltB a b=true
  who:ps.Pairwise fun a b=>a.2 ≠ b.2
theorem yI {ps:List Z4} (h:∀ k,0<k->k<ps.length->ltB (Z7 ps (k-1)) (Z7 ps k)=true):∀ i j,i<j->j<ps.length->ltB (Z7 ps i) (Z7 ps j)=true:=by
  intro i j
  induction j with
  | zero=>intro h;omega
  | succ j ih=>
    intro hij hj;have h1:=h (j+1) (by omega) hj;by_cases e:i=j
    · subst e;simpa using h1
    · exact yC (ih (by omega) (by omega)) (by simpa using h1)
theorem yx {ps:List Z4} (h:Yh ps=true):IsQ ps:=by
  obtain ⟨hl,hs⟩:=Co h;have e:∀ j (hj:j<ps.length),Z7 ps j=ps[j]:=fun j hj=>by unfold Z7;simp [List.getD,hj]
  refine ⟨hl,fun p hp=> ?_,?_,?_⟩
  · obtain ⟨k,hk,rfl⟩:=So hp
    exact (Na (hs k hk)).1
  · rw [List.pairwise_iff_getElem]
    intro i j hi hj hij;rw [<-e i hi,<-e j hj];exact yI (fun k k0 kn=>(Na (hs k kn)).2.1 k0) i j hij hj
  · rw [List.pairwise_iff_getElem]
    intro i j hi hj hij;rw [<-e i hi,<-e j hj];have h3:=(Na (hs j hj)).2.2
    rcases Of (ps.take j) (Z7 ps j).2 with ⟨_,h4⟩ | ⟨k,h4,_⟩
    · have:=h4 i (by simp;omega)
      rwa [U1 hij] at this
    · omega
theorem EL {ps:List Z4} (h:IsQ ps):Yh ps=true:=by
  have e:∀ j (hj:j<ps.length),Z7 ps j=ps[j]:=fun j hj=>by unfold Z7;simp [List.getD,hj]
  refine G9 h.len fun j hj=> ?_;unfold Vs;simp only [ZO,Bool.or_eq_true,YZ,beq_iff_eq];refine ⟨h.ent _ (WR hj),?_,?_⟩
  · by_cases h0:j=0
    · exact .inl h0
    · right
      rw [e j hj,e (j-1) (by omega)];exact List.pairwise_iff_getElem.1 h.ord (j-1) j (by omega) hj (by omega)
  · rw [LS (fun i hi=> ?_)]
    · omega
    · have hi':i<j:=by simp at hi;omega
      rw [U1 hi',e i (by omega),e j hj];exact List.pairwise_iff_getElem.1 h.who i j (by omega) hj hi'
theorem IsQ.ris {ps:List Z4} (h:IsQ ps):Ris ps:=h.ord.imp fun hab=>QI hab
theorem Mt (e:Z4):∀ ps:List Z4,XI e ps<=ps.length
  | []=>Z0 _
  | p::ps=>by have:=Mt e ps;unfold XI;split<;>simp<;>omega
theorem Mu (e:Z4):∀ (ps:List Z4) (k:Nat),k<XI e ps->ltB (Z7 ps k) e=true
  | [],k,h=>by simp [XI] at h
  | p::ps,k,h=>by
    unfold XI at h
    split at h
    · cases k with
      | zero=>simpa [Z7] using ‹ltB p e=true›
      | succ k=>
        have:=Mu e ps k (by omega);simpa [Z7] using this
    · omega
theorem Ms (e:Z4):∀ (ps:List Z4),XI e ps<ps.length->ltB (Z7 ps (XI e ps)) e=false
  | [],h=>by simp at h
  | p::ps,h=>by
    unfold XI at h ⊢;by_cases hp:ltB p e=true
    · rw [if_pos hp] at h ⊢
      have:=Ms e ps (by simpa using h);simpa [Z7] using this
    · rw [if_neg hp] at h ⊢
      simpa [Z7] using hp
theorem Au {e:Z4} {ps:List Z4} {k:Nat} (hk:k<=ps.length) (h:∀ j,j<k->ltB (Z7 ps j) e=true) (hn:k=ps.length\/ltB (Z7 ps k) e=false):XI e ps=k:=by
  rcases Nat.lt_trichotomy (XI e ps) k with h1 | h1 | h1
  · have h2:=Ms e ps (by omega)
    rw [h _ h1] at h2;cases h2
  · exact h1
  · rcases hn with hn | hn
    · have:=Mt e ps;omega
    · have:=Mu e ps k h1
      rw [hn] at this;cases this
theorem QM (ps:List Z4) (e:Z4):(Vm ps e).Perm (ps++[e]):=by
  unfold Vm;have h1:(ps.take (XI e ps)++e::ps.drop (XI e ps)).Perm (e::(ps.take (XI e ps)++ps.drop (XI e ps))):=List.perm_middle;rw [List.take_append_drop] at h1;exact h1.trans (List.perm_append_comm (l₁:=[e]) (l₂:=ps))
theorem G5 (ps:List Z4) (e:Z4):(Vm ps e).length=ps.length+1:=by have:=(QM ps e).length_eq;simpa using this
theorem G6 {ps:List Z4} (h:Ris ps) (e:Z4):Ris (Vm ps e):=by
  have hle:=Mt e ps
  have hdr:∀ y ∈ ps.drop (XI e ps),ltB y e=false:=fun y hy=>by
    obtain ⟨k,hk,rfl⟩:=List.getElem_of_mem hy;have hk':XI e ps+k<ps.length:=by simp at hk;omega
    rw [List.getElem_drop];have h0:=Ms e ps (by omega);have e0:Z7 ps (XI e ps)=ps[XI e ps]'(by omega):=by unfold Z7;simp [List.getD,(by omega:XI e ps<ps.length)]
    rw [e0] at h0;by_cases hz:k=0
    · subst hz;simpa using h0
    · have h1:=List.pairwise_iff_getElem.1 h (XI e ps) (XI e ps+k) (by omega) hk' (by omega)
      exact Sm h0 h1
  have hta:∀ y ∈ ps.take (XI e ps),ltB y e=true:=fun y hy=>by
    obtain ⟨k,hk,rfl⟩:=List.getElem_of_mem hy;have hk':k<XI e ps:=by simp at hk;omega
    have:=Mu e ps k hk';rw [List.getElem_take];unfold Z7 at this;simpa [List.getD,(by omega:k<ps.length)] using this
  unfold Vm Ris;rw [List.pairwise_append,List.pairwise_cons];refine ⟨h.sublist (List.take_sublist _ _),⟨fun y hy=>hdr y hy,h.sublist (List.drop_sublist _ _)⟩,fun a ha b hb=> ?_⟩
  rcases List.mem_cons.1 hb with rfl | hb
  · exact QI (hta a ha)
  · exact Sm (QI (hta a ha)) (hdr b hb)
theorem EY {ps qs:List Z4} {e:Z4} (h:IsQ ps) (hq:Ris qs) (hp:qs.Perm (ps++[e])):qs=Vm ps e:=
  yK hq (G6 h.ris e) (hp.trans (QM ps e).symm)
theorem Vi:(prog.info? 78).map (fun i=>(i.zero,i.size,i.bytes))=some (some (.agg #[.int .i64 0,.int .i64 0]),2,16):=by kernel_rfl
theorem Sw (ps:List Z4):(YQ ps).length=ps.length*2:=by unfold YQ;exact Kc ps
theorem Qt (ps qs:List Z4):YQ (ps++qs)=YQ ps++YQ qs:=by unfold YQ;rw [List.flatMap_append]
theorem Ov:∀ (ps:List Z4) (n:Nat),YQ (ps.take n)=(YQ ps).take (n*2)
 | [],n=>by simp [YQ]
 | p::ps,0=>by simp [YQ]
 | p::ps,n+1=>by
  have ih:=Ov ps n;unfold YQ at ih ⊢;rw [show (n+1)*2=n*2+2 by omega];simpa using ih
def EntsAt (n₀:Nat) (w:World) (v:Value) (ps:List Z4):Prop:=w.ownsRow n₀ 78 2 v ps.length (YQ ps)
theorem EntsAt.lt {n₀:Nat} {w:World} {v:Value} {ps:List Z4} (h:EntsAt n₀ w v ps) {k:Nat} (hk:v.ownBlock=some k):n₀<=k/\k<w.heap.size:=World.ownsRow.lt h k hk
theorem EntsAt.mono {n₀ n₁:Nat} {w:World} {v:Value} {ps:List Z4} (h:EntsAt n₀ w v ps) (hn:n₁<=n₀):EntsAt n₁ w v ps:=SZ h hn
theorem EntsAt.same {n₀:Nat} {w w':World} {v:Value} {ps:List Z4} (h:EntsAt n₀ w v ps) (hs:∀ k,v.ownBlock=some k->w'.heap[k]?=w.heap[k]?):EntsAt n₀ w' v ps:=Xj h hs
theorem EntsAt.later {n₀:Nat} {w w':World} {v:Value} {ps:List Z4} (h:EntsAt n₀ w v ps) (hb:Below w.heap.size w w'):EntsAt n₀ w' v ps:=h.same fun k hk=>hb.block k (h.lt hk).2
theorem EntsAt.pc {n₀:Nat} {w:World} {v:Value} {ps:List Z4} (h:EntsAt n₀ w v ps):IsPaces w v ps:=by
 have h':=h
 rcases h.2 with ⟨rfl,hz⟩ | ⟨g,cap,cur,rfl,hb,hg,hnc,hcm,r⟩
 ·exact ⟨none,0,by rw [hz],by omega,by omega,.inl (List.eq_nil_of_length_eq_zero hz)⟩
 ·refine ⟨_,cap,rfl,hnc,by unfold maxLen at hcm;omega,.inr ⟨g,0,rfl,(Array.getElem?_eq_some_iff.1 hg).1,fun k hk=> ?_⟩⟩
  have hp:=Uo (f:=fun p:Z4=>Value.int .i64 p.1) (g:=fun p:Z4=>Value.int .i64 p.2) ps k hk;have hat:Z7 ps k=ps[k]:=by unfold Z7;simp [List.getD,hk]
  rw [Nat.zero_add,hat];exact ⟨(World.ownsRow.cellAt h' (k*2) (by omega)).trans hp.1,(World.ownsRow.cellAt h' (k*2+1) (by omega)).trans hp.2⟩
theorem EntsAt.shape {n₀:Nat} {w:World} {v:Value} {ps:List Z4} (h:EntsAt n₀ w v ps):∃ a cap,v= .slice a ps.length cap:=by
 rcases h.2 with ⟨rfl,hz⟩ | ⟨g,cap,cur,rfl,_⟩
 ·exact ⟨none,0,by rw [hz]⟩
 ·exact ⟨_,cap,rfl⟩
theorem EntsAt.cut {n₀:Nat} {w:World} {a:Option Addr} {len cap:Nat} {ps:List Z4} (h:EntsAt n₀ w (.slice a len cap) ps) {n:Nat} (hn:n<=ps.length) (ha:a ≠ none):EntsAt n₀ w (.slice a n cap) (ps.take n):=by
 have hl:(ps.take n).length=n:=by simp;omega
 unfold EntsAt;rw [hl,Ov]
 rcases h.2 with ⟨hv,hz⟩ | ⟨g,cap',cur,hv,hb,hg,hnc,hcm,hs,ht⟩
 ·cases hv;exact absurd rfl ha
 ·cases hv
  refine ⟨by rw [List.length_take,Sw];omega,.inr ⟨g,cap,cur,rfl,hb,hg,by omega,hcm,hs,?_⟩⟩;rw [<-ht,List.take_take];congr 1;omega
theorem IsPaces.cut {w:World} {a:Option Addr} {len cap:Nat} {ps:List Z4} (h:IsPaces w (.slice a len cap) ps) {n:Nat} (hn:n<=ps.length):IsPaces w (.slice a n cap) (ps.take n):=by
 obtain ⟨a',cap',he,hc,hm,hr⟩:=h;cases he;have hl:(ps.take n).length=n:=by simp;omega
 refine ⟨a,cap,by rw [hl],by omega,hm,?_⟩
 rcases hr with hr | ⟨b,off,rfl,hlt,hcl⟩
 ·exact .inl (by rw [hr];simp)
 ·refine .inr ⟨b,off,rfl,hlt,fun k hk=> ?_⟩
  rw [U1 (by omega)];exact hcl k (by omega)
theorem Dn {a b c d:Int} (h:a ≠ c):ltB (a,b) (c,d)=decide (a<c):=by unfold ltB;simp;omega
theorem Dp {a b d:Int} : ltB (a,b) (a,d)=decide (b<d):=by unfold ltB;simp
theorem SF (a b c d:Int) (w:World):cB 211 #[.agg #[.int .i64 a,.int .i64 b],.agg #[.int .i64 c,.int .i64 d]] w (.bool (ltB (a,b) (c,d))):=by
 by_cases h:a=c
 ·subst h
  rw [Dp];go_enter func211,ntmps211;go_wp2_with fail;go_ret;exact ⟨rfl,((ba _ _)).alloc (by simp) _⟩
 ·rw [Dn h]
  have h':(a ==c)=false:=by simpa using h
  have h2:(a !=c)=true:=by simpa using h
  clear h;go_enter func211,ntmps211;go_wp2_with fail;go_ret;exact ⟨rfl,((ba _ _)).alloc (by simp) _⟩
theorem Wa (a b c d:Int) (w:World):cB 262 #[.agg #[.int .i64 a,.int .i64 b],.agg #[.int .i64 c,.int .i64 d]] w (.bool (ltB (a,b) (c,d))):=by
 by_cases h:a=c
 ·subst h
  rw [Dp];go_enter func262,ntmps262;go_wp2_with fail;go_ret;exact ⟨rfl,((ba _ _)).alloc (by simp) _⟩
 ·rw [Dn h]
  have h':(a ==c)=false:=by simpa using h
  have h2:(a !=c)=true:=by simpa using h
  clear h;go_enter func262,ntmps262;go_wp2_with fail;go_ret;exact ⟨rfl,((ba _ _)).alloc (by simp) _⟩
theorem JW (n:Int) (w:World):cE 301 #[.int .i64 n] w (.bool (inB n (-1000000000000) 1000000000000)):=by
 go_enter func301,ntmps301;go_wp2_with (go_at_call 219;refine (Zy _ _ _ _).mono ?_;rintro e w' ⟨rfl,rfl⟩)
 go_ret;exact ⟨rfl,rfl⟩
theorem UX (f c:Int) (w:World):cB 261 #[.agg #[.int .i64 f,.int .i64 c]] w (.bool (LP (f,c))):=by
 cases h1:inB f (-1000000000000) 1000000000000
 ·go_enter func261,ntmps261
  go_wp2_with fail;refine (JW _ _).mono ?_;rintro e w' ⟨rfl,rfl⟩;go_wp2_with fail;go_ret;exact ⟨Z5 (by unfold LP;simp [h1]),(ba _ _)⟩
 ·go_enter func261,ntmps261
  go_wp2_with fail;refine (JW _ _).mono ?_;rintro e w' ⟨rfl,rfl⟩;go_wp2_with fail;refine (Zy _ _ _ _).mono ?_;rintro e w' ⟨rfl,rfl⟩;go_wp2_with fail;go_ret;exact ⟨Z5 (by unfold LP;simp [h1]),(ba _ _)⟩
theorem JY (f c who:Int) (B:Nat) (w:World) (hc:w.cell? ⟨B,0,none⟩=some (.int .i64 who)) (hB:B<w.heap.size) :
  cB 303 #[.agg #[.int .i64 f,.int .i64 c],.pointer (some ⟨B,0,none⟩)] w (.bool (c ==who)):=by
 have hne:B ≠ w.heap.size:=VH hB;go_enter func303,ntmps303;go_wp2_with fail;go_ret;exact ⟨rfl,(ba _ _)⟩
theorem Gn {w:World} {v:Value} {ps:List Z4} (who:Int) (B:Nat) (h:IsPaces w v ps) (hc:w.cell? ⟨B,0,none⟩=some (.int .i64 who)) (hB:B<w.heap.size) :
  cB 302 #[v,.func (Fn.func 303) #[] #[.pointer (some ⟨B,0,none⟩)]] w (.int .i64 (Vw ps who)):=by
 obtain ⟨a,cap,rfl,hcc,hm,hr⟩:=h;have Hr:=Z9 hr;have Hc:=Z9 hc;clear hr hc;go_enter func302,ntmps302;go_wp2_with fail
 go_loopw [5,8] (fun _ i wr=> ∃ k:Nat,k<=ps.length/\i= .int .i64 k/\Hid (∀ j,j<k->(Z7 ps j).2 ≠ who)/\Below w.heap.size w wr) (fun _ i _=>ps.length-(intOf i).toNat)
 case atStart=>exact ⟨0,ZA _,rfl,Z9 (fun j hj=>by omega),Z3 _ _⟩
 case round=>
  obtain ⟨k,hk,rfl,hno,hb⟩:=hrel;have Hb:=Z9 hb;by_cases hlt:k<ps.length
  ·rcases uh Hr with h0 | ⟨b,off,rfl,hbw,hcl⟩
   ·rw [h0] at hlt;simp at hlt
   obtain ⟨c0,c1⟩:=hcl k hlt;rw [<-hb.cell (p:=⟨b,off+k*2,none⟩) hbw] at c0;rw [<-hb.cell (p:=⟨b,off+k*2+1,none⟩) hbw] at c1;generalize hz:Z7 ps k=p at *;obtain ⟨f,z⟩:=p;simp only at c0 c1;have hcb:=(hb.cell (p:=⟨B,0,none⟩) hB).trans (uh Hc);have hBr:B<wr.heap.size:=Y0 hB hb.size;have Hz:=Z9 hz;have Hcb:=Z9 hcb;clear hz hcl hb hcb;by_cases hx:z=who
   ·subst hx
    go_wp2_with fail;refine ck (JY _ _ _ _ _ (uh Hcb) hBr) fun w1 hb1=> ?_;have Hb1:=Z9 hb1;clear hb1;go_wp2_with fail;go_ret;exact ⟨ZB (D7 hlt (by rw [uh Hz]) (uh hno)).symm,(uh Hb).trans ((uh Hb1).mono (uh Hb).size)⟩
   ·have hx':(z ==who)=false:=by simpa using hx
    have Hx:=Z9 hx;clear hx;go_wp2_with fail;refine (JY _ _ _ _ _ (uh Hcb) hBr).mono ?_;rw [hx'];rintro e w1 ⟨rfl,hb1⟩;have Hb1:=Z9 hb1;clear hb1;go_wp2_with fail;go_roundw
    case rel=>exact ⟨k+1,by omega,by go_num,Z9 (Yj (uh hno) (by rw [uh Hz];exact uh Hx)),(uh Hb).trans ((uh Hb1).mono (uh Hb).size)⟩
    case measure=>exact ms
  ·obtain rfl:k=ps.length:=by omega
   go_wp2_with fail;go_ret;exact ⟨ZB (LS (uh hno)).symm,hb⟩
theorem GZ {w:World} {v:Value} {ps:List Z4} (who:Int) (h:IsPaces w v ps) :
  cB 263 #[v,.int .i64 who] w (.int .i64 (Vw ps who)):=by
 have Hv:=Z9 h;obtain ⟨a,cap,rfl,hcc,hm,hr⟩:=h;clear hr;go_enter func263,ntmps263;go_wp2_with fail;refine ck (Gn who w.heap.size ((uh Hv).below ((ba _ _))) (by simp) (by simp)) fun w1 hb=> ?_;have Hb:=Z9 hb;clear hb;go_wp2_with fail;go_ret;exact ⟨rfl,((ba _ _)).trans ((uh Hb).mono (by simp))⟩
structure Fr (bx:Nat) (r:Option Nat) (w w':World):Prop where
 os:w'.os=w.os
 tape:w'.tape=w.tape
 output:w'.output=w.output
 size:w.heap.size<=w'.heap.size
 block:∀ k,k<w.heap.size->k ≠ bx->r ≠ some k->w'.heap[k]?=w.heap[k]?
theorem Fr.refl (bx:Nat) (r:Option Nat) (w:World):Fr bx r w w:=⟨rfl,rfl,rfl,Z0 _,fun _ _ _ _=>rfl⟩
theorem Fr.trans {bx:Nat} {r:Option Nat} {a b c:World} (h:Fr bx r a b) (k:Fr bx r b c):Fr bx r a c:=
 ⟨k.os.trans h.os,k.tape.trans h.tape,k.output.trans h.output,Xv h.size k.size,fun i hi hn hr=>(k.block i (Y0 hi h.size) hn hr).trans (h.block i hi hn hr)⟩
theorem Fr.of_below {bx:Nat} {r:Option Nat} {w w':World} (h:Below w.heap.size w w'):Fr bx r w w':=⟨h.os,h.tape,h.output,h.size,fun k hk _ _=>h.block k hk⟩
theorem Fr.of_grown {bx:Nat} {r:Option Nat} {w w':World} (h:w.grownBy w' r):Fr bx r w w':=⟨h.os,h.tape,h.output,h.size,fun k hk _ hr=>h.block k hk (fun e=>hr e.symm)⟩
theorem Fr.box {bx:Nat} {r:Option Nat} (w:World) (v:Value):Fr bx r w (w.setCell ⟨bx,0,none⟩ v):=⟨rfl,rfl,rfl,by simp,fun k hk hn _=>Below.heap_setCell w ⟨bx,0,none⟩ v k hn⟩
theorem Fr.below {bx B:Nat} {r:Option Nat} {w w':World} (h:Fr bx r w w') (hx:B<=bx) (hr:∀ k,r=some k->B<=k) (hs:B<=w.heap.size):Below B w w':=
 ⟨h.os,h.tape,h.output,h.size,fun k hk=>h.block k (by omega) (by omega) (fun e=>by have:=hr k e;omega)⟩
theorem EntsAt.fr {n₀ bx:Nat} {r:Option Nat} {w w':World} {v:Value} {ps:List Z4} (h:EntsAt n₀ w v ps) (hf:Fr bx r w w') (h1:v.ownBlock ≠ some bx) (h2:∀ k,v.ownBlock=some k->r ≠ some k):EntsAt n₀ w' v ps:=
 h.same fun k hk=>hf.block k (h.lt hk).2 (fun e=>h1 (by rw [hk,e])) (h2 k hk)
structure HeapIs (n₀ bx:Nat) (v:Value) (w:World) (ps:List Z4):Prop where
 cell:w.cell? ⟨bx,0,none⟩=some v
 free:w.frozen? ⟨bx,0,none⟩=false
 lt:bx<w.heap.size
 row:EntsAt n₀ w v ps
 off:v.ownBlock ≠ some bx
theorem HeapIs.later {n₀ bx:Nat} {v:Value} {w w':World} {ps:List Z4} (h:HeapIs n₀ bx v w ps) (hb:Below w.heap.size w w'):HeapIs n₀ bx v w' ps:=
 ⟨(hb.cell (p:=⟨bx,0,none⟩) h.lt).trans h.cell,(hb.frozen (p:=⟨bx,0,none⟩) h.lt).trans h.free,Y0 h.lt hb.size,h.row.later hb,h.off⟩
theorem HeapIs.view {n₀ bx:Nat} {v:Value} {w:World} {ps:List Z4} (h:HeapIs n₀ bx v w ps) (hl:0<ps.length):∃ g cap,v= .slice (some ⟨g,0,none⟩) ps.length cap/\g ≠ bx/\g<w.heap.size/\n₀<=g/\ps.length<=cap/\cap<=9223372036854775807/\
  (∀ k,k<ps.length->w.cell? ⟨g,k*2,none⟩=some (.int .i64 (Z7 ps k).1)/\w.cell? ⟨g,k*2+1,none⟩=some (.int .i64 (Z7 ps k).2))/\(∀ k,w.frozen? ⟨g,k,none⟩=false):=by
 have hr:=h.row
 rcases h.row.2 with ⟨hv,hz⟩ | ⟨g,cap,cur,rfl,hb,hg,hnc,hcm,r⟩
 ·omega
 ·obtain ⟨a,cap',he,_,_,hrr⟩:=hr.pc
  cases he;refine ⟨g,cap,rfl,fun e=>h.off (by rw [e];rfl),(Array.getElem?_eq_some_iff.1 hg).1,hb,hnc,by unfold maxLen at hcm;omega,?_,fun k=>World.ownsRow.frozenAt hr k⟩
  rcases hrr with h0 | ⟨b,off,he,_,hcl⟩
  ·rw [h0] at hl;simp at hl
  ·cases he
   intro k hk;have:=hcl k hk;simpa using this
theorem PA {n₀ bx:Nat} {v:Value} {w:World} {ps:List Z4} (h:HeapIs n₀ bx v w ps):cE 299 #[.pointer (some ⟨bx,0,none⟩)] w (.int .i64 ps.length):=by
 have hc:=h.cell;obtain ⟨a,cap,rfl⟩:=h.row.shape;go_enter func299,ntmps299;go_wp2_with fail;go_ret;exact ⟨rfl,rfl⟩
theorem Rn {n₀ bx:Nat} {v:Value} {w:World} {ps:List Z4} (h:HeapIs n₀ bx v w ps) {i j:Nat} (hi:i<ps.length) (hj:j<ps.length) :
  cB 367 #[.pointer (some ⟨bx,0,none⟩),.int .i64 i,.int .i64 j] w (.bool (ltB (Z7 ps i) (Z7 ps j))):=by
 obtain ⟨g,cap,rfl,hne,hlt,_,hnc,hcm,hcl,_⟩:=h.view (by omega);have hc:=h.cell;obtain ⟨a0,a1⟩:=hcl i hi;obtain ⟨b0,b1⟩:=hcl j hj;generalize Z7 ps i=p at *;generalize Z7 ps j=q at *;obtain ⟨f,z⟩:=p;obtain ⟨f',z'⟩:=q;simp only at a0 a1 b0 b1;have hi0:(0:Int)<=(i:Int):=by omega
 have hj0:(0:Int)<=(j:Int):=by omega
 have hi1:(i:Int)<(ps.length:Int):=by omega
 have hj1:(j:Int)<(ps.length:Int):=by omega
 have k0:=ZX a0;have k1:=ZX a1;have k2:=ZX b0;have k3:=ZX b1;have k4:=ZX hc;clear hcl h hc a0 a1 b0 b1;go_enter func367,ntmps367;go_wp2_with fail;refine wq ?_
 repeat (go_big_quiet_step (exact ZZ (Wa _ _ _ _ _)))
 refine wpQuiet_nil ?_;intro _ hw';obtain ⟨⟨dq,osq⟩,hw''⟩:=hw';subst hw'';go_wp2_with fail;go_ret;exact ⟨rfl,Z1 _ _ _⟩
abbrev Z2:=Int × Int × Int × Int × Int × Int × Int × Int × Int × Int × Int
def ZR (p:Z2):List Value:=[.int .i64 p.1,.int .i64 p.2.1,.int .i64 p.2.2.1,.int .i64 p.2.2.2.1,.int .i64 p.2.2.2.2.1,.int .i64 p.2.2.2.2.2.1,.int .i64 p.2.2.2.2.2.2.1,.int .i64 p.2.2.2.2.2.2.2.1,.int .i64 p.2.2.2.2.2.2.2.2.1,.int .i64 p.2.2.2.2.2.2.2.2.2.1,.int .i64 p.2.2.2.2.2.2.2.2.2.2]
theorem ZT (p:Z2):(ZR p).length=11:=rfl
abbrev Xc (w:World) (v:Value) (ps:List Z2):Prop:=IsRec 11 ZR w v ps
abbrev SmithsAt (n₀:Nat) (w:World) (v:Value) (ps:List Z2):Prop:=RecAt 38 11 ZR n₀ w v ps
theorem SmithsAt.list {n₀:Nat} {w:World} {v:Value} {ps:List Z2} (h:SmithsAt n₀ w v ps):Xc w v ps:=RecAt.recs ZT (by omega) h
theorem Zu {w:World} {b off:Nat} {ps:List Z2} (h:∀ j,j<ps.length-> ∀ i u,(ZR (Z8 ps j))[i]?=some u->w.cell? ⟨b,off+j*11+i,none⟩=some u) {j:Nat} (hj:j<ps.length) :
  w.cell? ⟨b,off+j*11,none⟩=some (.int .i64 (Z8 ps j).1)/\w.cell? ⟨b,off+j*11+1,none⟩=some (.int .i64 (Z8 ps j).2.1)/\w.cell? ⟨b,off+j*11+2,none⟩=some (.int .i64 (Z8 ps j).2.2.1)/\w.cell? ⟨b,off+j*11+3,none⟩=some (.int .i64 (Z8 ps j).2.2.2.1)/\w.cell? ⟨b,off+j*11+4,none⟩=some (.int .i64 (Z8 ps j).2.2.2.2.1)/\w.cell? ⟨b,off+j*11+5,none⟩=some (.int .i64 (Z8 ps j).2.2.2.2.2.1)/\w.cell? ⟨b,off+j*11+6,none⟩=some (.int .i64 (Z8 ps j).2.2.2.2.2.2.1)/\w.cell? ⟨b,off+j*11+7,none⟩=some (.int .i64 (Z8 ps j).2.2.2.2.2.2.2.1)/\w.cell? ⟨b,off+j*11+8,none⟩=some (.int .i64 (Z8 ps j).2.2.2.2.2.2.2.2.1)/\w.cell? ⟨b,off+j*11+9,none⟩=some (.int .i64 (Z8 ps j).2.2.2.2.2.2.2.2.2.1)/\w.cell? ⟨b,off+j*11+10,none⟩=some (.int .i64 (Z8 ps j).2.2.2.2.2.2.2.2.2.2):=
 ⟨h j hj 0 _ rfl,h j hj 1 _ rfl,h j hj 2 _ rfl,h j hj 3 _ rfl,h j hj 4 _ rfl,h j hj 5 _ rfl,h j hj 6 _ rfl,h j hj 7 _ rfl,h j hj 8 _ rfl,h j hj 9 _ rfl,h j hj 10 _ rfl⟩
theorem AY {w:World} {g o:Nat} {x:Z2} (h:∀ i u,(ZR x)[i]?=some u->w.cell? ⟨g,o+i,none⟩=some u):w.cell? ⟨g,o+0,none⟩=some (.int .i64 x.1)/\w.cell? ⟨g,o+1,none⟩=some (.int .i64 x.2.1)/\w.cell? ⟨g,o+2,none⟩=some (.int .i64 x.2.2.1)/\w.cell? ⟨g,o+3,none⟩=some (.int .i64 x.2.2.2.1)/\w.cell? ⟨g,o+4,none⟩=some (.int .i64 x.2.2.2.2.1)/\w.cell? ⟨g,o+5,none⟩=some (.int .i64 x.2.2.2.2.2.1)/\w.cell? ⟨g,o+6,none⟩=some (.int .i64 x.2.2.2.2.2.2.1)/\w.cell? ⟨g,o+7,none⟩=some (.int .i64 x.2.2.2.2.2.2.2.1)/\w.cell? ⟨g,o+8,none⟩=some (.int .i64 x.2.2.2.2.2.2.2.2.1)/\w.cell? ⟨g,o+9,none⟩=some (.int .i64 x.2.2.2.2.2.2.2.2.2.1)/\w.cell? ⟨g,o+10,none⟩=some (.int .i64 x.2.2.2.2.2.2.2.2.2.2):=⟨h 0 _ rfl,h 1 _ rfl,h 2 _ rfl,h 3 _ rfl,h 4 _ rfl,h 5 _ rfl,h 6 _ rfl,h 7 _ rfl,h 8 _ rfl,h 9 _ rfl,h 10 _ rfl⟩
theorem Af {w:World} {g:Nat} (h:∀ o,w.frozen? ⟨g,o,none⟩=false) (o:Nat):w.frozen? ⟨g,o+0,none⟩=false/\w.frozen? ⟨g,o+1,none⟩=false/\w.frozen? ⟨g,o+2,none⟩=false/\w.frozen? ⟨g,o+3,none⟩=false/\w.frozen? ⟨g,o+4,none⟩=false/\w.frozen? ⟨g,o+5,none⟩=false/\w.frozen? ⟨g,o+6,none⟩=false/\w.frozen? ⟨g,o+7,none⟩=false/\w.frozen? ⟨g,o+8,none⟩=false/\w.frozen? ⟨g,o+9,none⟩=false/\w.frozen? ⟨g,o+10,none⟩=false:=⟨h _,h _,h _,h _,h _,h _,h _,h _,h _,h _,h _⟩
theorem yh {w:World} {g:Nat} (h:∀ o,w.frozen? ⟨g,o,none⟩=false) (o:Nat):w.frozen? ⟨g,o,none⟩=false/\w.frozen? ⟨g,o+1,none⟩=false/\w.frozen? ⟨g,o+2,none⟩=false/\w.frozen? ⟨g,o+3,none⟩=false/\w.frozen? ⟨g,o+4,none⟩=false/\w.frozen? ⟨g,o+5,none⟩=false/\w.frozen? ⟨g,o+6,none⟩=false/\w.frozen? ⟨g,o+7,none⟩=false/\w.frozen? ⟨g,o+8,none⟩=false/\w.frozen? ⟨g,o+9,none⟩=false/\w.frozen? ⟨g,o+10,none⟩=false:=Af h o
end Go.Proofs.YtgdpaigcmoifbaaGreat
