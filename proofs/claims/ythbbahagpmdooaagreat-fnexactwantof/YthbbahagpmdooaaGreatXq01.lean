/- Part 1 of what the proof rests on. No condition but those that a theorem names. -/
import Derived.Test.YthbbahagpmdooaaGreatRows
import Derived.WalkKit
import Derived.ProofKit
import Derived.OpenShut
import Derived.Outline
import Derived.Deep.QuietTactic
import Derived.BigQuiet
import Derived.Laws.OwnMore
import Derived.OwnWalk
import Derived.Lib.QuietBelow
import Derived.Maps.AppendAt
set_option maxHeartbeats 8000000
set_option maxRecDepth 100000
namespace Go.Proofs.YthbbahagpmdooaaGreat
open Go.ChangeShapes Go.WideShapes Go.ChangeAt Go.RowKit
set_option linter.unusedVariables false
variable {w w' w0 w1 w2 w3 w₀ wr W W' X A B C : World} {v v0 v1 v2 v3 v4 u u0 u1 u2 u3 u4 : Value}
theorem Zx {k:IntKind} {a b:Int} (h:a=b):Ending.returned (.int k a)= .returned (.int k b):=by rw [h]
theorem Z6 {a b:Bool} (h:a=b):Ending.returned (.bool a)= .returned (.bool b):=by rw [h]
def inB (x lo hi:Int):Bool:=decide (lo<=x/\x<=hi)
theorem Zs {x lo hi:Int} (h1:lo<=x) (h2:x<=hi):inB x lo hi=true:=by unfold inB;exact decide_eq_true ⟨h1,h2⟩
theorem VS {x lo hi:Int} (h:x<lo\/hi<x):inB x lo hi=false:=by unfold inB;exact decide_eq_false (by omega)
theorem ZU {x lo hi:Int} (h:inB x lo hi=true):lo<=x/\x<=hi:=by unfold inB at h;exact of_decide_eq_true h
theorem Z9 {p:Prop} (h:p):Hid p:=h
theorem uh {p:Prop} (h:Hid p):p:=h
theorem N6 (a b:Int) (w:World):Calls Tryz.prog 124 #[.int .i64 a,.int .i64 b] w fun e w'=>e= .returned (.int .i64 (min a b))/\w'=w:=by
 by_cases h:a<b
 all_goals
  go_enter Tryz.func124,Tryz.ntmps124
  go_wp2
  go_ret
  exact ⟨Zx (by omega),rfl⟩
theorem VE (a b:Int) (w:World):Calls Tryz.prog 69 #[.int .i64 a,.int .i64 b] w fun e w'=>e= .returned (.int .i64 (max a b))/\w'=w:=by
 by_cases h:b<a
 all_goals
  go_enter Tryz.func69,Tryz.ntmps69
  go_wp2
  go_ret
  exact ⟨Zx (by omega),rfl⟩
theorem Ua (x l h:Int) (w:World):Calls Tryz.prog 79 #[.int .i64 x,.int .i64 l,.int .i64 h] w fun e w'=>e= .returned (.int .i64 (min (max x l) h))/\w'=w:=by
 go_enter Tryz.func79,Tryz.ntmps79
 go_wp2_with (first | (go_at_call 124;refine (N6 _ _ _).mono ?_;rintro e w' ⟨rfl,rfl⟩) | (go_at_call 69;refine (VE _ _ _).mono ?_;rintro e w' ⟨rfl,rfl⟩))
 go_ret
 exact ⟨rfl,rfl⟩
theorem TZ (x l h:Int) (w:World):Calls Tryz.prog 76 #[.int .i64 x,.int .i64 l,.int .i64 h] w fun e w'=>e= .returned (.int .i64 (min (max x l) h))/\w'=w:=by
 by_cases c1:x<l
 ·by_cases c2:h<l
  all_goals
   go_enter Tryz.func76,Tryz.ntmps76
   go_wp2
   all_goals (go_ret;exact ⟨Zx (by omega),rfl⟩)
 ·by_cases c2:h<x
  all_goals
   go_enter Tryz.func76,Tryz.ntmps76
   go_wp2
   all_goals (go_ret;exact ⟨Zx (by omega),rfl⟩)
theorem Z1 (x lo hi:Int) (w:World):Calls Tryz.prog 77 #[.int .i64 x,.int .i64 lo,.int .i64 hi] w fun e w'=>e= .returned (.bool (inB x lo hi))/\w'=w:=by
 by_cases h1:lo<=x
 ·by_cases h2:x<=hi
  all_goals
   go_enter Tryz.func77,Tryz.ntmps77
   go_wp2
   go_ret
   exact ⟨Z6 (by first | exact (Zs h1 h2).symm | exact (VS (by omega)).symm),rfl⟩
 ·go_enter Tryz.func77,Tryz.ntmps77
  go_wp2
  go_ret
  exact ⟨Z6 (VS (by omega)).symm,rfl⟩
theorem UG (x:Int) (w:World):Calls Tryz.prog 242 #[.int .i64 x] w fun e w'=>e= .returned (.bool (inB x 0 1000000000))/\w'=w:=by
 go_enter Tryz.func242,Tryz.ntmps242
 go_wp2_with (go_at_call 77;refine (Z1 _ _ _ _).mono ?_;rintro e w' ⟨rfl,rfl⟩)
 go_ret
 exact ⟨rfl,rfl⟩
theorem Zl (x:Int) (w:World):Calls Tryz.prog 238 #[.int .i64 x] w fun e w'=>e= .returned (.bool (inB x 0 1024))/\w'=w:=by
 by_cases h1:0<=x
 ·by_cases h2:x<=1024
  all_goals
   go_enter Tryz.func238,Tryz.ntmps238
   go_wp2
   go_ret
   exact ⟨Z6 (by first | exact (Zs h1 h2).symm | exact (VS (by omega)).symm),rfl⟩
 ·go_enter Tryz.func238,Tryz.ntmps238
  go_wp2
  go_ret
  exact ⟨Z6 (VS (by omega)).symm,rfl⟩
theorem sA {α:Type} (l:List α) (i:Nat) (a:α):l.toArray.setIfInBounds i a=(l.set i a).toArray:=by simp
theorem sZ {α:Type} (x:α) (l:List α) (a:α):(x::l).set 0 a=a::l:=rfl
theorem sS {α:Type} (x:α) (l:List α) (n:Nat) (a:α):(x::l).set (n+1) a=x::l.set n a:=rfl
abbrev Z5:=Int × Int
abbrev Z0:=Int × List Z5
def Z7 (ps:List Z5) (k:Nat):Z5:=ps.getD k (0,0)
def ZS (rs:List Z0) (k:Nat):Z0:=rs.getD k (0,[])
def IsPaces (w:World) (v:Value) (ps:List Z5):Prop:=
 ∃ (a:Option Addr) (cap:Nat),v= .slice a ps.length cap/\ps.length<=cap/\cap<=9223372036854775807/\(ps=[]\/ ∃ b off,a=some ⟨b,off,none⟩/\b<w.heap.size/\
  ∀ k,k<ps.length->w.cell? ⟨b,off+k*2,none⟩=some (.int .i64 (Z7 ps k).1)/\w.cell? ⟨b,off+k*2+1,none⟩=some (.int .i64 (Z7 ps k).2))
def IsRooms (w:World) (v:Value) (rs:List Z0):Prop:=
 ∃ (a:Option Addr) (cap:Nat),v= .slice a rs.length cap/\rs.length<=cap/\cap<=9223372036854775807/\(rs=[]\/ ∃ b off,a=some ⟨b,off,none⟩/\b<w.heap.size/\
  ∀ k,k<rs.length->w.cell? ⟨b,off+k*2,none⟩=some (.int .i64 (ZS rs k).1)/\ ∃ pv,w.cell? ⟨b,off+k*2+1,none⟩=some pv/\IsPaces w pv (ZS rs k).2)
theorem IsPaces.below  {ps:List Z5} (h:IsPaces w v ps) (hb:Below w.heap.size w w'):IsPaces w' v ps:=by
 obtain ⟨a,cap,rfl,hc,hm,hr⟩:=h
 refine ⟨a,cap,rfl,hc,hm,?_⟩
 rcases hr with hr | ⟨b,off,rfl,hlt,hcl⟩
 ·exact .inl hr
 ·refine .inr ⟨b,off,rfl,Nat.lt_of_lt_of_le hlt hb.size,fun k hk=> ?_⟩
  obtain ⟨h1,h2⟩:=hcl k hk
  exact ⟨by rw [hb.cell (p:=⟨b,off+k*2,none⟩) hlt];exact h1,by rw [hb.cell (p:=⟨b,off+k*2+1,none⟩) hlt];exact h2⟩
theorem IsRooms.below  {rs:List Z0} (h:IsRooms w v rs) (hb:Below w.heap.size w w'):IsRooms w' v rs:=by
 obtain ⟨a,cap,rfl,hc,hm,hr⟩:=h
 refine ⟨a,cap,rfl,hc,hm,?_⟩
 rcases hr with hr | ⟨b,off,rfl,hlt,hcl⟩
 ·exact .inl hr
 ·refine .inr ⟨b,off,rfl,Nat.lt_of_lt_of_le hlt hb.size,fun k hk=> ?_⟩
  obtain ⟨h1,pv,h2,h3⟩:=hcl k hk
  exact ⟨by rw [hb.cell (p:=⟨b,off+k*2,none⟩) hlt];exact h1,pv,by rw [hb.cell (p:=⟨b,off+k*2+1,none⟩) hlt];exact h2,h3.below hb⟩
def Ve (p:Z5):Bool:=inB p.1 1 1024 && inB p.2 1 1024
def Sw (p q:Z5):Bool:=decide (q.1<p.1) && decide (q.2<p.2)
def XC (ps:List Z5) (k:Nat):Bool:=Ve (Z7 ps k) && (k ==0 || Sw (Z7 ps k) (Z7 ps (k-1)))
def Uu (ps:List Z5):Bool:=(List.range ps.length).all (XC ps)
def Zp (r:Z0):Bool:=inB r.1 1 4 && (inB r.2.length 1 4 && Uu r.2)
def ZZ (rs:List Z0):Int:=(rs.map (·.1)).sum
def Zb (rs:List Z0):Bool:=inB rs.length 1 3 && (rs.all Zp && decide (ZZ rs<=8))
theorem Mn {ps:List Z5} (h:∀ j,j<ps.length->XC ps j=true):Uu ps=true:=by
 unfold Uu;rw [List.all_eq_true];intro j hj;exact h j (List.mem_range.1 hj)
theorem UL {ps:List Z5} {j:Nat} (hj:j<ps.length) (h:XC ps j=false):Uu ps=false:=by
 unfold Uu;rw [List.all_eq_false];exact ⟨j,List.mem_range.2 hj,by simp [h]⟩
theorem Oc {ps:List Z5} (h:Uu ps=true) {j:Nat} (hj:j<ps.length):XC ps j=true:=by
 unfold Uu at h;rw [List.all_eq_true] at h;exact h j (List.mem_range.2 hj)
theorem PT {rs:List Z0} {k:Nat} (h:k<rs.length):ZS rs k ∈ rs:=by
 unfold ZS;simp [List.getD,h]
theorem O4 {rs:List Z0} (h:∀ j,j<rs.length->Zp (ZS rs j)=true):rs.all Zp=true:=by
 rw [List.all_eq_true];intro r hr
 obtain ⟨j,hj,rfl⟩:=List.getElem_of_mem hr
 have:=h j hj
 unfold ZS at this;simpa [List.getD,hj] using this
theorem O3 {rs:List Z0} {j:Nat} (hj:j<rs.length) (h:Zp (ZS rs j)=false):rs.all Zp=false:=by
 rw [List.all_eq_false];exact ⟨_,PT hj,by simp [h]⟩
theorem QR {rs:List Z0} (h:rs.all Zp=true) {j:Nat} (hj:j<rs.length):Zp (ZS rs j)=true:=by
 rw [List.all_eq_true] at h;exact h _ (PT hj)
theorem ND {r:Z0} (h:Zp r=true):1<=r.1/\r.1<=4/\1<=r.2.length/\r.2.length<=4:=by
 unfold Zp at h;simp only [Bool.and_eq_true] at h
 have h1:=ZU h.1;have h2:=ZU h.2.1
 omega
theorem X8 (rs:List Z0) {k:Nat} (h:k<rs.length):ZZ (rs.take (k+1))=ZZ (rs.take k)+(ZS rs k).1:=by
 unfold ZZ ZS
 rw [List.take_succ_eq_append_getElem h,List.map_append,List.sum_append];simp [List.getD,h]
theorem Tm {rs:List Z0} (h:rs.all Zp=true):∀ k,k<=rs.length->(k:Int)<=ZZ (rs.take k)/\ZZ (rs.take k)<=4*k
 | 0,_=>by simp [ZZ]
 | k+1,hk=>by
  have ih:=Tm h k (by omega)
  have hb:=ND (QR h (j:=k) (by omega))
  rw [X8 rs (by omega)];omega
theorem Uf (rs:List Z0):ZZ (rs.take rs.length)=ZZ rs:=by rw [List.take_length]
theorem Zf {rs:List Z0} (h:Zb rs=true):1<=rs.length/\rs.length<=3/\rs.all Zp=true/\ZZ rs<=8:=by
 unfold Zb at h;simp only [Bool.and_eq_true,decide_eq_true_eq] at h
 have h1:=ZU h.1
 exact ⟨by omega,by omega,h.2.1,h.2.2⟩
open Go.ChangeShapes Go.WideShapes Go.ChangeAt Go.RowKit Go.Sort
theorem Fi {B:Nat} (hb:Below B W w1):(∀ b o,b<B->w1.cell? ⟨b,o,none⟩=W.cell? ⟨b,o,none⟩)/\(∀ b o,b<B->w1.frozen? ⟨b,o,none⟩=W.frozen? ⟨b,o,none⟩):=
 ⟨fun b o h=>hb.cell (p:=⟨b,o,none⟩) h,fun b o h=>hb.frozen (p:=⟨b,o,none⟩) h⟩
theorem ZY (lo n hi:Int) (w:World):Calls Tryz.prog 130 #[.int .i64 lo,.int .i64 n,.int .i64 hi] w fun e w'=>e= .returned (.bool (inB n lo hi))/\w'=w:=by
 by_cases h1:lo<=n
 ·by_cases h2:n<=hi
  all_goals
   go_enter Tryz.func130,Tryz.ntmps130
   go_wp2
   go_ret
   exact ⟨Z6 (by unfold inB;simp [h1,h2]),rfl⟩
 ·go_enter Tryz.func130,Tryz.ntmps130
  go_wp2
  go_ret
  exact ⟨Z6 (by unfold inB;simp;omega),rfl⟩
theorem YM {P:Nat->Prop} {k:Nat} (h:∀ j,j<k->P j) (hk:P k):∀ j,j<k+1->P j:=fun j hj=>by
 by_cases e:j<k
 ·exact h j e
 ·obtain rfl:j=k:=by omega
  exact hk
structure But (bc:Nat) (w w':World):Prop where
 os:w'.os=w.os
 tape:w'.tape=w.tape
 output:w'.output=w.output
 size:w.heap.size<=w'.heap.size
 block:∀ k,k<w.heap.size->k ≠ bc->w'.heap[k]?=w.heap[k]?
theorem But.refl (bc:Nat) (w:World):But bc w w:=⟨rfl,rfl,rfl,Nat.le_refl _,fun _ _ _=>rfl⟩
theorem But.trans {bc:Nat} {a b c:World} (h:But bc a b) (k:But bc b c):But bc a c:=
 ⟨k.os.trans h.os,k.tape.trans h.tape,k.output.trans h.output,Nat.le_trans h.size k.size,fun i hi hn=>(k.block i (Nat.lt_of_lt_of_le hi h.size) hn).trans (h.block i hi hn)⟩
theorem But.below {bc B:Nat} {a w:World} (h:But bc a w) (hB:B<=bc) (hs:B<=a.heap.size):Below B a w:=
 ⟨h.os,h.tape,h.output,h.size,fun k hk=>h.block k (Nat.lt_of_lt_of_le hk hs) (by omega)⟩
theorem But.later {bc:Nat} {a b c:World} (h:But bc a b) (k:Below b.heap.size b c):But bc a c:=
 h.trans ⟨k.os,k.tape,k.output,k.size,fun i hi _=>k.block i hi⟩
theorem But.within {bc:Nat} {a b c:World} (h:But bc a b) (k:Below a.heap.size b c):But bc a c:=
 ⟨k.os.trans h.os,k.tape.trans h.tape,k.output.trans h.output,Nat.le_trans h.size k.size,fun i hi hn=>(k.block i hi).trans (h.block i hi hn)⟩
theorem But.setCell {bc:Nat} {a w:World} (h:But bc a w) (o:Nat) (v:Value):But bc a (w.setCell ⟨bc,o,none⟩ v):=
 h.trans ⟨rfl,rfl,rfl,by simp,fun k hk hn=>Below.heap_setCell w ⟨bc,o,none⟩ v k hn⟩
theorem But.cell {bc:Nat} (h:But bc w w') {p:Addr} (hp:p.block<w.heap.size) (hn:p.block ≠ bc):w'.cell? p=w.cell? p:=
 World.cell?_of_block (w:=w) (h.block p.block hp hn)
theorem XX {B t size n:Nat} {xs:List Value} (h:w.ownsRow B t size v n xs) (hs:∀ k,v.ownBlock=some k->w'.heap[k]?=w.heap[k]?):w'.ownsRow B t size v n xs:=by
 refine ⟨h.1,?_⟩
 rcases h.2 with hz | ⟨g,cap,cur,rfl,hb,hg,r⟩
 ·exact .inl hz
 ·exact .inr ⟨g,cap,cur,rfl,hb,(hs g rfl).trans hg,r⟩
theorem UK {B B' t size n:Nat} {xs:List Value} (h:w.ownsRow B t size v n xs) (hb:B'<=B):w.ownsRow B' t size v n xs:=by
 refine ⟨h.1,?_⟩
 rcases h.2 with hz | ⟨g,cap,cur,rfl,hb',r⟩
 ·exact .inl hz
 ·exact .inr ⟨g,cap,cur,rfl,by omega,r⟩
def YG (ps:List Z5):List Value:=ps.flatMap fun p=>[.int .i64 p.1,.int .i64 p.2]
def PO (qs:List (Z0 × Value)):List Value:=qs.flatMap fun q=>[.int .i64 q.1.1,q.2]
theorem Od {α:Type} {f g:α->Value} : ∀ l:List α,(l.flatMap fun p=>[f p,g p]).length=l.length*2
 | []=>rfl
 | p::l=>by rw [List.flatMap_cons,List.length_append,Od l];simp;omega
theorem UN {α:Type} {f g:α->Value} : ∀ (l:List α) (k:Nat) (h:k<l.length),(l.flatMap fun p=>[f p,g p])[k*2]?=some (f l[k])/\(l.flatMap fun p=>[f p,g p])[k*2+1]?=some (g l[k])
 | p::l,0,_=>by simp
 | p::l,k+1,h=>by
  have ih:=UN (f:=f) (g:=g) l k (by simpa using h)
  rw [List.flatMap_cons,show (k+1)*2=k*2+2 by omega,show k*2+2+1=(k*2+1)+2 by omega]
  simpa using ih
theorem Tt {a b c:World} {row:Option Nat} (h:a.grownBy b row) (k:b.grownBy c row):a.grownBy c row:=
 ⟨k.os.trans h.os,k.tape.trans h.tape,k.output.trans h.output,Nat.le_trans h.size k.size,fun i hi hn=>(k.block i (Nat.lt_of_lt_of_le hi h.size) hn).trans (h.block i hi hn)⟩
theorem Mf {B g n cap t:Nat} {xs:List Value} (h:w.ownsRow B t 2 (.slice (some ⟨g,0,none⟩) n cap) n xs) (j:Nat) (u u':Value) :
  ((w.setCell ⟨g,j,none⟩ u).setCell ⟨g,j+1,none⟩ u').ownsRow B t 2 (.slice (some ⟨g,0,none⟩) n cap) n ((xs.set j u).set (j+1) u')/\w.grownBy ((w.setCell ⟨g,j,none⟩ u).setCell ⟨g,j+1,none⟩ u') (some g):=by
 have h1:=World.ownsRow.stored h j u
 have h2:=World.ownsRow.stored h1.1 (j+1) u'
 exact ⟨h2.1,Tt h1.2 h2.2⟩
theorem Ez (f c:Int):∀ (ps:List Z5) (j:Nat),j<ps.length->((YG ps).set (j*2) (.int .i64 f)).set (j*2+1) (.int .i64 c)=YG (ps.set j (f,c))
 | p::ps,0,_=>by simp [YG]
 | p::ps,j+1,h=>by
  have ih:=Ez f c ps j (by simpa using h)
  unfold YG at ih ⊢
  rw [List.flatMap_cons,show (j+1)*2=j*2+2 by omega,show j*2+2+1=(j*2+1)+2 by omega]
  simpa using ih
theorem SE (w:World) (r:Option Nat):w.grownBy w r:=⟨rfl,rfl,rfl,Nat.le_refl _,fun _ _ _=>rfl⟩
theorem Ui {b o:Nat} (h:w.heap.size<=b):w.frozen? ⟨b,o,none⟩=false:=by
 unfold World.frozen?
 rw [Array.getElem?_eq_none h]
theorem SF (f c:Int) (w:World):Calls Tryz.prog 234 #[.agg #[.int .i64 f,.int .i64 c]] w fun e w'=>e= .returned (.bool (Ve (f,c)))/\Below w.heap.size w w':=by
 cases h1:inB f 1 1024
 ·go_enter Tryz.func234,Tryz.ntmps234
  go_wp2_with fail
  refine (ZY _ _ _ _).mono ?_
  rintro e w' ⟨rfl,rfl⟩
  go_wp2_with fail
  go_ret
  exact ⟨Z6 (by unfold Ve;simp [h1]),(Below.refl _ _).alloc (Nat.le_refl _) _⟩
 ·go_enter Tryz.func234,Tryz.ntmps234
  go_wp2_with fail
  refine (ZY _ _ _ _).mono ?_
  rintro e w' ⟨rfl,rfl⟩
  go_wp2_with fail
  refine (ZY _ _ _ _).mono ?_
  rintro e w' ⟨rfl,rfl⟩
  go_wp2_with fail
  go_ret
  exact ⟨Z6 (by unfold Ve;simp [h1]),(Below.refl _ _).alloc (Nat.le_refl _) _⟩
theorem Tz (f c f' c':Int) (w:World):Calls Tryz.prog 235 #[.agg #[.int .i64 f,.int .i64 c],.agg #[.int .i64 f',.int .i64 c']] w fun e w'=>e= .returned (.bool (Sw (f,c) (f',c')))/\Below w.heap.size w w':=by
 by_cases h1:f'<f
 ·go_enter Tryz.func235,Tryz.ntmps235
  go_wp2_with fail
  all_goals
   go_ret
   exact ⟨Z6 (by unfold Sw;simp [h1]),((Below.refl _ _).alloc (Nat.le_refl _) _).alloc (by simp) _⟩
 ·go_enter Tryz.func235,Tryz.ntmps235
  go_wp2_with fail
  all_goals
   go_ret
   exact ⟨Z6 (by unfold Sw;simp;omega),((Below.refl _ _).alloc (Nat.le_refl _) _).alloc (by simp) _⟩
theorem Fa {ps:List Z5} {k:Nat} {p:Z5} (hp:Z7 ps k=p) (h:Ve p=false):XC ps k=false:=by unfold XC;rw [hp];simp [h]
theorem E7 {ps:List Z5} {p:Z5} (hp:Z7 ps 0=p) (h:Ve p=true):XC ps 0=true:=by unfold XC;rw [hp];simp [h]
theorem Ji {ps:List Z5} {k:Nat} {p q:Z5} (hp:Z7 ps (k+1)=p) (hq:Z7 ps k=q) (h:Ve p=true):XC ps (k+1)=Sw p q:=by unfold XC;simp [hp,hq,h]
theorem Mo  {ps:List Z5} (h:IsPaces w v ps) :
  Calls Tryz.prog 220 #[v] w fun e w'=>e= .returned (.bool (Uu ps))/\Below w.heap.size w w':=by
 obtain ⟨a,cap,rfl,hc,hm,hr⟩:=h
 have Hr:=Z9 hr
 clear hr
 go_enter Tryz.func220,Tryz.ntmps220
 go_wp2_with fail
 go_loopw [7] (fun i wr=> ∃ k:Nat,k<=ps.length/\i= .int .i64 k/\(∀ j,j<k->XC ps j=true)/\Below w.heap.size w wr) (fun i _=>ps.length-(intOf i).toNat)
 case atStart=>exact ⟨0,Nat.zero_le _,rfl,fun j hj=>by omega,Below.refl _ _⟩
 case round=>
  obtain ⟨k,hk,rfl,hst,hb⟩:=hrel
  have Hst:=Z9 hst
  have Hb:=Z9 hb
  clear hst
  by_cases hlt:k<ps.length
  ·rcases uh Hr with h0 | ⟨b,off,rfl,hbw,hcl⟩
   ·rw [h0] at hlt;simp at hlt
   have hbr:b<wr.heap.size:=Nat.lt_of_lt_of_le hbw hb.size
   have hne:b ≠ wr.heap.size:=Nat.ne_of_lt hbr
   obtain ⟨c0,c1⟩:=hcl k hlt
   rw [<-hb.cell (p:=⟨b,off+k*2,none⟩) hbw] at c0
   rw [<-hb.cell (p:=⟨b,off+k*2+1,none⟩) hbw] at c1
   generalize hp:Z7 ps k=p at c0 c1
   have Hp:=Z9 hp
   clear hp
   obtain ⟨f,c⟩:=p
   simp only at c0 c1
   have d0:(wr.alloc (.cells #[.int .i64 f,.int .i64 c] 188)).cell? ⟨wr.heap.size,0,none⟩=some (.int .i64 f):=by simp
   have d1:(wr.alloc (.cells #[.int .i64 f,.int .i64 c] 188)).cell? ⟨wr.heap.size,1,none⟩=some (.int .i64 c):=by simp
   have k0:=cell_regrown d0
   have k1:=cell_regrown d1
   clear d0 d1
   cases hpb:Ve (f,c)
   ·clear hcl
    go_wp2_with fail
    refine wp_region_quiet_below (by kernel_rfl) (by kernel_rfl) ?_
    repeat (go_big_quiet_step (first | exact Calls.regrown_of (SF _ _ _) | exact Calls.regrown_of (Tz _ _ _ _ _)))
    refine wpQuiet_nil ?_
    intro _ hw'
    obtain ⟨⟨dq,osq⟩,hw''⟩:=hw'
    subst hw''
    go_wp2_with fail
    go_ret
    exact ⟨Z6 (UL hlt (Fa (uh Hp) hpb)).symm,(uh Hb).trans (((Below.refl _ _).alloc (uh Hb).size _).trans ((below_regrown _ _ _).mono (by simp;have:=(uh Hb).size;omega)))⟩
   ·by_cases hz:0<k
    ·have hd:decide (0<k)=true:=decide_eq_true hz
     obtain ⟨e0,e1⟩:=hcl (k-1) (by omega)
     rw [<-hb.cell (p:=⟨b,off+(k-1)*2,none⟩) hbw] at e0
     rw [<-hb.cell (p:=⟨b,off+(k-1)*2+1,none⟩) hbw] at e1
     generalize hq:Z7 ps (k-1)=q at e0 e1
     have Hq:=Z9 hq
     clear hq
     obtain ⟨f',c'⟩:=q
     simp only at e0 e1
     have m0:=cell_regrown (w:=wr.alloc (.cells #[.int .i64 f,.int .i64 c] 188)) (a:=⟨b,off+(k-1)*2,none⟩) (v:= .int .i64 f') (by rw [World.cell?_alloc_old _ _ _ hne];exact e0)
     have m1:=cell_regrown (w:=wr.alloc (.cells #[.int .i64 f,.int .i64 c] 188)) (a:=⟨b,off+(k-1)*2+1,none⟩) (v:= .int .i64 c') (by rw [World.cell?_alloc_old _ _ _ hne];exact e1)
     clear hcl e0 e1
     cases hab:Sw (f,c) (f',c')
     all_goals
      go_wp2_with fail
      refine wp_region_quiet_below (by kernel_rfl) (by kernel_rfl) ?_
      repeat (go_big_quiet_step (first | exact Calls.regrown_of (SF _ _ _) | exact Calls.regrown_of (Tz _ _ _ _ _)))
      refine wpQuiet_nil ?_
      intro _ hw'
      obtain ⟨⟨dq,osq⟩,hw''⟩:=hw'
      subst hw''
      go_wp2_with fail
     ·go_ret
      exact ⟨Z6 (UL hlt (by obtain ⟨m,rfl⟩:∃ m,k=m+1:=⟨k-1,by omega⟩;rw [Ji (uh Hp) (uh Hq) hpb];exact hab)).symm,(uh Hb).trans (((Below.refl _ _).alloc (uh Hb).size _).trans ((below_regrown _ _ _).mono (by simp;have:=(uh Hb).size;omega)))⟩
     ·have hs:XC ps k=true:=by obtain ⟨m,rfl⟩:∃ m,k=m+1:=⟨k-1,by omega⟩;rw [Ji (uh Hp) (uh Hq) hpb];exact hab
      go_roundw
      case rel=>exact ⟨k+1,by omega,by go_num,YM (uh Hst) hs,(uh Hb).trans (((Below.refl _ _).alloc (uh Hb).size _).trans ((below_regrown _ _ _).mono (by simp;have:=(uh Hb).size;omega)))⟩
      case measure=>simp [intOf];omega
    ·obtain rfl:k=0:=by omega
     simp only [Nat.zero_mul,Nat.add_zero] at c0 c1
     clear hcl hz
     go_wp2_with fail
     refine wp_region_quiet_below (by kernel_rfl) (by kernel_rfl) ?_
     repeat (go_big_quiet_step (first | exact Calls.regrown_of (SF _ _ _) | exact Calls.regrown_of (Tz _ _ _ _ _)))
     refine wpQuiet_nil ?_
     intro _ hw'
     obtain ⟨⟨dq,osq⟩,hw''⟩:=hw'
     subst hw''
     go_wp2_with fail
     go_roundw
     case rel=>exact ⟨1,by omega,by go_num,YM (uh Hst) (E7 (uh Hp) hpb),(uh Hb).trans (((Below.refl _ _).alloc (uh Hb).size _).trans ((below_regrown _ _ _).mono (by simp;have:=(uh Hb).size;omega)))⟩
     case measure=>simp [intOf];omega
  ·obtain rfl:k=ps.length:=by omega
   go_wp2_with fail
   go_ret
   exact ⟨Z6 (Mn (uh Hst)).symm,hb⟩
theorem Jd {b:Int} {ps:List Z5} (h:inB b 1 4=false):Zp (b,ps)=false:=by unfold Zp;simp [h]
theorem Je {b:Int} {ps:List Z5} (h:inB ps.length 1 4=false):Zp (b,ps)=false:=by unfold Zp;simp [h]
theorem Jf {b:Int} {ps:List Z5} (h:inB b 1 4=true) (h2:inB ps.length 1 4=true):Zp (b,ps)=Uu ps:=by unfold Zp;simp [h,h2]
theorem Tx  {ps:List Z5} (b:Int) (h:IsPaces w v ps) :
  Calls Tryz.prog 198 #[.agg #[.int .i64 b,v]] w fun e w'=>e= .returned (.bool (Zp (b,ps)))/\Below w.heap.size w w':=by
 have Hv:=Z9 h
 obtain ⟨a,cap,rfl,hc,hm,hr⟩:=h
 clear hr
 have hl:(ps.length:Int)<=9223372036854775807:=by omega
 cases h1:inB b 1 4
 ·go_enter Tryz.func198,Tryz.ntmps198
  go_wp2_with fail
  refine (ZY _ _ _ _).mono ?_
  rintro e w' ⟨rfl,rfl⟩
  go_wp2_with fail
  go_ret
  exact ⟨Z6 (Jd h1).symm,(Below.refl _ _).alloc (Nat.le_refl _) _⟩
 cases h2:inB ps.length 1 4
 ·go_enter Tryz.func198,Tryz.ntmps198
  go_wp2_with fail
  refine (ZY _ _ _ _).mono ?_
  rintro e w' ⟨rfl,rfl⟩
  go_wp2_with fail
  refine (ZY _ _ _ _).mono ?_
  rintro e w' ⟨rfl,rfl⟩
  go_wp2_with fail
  go_ret
  exact ⟨Z6 (Je h2).symm,(Below.refl _ _).alloc (Nat.le_refl _) _⟩
 ·have H3:=Z9 (Jf h1 h2)
  go_enter Tryz.func198,Tryz.ntmps198
  go_wp2_with fail
  refine (ZY _ _ _ _).mono ?_
  rintro e w' ⟨rfl,rfl⟩
  go_wp2_with fail
  refine (ZY _ _ _ _).mono ?_
  rintro e w' ⟨rfl,rfl⟩
  go_wp2_with fail
  refine (Mo ((uh Hv).below ((Below.refl _ _).alloc (Nat.le_refl _) _))).mono ?_
  rintro e w1 ⟨rfl,hb⟩
  go_wp2_with fail
  go_ret
  exact ⟨Z6 (uh H3).symm,((Below.refl _ _).alloc (Nat.le_refl _) _).trans (hb.mono (by simp))⟩
theorem Xx {B:Nat} (h:Below B w w') (n:Nat):Below B w (w'.drewN n):=⟨h.os,h.tape,h.output,h.size,h.block⟩
theorem Gm {ps:List Z5} {k:Nat} {f c:Int} (hp:Z7 ps k=(f,c)) (h:inB f 1 1024=false):XC ps k=false:=by unfold XC Ve;rw [hp];simp [h]
theorem Gn {ps:List Z5} {k:Nat} {f c:Int} (hp:Z7 ps k=(f,c)) (h:inB c 1 1024=false):XC ps k=false:=by unfold XC Ve;rw [hp];simp [h]
theorem E8 {ps:List Z5} {k:Nat} {f c f' c':Int} (hp:Z7 ps k=(f,c)) (hz:0<k) (hq:Z7 ps (k-1)=(f',c')) (h1:inB f 1 1024=true) (h2:inB c 1 1024=true):XC ps k=(decide (f'<f) && decide (c'<c)):=by
 unfold XC Ve Sw;rw [hp,hq];simp [h1,h2];omega
theorem Gp {ps:List Z5} {f c:Int} (hp:Z7 ps 0=(f,c)) (h1:inB f 1 1024=true) (h2:inB c 1 1024=true):XC ps 0=true:=by unfold XC Ve;rw [hp];simp [h1,h2]
theorem YX  {ps:List Z5} (rb:Int) (h:IsPaces w v ps) :
  Calls Tryz.prog 136 #[.agg #[.int .i64 rb,v]] w fun e w'=>e= .returned (.bool (Zp (rb,ps)))/\Below w.heap.size w w':=by
 obtain ⟨a,cap,rfl,hc,hm,hr⟩:=h
 have Hr:=Z9 hr
 clear hr
 have hl:(ps.length:Int)<=9223372036854775807:=by omega
 cases h1:inB rb 1 4
 ·go_enter Tryz.func136,Tryz.ntmps136
  go_wp2_with fail
  refine (Z1 _ _ _ _).mono ?_
  rintro e w' ⟨rfl,rfl⟩
  go_wp2_with fail
  go_ret
  exact ⟨Z6 (Jd h1).symm,(Below.refl _ _).alloc (Nat.le_refl _) _⟩
 cases h2:inB ps.length 1 4
 ·go_enter Tryz.func136,Tryz.ntmps136
  go_wp2_with fail
  refine (Z1 _ _ _ _).mono ?_
  rintro e w' ⟨rfl,rfl⟩
  go_wp2_with fail
  refine (Z1 _ _ _ _).mono ?_
  rintro e w' ⟨rfl,rfl⟩
  go_wp2_with fail
  go_ret
  exact ⟨Z6 (Je h2).symm,(Below.refl _ _).alloc (Nat.le_refl _) _⟩
 have H3:=Z9 (Jf h1 h2)
 go_enter Tryz.func136,Tryz.ntmps136
 go_wp2_with fail
 refine (Z1 _ _ _ _).mono ?_
 rintro e w' ⟨rfl,rfl⟩
 go_wp2_with fail
 refine (Z1 _ _ _ _).mono ?_
 rintro e w' ⟨rfl,rfl⟩
 go_wp2_with fail
 clear h1 h2
 go_loopw [3] (fun i wr=> ∃ k:Nat,k<=ps.length/\i= .int .i64 k/\(∀ j,j<k->XC ps j=true)/\Below (w.heap.size+1) (w.alloc (.cells #[.int .i64 rb,.slice a ps.length cap] 116)) wr) (fun i _=>ps.length-(intOf i).toNat)
 case atStart=>exact ⟨0,Nat.zero_le _,rfl,fun j hj=>by omega,Below.refl _ _⟩
 case round=>
  obtain ⟨k,hk,rfl,hst,hb⟩:=hrel
  have Hst:=Z9 hst
  have Hb:=Z9 hb
  clear hst
  have hsz:w.heap.size+1<=wr.heap.size:=by have:=hb.size;simpa using this
  have hbox:wr.cell? ⟨w.heap.size,1,none⟩=some (.slice a ps.length cap):=by rw [hb.cell (p:=⟨w.heap.size,1,none⟩) (by simp)];simp
  have hne0:w.heap.size ≠ wr.heap.size:=by omega
  by_cases hlt:k<ps.length
  ·rcases uh Hr with h0 | ⟨b,off,rfl,hbw,hcl⟩
   ·rw [h0] at hlt;simp at hlt
   have hbB:Below w.heap.size w wr:=((Below.refl _ _).alloc (Nat.le_refl _) _).trans (hb.mono (by omega))
   have hne:b ≠ wr.heap.size:=by omega
   have hne':b ≠ w.heap.size:=by omega
   obtain ⟨c0,c1⟩:=hcl k hlt
   rw [<-hbB.cell (p:=⟨b,off+k*2,none⟩) hbw] at c0
   rw [<-hbB.cell (p:=⟨b,off+k*2+1,none⟩) hbw] at c1
   generalize hp:Z7 ps k=p at c0 c1
   have Hp:=Z9 hp
   obtain ⟨f,c⟩:=p
   simp only at c0 c1
   clear hp hb
   cases h1:inB f 1 1024
   ·clear hcl
    go_wp2_with fail
    go_quiet (exact Calls.quiet_of_same (Z1 _ _ _ _))
    go_wp2_with fail
    go_ret
    exact ⟨Z6 (by rw [uh H3];exact (UL hlt (Gm (uh Hp) h1)).symm),((Below.refl _ _).alloc (Nat.le_refl _) _).trans ((Xx ((uh Hb).alloc hsz _) _).mono (by omega))⟩
   cases h2:inB c 1 1024
   ·clear hcl
    go_wp2_with fail
    go_quiet (exact Calls.quiet_of_same (Z1 _ _ _ _))
    go_wp2_with fail
    go_ret
    exact ⟨Z6 (by rw [uh H3];exact (UL hlt (Gn (uh Hp) h2)).symm),((Below.refl _ _).alloc (Nat.le_refl _) _).trans ((Xx ((uh Hb).alloc hsz _) _).mono (by omega))⟩
   by_cases hz:0<k
   ·have hd:decide (0<k)=true:=decide_eq_true hz
    obtain ⟨e0,e1⟩:=hcl (k-1) (by omega)
    rw [<-hbB.cell (p:=⟨b,off+(k-1)*2,none⟩) hbw] at e0
    rw [<-hbB.cell (p:=⟨b,off+(k-1)*2+1,none⟩) hbw] at e1
    generalize hq:Z7 ps (k-1)=q at e0 e1
    have Hq:=Z9 hq
    obtain ⟨f',c'⟩:=q
    simp only at e0 e1
    have q0:(wr.alloc (.cells #[.int .i64 f,.int .i64 c] 188)).cell? ⟨w.heap.size,1,none⟩=some (.slice (some ⟨b,off,none⟩) ps.length cap):=by rw [World.cell?_alloc_old _ _ _ hne0];exact hbox
    have q1:(wr.alloc (.cells #[.int .i64 f,.int .i64 c] 188)).cell? ⟨b,off+(k-1)*2,none⟩=some (.int .i64 f'):=by rw [World.cell?_alloc_old _ _ _ hne];exact e0
    have q2:(wr.alloc (.cells #[.int .i64 f,.int .i64 c] 188)).cell? ⟨b,off+(k-1)*2+1,none⟩=some (.int .i64 c'):=by rw [World.cell?_alloc_old _ _ _ hne];exact e1
    clear hcl hq e0 e1
    have Hs:=Z9 (E8 (uh Hp) hz (uh Hq) h1 h2)
    by_cases g1:f<=f'
    ·have g1':decide (f<=f')=true:=decide_eq_true g1
     go_wp2_with fail
     go_quiet (exact Calls.quiet_of_same (Z1 _ _ _ _))
     go_wp2_with fail
     go_ret
     exact ⟨Z6 (by rw [uh H3];exact (UL hlt (by rw [uh Hs];simp;omega)).symm),((Below.refl _ _).alloc (Nat.le_refl _) _).trans ((Xx ((uh Hb).alloc hsz _) _).mono (by omega))⟩
    have g1':decide (f<=f')=false:=decide_eq_false g1
    by_cases g2:c<=c'
    ·have g2':decide (c<=c')=true:=decide_eq_true g2
     go_wp2_with fail
     go_quiet (exact Calls.quiet_of_same (Z1 _ _ _ _))
     go_wp2_with fail
     go_ret
     exact ⟨Z6 (by rw [uh H3];exact (UL hlt (by rw [uh Hs];simp;omega)).symm),((Below.refl _ _).alloc (Nat.le_refl _) _).trans ((Xx ((uh Hb).alloc hsz _) _).mono (by omega))⟩
    ·have g2':decide (c<=c')=false:=decide_eq_false g2
     go_wp2_with fail
     go_quiet (exact Calls.quiet_of_same (Z1 _ _ _ _))
     go_wp2_with fail
     go_roundw
     case rel=>exact ⟨k+1,by omega,by go_num,YM (uh Hst) (by rw [uh Hs];simp;omega),Xx ((uh Hb).alloc hsz _) _⟩
     case measure=>simp [intOf];omega
   ·obtain rfl:k=0:=by omega
    simp only [Nat.zero_mul,Nat.add_zero] at c0 c1
    clear hcl hz
    go_wp2_with fail
    go_quiet (exact Calls.quiet_of_same (Z1 _ _ _ _))
    go_wp2_with fail
    go_roundw
    case rel=>exact ⟨1,by omega,by go_num,YM (uh Hst) (Gp (uh Hp) h1 h2),Xx ((uh Hb).alloc hsz _) _⟩
    case measure=>simp [intOf];omega
  ·obtain rfl:k=ps.length:=by omega
   clear hb
   go_wp2_with fail
   go_ret
   exact ⟨Z6 (by rw [uh H3];exact (Mn (uh Hst)).symm),((Below.refl _ _).alloc (Nat.le_refl _) _).trans ((uh Hb).mono (by omega))⟩
def Fe (rs:List Z0):Prop:= ∀ k,k<=rs.length->0<=ZZ (rs.take k)/\ZZ (rs.take k)<=1000000
theorem M6 {rs:List Z0} (h:rs.all Zp=true) (hl:rs.length<=3):Fe rs:=fun k hk=>by have:=Tm h k hk;omega
theorem Rc  {rs:List Z0} (h:IsRooms w v rs) :
  Calls Tryz.prog 155 #[v] w fun e w'=>e= .returned (.bool (rs.all Zp))/\Below w.heap.size w w':=by
 obtain ⟨a,cap,rfl,hc,hm,hr⟩:=h
 have Hr:=Z9 hr
 clear hr
 go_enter Tryz.func155,Tryz.ntmps155
 go_wp2_with fail
 go_loopw [7] (fun i wr=> ∃ k:Nat,k<=rs.length/\i= .int .i64 k/\(∀ j,j<k->Zp (ZS rs j)=true)/\Below w.heap.size w wr) (fun i _=>rs.length-(intOf i).toNat)
 case atStart=>exact ⟨0,Nat.zero_le _,rfl,fun j hj=>by omega,Below.refl _ _⟩
 case round=>
  obtain ⟨k,hk,rfl,hst,hb⟩:=hrel
  have Hst:=Z9 hst
  have Hb:=Z9 hb
  have hsz:=hb.size
  clear hst
  by_cases hlt:k<rs.length
  ·rcases uh Hr with h0 | ⟨b,off,rfl,hbw,hcl⟩
   ·rw [h0] at hlt;simp at hlt
   obtain ⟨c0,pv,c1,hip⟩:=hcl k hlt
   rw [<-hb.cell (p:=⟨b,off+k*2,none⟩) hbw] at c0
   rw [<-hb.cell (p:=⟨b,off+k*2+1,none⟩) hbw] at c1
   have Hip:=Z9 (hip.below hb)
   obtain ⟨pa,pcap,rfl,_⟩:=hip
   generalize hp:ZS rs k=p at *
   obtain ⟨rb,ps⟩:=p
   simp only at c0 c1
   have Hp:=Z9 hp
   clear hp hcl hb
   cases hrb:Zp (rb,ps)
   ·go_wp2_with fail
    refine (Tx rb ((uh Hip).below ((Below.refl _ _).alloc (Nat.le_refl _) _))).mono ?_
    rintro e w1 ⟨rfl,hb1⟩
    go_wp2_with fail
    go_ret
    exact ⟨Z6 (O3 hlt (by rw [uh Hp];exact hrb)).symm,((uh Hb).alloc hsz _).trans (hb1.mono (by simp;omega))⟩
   ·go_wp2_with fail
    refine (Tx rb ((uh Hip).below ((Below.refl _ _).alloc (Nat.le_refl _) _))).mono ?_
    rintro e w1 ⟨rfl,hb1⟩
    have Hb1:=Z9 hb1
    clear hb1
    go_wp2_with fail
    go_roundw
    case rel=>exact ⟨k+1,by omega,by go_num,YM (uh Hst) (by rw [uh Hp];exact hrb),((uh Hb).alloc hsz _).trans ((uh Hb1).mono (by simp;omega))⟩
    case measure=>simp [intOf];omega
  ·obtain rfl:k=rs.length:=by omega
   go_wp2_with fail
   go_ret
   exact ⟨Z6 (O4 (uh Hst)).symm,hb⟩
theorem SQ  {rs:List Z0} (h:IsRooms w v rs) (ha:Fe rs) :
  Calls Tryz.prog 156 #[v] w fun e w'=>e= .returned (.int .i64 (ZZ rs))/\Below w.heap.size w w':=by
 obtain ⟨a,cap,rfl,hc,hm,hr⟩:=h
 have Hr:=Z9 hr
 have Ha:=Z9 ha
 clear hr ha
 go_enter Tryz.func156,Tryz.ntmps156
 go_wp2_with fail
 go_loopw [3,8] (fun s i wr=> ∃ k:Nat,k<=rs.length/\i= .int .i64 k/\s= .int .i64 (ZZ (rs.take k))/\Below w.heap.size w wr) (fun _ i _=>rs.length-(intOf i).toNat)
 case atStart=>exact ⟨0,Nat.zero_le _,rfl,rfl,Below.refl _ _⟩
 case round=>
  obtain ⟨k,hk,rfl,rfl,hb⟩:=hrel
  have Hb:=Z9 hb
  have hsz:=hb.size
  by_cases hlt:k<rs.length
  ·rcases uh Hr with h0 | ⟨b,off,rfl,hbw,hcl⟩
   ·rw [h0] at hlt;simp at hlt
   obtain ⟨c0,pv,c1,hip⟩:=hcl k hlt
   rw [<-hb.cell (p:=⟨b,off+k*2,none⟩) hbw] at c0
   rw [<-hb.cell (p:=⟨b,off+k*2+1,none⟩) hbw] at c1
   obtain ⟨pa,pcap,rfl,_⟩:=hip
   have hs0:=uh Ha k hk
   have hs1:=uh Ha (k+1) hlt
   have Hs:=Z9 (X8 rs hlt)
   rw [X8 rs hlt] at hs1
   generalize ZZ (rs.take k)=s at *
   generalize (ZS rs k).1=rb at *
   obtain ⟨s0,s1⟩:=hs0
   obtain ⟨s2,s3⟩:=hs1
   clear hcl hb
   go_wp2_with fail
   go_roundw
   case rel=>exact ⟨k+1,by omega,by go_num,by rw [uh Hs],(uh Hb).alloc hsz _⟩
   case measure=>simp [intOf];omega
  ·obtain rfl:k=rs.length:=by omega
   go_wp2_with fail
   go_ret
   exact ⟨Zx (by rw [Uf]),hb⟩
theorem IY {rs:List Z0} (h:inB rs.length 1 3=false):Zb rs=false:=by unfold Zb;simp [h]
theorem IZ {rs:List Z0} (h:rs.all Zp=false):Zb rs=false:=by unfold Zb;rw [h];simp
theorem I0 {rs:List Z0} (h:inB rs.length 1 3=true) (h2:rs.all Zp=true):Zb rs=decide (ZZ rs<=8):=by unfold Zb;rw [h,h2];simp
theorem IsRooms.alloc  {rs:List Z0} (h:IsRooms w v rs) (o:Obj):IsRooms (w.alloc o) v rs:=h.below ((Below.refl _ _).alloc (Nat.le_refl _) _)
theorem Vo  {rs:List Z0} (h:IsRooms w v rs) :
  Calls Tryz.prog 125 #[.agg #[v]] w fun e w'=>e= .returned (.bool (Zb rs))/\Below w.heap.size w w':=by
 have Hv:=Z9 h
 obtain ⟨a,cap,rfl,hc,hm,hr⟩:=h
 clear hr
 have hl:(rs.length:Int)<=9223372036854775807:=by omega
 cases h1:inB rs.length 1 3
 ·go_enter Tryz.func125,Tryz.ntmps125
  go_wp2_with fail
  refine (ZY _ _ _ _).mono ?_
  rintro e w' ⟨rfl,rfl⟩
  go_wp2_with fail
  go_ret
  exact ⟨Z6 (IY h1).symm,(Below.refl _ _).alloc (Nat.le_refl _) _⟩
 cases h2:rs.all Zp
 ·have H2:=Z9 (IZ h2)
  generalize hx:rs.all Zp=x at *
  have Hx:=Z9 hx
  clear hx
  subst h2
  go_enter Tryz.func125,Tryz.ntmps125
  go_wp2_with fail
  refine (ZY _ _ _ _).mono ?_
  rintro e w' ⟨rfl,rfl⟩
  go_wp2_with fail
  refine (Rc ((uh Hv).alloc _)).mono ?_
  rw [uh Hx]
  rintro e w1 ⟨rfl,hb⟩
  go_wp2_with fail
  go_ret
  exact ⟨Z6 (uh H2).symm,((Below.refl _ _).alloc (Nat.le_refl _) _).trans (hb.mono (by simp))⟩
 ·have H3:=Z9 (I0 h1 h2)
  have Ha:=Z9 (M6 h2 (by have:=ZU h1;omega))
  generalize hx:rs.all Zp=x at *
  have Hx:=Z9 hx
  clear hx
  subst h2
  go_enter Tryz.func125,Tryz.ntmps125
  go_wp2_with fail
  refine (ZY _ _ _ _).mono ?_
  rintro e w' ⟨rfl,rfl⟩
  go_wp2_with fail
  refine (Rc ((uh Hv).alloc _)).mono ?_
  rw [uh Hx]
  rintro e w1 ⟨rfl,hb⟩
  have hz:w.heap.size+1<=w1.heap.size:=by have:=hb.size;simpa using this
  have hbox:w1.cell? ⟨w.heap.size,0,none⟩=some (.slice a rs.length cap):=by rw [hb.cell (p:=⟨w.heap.size,0,none⟩) (by simp)];simp
  have hw1:=Z9 (((uh Hv).alloc _).below hb)
  have Hb:=Z9 hb
  clear hb
  go_wp2_with fail
  refine (SQ (uh hw1) (uh Ha)).mono ?_
  rintro e w2 ⟨rfl,hb2⟩
  have Hb2:=Z9 hb2
  clear hb2
  go_wp2_with fail
  go_ret
  exact ⟨Z6 (by rw [uh H3]),((Below.refl _ _).alloc (Nat.le_refl _) _).trans (((uh Hb).trans ((uh Hb2).mono (uh Hb).size)).mono (by simp))⟩
end Go.Proofs.YthbbahagpmdooaaGreat
