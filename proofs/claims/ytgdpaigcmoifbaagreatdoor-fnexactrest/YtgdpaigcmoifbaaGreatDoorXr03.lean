/- Part 3 of what the proof rests on. No condition but those that a theorem names. -/
import Derived.Test.YtgdpaigcmoifbaaGreatDoorXr01
import Derived.Deep.QuietTactic
import Derived.BigQuiet
import Derived.Laws.OwnMore
import Derived.OwnWalk
import Derived.Maps.AppendAt
import Derived.Lib.SmallJoins
import Derived.Deep.RegionWith
set_option maxHeartbeats 8000000
set_option maxRecDepth 100000
namespace Go.Proofs.YtgdpaigcmoifbaaGreatDoor
open Go.ChangeShapes Go.WideShapes Go.ChangeAt Go.RowKit
set_option linter.unusedVariables false
abbrev Z6:=Int × Int
abbrev Z4:=Int × List Z6
def Z7 (ps:List Z6) (k:Nat):Z6:=ps.getD k (0,0)
def ZU (rs:List Z4) (k:Nat):Z4:=rs.getD k (0,[])
def IsPaces (w:World) (v:Value) (ps:List Z6):Prop:=
 ∃ (a:Option Addr) (cap:Nat),v= .slice a ps.length cap/\ps.length<=cap/\cap<=9223372036854775807/\(ps=[]\/ ∃ b off,a=some ⟨b,off,none⟩/\b<w.heap.size/\
  ∀ k,k<ps.length->w.cell? ⟨b,off+k*2,none⟩=some (.int .i64 (Z7 ps k).1)/\w.cell? ⟨b,off+k*2+1,none⟩=some (.int .i64 (Z7 ps k).2))
def IsRooms (w:World) (v:Value) (rs:List Z4):Prop:=
 ∃ (a:Option Addr) (cap:Nat),v= .slice a rs.length cap/\rs.length<=cap/\cap<=9223372036854775807/\(rs=[]\/ ∃ b off,a=some ⟨b,off,none⟩/\b<w.heap.size/\
  ∀ k,k<rs.length->w.cell? ⟨b,off+k*2,none⟩=some (.int .i64 (ZU rs k).1)/\ ∃ pv,w.cell? ⟨b,off+k*2+1,none⟩=some pv/\IsPaces w pv (ZU rs k).2)
theorem IsPaces.below {w w':World} {v:Value} {ps:List Z6} (h:IsPaces w v ps) (hb:Below w.heap.size w w'):IsPaces w' v ps:=by
 obtain ⟨a,cap,rfl,hc,hm,hr⟩:=h;refine ⟨a,cap,rfl,hc,hm,?_⟩
 rcases hr with hr | ⟨b,off,rfl,hlt,hcl⟩
 ·exact .inl hr
 ·refine .inr ⟨b,off,rfl,ZD hlt hb.size,fun k hk=> ?_⟩
  obtain ⟨h1,h2⟩:=hcl k hk;exact ⟨by rw [hb.cell (p:=⟨b,off+k*2,none⟩) hlt];exact h1,by rw [hb.cell (p:=⟨b,off+k*2+1,none⟩) hlt];exact h2⟩
theorem IsRooms.below {w w':World} {v:Value} {rs:List Z4} (h:IsRooms w v rs) (hb:Below w.heap.size w w'):IsRooms w' v rs:=by
 obtain ⟨a,cap,rfl,hc,hm,hr⟩:=h;refine ⟨a,cap,rfl,hc,hm,?_⟩
 rcases hr with hr | ⟨b,off,rfl,hlt,hcl⟩
 ·exact .inl hr
 ·refine .inr ⟨b,off,rfl,ZD hlt hb.size,fun k hk=> ?_⟩
  obtain ⟨h1,pv,h2,h3⟩:=hcl k hk;exact ⟨by rw [hb.cell (p:=⟨b,off+k*2,none⟩) hlt];exact h1,pv,by rw [hb.cell (p:=⟨b,off+k*2+1,none⟩) hlt];exact h2,h3.below hb⟩
theorem KF {rs:List Z4} {n k:Nat} (h:k<n):ZU (rs.take n) k=ZU rs k:=by
 unfold ZU;simp [List.getD,h]
theorem IsRooms.taken {w:World} {a:Option Addr} {len cap:Nat} {rs:List Z4} (h:IsRooms w (.slice a len cap) rs) {n:Nat} (hn:n<=len):IsRooms w (.slice a n cap) (rs.take n):=by
 obtain ⟨a',cap',he,hc,hm,hr⟩:=h;cases he;have hl:(rs.take n).length=n:=by simp;omega
 refine ⟨a,cap,by rw [hl],by omega,hm,?_⟩
 rcases hr with hr | ⟨b,off,rfl,hlt,hcl⟩
 ·exact .inl (by rw [hr];simp)
 ·refine .inr ⟨b,off,rfl,hlt,fun k hk=> ?_⟩
  rw [KF (by omega)];exact hcl k (by omega)
def UC (p:Z6):Bool:=inB p.1 1 1024 && inB p.2 1 1024
def RJ (p q:Z6):Bool:=decide (q.1<p.1) && decide (q.2<p.2)
def Xi (ps:List Z6) (k:Nat):Bool:=UC (Z7 ps k) && (k ==0 || RJ (Z7 ps k) (Z7 ps (k-1)))
def Uj (ps:List Z6):Bool:=(List.range ps.length).all (Xi ps)
def Zn (r:Z4):Bool:=inB r.1 1 4 && (inB r.2.length 1 4 && Uj r.2)
def ZW (rs:List Z4):Int:=(rs.map (·.1)).sum
def YF (rs:List Z4):Bool:=inB rs.length 1 3 && (rs.all Zn && decide (ZW rs<=8))
theorem Kq {ps:List Z6} (h:∀ j,j<ps.length->Xi ps j=true):Uj ps=true:=by
 unfold Uj;rw [List.all_eq_true];intro j hj;exact h j (List.mem_range.1 hj)
theorem UD {ps:List Z6} {j:Nat} (hj:j<ps.length) (h:Xi ps j=false):Uj ps=false:=by
 unfold Uj;rw [List.all_eq_false];exact ⟨j,List.mem_range.2 hj,by simp [h]⟩
theorem FJ {ps:List Z6} (h:Uj ps=true) {j:Nat} (hj:j<ps.length):Xi ps j=true:=by
 unfold Uj at h;rw [List.all_eq_true] at h;exact h j (List.mem_range.2 hj)
theorem RZ {rs:List Z4} {k:Nat} (h:k<rs.length):ZU rs k ∈ rs:=by
 unfold ZU;simp [List.getD,h]
theorem N9 {rs:List Z4} (h:∀ j,j<rs.length->Zn (ZU rs j)=true):rs.all Zn=true:=by
 rw [List.all_eq_true];intro r hr;obtain ⟨j,hj,rfl⟩:=List.getElem_of_mem hr;have:=h j hj;unfold ZU at this;simpa [List.getD,hj] using this
theorem N8 {rs:List Z4} {j:Nat} (hj:j<rs.length) (h:Zn (ZU rs j)=false):rs.all Zn=false:=by
 rw [List.all_eq_false];exact ⟨_,RZ hj,by simp [h]⟩
theorem SQ {rs:List Z4} (h:rs.all Zn=true) {j:Nat} (hj:j<rs.length):Zn (ZU rs j)=true:=by
 rw [List.all_eq_true] at h;exact h _ (RZ hj)
theorem Ry {r:Z4} (h:Zn r=true):1<=r.1/\r.1<=4/\1<=r.2.length/\r.2.length<=4:=by
 unfold Zn at h;simp only [ZJ] at h;have h1:=ZO h.1;have h2:=ZO h.2.1;omega
theorem Yv (rs:List Z4) {k:Nat} (h:k<rs.length):ZW (rs.take (k+1))=ZW (rs.take k)+(ZU rs k).1:=by
 unfold ZW ZU;rw [List.take_succ_eq_append_getElem h,List.map_append,List.sum_append];simp [List.getD,h]
theorem SS {rs:List Z4} (h:rs.all Zn=true):∀ k,k<=rs.length->(k:Int)<=ZW (rs.take k)/\ZW (rs.take k)<=4*k
 | 0,_=>by simp [ZW]
 | k+1,hk=>by
  have ih:=SS h k (by omega);have hb:=Ry (SQ h (j:=k) (by omega));rw [Yv rs (by omega)];omega
theorem TV (rs:List Z4):ZW (rs.take rs.length)=ZW rs:=by rw [List.take_length]
theorem Zd {rs:List Z4} (h:YF rs=true):1<=rs.length/\rs.length<=3/\rs.all Zn=true/\ZW rs<=8:=by
 unfold YF at h;simp only [ZJ,Yg] at h;have h1:=ZO h.1;exact ⟨by omega,by omega,h.2.1,h.2.2⟩
open Go.ChangeShapes Go.WideShapes Go.ChangeAt Go.RowKit Go.Sort Go.Proofs.Tryz
theorem Rb {W w1:World} {B:Nat} (hb:Below B W w1):(∀ b o,b<B->w1.cell? ⟨b,o,none⟩=W.cell? ⟨b,o,none⟩)/\(∀ b o,b<B->w1.frozen? ⟨b,o,none⟩=W.frozen? ⟨b,o,none⟩):=
 ⟨fun b o h=>hb.cell (p:=⟨b,o,none⟩) h,fun b o h=>hb.frozen (p:=⟨b,o,none⟩) h⟩
theorem ZL (lo n hi:Int) (w:World):cE 192 #[.int .i64 lo,.int .i64 n,.int .i64 hi] w (.bool (inB n lo hi)):=by
 by_cases h1:lo<=n
 ·by_cases h2:n<=hi
  all_goals
   go_enter func192,ntmps192
   go_wp2
   go_ret;exact ⟨Z5 (by unfold inB;simp [h1,h2]),rfl⟩
 ·go_enter func192,ntmps192
  go_wp2
  go_ret;exact ⟨Z5 (by unfold inB;simp;omega),rfl⟩
theorem Y4 {P:Nat->Prop} {k:Nat} (h:∀ j,j<k->P j) (hk:P k):∀ j,j<k+1->P j:=fun j hj=>by
 by_cases e:j<k
 ·exact h j e
 ·obtain rfl:j=k:=by omega
  exact hk
theorem YJ {w w':World} {B t size n:Nat} {v:Value} {xs:List Value} (h:w.ownsRow B t size v n xs) (hs:∀ k,v.ownBlock=some k->w'.heap[k]?=w.heap[k]?):w'.ownsRow B t size v n xs:=by
 refine ⟨h.1,?_⟩
 rcases h.2 with hz | ⟨g,cap,cur,rfl,hb,hg,r⟩
 ·exact .inl hz
 ·exact .inr ⟨g,cap,cur,rfl,hb,(hs g rfl).trans hg,r⟩
theorem Tq {w:World} {B B' t size n:Nat} {v:Value} {xs:List Value} (h:w.ownsRow B t size v n xs) (hb:B'<=B):w.ownsRow B' t size v n xs:=by
 refine ⟨h.1,?_⟩
 rcases h.2 with hz | ⟨g,cap,cur,rfl,hb',r⟩
 ·exact .inl hz
 ·exact .inr ⟨g,cap,cur,rfl,by omega,r⟩
def Zq (ps:List Z6):List Value:=ps.flatMap fun p=>[.int .i64 p.1,.int .i64 p.2]
def Xb (qs:List (Z4 × Value)):List Value:=qs.flatMap fun q=>[.int .i64 q.1.1,q.2]
theorem SI {α:Type} {f g:α->Value} : ∀ l:List α,(l.flatMap fun p=>[f p,g p]).length=l.length*2
 | []=>rfl
 | p::l=>by rw [List.flatMap_cons,List.length_append,SI l];simp;omega
theorem WM {α:Type} {f g:α->Value} : ∀ (l:List α) (k:Nat) (h:k<l.length),(l.flatMap fun p=>[f p,g p])[k*2]?=some (f l[k])/\(l.flatMap fun p=>[f p,g p])[k*2+1]?=some (g l[k])
 | p::l,0,_=>by simp
 | p::l,k+1,h=>by
  have ih:=WM (f:=f) (g:=g) l k (by simpa using h);rw [List.flatMap_cons,show (k+1)*2=k*2+2 by omega,show k*2+2+1=(k*2+1)+2 by omega];simpa using ih
def szV (n:Nat) (left:Int):Int:=if left-n<0 then -1 else left-n
theorem TP {n:Nat} {left:Int} (h:left-n<0):szV n left= -1:=by unfold szV;rw [if_pos h]
theorem TQ {n:Nat} {left:Int} (h:¬ left-n<0):szV n left=left-n:=by unfold szV;rw [if_neg h]
def Pairs (xs:List Value) (P:Nat->Value->Value->Prop) (k:Nat):Prop:= ∀ j,j<k-> ∃ u u',xs[j*2]?=some u/\xs[j*2+1]?=some u'/\P j u u'
theorem Pairs.next {xs:List Value} {P:Nat->Value->Value->Prop} {k:Nat} {u u':Value} (h:Pairs xs P k) (hl:k*2+1<xs.length) (hp:P k u u'):Pairs ((xs.set (k*2) u).set (k*2+1) u') P (k+1):=fun j hj=>by
 by_cases e:j<k
 ·obtain ⟨a,a',h1,h2,h3⟩:=h j e
  refine ⟨a,a',?_,?_,h3⟩
  ·rw [List.getElem?_set_ne (by omega),List.getElem?_set_ne (by omega)];exact h1
  ·rw [List.getElem?_set_ne (by omega),List.getElem?_set_ne (by omega)];exact h2
 ·obtain rfl:j=k:=by omega
  refine ⟨u,u',?_,?_,hp⟩
  ·rw [List.getElem?_set_ne (by omega),List.getElem?_set_self (by omega)]
  ·rw [List.getElem?_set_self (by simp;omega)]
theorem Pairs.mono {xs:List Value} {P Q:Nat->Value->Value->Prop} {k:Nat} (h:Pairs xs P k) (hpq:∀ j u u',P j u u'->Q j u u'):Pairs xs Q k:=fun j hj=>by
 obtain ⟨a,a',h1,h2,h3⟩:=h j hj;exact ⟨a,a',h1,h2,hpq _ _ _ h3⟩
def Rl (ps:List Z6) (j:Nat) (u u':Value):Prop:=u= .int .i64 (Z7 ps j).1/\u'= .int .i64 (Z7 ps j).2
theorem IsPaces.of_row {w:World} {B g n cap t:Nat} {ps:List Z6} {xs:List Value} (h:w.ownsRow B t 2 (.slice (some ⟨g,0,none⟩) n cap) n xs) (hp:Pairs xs (Rl ps) ps.length) (hn:n=ps.length):IsPaces w (.slice (some ⟨g,0,none⟩) n cap) ps:=by
 subst hn;have h':=h
 rcases h.2 with ⟨hh,_⟩ | ⟨g',cap',cur,hh,hb,hg,hnc,hcm,r⟩
 ·simp at hh
 ·simp only [Value.slice.injEq,Option.some.injEq,Addr.mk.injEq,and_true,true_and] at hh
  obtain ⟨rfl,rfl⟩:=hh;refine ⟨_,cap,rfl,hnc,by unfold maxLen at hcm;omega,.inr ⟨g,0,rfl,(Array.getElem?_eq_some_iff.1 hg).1,fun k hk=> ?_⟩⟩;obtain ⟨u,u',h1,h2,rfl,rfl⟩:=hp k hk;refine ⟨?_,?_⟩
  ·rw [Nat.zero_add,World.ownsRow.cellAt h' _ (by omega)];exact h1
  ·rw [Nat.zero_add,World.ownsRow.cellAt h' _ (by omega)];exact h2
theorem V7 {w:World} {B g n cap t:Nat} {xs:List Value} (h:w.ownsRow B t 2 (.slice (some ⟨g,0,none⟩) n cap) n xs) {j:Nat} (hj:j<n*2):(∃ c,w.cell? ⟨g,j,none⟩=some c)/\w.frozen? ⟨g,j,none⟩=false:=by
 refine ⟨?_,World.ownsRow.frozenAt h j⟩;rw [World.ownsRow.cellAt h j hj];exact ⟨xs[j]'(by rw [h.1];exact hj),List.getElem?_eq_getElem _⟩
theorem XR {B g:Nat} {w w':World} (hg:w.grownBy w' (some g)) (hB:B<=g) (hs:B<=w.heap.size):Below B w w':=(Z0 B w).grown hg hs (fun k e=>by cases e;exact hB)
theorem XS {a b c:World} {row:Option Nat} (h:a.grownBy b row) (k:b.grownBy c row):a.grownBy c row:=
 ⟨k.os.trans h.os,k.tape.trans h.tape,k.output.trans h.output,YV h.size k.size,fun i hi hn=>(k.block i (ZD hi h.size) hn).trans (h.block i hi hn)⟩
theorem UB {w:World} {B g n cap t:Nat} {xs:List Value} (h:w.ownsRow B t 2 (.slice (some ⟨g,0,none⟩) n cap) n xs) (j:Nat) (u u':Value) :
  ((w.setCell ⟨g,j,none⟩ u).setCell ⟨g,j+1,none⟩ u').ownsRow B t 2 (.slice (some ⟨g,0,none⟩) n cap) n ((xs.set j u).set (j+1) u')/\w.grownBy ((w.setCell ⟨g,j,none⟩ u).setCell ⟨g,j+1,none⟩ u') (some g):=by
 have h1:=World.ownsRow.stored h j u;have h2:=World.ownsRow.stored h1.1 (j+1) u';exact ⟨h2.1,XS h1.2 h2.2⟩
theorem SH {w w':World} {B g n cap t:Nat} {xs:List Value} (h:w.ownsRow B t 2 (.slice (some ⟨g,0,none⟩) n cap) n xs) (hb:Below w.heap.size w w'):w'.ownsRow B t 2 (.slice (some ⟨g,0,none⟩) n cap) n xs:=by
 have hlt:=(World.ownsRow.lt h g rfl).2;refine ⟨h.1,?_⟩
 rcases h.2 with hz | ⟨g',cap',cur,hh,hb',hg,r⟩
 ·exact .inl hz
 ·simp only [Value.slice.injEq,Option.some.injEq,Addr.mk.injEq,and_true,true_and] at hh
  obtain ⟨rfl,rfl⟩:=hh;exact .inr ⟨g,cap,cur,rfl,hb',(hb.block g hlt).trans hg,r⟩
theorem Du (f c:Int):∀ (ps:List Z6) (j:Nat),j<ps.length->((Zq ps).set (j*2) (.int .i64 f)).set (j*2+1) (.int .i64 c)=Zq (ps.set j (f,c))
 | p::ps,0,_=>by simp [Zq]
 | p::ps,j+1,h=>by
  have ih:=Du f c ps j (by simpa using h);unfold Zq at ih ⊢;rw [List.flatMap_cons,show (j+1)*2=j*2+2 by omega,show j*2+2+1=(j*2+1)+2 by omega];simpa using ih
def mps (k:Int) (n:Nat):List Z6:=(List.range n).map fun i:Nat=>(k+2*(i:Int),k+2*(i:Int)+1)
theorem SG (k:Int) (n:Nat):(mps k n).length=n:=by simp [mps]
theorem CI (k:Int) (n i:Nat) (h:i<n):Z7 (mps k n) i=(k+2*(i:Int),k+2*(i:Int)+1):=by unfold Z7 mps;simp [List.getD,h]
def mpd (ps:List Z6) (k:Int) (j:Nat):List Z6:=mps k j++ps.drop j
theorem PH {ps:List Z6} {k:Int} {j:Nat} (h:j<=ps.length):(mpd ps k j).length=ps.length:=by simp [mpd,SG];omega
theorem Ep {ps:List Z6} {k:Int} {j:Nat} (h:j<ps.length):(mpd ps k j).set j (k+2*(j:Int),k+2*(j:Int)+1)=mpd ps k (j+1):=by
 unfold mpd;rw [List.set_append_right _ _ (by simp [SG]),SG,Nat.sub_self,List.drop_eq_getElem_cons h,List.set_cons_zero];simp [mps,List.range_succ]
theorem Dq (ps:List Z6) (k:Int):mpd ps k ps.length=mps k ps.length:=by simp [mpd]
theorem Xr (w:World) (r:Option Nat):w.grownBy w r:=⟨rfl,rfl,rfl,ZY _,fun _ _ _=>rfl⟩
open Go.ChangeShapes Go.WideShapes Go.ChangeAt Go.RowKit Go.Sort
section
variable {α : Type} {t k : Nat} {enc : α → List Value}
def VT (enc:α->List Value) (xs:List α):List Value:=xs.flatMap enc
theorem Wx (hk:∀ x,(enc x).length=k):∀ xs:List α,(VT enc xs).length=xs.length*k
 | []=>by simp [VT]
 | x::xs=>by
  have ih:=Wx hk xs;unfold VT at ih ⊢;rw [List.flatMap_cons,List.length_append,ih,hk,XY,Nat.add_mul];omega
theorem Qe (xs ys:List α):VT enc (xs++ys)=VT enc xs++VT enc ys:=by unfold VT;rw [List.flatMap_append]
def KI (L:List Value) (o:Nat):List Value->List Value
 | []=>L
 | u::us=>KI (L.set o u) (o+1) us
def Sm (w:World) (g o:Nat):List Value->World
 | []=>w
 | u::us=>Sm (w.setCell ⟨g,o,none⟩ u) g (o+1) us
theorem KK:∀ (us L:List Value) (o:Nat),(KI L o us).length=L.length
 | [],L,o=>rfl
 | u::us,L,o=>by unfold KI;rw [KK us];simp
theorem KJ:∀ (us L:List Value) (o m:Nat),o+us.length<=L.length->(KI L o us)[m]?=if o<=m/\m<o+us.length then us[m-o]? else L[m]?
 | [],L,o,m,h=>by unfold KI;rw [if_neg (by simp)]
 | u::us,L,o,m,h=>by
  unfold KI;have ih:=KJ us (L.set o u) (o+1) m (by simp at h ⊢;omega);rw [ih];simp only [XY] at h ⊢;by_cases h1:o+1<=m/\m<o+1+us.length
  ·rw [if_pos h1,if_pos (by omega),show m-o=(m-(o+1))+1 by omega];rfl
  ·rw [if_neg h1]
   by_cases h2:m=o
   ·subst h2;rw [if_pos (by omega),List.getElem?_set_self (by omega)];simp
   ·rw [if_neg (by omega),List.getElem?_set_ne (by omega)]
theorem Kl {B t n cap g sz:Nat} : ∀ (us:List Value) {w:World} {xs:List Value} (o:Nat),w.ownsRow B t sz (.slice (some ⟨g,0,none⟩) n cap) n xs->
  (Sm w g o us).ownsRow B t sz (.slice (some ⟨g,0,none⟩) n cap) n (KI xs o us)/\w.grownBy (Sm w g o us) (some g)
 | [],w,xs,o,h=>⟨h,Xr _ _⟩
 | u::us,w,xs,o,h=>by
  obtain ⟨h1,h2⟩:=World.ownsRow.stored h o u;obtain ⟨h3,h4⟩:=Kl us (o+1) h1;exact ⟨h3,XS h2 h4⟩
def RecAt (t k:Nat) (enc:α->List Value) (n₀:Nat) (w:World) (v:Value) (xs:List α):Prop:=w.ownsRow n₀ t k v xs.length (VT enc xs)
theorem RecAt.lt {n₀:Nat} {w:World} {v:Value} {xs:List α} (h:RecAt t k enc n₀ w v xs) {i:Nat} (hi:v.ownBlock=some i):n₀<=i/\i<w.heap.size:=World.ownsRow.lt h i hi
theorem RecAt.mono {n₀ n₁:Nat} {w:World} {v:Value} {xs:List α} (h:RecAt t k enc n₀ w v xs) (hn:n₁<=n₀):RecAt t k enc n₁ w v xs:=Tq h hn
theorem RecAt.same {n₀:Nat} {w w':World} {v:Value} {xs:List α} (h:RecAt t k enc n₀ w v xs) (hs:∀ i,v.ownBlock=some i->w'.heap[i]?=w.heap[i]?):RecAt t k enc n₀ w' v xs:=YJ h hs
theorem RecAt.later {n₀:Nat} {w w':World} {v:Value} {xs:List α} (h:RecAt t k enc n₀ w v xs) (hb:Below w.heap.size w w'):RecAt t k enc n₀ w' v xs:=h.same fun i hi=>hb.block i (h.lt hi).2
theorem RecAt.grown {n₀:Nat} {w w':World} {v:Value} {xs:List α} {r:Option Nat} (h:RecAt t k enc n₀ w v xs) (hg:w.grownBy w' r) (hr:∀ i,v.ownBlock=some i->r ≠ some i):RecAt t k enc n₀ w' v xs:=h.same fun i hi=>hg.block i (h.lt hi).2 (fun e=>hr i hi e.symm)
theorem RecAt.shape {n₀:Nat} {w:World} {v:Value} {xs:List α} (h:RecAt t k enc n₀ w v xs):∃ a cap,v= .slice a xs.length cap:=by
 rcases h.2 with ⟨rfl,hz⟩ | ⟨g,cap,cur,rfl,_⟩
 ·exact ⟨none,0,by rw [hz]⟩
 ·exact ⟨_,cap,rfl⟩
end
section
variable {α : Type} [Inhabited α] {t k : Nat} {enc : α → List Value}
def Z8 (xs:List α) (j:Nat):α:=xs.getD j default
theorem UF {xs:List α} {j:Nat} (h:j<xs.length):Z8 xs j=xs[j]:=by unfold Z8;simp [List.getD,h]
theorem Vv {xs:List α} {j:Nat} (h:j<xs.length):Z8 xs j ∈ xs:=by rw [UF h];exact List.getElem_mem h
theorem ZC {xs:List α} {i:Nat} {x:α} (h:i<xs.length) (j:Nat):Z8 (xs.set i x) j=if j=i then x else Z8 xs j:=by
 unfold Z8;by_cases e:j=i
 ·subst e;simp [List.getD,h]
 ·rw [if_neg e];simp [List.getD,Ne.symm e]
theorem Ww (hk:∀ x,(enc x).length=k):∀ (xs:List α) (j:Nat),j<xs.length-> ∀ i,i<k->(VT enc xs)[j*k+i]?=(enc (Z8 xs j))[i]?
 | x::xs,0,_,i,hi=>by
  unfold VT Z8;rw [List.flatMap_cons,Nat.zero_mul,Nat.zero_add,List.getElem?_append_left (by rw [hk];exact hi)];rfl
 | x::xs,j+1,h,i,hi=>by
  have ih:=Ww hk xs j (by simpa using h) i hi;unfold VT Z8 at ih ⊢;rw [List.flatMap_cons,List.getElem?_append_right (by rw [hk,Nat.add_mul];omega),hk,show (j+1)*k+i-k=j*k+i by rw [Nat.add_mul];omega,ih];rfl
theorem D6 (hk:∀ x,(enc x).length=k) (h0:0<k) (xs:List α) (j:Nat) (hj:j<xs.length) (x:α):KI (VT enc xs) (j*k) (enc x)=VT enc (xs.set j x):=by
 have hl:=Wx hk xs;have hjk:j*k+k<=xs.length*k:=by rw [<-Nat.succ_mul];exact Nat.mul_le_mul_right k hj
 apply List.ext_getElem?;intro m;by_cases hm:m<xs.length*k
 ·have hd:m / k<xs.length:=(Nat.div_lt_iff_lt_mul h0).2 hm
  have hr:m%k<k:=Nat.mod_lt _ h0;have he:m=m / k*k+m%k:=by rw [Nat.mul_comm];exact (Nat.div_add_mod m k).symm
  have hg:=Ww hk (xs.set j x) (m / k) (by simpa using hd) (m%k) hr;have hg0:=Ww hk xs (m / k) hd (m%k) hr;rw [<-he] at hg hg0;rw [KJ _ _ _ _ (by rw [hl,hk];exact hjk),hg,hk,ZC hj,hg0];by_cases e:m / k=j
  ·rw [if_pos e,if_pos (by rw [<-e];omega),show m-j*k=m%k by rw [<-e];omega]
  ·rw [if_neg e,if_neg]
   intro ⟨h1,h2⟩;apply e;exact Nat.div_eq_of_lt_le h1 (by rw [Nat.succ_mul];exact h2)
 ·rw [List.getElem?_eq_none (by rw [KK,hl];omega),List.getElem?_eq_none (by rw [Wx hk];simp;omega)]
def IsRec (k:Nat) (enc:α->List Value) (w:World) (v:Value) (xs:List α):Prop:=
 ∃ (a:Option Addr) (cap:Nat),v= .slice a xs.length cap/\xs.length<=cap/\cap<=9223372036854775807/\(xs=[]\/ ∃ b off,a=some ⟨b,off,none⟩/\b<w.heap.size/\
  ∀ j,j<xs.length-> ∀ i u,(enc (Z8 xs j))[i]?=some u->w.cell? ⟨b,off+j*k+i,none⟩=some u)
theorem IsRec.below {w w':World} {v:Value} {xs:List α} (h:IsRec k enc w v xs) (hb:Below w.heap.size w w'):IsRec k enc w' v xs:=by
 obtain ⟨a,cap,rfl,hc,hm,hr⟩:=h;refine ⟨a,cap,rfl,hc,hm,?_⟩
 rcases hr with hr | ⟨b,off,rfl,hlt,hcl⟩
 ·exact .inl hr
 ·exact .inr ⟨b,off,rfl,ZD hlt hb.size,fun j hj i u hu=>(hb.cell (p:=⟨b,off+j*k+i,none⟩) hlt).trans (hcl j hj i u hu)⟩
theorem IsRec.shape {w:World} {v:Value} {xs:List α} (h:IsRec k enc w v xs):∃ a cap,v= .slice a xs.length cap/\xs.length<=cap/\cap<=9223372036854775807:=by
 obtain ⟨a,cap,rfl,hc,hm,_⟩:=h;exact ⟨a,cap,rfl,hc,hm⟩
theorem RecAt.recs (hk:∀ x,(enc x).length=k) (h0:0<k) {n₀:Nat} {w:World} {v:Value} {xs:List α} (h:RecAt t k enc n₀ w v xs):IsRec k enc w v xs:=by
 have h':=h
 rcases h.2 with ⟨rfl,hz⟩ | ⟨g,cap,cur,rfl,hb,hg,hnc,hcm,r⟩
 ·exact ⟨none,0,by rw [hz],by omega,by omega,.inl (List.eq_nil_of_length_eq_zero hz)⟩
 ·refine ⟨_,cap,rfl,hnc,by unfold maxLen at hcm;omega,.inr ⟨g,0,rfl,(Array.getElem?_eq_some_iff.1 hg).1,fun j hj i u hu=> ?_⟩⟩
  have hi:i<k:=by
   rcases Nat.lt_or_ge i k with h | h
   ·exact h
   ·rw [List.getElem?_eq_none (by rw [hk];exact h)] at hu;cases hu
  have hjk:j*k+k<=xs.length*k:=by rw [<-Nat.succ_mul];exact Nat.mul_le_mul_right k hj
  rw [Nat.zero_add,World.ownsRow.cellAt h' (j*k+i) (by omega),Ww hk xs j hj i hi];exact hu
theorem RecAt.view (hk:∀ x,(enc x).length=k) (h0:0<k) {n₀ n cap:Nat} {w:World} {a:Option Addr} {xs:List α} (h:RecAt t k enc n₀ w (.slice a n cap) xs) (hn:n=xs.length) (hl:0<xs.length):∃ g,a=some ⟨g,0,none⟩/\n₀<=g/\g<w.heap.size/\
  (∀ j,j<xs.length-> ∀ i u,(enc (Z8 xs j))[i]?=some u->w.cell? ⟨g,j*k+i,none⟩=some u)/\(∀ o,w.frozen? ⟨g,o,none⟩=false):=by
 subst hn;have h':=h
 rcases h.2 with ⟨hv,hz⟩ | ⟨g,cap',cur,hv,hb,hg,hnc,hcm,r⟩
 ·omega
 ·cases hv
  refine ⟨g,rfl,hb,(Array.getElem?_eq_some_iff.1 hg).1,fun j hj i u hu=> ?_,fun o=>World.ownsRow.frozenAt h' o⟩
  have hi:i<k:=by
   rcases Nat.lt_or_ge i k with h | h
   ·exact h
   ·rw [List.getElem?_eq_none (by rw [hk];exact h)] at hu;cases hu
  have hjk:j*k+k<=xs.length*k:=by rw [<-Nat.succ_mul];exact Nat.mul_le_mul_right k hj
  rw [World.ownsRow.cellAt h' (j*k+i) (by omega),Ww hk xs j hj i hi];exact hu
theorem RecAt.put (hk:∀ x,(enc x).length=k) (h0:0<k) {n₀ n cap g:Nat} {w:World} {xs:List α} (h:RecAt t k enc n₀ w (.slice (some ⟨g,0,none⟩) n cap) xs) (hn:n=xs.length) {j:Nat} (hj:j<xs.length) (x:α) :
  RecAt t k enc n₀ (Sm w g (j*k) (enc x)) (.slice (some ⟨g,0,none⟩) n cap) (xs.set j x)/\w.grownBy (Sm w g (j*k) (enc x)) (some g):=by
 subst hn;obtain ⟨h1,h2⟩:=Kl (enc x) (j*k) h;rw [D6 hk h0 xs j hj x] at h1;refine ⟨?_,h2⟩;unfold RecAt;rw [UX];exact h1
end
end Go.Proofs.YtgdpaigcmoifbaaGreatDoor
namespace Go.Proofs.YtgdpaigcmoifbaaGreatDoor
open Go.ChangeShapes Go.WideShapes Go.ChangeAt Go.RowKit Go.Sort
set_option linter.unusedVariables false
section
variable {α : Type} {t k : Nat} {enc : α → List Value}
def WI (xs:List α) (z:α) (j:Nat):List α:=xs.take j++List.replicate (xs.length-j) z
theorem Sw {xs:List α} {z:α} {j:Nat} (h:j<=xs.length):(WI xs z j).length=xs.length:=by unfold WI;simp;omega
theorem T0 (xs:List α) (z:α):WI xs z 0=List.replicate xs.length z:=by unfold WI;simp
theorem Sv (xs:List α) (z:α):WI xs z xs.length=xs:=by unfold WI;simp
theorem Sx [Inhabited α] {xs:List α} {z:α} {j:Nat} (h:j<xs.length):(WI xs z j).set j (Z8 xs j)=WI xs z (j+1):=by
 unfold WI;have hl:(xs.take j).length=j:=by simp;omega
 rw [List.set_append_right _ _ (by rw [hl];exact Nat.le_refl _),hl,Nat.sub_self,UF h,List.take_succ_eq_append_getElem h,List.append_assoc]
 congr 1
 obtain ⟨m,hm⟩:∃ m,xs.length-j=m+1:=⟨xs.length-j-1,by omega⟩
 rw [hm,List.replicate_succ,List.set_cons_zero,show xs.length-(j+1)=m by omega];rfl
def WL (mk:Int->α) (d:Nat) (c:Int) (n:Nat):List α:=(List.range n).map fun i:Nat=>mk (c+(d:Int)*(i:Int))
theorem Yk (mk:Int->α) (d:Nat) (c:Int) (n:Nat):(WL mk d c n).length=n:=by simp [WL]
theorem OV [Inhabited α] (mk:Int->α) (d:Nat) (c:Int) {n i:Nat} (h:i<n):Z8 (WL mk d c n) i=mk (c+(d:Int)*(i:Int)):=by unfold Z8 WL;simp [List.getD,h]
def XK (mk:Int->α) (d:Nat) (c:Int) (xs:List α) (j:Nat):List α:=WL mk d c j++xs.drop j
theorem Tl {mk:Int->α} {d:Nat} {c:Int} {xs:List α} {j:Nat} (h:j<=xs.length):(XK mk d c xs j).length=xs.length:=by unfold XK;simp [Yk];omega
theorem Ud (mk:Int->α) (d:Nat) (c:Int) (xs:List α):XK mk d c xs 0=xs:=by unfold XK WL;simp
theorem Tk (mk:Int->α) (d:Nat) (c:Int) (xs:List α):XK mk d c xs xs.length=WL mk d c xs.length:=by unfold XK;simp
theorem Tm {mk:Int->α} {d:Nat} {c:Int} {xs:List α} {j:Nat} (h:j<xs.length):(XK mk d c xs j).set j (mk (c+(d:Int)*(j:Int)))=XK mk d c xs (j+1):=by
 unfold XK;rw [List.set_append_right _ _ (by rw [Yk];exact Nat.le_refl _),Yk,Nat.sub_self,List.drop_eq_getElem_cons h,List.set_cons_zero];simp [WL,List.range_succ]
theorem SF [Inhabited α] (hk:∀ x,(enc x).length=k) (h0:0<k) (z:α) (zs:Array Value) (hz:zs.toList=enc z) (n:Nat):(madeCells zs (n*k)).toList=VT enc (List.replicate n z):=by
 have hs:zs.size=k:=by rw [<-Array.length_toList,hz,hk]
 apply List.ext_getElem?;intro m;by_cases hm:m<n*k
 ·have hd:m / k<n:=(Nat.div_lt_iff_lt_mul h0).2 hm
  have hr:m%k<k:=Nat.mod_lt _ h0;have he:m=m / k*k+m%k:=by rw [Nat.mul_comm];exact (Nat.div_add_mod m k).symm
  have hg:=Ww hk (List.replicate n z) (m / k) (by simpa using hd) (m%k) hr;rw [<-he] at hg;have hrec:Z8 (List.replicate n z) (m / k)=z:=by unfold Z8;simp [List.getD,hd]
  rw [hg,hrec,<-hz];simp [madeCells,hm,hs,hr]
 ·rw [List.getElem?_eq_none (by simp [madeCells];omega),List.getElem?_eq_none (by rw [Wx hk];simp;omega)]
end
end Go.Proofs.YtgdpaigcmoifbaaGreatDoor
namespace Go.Proofs.YtgdpaigcmoifbaaGreatDoor
open Go.ChangeShapes Go.WideShapes Go.ChangeAt Go.RowKit Go.Sort Go.Proofs.Tryz
set_option linter.unusedVariables false
abbrev ZG:=Int × Int × Int
def Vf (p:ZG):List Value:=[.int .i64 p.1,.int .i64 p.2.1,.int .i64 p.2.2]
theorem XH (p:ZG):(Vf p).length=3:=rfl
abbrev Y9 (w:World) (v:Value) (ps:List ZG):Prop:=IsRec 3 Vf w v ps
abbrev GuildsAt (n₀:Nat) (w:World) (v:Value) (ps:List ZG):Prop:=RecAt 97 3 Vf n₀ w v ps
theorem Fw:(prog.info? 97).map (fun i=>(i.zero,i.size,i.bytes))=some (some (.agg #[.int .i64 0,.int .i64 0,.int .i64 0]),3,24):=by kernel_rfl
theorem GuildsAt.list {n₀:Nat} {w:World} {v:Value} {ps:List ZG} (h:GuildsAt n₀ w v ps):Y9 w v ps:=RecAt.recs XH (by omega) h
theorem Xs {w:World} {b off:Nat} {ps:List ZG} (h:∀ j,j<ps.length-> ∀ i u,(Vf (Z8 ps j))[i]?=some u->w.cell? ⟨b,off+j*3+i,none⟩=some u) {j:Nat} (hj:j<ps.length) :
  w.cell? ⟨b,off+j*3,none⟩=some (.int .i64 (Z8 ps j).1)/\w.cell? ⟨b,off+j*3+1,none⟩=some (.int .i64 (Z8 ps j).2.1)/\w.cell? ⟨b,off+j*3+2,none⟩=some (.int .i64 (Z8 ps j).2.2):=
 ⟨h j hj 0 _ rfl,h j hj 1 _ rfl,h j hj 2 _ rfl⟩
theorem My (a:Option Addr) (n cap:Nat) (left:Int) (hn:n<=9223372036854775807) (h0:0<=left) (h1:left<=1048576) (w:World) :
  cE 21 #[.slice a n cap,.int .i64 left] w (.int .i64 (szV n left)):=by
 by_cases h:left-n<0
 all_goals
  go_enter func21,ntmps21
  go_wp2
  go_ret;exact ⟨ZQ (by first | exact (TP (by omega)).symm | exact (TQ (by omega)).symm),rfl⟩
theorem JI (x0:Int) (x1:Int) (x2:Int) (w:World) :
  cB 84 #[.agg #[.int .i64 x0,.int .i64 x1,.int .i64 x2],.agg #[.int .i64 x0,.int .i64 x1,.int .i64 x2]] w (.bool true):=by
 go_enter func84,ntmps84;go_wp2_with fail;go_ret;exact ⟨rfl,((ba _ _)).alloc (by simp) _⟩
theorem LH {w:World} {v u:Value} {ps:List ZG} (hv:Y9 w v ps) (hu:Y9 w u ps) :
  cB 41 #[v,u] w (.bool true):=by
 obtain ⟨a,cap,rfl,hc,hm,hr⟩:=hv;obtain ⟨a',cap',rfl,hc',hm',hr'⟩:=hu;have Hr:=Z9 hr;have Hr':=Z9 hr';clear hr hr';go_enter func41,ntmps41;go_wp2_with fail
 go_loopw [5] (fun i wr=> ∃ k:Nat,k<=ps.length/\i= .int .i64 k/\Below w.heap.size w wr) (fun i _=>ps.length-(intOf i).toNat)
 case atStart=>exact ⟨0,ZR _,rfl,Z0 _ _⟩
 case round=>
  obtain ⟨k,hk,rfl,hb⟩:=hrel;have Hb:=Z9 hb;by_cases hlt:k<ps.length
  ·rcases uh Hr with h0 | ⟨b,off,rfl,hbw,hcl⟩
   ·rw [h0] at hlt;simp at hlt
   rcases uh Hr' with h0 | ⟨b',off',rfl,hbw',hcl'⟩
   ·rw [h0] at hlt;simp at hlt
   obtain ⟨c0,c1,c2⟩:=Xs hcl hlt;obtain ⟨d0,d1,d2⟩:=Xs hcl' hlt;generalize Z8 ps k=p at *;obtain ⟨x0,x1,x2⟩:=p;simp only at c0 c1 c2 d0 d1 d2;have k0:=Z1 ((hb.cell (p:=⟨b,off+k*3,none⟩) hbw).trans c0);have m0:=Z1 ((hb.cell (p:=⟨b',off'+k*3,none⟩) hbw').trans d0);have k1:=Z1 ((hb.cell (p:=⟨b,off+k*3+1,none⟩) hbw).trans c1);have m1:=Z1 ((hb.cell (p:=⟨b',off'+k*3+1,none⟩) hbw').trans d1);have k2:=Z1 ((hb.cell (p:=⟨b,off+k*3+2,none⟩) hbw).trans c2);have m2:=Z1 ((hb.cell (p:=⟨b',off'+k*3+2,none⟩) hbw').trans d2);clear hcl hcl' hb c0 c1 c2 d0 d1 d2;go_wp2_with fail;refine wq ?_
   repeat (go_big_quiet_step (exact ZX (JI _ _ _ _)))
   refine wpQuiet_nil ?_;intro _ hw';obtain ⟨⟨dq,osq⟩,hw''⟩:=hw';subst hw'';go_wp2_with fail;go_roundw
   case rel=>exact ⟨k+1,by omega,by go_num,(uh Hb).trans ((Z2 _ _ _).mono (uh Hb).size)⟩
   case measure=>exact ms
  ·go_wp2_with fail
   go_ret;exact ⟨rfl,hb⟩
theorem KU (x0:Int) (x1:Int) (x2:Int) (w:World) :
  cB 73 #[.agg #[.int .i64 x0,.int .i64 x1,.int .i64 x2]] w (.agg #[.int .i64 x0,.int .i64 x1,.int .i64 x2]):=by
 go_enter func73,ntmps73;go_wp2_with fail;exact Y7 (v:= .agg #[.int .i64 x0,.int .i64 x1,.int .i64 x2]) (by simp [results,results73,go_sem]) rfl ⟨rfl,(((ba _ _)).alloc (by simp) _).alloc (by simp;omega) _⟩
theorem RD {w:World} {v:Value} {ps:List ZG} (h:Y9 w v ps) (hs:ps.length<=1048576) :
  Calls prog 32 #[v] w fun e w'=> ∃ v',e= .returned v'/\GuildsAt w.heap.size w' v' ps/\Below w.heap.size w w':=by
 obtain ⟨a,cap,rfl,hc,hm,hr⟩:=h;have Hr:=Z9 hr;clear hr;obtain ⟨i0,hi,hz0,hz1,hz2⟩:=info_parts Fw;go_enter func32,ntmps32;go_wp2_with (at_make;refine wpList_make_full _ rfl _ _ 35 rfl w.heap.size 97 i0 (.agg #[.int .i64 0,.int .i64 0,.int .i64 0]) 3 underlying35 hi hz0 hz1 _ _ _ _ ps.length rfl rfl rfl rfl (by rw [hz2];omega) (by unfold maxLen;omega) (ZY _) ?_;intro w0 hown hgrow)
 have Hown:Hid (GuildsAt w.heap.size w0 (.slice (some ⟨w.heap.size,0,none⟩) ps.length ps.length) (WI ps (0,0,0) 0)):=Z9 (by
  rw [SF XH (by omega) (0,0,0) (Value.agg #[.int .i64 0,.int .i64 0,.int .i64 0]).cells rfl ps.length] at hown;rw [T0];show w0.ownsRow _ _ _ _ (List.replicate ps.length _).length _;rw [List.length_replicate]
  exact hown)
 have Hgr:=Z9 hgrow;clear hown hgrow
 go_loopw [4] (fun i wr=> ∃ k:Nat,k<=ps.length/\i= .int .i64 k/\GuildsAt w.heap.size wr (.slice (some ⟨w.heap.size,0,none⟩) ps.length ps.length) (WI ps (0,0,0) k)/\Below w.heap.size w wr) (fun i _=>ps.length-(intOf i).toNat)
 case atStart=>exact ⟨0,ZR _,rfl,uh Hown,(Z0 _ _).grown (uh Hgr) (ZY _) (fun k e=>by cases e)⟩
 case round=>
  obtain ⟨k,hk,rfl,hown,hb⟩:=hrel;have Hb:=Z9 hb;by_cases hlt:k<ps.length
  ·rcases uh Hr with h0 | ⟨b,off,rfl,hbw,hcl⟩
   ·rw [h0] at hlt;simp at hlt
   obtain ⟨c0,c1,c2⟩:=Xs hcl hlt;rw [<-hb.cell (p:=⟨b,off+k*3,none⟩) hbw] at c0;rw [<-hb.cell (p:=⟨b,off+k*3+1,none⟩) hbw] at c1;rw [<-hb.cell (p:=⟨b,off+k*3+2,none⟩) hbw] at c2;have Ho:=Z9 hown;have HS:=Z9 (Sx (z:=((0,0,0):ZG)) hlt);generalize hp:Z8 ps k=p at *;obtain ⟨x0,x1,x2⟩:=p;simp only at c0 c1 c2;clear hcl hb hown hp;go_wp2_with fail;refine ck (KU _ _ _ _) fun w1 hb1=> ?_;have ho1:=RecAt.later (uh Ho) hb1;have hfl:=Sw (z:=((0,0,0):ZG)) hk;obtain ⟨g,hg,_,_,hcells,hfz⟩:=RecAt.view XH (by omega) ho1 hfl.symm (by omega);cases hg;have hq:=fun i u hu=>hcells k (by omega) i u hu;generalize Z8 (WI ps (0,0,0) k) k=old at hq;have o0:=hq 0 _ rfl;have f0:=hfz (k*3);have o1:=hq 1 _ rfl;have f1:=hfz (k*3+1);have o2:=hq 2 _ rfl;have f2:=hfz (k*3+2);simp only [Nat.add_zero] at o0;have Hp2:=Z9 (RecAt.put XH (by omega) ho1 hfl.symm (j:=k) (by omega) (x0,x1,x2));have Hb1:=Z9 hb1;have hsz:=hb1.size;have hsz0:=(uh Hb).size;clear ho1 hb1 hcells hq hfz hfl;go_wp2_with fail;go_roundw
   case rel=>exact ⟨k+1,by omega,by go_num,by have h9:=(uh Hp2).1;rw [uh HS] at h9;exact h9,((uh Hb).trans ((uh Hb1).mono hsz0)).trans (XR (uh Hp2).2 (ZY _) (by omega))⟩
   case measure=>exact ms
  ·obtain rfl:k=ps.length:=by omega
   rw [Sv] at hown;go_wp2_with fail;go_ret;exact ⟨_,rfl,hown,hb⟩
theorem RT (f c:Int) (w:World):cB 274 #[.agg #[.int .i64 f,.int .i64 c]] w (.bool (UC (f,c))):=by
 cases h1:inB f 1 1024
 ·go_enter func274,ntmps274
  go_wp2_with fail;refine (ZL _ _ _ _).mono ?_;rintro e w' ⟨rfl,rfl⟩;go_wp2_with fail;go_ret;exact ⟨Z5 (by unfold UC;simp [h1]),(ba _ _)⟩
 ·go_enter func274,ntmps274
  go_wp2_with fail;refine (ZL _ _ _ _).mono ?_;rintro e w' ⟨rfl,rfl⟩;go_wp2_with fail;refine (ZL _ _ _ _).mono ?_;rintro e w' ⟨rfl,rfl⟩;go_wp2_with fail;go_ret;exact ⟨Z5 (by unfold UC;simp [h1]),(ba _ _)⟩
theorem Tc (f c f' c':Int) (w:World):cB 275 #[.agg #[.int .i64 f,.int .i64 c],.agg #[.int .i64 f',.int .i64 c']] w (.bool (RJ (f,c) (f',c'))):=by
 by_cases h1:f'<f
 ·go_enter func275,ntmps275
  go_wp2_with fail
  all_goals
   go_ret;exact ⟨Z5 (by unfold RJ;simp [h1]),((ba _ _)).alloc (by simp) _⟩
 ·go_enter func275,ntmps275
  go_wp2_with fail
  all_goals
   go_ret;exact ⟨Z5 (by unfold RJ;simp;omega),((ba _ _)).alloc (by simp) _⟩
theorem DA {ps:List Z6} {k:Nat} {p:Z6} (hp:Z7 ps k=p) (h:UC p=false):Xi ps k=false:=by unfold Xi;rw [hp];simp [h]
theorem Dy {ps:List Z6} {p:Z6} (hp:Z7 ps 0=p) (h:UC p=true):Xi ps 0=true:=by unfold Xi;rw [hp];simp [h]
theorem GL {ps:List Z6} {k:Nat} {p q:Z6} (hp:Z7 ps (k+1)=p) (hq:Z7 ps k=q) (h:UC p=true):Xi ps (k+1)=RJ p q:=by unfold Xi;simp [hp,hq,h]
theorem Ks {w:World} {v:Value} {ps:List Z6} (h:IsPaces w v ps) :
  cB 265 #[v] w (.bool (Uj ps)):=by
 obtain ⟨a,cap,rfl,hc,hm,hr⟩:=h;have Hr:=Z9 hr;clear hr;go_enter func265,ntmps265;go_wp2_with fail
 go_loopw [7] (fun i wr=> ∃ k:Nat,k<=ps.length/\i= .int .i64 k/\(∀ j,j<k->Xi ps j=true)/\Below w.heap.size w wr) (fun i _=>ps.length-(intOf i).toNat)
 case atStart=>exact ⟨0,ZR _,rfl,fun j hj=>by omega,Z0 _ _⟩
 case round=>
  obtain ⟨k,hk,rfl,hst,hb⟩:=hrel;have Hst:=Z9 hst;have Hb:=Z9 hb;clear hst;by_cases hlt:k<ps.length
  ·rcases uh Hr with h0 | ⟨b,off,rfl,hbw,hcl⟩
   ·rw [h0] at hlt;simp at hlt
   have hbr:b<wr.heap.size:=ZD hbw hb.size;have hne:b ≠ wr.heap.size:=Vd hbr;obtain ⟨c0,c1⟩:=hcl k hlt;rw [<-hb.cell (p:=⟨b,off+k*2,none⟩) hbw] at c0;rw [<-hb.cell (p:=⟨b,off+k*2+1,none⟩) hbw] at c1;generalize hp:Z7 ps k=p at c0 c1;have Hp:=Z9 hp;clear hp;obtain ⟨f,c⟩:=p;simp only at c0 c1;have d0:(wr.alloc (.cells #[.int .i64 f,.int .i64 c] 168)).cell? ⟨wr.heap.size,0,none⟩=some (.int .i64 f):=by simp
   have d1:(wr.alloc (.cells #[.int .i64 f,.int .i64 c] 168)).cell? ⟨wr.heap.size,1,none⟩=some (.int .i64 c):=by simp
   have k0:=Z1 d0;have k1:=Z1 d1;clear d0 d1;cases hpb:UC (f,c)
   ·clear hcl
    go_wp2_with fail;refine wq ?_
    repeat (go_big_quiet_step (first | exact ZX (RT _ _ _) | exact ZX (Tc _ _ _ _ _)))
    refine wpQuiet_nil ?_;intro _ hw';obtain ⟨⟨dq,osq⟩,hw''⟩:=hw';subst hw'';go_wp2_with fail;go_ret;exact ⟨Z5 (UD hlt (DA (uh Hp) hpb)).symm,(uh Hb).trans (((Z0 _ _).alloc (uh Hb).size _).trans ((Z2 _ _ _).mono (by simp;have:=(uh Hb).size;omega)))⟩
   ·by_cases hz:0<k
    ·have hd:decide (0<k)=true:=Sf hz
     obtain ⟨e0,e1⟩:=hcl (k-1) (by omega);rw [<-hb.cell (p:=⟨b,off+(k-1)*2,none⟩) hbw] at e0;rw [<-hb.cell (p:=⟨b,off+(k-1)*2+1,none⟩) hbw] at e1;generalize hq:Z7 ps (k-1)=q at e0 e1;have Hq:=Z9 hq;clear hq;obtain ⟨f',c'⟩:=q;simp only at e0 e1;have m0:=Z1 (w:=wr.alloc (.cells #[.int .i64 f,.int .i64 c] 168)) (a:=⟨b,off+(k-1)*2,none⟩) (v:= .int .i64 f') (by rw [World.cell?_alloc_old _ _ _ hne];exact e0);have m1:=Z1 (w:=wr.alloc (.cells #[.int .i64 f,.int .i64 c] 168)) (a:=⟨b,off+(k-1)*2+1,none⟩) (v:= .int .i64 c') (by rw [World.cell?_alloc_old _ _ _ hne];exact e1);clear hcl e0 e1;cases hab:RJ (f,c) (f',c')
     all_goals
      go_wp2_with fail;refine wq ?_
      repeat (go_big_quiet_step (first | exact ZX (RT _ _ _) | exact ZX (Tc _ _ _ _ _)))
      refine wpQuiet_nil ?_;intro _ hw';obtain ⟨⟨dq,osq⟩,hw''⟩:=hw';subst hw'';go_wp2_with fail
     ·go_ret
      exact ⟨Z5 (UD hlt (by obtain ⟨m,rfl⟩:∃ m,k=m+1:=⟨k-1,by omega⟩;rw [GL (uh Hp) (uh Hq) hpb];exact hab)).symm,(uh Hb).trans (((Z0 _ _).alloc (uh Hb).size _).trans ((Z2 _ _ _).mono (by simp;have:=(uh Hb).size;omega)))⟩
     ·have hs:Xi ps k=true:=by obtain ⟨m,rfl⟩:∃ m,k=m+1:=⟨k-1,by omega⟩;rw [GL (uh Hp) (uh Hq) hpb];exact hab
      go_roundw
      case rel=>exact ⟨k+1,by omega,by go_num,Y4 (uh Hst) hs,(uh Hb).trans (((Z0 _ _).alloc (uh Hb).size _).trans ((Z2 _ _ _).mono (by simp;have:=(uh Hb).size;omega)))⟩
      case measure=>exact ms
    ·obtain rfl:k=0:=by omega
     simp only [Nat.zero_mul,Nat.add_zero] at c0 c1;clear hcl hz;go_wp2_with fail;refine wq ?_
     repeat (go_big_quiet_step (first | exact ZX (RT _ _ _) | exact ZX (Tc _ _ _ _ _)))
     refine wpQuiet_nil ?_;intro _ hw';obtain ⟨⟨dq,osq⟩,hw''⟩:=hw';subst hw'';go_wp2_with fail;go_roundw
     case rel=>exact ⟨1,by omega,by go_num,Y4 (uh Hst) (Dy (uh Hp) hpb),(uh Hb).trans (((Z0 _ _).alloc (uh Hb).size _).trans ((Z2 _ _ _).mono (by simp;have:=(uh Hb).size;omega)))⟩
     case measure=>exact ms
  ·obtain rfl:k=ps.length:=by omega
   go_wp2_with fail;go_ret;exact ⟨Z5 (Kq (uh Hst)).symm,hb⟩
open Go.ChangeShapes Go.WideShapes Go.ChangeAt Go.RowKit Go.Sort
def Yq (lo hi:Int):Bool:=inB lo 0 1024 && inB hi 0 1024 && decide (lo<=hi)
theorem Ew {lo hi:Int} (h:Yq lo hi=true):0<=lo/\lo<=1024/\0<=hi/\hi<=1024/\lo<=hi:=by
 unfold Yq at h;simp only [ZJ,Yg] at h;obtain ⟨⟨h1,h2⟩,h3⟩:=h;exact ⟨(ZO h1).1,(ZO h1).2,(ZO h2).1,(ZO h2).2,h3⟩
def XI (g:ZG) (n:Int):Bool:=inB g.1 (-1) (n-1) && Yq g.2.1 g.2.2
theorem MK {g:ZG} {n:Int} (h:XI g n=true) : -1<=g.1/\g.1<=n-1/\Yq g.2.1 g.2.2=true:=by
 unfold XI at h;simp only [ZJ] at h;exact ⟨(ZO h.1).1,(ZO h.1).2,h.2⟩
def TB (ps:List ZG) (k:Nat):Bool:=(List.range k).all fun i=>XI (Z8 ps i) i
theorem Pt (ps:List ZG) (k:Nat):TB ps (k+1)=(TB ps k && XI (Z8 ps k) k):=by unfold TB;rw [List.range_succ,List.all_append];simp
theorem DJ {ps:List ZG} {k n:Nat} (hk:k<n) (h:XI (Z8 ps k) k=false):TB ps n=false:=by
 unfold TB;rw [List.all_eq_false];exact ⟨k,List.mem_range.2 hk,by simp [h]⟩
theorem E5 {ps:List ZG} {k n:Nat} (h:TB ps n=true) (hk:k<n):XI (Z8 ps k) k=true:=by
 unfold TB at h;exact List.all_eq_true.1 h k (List.mem_range.2 hk)
def Zk (ps:List ZG):Bool:=TB ps ps.length && decide (ps.length<=6)
theorem RQ {ps:List ZG} (h:Zk ps=true):TB ps ps.length=true/\ps.length<=6:=by
 unfold Zk at h;simpa using h
theorem QJ {ps:List ZG} {k:Nat} (hk:k<ps.length) (h:XI (Z8 ps k) k=false):Zk ps=false:=by unfold Zk;rw [DJ hk h];rfl
theorem LM {ps:List ZG} (h:6<ps.length):Zk ps=false:=by unfold Zk;simp;omega
theorem T7 {ps:List ZG} (h:Zk ps=true) {g:Int} (h0:0<=g) (h1:g<ps.length) : -1<=(Z8 ps g.toNat).1/\(Z8 ps g.toNat).1<=g-1/\Yq (Z8 ps g.toNat).2.1 (Z8 ps g.toNat).2.2=true:=by
 have:=MK (E5 (RQ h).1 (k:=g.toNat) (by omega));rw [show ((g.toNat:Nat):Int)=g by omega] at this;exact this
def VE (b:Int × Int) (lo hi:Int):Int × Int:=(min (max lo b.1) b.2,min (max hi (min (max lo b.1) b.2)) b.2)
def QB (ps:List ZG):Nat->Int->Int × Int
 | 0,_=>(0,1024)
 | n+1,g=>if g<0 then (0,1024) else VE (QB ps n (Z8 ps g.toNat).1) (Z8 ps g.toNat).2.1 (Z8 ps g.toNat).2.2
def bnd (ps:List ZG) (g:Int):Int × Int:=QB ps (g+1).toNat g
theorem GB {b:Int × Int} {lo hi:Int} (h0:0<=b.1) (h1:b.1<=b.2) (h2:b.2<=1024):b.1<=(VE b lo hi).1/\(VE b lo hi).1<=(VE b lo hi).2/\(VE b lo hi).2<=b.2:=by
 unfold VE;refine ⟨?_,?_,?_⟩<;>simp only<;>omega
theorem Gn (ps:List ZG):∀ (n:Nat) (g:Int),0<=(QB ps n g).1/\(QB ps n g).1<=(QB ps n g).2/\(QB ps n g).2<=1024
 | 0,g=>by unfold QB;simp
 | n+1,g=>by
  unfold QB
  split
  ·simp
  ·obtain ⟨h0,h1,h2⟩:=Gn ps n (Z8 ps g.toNat).1
   obtain ⟨h3,h4,h5⟩:=GB (lo:=(Z8 ps g.toNat).2.1) (hi:=(Z8 ps g.toNat).2.2) h0 h1 h2;exact ⟨by omega,h4,by omega⟩
theorem Cs (ps:List ZG) (g:Int):0<=(bnd ps g).1/\(bnd ps g).1<=(bnd ps g).2/\(bnd ps g).2<=1024:=Gn ps _ g
theorem MH {ps:List ZG} (h:Zk ps=true):∀ (n m:Nat) (g:Int),g<n->g<m->g<ps.length->QB ps n g=QB ps m g
 | 0,0,g,_,_,_=>rfl
 | 0,m+1,g,h1,h2,h3=>by unfold QB;rw [if_pos (by omega)]
 | n+1,0,g,h1,h2,h3=>by unfold QB;rw [if_pos (by omega)]
 | n+1,m+1,g,h1,h2,h3=>by
  unfold QB;by_cases h0:g<0
  ·rw [if_pos h0,if_pos h0]
  ·rw [if_neg h0,if_neg h0]
   obtain ⟨a0,a1,_⟩:=T7 h (g:=g) (by omega) h3;rw [MH h n m (Z8 ps g.toNat).1 (by omega) (by omega) (by omega)]
theorem Rd (ps:List ZG) {g:Int} (h:g<0):bnd ps g=(0,1024):=by
 unfold bnd;rw [show (g+1).toNat=0 by omega];rfl
theorem Ju {ps:List ZG} (h:Zk ps=true) {g:Int} (h0:0<=g) (h1:g<ps.length):bnd ps g=VE (bnd ps (Z8 ps g.toNat).1) (Z8 ps g.toNat).2.1 (Z8 ps g.toNat).2.2:=by
 obtain ⟨a0,a1,_⟩:=T7 h h0 h1;unfold bnd;rw [show (g+1).toNat=g.toNat+1 by omega];show (if g<0 then (0,1024) else _)=_;rw [if_neg (by omega),MH h g.toNat ((Z8 ps g.toNat).1+1).toNat _ (by omega) (by omega) (by omega)]
def isB (ps:List ZG) (g:Int):Bool:=Zk ps && inB g (-1) ((ps.length:Int)-1)
def Uq (ps:List ZG) (g lo hi:Int):Int × Int:=if isB ps g && Yq lo hi then VE (bnd ps g) lo hi else (-1,-1)
theorem Nu {ps:List ZG} {g lo hi:Int} (h:(isB ps g && Yq lo hi)=false):Uq ps g lo hi=(-1,-1):=by unfold Uq;rw [h];rfl
theorem Nv {ps:List ZG} {g lo hi:Int} (h:isB ps g=true) (h':Yq lo hi=true):Uq ps g lo hi=VE (bnd ps g) lo hi:=by unfold Uq;rw [h,h'];rfl
theorem Dt {lo hi:Int} (h0:0<=lo) (h1:lo<=hi) (h2:hi<=1024):Yq lo hi=true:=by unfold Yq;rw [Zf h0 (by omega),Zf (by omega) h2];simp;omega
theorem Mn {lo hi:Int} (h:lo<0\/hi<lo\/1024<hi):Yq lo hi=false:=by
 cases e:Yq lo hi
 ·rfl
 ·have:=Ew e;omega
theorem UO (lo hi:Int) (w:World):cE 211 #[.int .i64 lo,.int .i64 hi] w (.bool (Yq lo hi)):=by
 by_cases h1:0<=lo
 ·by_cases h2:lo<=hi
  ·by_cases h3:hi<=1024
   all_goals
    go_enter func211,ntmps211
    go_wp2
    go_ret;exact ⟨Z5 (by first | exact (Dt h1 h2 h3).symm | exact (Mn (by omega)).symm),rfl⟩
  ·go_enter func211,ntmps211
   go_wp2
   go_ret;exact ⟨Z5 (Mn (by omega)).symm,rfl⟩
 ·go_enter func211,ntmps211
  go_wp2
  go_ret;exact ⟨Z5 (Mn (by omega)).symm,rfl⟩
theorem S0 (a lo hi n:Int) (w:World):cB 217 #[.agg #[.int .i64 a,.int .i64 lo,.int .i64 hi],.int .i64 n] w (.bool (XI (a,lo,hi) n)):=by
 by_cases h1 : -1<=a
 ·by_cases h2:a<n
  ·have hg:XI (a,lo,hi) n=Yq lo hi:=by unfold XI;rw [Zf h1 (by omega)];rfl
   rw [hg];clear hg;go_enter func217,ntmps217;go_wp2_with (go_at_call 211;refine (UO _ _ _).mono ?_;rintro e w' ⟨rfl,rfl⟩)
   go_ret;exact ⟨rfl,(ba _ _)⟩
  ·have hg:XI (a,lo,hi) n=false:=by unfold XI;rw [Xt (.inr (by omega))];rfl
   rw [hg];clear hg;go_enter func217,ntmps217;go_wp2_with fail;go_ret;exact ⟨rfl,(ba _ _)⟩
 ·have hg:XI (a,lo,hi) n=false:=by unfold XI;rw [Xt (.inl (by omega))];rfl
  rw [hg];clear hg;go_enter func217,ntmps217;go_wp2_with fail;go_ret;exact ⟨rfl,(ba _ _)⟩
theorem Xk {w:World} {v:Value} {ps:List ZG} (h:Y9 w v ps) :
  cB 187 #[v] w (.bool (Zk ps)):=by
 obtain ⟨a,cap,rfl,hc,hm,hr⟩:=h;have Hr:=Z9 hr;clear hr;by_cases hbig:6<ps.length
 ·go_enter func187,ntmps187
  go_wp2_with fail;go_ret;exact ⟨Z5 (LM hbig).symm,Z0 _ _⟩
 go_enter func187,ntmps187;go_wp2_with fail
 go_loopw [10] (fun i wr=> ∃ k:Nat,k<=ps.length/\i= .int .i64 k/\TB ps k=true/\Below w.heap.size w wr) (fun i _=>ps.length-(intOf i).toNat)
 case atStart=>exact ⟨0,ZR _,rfl,rfl,Z0 _ _⟩
 case round=>
  obtain ⟨k,hk,rfl,hst,hb⟩:=hrel;have Hst:=Z9 hst;have Hb:=Z9 hb;clear hst;by_cases hlt:k<ps.length
  ·rcases uh Hr with h0 | ⟨b,off,rfl,hbw,hcl⟩
   ·rw [h0] at hlt;simp at hlt
   have hbr:b<wr.heap.size:=ZD hbw hb.size;obtain ⟨c0,c1,c2⟩:=Xs hcl hlt;rw [<-hb.cell (p:=⟨b,off+k*3,none⟩) hbw] at c0;rw [<-hb.cell (p:=⟨b,off+k*3+1,none⟩) hbw] at c1;rw [<-hb.cell (p:=⟨b,off+k*3+2,none⟩) hbw] at c2;generalize hp:Z8 ps k=p at c0 c1 c2;have Hp:=Z9 hp;clear hp;obtain ⟨x0,x1,x2⟩:=p;simp only at c0 c1 c2;have hsz:=hb.size;clear hcl hb;go_wp2_with fail;refine ck (S0 _ _ _ _ _) fun w1 hb1=> ?_;have Hb1:=Z9 ((uh Hb).trans (((Z0 _ _).alloc hsz _).trans (hb1.mono (by simp;omega))));clear hb1;cases hg:XI (x0,x1,x2) k
   ·go_wp2_with fail
    go_ret;exact ⟨Z5 (QJ hlt (by rw [uh Hp];exact hg)).symm,uh Hb1⟩
   ·go_wp2_with fail
    go_roundw
    case rel=>exact ⟨k+1,by omega,by go_num,by rw [Pt,uh Hst,uh Hp,hg];rfl,uh Hb1⟩
    case measure=>exact ms
  ·obtain rfl:k=ps.length:=by omega
   go_wp2_with fail;go_ret;exact ⟨Z5 (by unfold Zk;rw [uh Hst];simp;omega),hb⟩
theorem Rs (a lo hi l h:Int) (w:World):Calls prog 254 #[.agg #[.int .i64 a,.int .i64 lo,.int .i64 hi],.int .i64 l,.int .i64 h] w
  fun e w'=>e= .returned (.tuple #[.int .i64 (VE (lo,hi) l h).1,.int .i64 (VE (lo,hi) l h).2])/\Below w.heap.size w w':=by
 unfold VE;go_enter func254,ntmps254;go_wp2_with (go_at_call 200;refine (VV _ _ _ _).mono ?_;rintro e w' ⟨rfl,rfl⟩)
 go_ret2
 exact ⟨rfl,(ba _ _)⟩
theorem KM (a lo hi a' l h:Int) (w:World):Calls prog 268 #[.agg #[.int .i64 a,.int .i64 lo,.int .i64 hi,.int .i64 a',.int .i64 l,.int .i64 h]] w
  fun e w'=>e= .returned (.agg #[.int .i64 a',.int .i64 (VE (lo,hi) l h).1,.int .i64 (VE (lo,hi) l h).2])/\Below w.heap.size w w':=by
 go_enter func268,ntmps268;go_wp2_with fail;refine ck (Rs _ _ _ _ _ _) fun w1 hb1=> ?_;have hz:w.heap.size+1<w1.heap.size:=by have:=hb1.size;simp at this;omega
 have Hb1:=Z9 hb1;obtain ⟨hc,hf⟩:=Rb hb1;clear hb1;go_wp2_with fail
 exact Y7 (v:= .agg #[.int .i64 a',.int .i64 (VE (lo,hi) l h).1,.int .i64 (VE (lo,hi) l h).2]) (by simp [results,results268,go_sem,hc]) rfl
  ⟨rfl,((((((ba _ _)).alloc (by simp) _).trans ((uh Hb1).mono (by simp;omega))).setCell (by simp) _).setCell (by simp) _).setCell (by simp) _⟩
theorem NR {ps:List ZG} (hg:Zk ps=true):∀ (n:Nat) (g:Int) {w:World} {v:Value},Y9 w v ps-> -1<=g->g<n->g<ps.length->
  Calls prog 253 #[v,.int .i64 g] w fun e w'=> ∃ x,e= .returned (.agg #[.int .i64 x,.int .i64 (bnd ps g).1,.int .i64 (bnd ps g).2])/\Below w.heap.size w w':=by
 intro n
 induction n with
 | zero=>
  intro g w v h h0 h1 h2;obtain rfl:g= -1:=by omega
  rw [Rd ps (by omega)];obtain ⟨a,cap,rfl,_⟩:=h;go_enter func253,ntmps253;go_wp2_with fail;exact Y7 (v:= .agg #[.int .i64 (-1),.int .i64 0,.int .i64 1024]) (by simp [results,results253,go_sem]) rfl ⟨-1,rfl,(ba _ _)⟩
 | succ n ih=>
  intro g w v h h0 h1 h2;by_cases hg0:g= -1
  ·subst hg0
   rw [Rd ps (by omega)];obtain ⟨a,cap,rfl,_⟩:=h;go_enter func253,ntmps253;go_wp2_with fail;exact Y7 (v:= .agg #[.int .i64 (-1),.int .i64 0,.int .i64 1024]) (by simp [results,results253,go_sem]) rfl ⟨-1,rfl,(ba _ _)⟩
  ·obtain ⟨k,rfl⟩:∃ k:Nat,g=k:=⟨g.toNat,by omega⟩
   have hlt:k<ps.length:=by omega
   obtain ⟨a0,a1,_⟩:=T7 hg (g:=(k:Int)) (by omega) h2;have hs:=Ju hg (g:=(k:Int)) (by omega) h2;rw [show ((k:Int)).toNat=k by omega] at a0 a1 hs;rw [hs];clear hs;have Hi:=Z9 h;obtain ⟨a,cap,rfl,hc,hm,hr⟩:=h
   rcases hr with hz | ⟨b,off,rfl,hbw,hcl⟩
   ·rw [hz] at hlt;simp at hlt
   obtain ⟨c0,c1,c2⟩:=Xs hcl hlt;clear hcl;generalize hW:w.alloc (.cells #[.int .i64 0,.int .i64 0,.int .i64 0] 97)=W;have HB:Hid (Below w.heap.size w W):=Z9 (by rw [<-hW];exact (ba _ _));have hsz:w.heap.size<W.heap.size:=by rw [<-hW];simp
   have hbW:b<W.heap.size:=by omega
   rw [<-(uh HB).cell (p:=⟨b,off+k*3,none⟩) hbw] at c0;rw [<-(uh HB).cell (p:=⟨b,off+k*3+1,none⟩) hbw] at c1;rw [<-(uh HB).cell (p:=⟨b,off+k*3+2,none⟩) hbw] at c2
   have D:Hid ((∃ u,W.cell? ⟨w.heap.size,0,none⟩=some u)/\(∃ u,W.cell? ⟨w.heap.size,1,none⟩=some u)/\(∃ u,W.cell? ⟨w.heap.size,2,none⟩=some u)/\W.frozen? ⟨w.heap.size,0,none⟩=false/\W.frozen? ⟨w.heap.size,1,none⟩=false/\W.frozen? ⟨w.heap.size,2,none⟩=false):=
    Z9 (by rw [<-hW];exact ⟨⟨_,by simp;rfl⟩,⟨_,by simp;rfl⟩,⟨_,by simp;rfl⟩,by simp,by simp,by simp⟩)
   have HW:=Z9 hW;clear hW;have Hc:=Z9 (And.intro c0 (And.intro c1 c2));generalize hp:Z8 ps k=p at *;obtain ⟨x0,x1,x2⟩:=p;simp only at c0 c1 c2 a0 a1;have ih':=fun (w:World) (v:Value) (h:Y9 w v ps)=>ih x0 h a0 (by omega) (by omega);have Ih:=Z9 ih';clear ih ih' hp;go_enter func253,ntmps253;go_wp2_with fail;rw [uh HW]
   go_region_with (first
    | (go_at_call 253;refine (uh Ih _ _ ?_).mono ?_;(first | exact (uh Hi).below (uh HB) | exact ((uh Hi).below (uh HB)).below ((Z0 _ _).drew));rintro e w1 ⟨y,rfl,hb1⟩;have B1:Hid (Below W.heap.size W w1):=Z9 (by first | exact hb1 | exact ((Z0 _ _).drew).trans (hb1.mono (by simp)));have e0:=((uh B1).cell (p:=⟨b,off+k*3,none⟩) hbW).trans (uh Hc).1;have e1:=((uh B1).cell (p:=⟨b,off+k*3+1,none⟩) hbW).trans (uh Hc).2.1;have e2:=((uh B1).cell (p:=⟨b,off+k*3+2,none⟩) hbW).trans (uh Hc).2.2;clear hb1)
    | (go_at_call 268;refine (KM _ _ _ _ _ _ _).mono ?_;rintro e w2 ⟨rfl,hb2⟩;have B2:Hid (Below W.heap.size W w2):=Z9 ((uh B1).trans (hb2.mono (uh B1).size));obtain ⟨⟨u0,q0⟩,⟨u1,q1⟩,⟨u2,q2⟩,f0,f1,f2⟩:=uh D;have d0:=((uh B2).cell (p:=⟨w.heap.size,0,none⟩) hsz).trans q0;have d1:=((uh B2).cell (p:=⟨w.heap.size,1,none⟩) hsz).trans q1;have d2:=((uh B2).cell (p:=⟨w.heap.size,2,none⟩) hsz).trans q2;have z0:=((uh B2).frozen (p:=⟨w.heap.size,0,none⟩) hsz).trans f0;have z1:=((uh B2).frozen (p:=⟨w.heap.size,1,none⟩) hsz).trans f1;have z2:=((uh B2).frozen (p:=⟨w.heap.size,2,none⟩) hsz).trans f2;clear hb2 q0 q1 q2 f0 f1 f2))
   all_goals
    go_wp2_with fail
    exact Y7 (v:= .agg #[.int .i64 x0,.int .i64 (VE (bnd ps x0) x1 x2).1,.int .i64 (VE (bnd ps x0) x1 x2).2]) (by simp [results,results253,go_sem,d0,d1,d2]) rfl
     ⟨x0,rfl,((((uh HB).trans ((uh B2).mono (by omega))).setCell (ZY _) _).setCell (ZY _) _).setCell (ZY _) _⟩
theorem OF {w:World} {v:Value} {ps:List ZG} (g lo hi:Int) (h:Y9 w v ps) :
  cB 239 #[v,.int .i64 g,.int .i64 lo,.int .i64 hi] w (.tuple #[.int .i64 (Uq ps g lo hi).1,.int .i64 (Uq ps g lo hi).2]):=by
 have Hi:=Z9 h;obtain ⟨a,cap,rfl,hc,hm,hr⟩:=h;clear hr;generalize hW:w.alloc (.cells #[.int .i64 g,.int .i64 lo,.int .i64 hi] 97)=W;have HB:Hid (Below w.heap.size w W):=Z9 (by rw [<-hW];exact (ba _ _));have hsz:w.heap.size<W.heap.size:=by rw [<-hW];simp
 have D:Hid (W.cell? ⟨w.heap.size,0,none⟩=some (.int .i64 g)/\W.cell? ⟨w.heap.size,1,none⟩=some (.int .i64 lo)/\W.cell? ⟨w.heap.size,2,none⟩=some (.int .i64 hi)):=Z9 (by rw [<-hW];simp);have HW:=Z9 hW;clear hW;have hsv:(Zk ps && XI (g,lo,hi) ps.length)=(isB ps g && Yq lo hi):=by unfold XI isB;rw [Bool.and_assoc]
 cases hG:Zk ps
 ·rw [Nu (by rw [<-hsv,hG];rfl)]
  clear hsv;go_enter func239,ntmps239;go_wp2_with fail;rw [uh HW];refine (Xk ((uh Hi).below (uh HB))).mono ?_;rw [hG];rintro e w1 ⟨rfl,hb1⟩;have B1:=Z9 ((uh HB).trans (hb1.mono (by omega)));clear hb1;go_wp2_with fail
  go_ret2
  exact ⟨rfl,uh B1⟩
 ·cases hQ:XI (g,lo,hi) ps.length
  ·rw [Nu (by rw [<-hsv,hG,hQ];rfl)]
   clear hsv;go_enter func239,ntmps239;go_wp2_with fail;rw [uh HW];refine (Xk ((uh Hi).below (uh HB))).mono ?_;rw [hG];rintro e w1 ⟨rfl,hb1⟩;have d0:=(hb1.cell (p:=⟨w.heap.size,0,none⟩) hsz).trans (uh D).1;have d1:=(hb1.cell (p:=⟨w.heap.size,1,none⟩) hsz).trans (uh D).2.1;have d2:=(hb1.cell (p:=⟨w.heap.size,2,none⟩) hsz).trans (uh D).2.2;have B1:=Z9 ((uh HB).trans (hb1.mono (by omega)));clear hb1;go_wp2_with fail;refine (S0 _ _ _ _ _).mono ?_;rw [hQ];rintro e w2 ⟨rfl,hb2⟩;have B2:=Z9 ((uh B1).trans (hb2.mono (uh B1).size));clear hb2;go_wp2_with fail
   go_ret2
   exact ⟨rfl,uh B2⟩
  ·obtain ⟨g0,g1,g2⟩:=MK hQ
   have hisB:isB ps g=true:=by unfold isB;rw [hG,Zf g0 (by simpa using g1)];rfl
   rw [Nv hisB g2];clear hsv hisB;have hlt:g<ps.length:=by simp only at g1;omega
   simp only at g0;go_enter func239,ntmps239;go_wp2_with fail;rw [uh HW];refine (Xk ((uh Hi).below (uh HB))).mono ?_;rw [hG];rintro e w1 ⟨rfl,hb1⟩;have d0:=(hb1.cell (p:=⟨w.heap.size,0,none⟩) hsz).trans (uh D).1;have d1:=(hb1.cell (p:=⟨w.heap.size,1,none⟩) hsz).trans (uh D).2.1;have d2:=(hb1.cell (p:=⟨w.heap.size,2,none⟩) hsz).trans (uh D).2.2;have B1:=Z9 ((uh HB).trans (hb1.mono (by omega)));clear hb1;go_wp2_with fail;refine (S0 _ _ _ _ _).mono ?_;rw [hQ];rintro e w2 ⟨rfl,hb2⟩;have B2:=Z9 ((uh B1).trans (hb2.mono (uh B1).size));clear hb2;go_wp2_with fail;refine (NR hG (g+1).toNat g ((uh Hi).below (uh B2)) g0 (by omega) hlt).mono ?_;rintro e w3 ⟨x,rfl,hb3⟩;have B3:=Z9 ((uh B2).trans (hb3.mono (uh B2).size));clear hb3;go_wp2_with fail;refine ck (Rs _ _ _ _ _ _) fun w4 hb4=> ?_;have B4:=Z9 ((uh B3).trans (hb4.mono (uh B3).size));clear hb4;go_wp2_with fail
   go_ret2
   exact ⟨rfl,uh B4⟩
def ltB (a b:Z6):Bool:=decide (a.1<b.1\/(a.1=b.1/\a.2<b.2))
theorem El {a b:Z6} : ltB a b=true ↔ (a.1<b.1\/(a.1=b.1/\a.2<b.2)):=by unfold ltB;exact decide_eq_true_iff
theorem MW {a b:Z6} : ltB a b=false ↔ ¬ (a.1<b.1\/(a.1=b.1/\a.2<b.2)):=by unfold ltB;exact decide_eq_false_iff_not
theorem Rq (a:Z6):ltB a a=false:=by rw [MW];omega
theorem SE {a b:Z6} (h:ltB a b=true):ltB b a=false:=by rw [El] at h;rw [MW];omega
theorem Uc {a b c:Z6} (h:ltB b a=false) (k:ltB c b=false):ltB c a=false:=by rw [MW] at *;omega
theorem CC {a b c:Z6} (h:ltB a b=true) (k:ltB b c=true):ltB a c=true:=by rw [El] at *;omega
theorem CB {a b:Z6} (h:ltB b a=false) (k:ltB a b=false):a=b:=by
  rw [MW] at *;obtain ⟨a1,a2⟩:=a;obtain ⟨b1,b2⟩:=b;simp only at h k;rw [show a1=b1 by omega,show a2=b2 by omega]
def swp (ps:List Z6) (i j:Nat):List Z6:=(ps.set i (Z7 ps j)).set j (Z7 ps i)
theorem DH (ps:List Z6) (i j:Nat):(swp ps i j).length=ps.length:=by simp [swp]
theorem O3 {ps:List Z6} {i:Nat} {x:Z6} (h:i<ps.length) (k:Nat):Z7 (ps.set i x) k=if k=i then x else Z7 ps k:=by
  unfold Z7;by_cases e:k=i
  · subst e;simp [List.getD,h]
  · rw [if_neg e];simp [List.getD,Ne.symm e]
theorem Tz {ps:List Z6} {i j:Nat} (hi:i<ps.length) (hj:j<ps.length) (k:Nat):Z7 (swp ps i j) k=if k=j then Z7 ps i else if k=i then Z7 ps j else Z7 ps k:=by
  unfold swp;rw [O3 (by simpa using hj),O3 hi]
theorem TA {ps:List Z6} {i j:Nat} (hi:i<ps.length) (hj:j<ps.length):(swp ps i j).Perm ps:=by
  have:=List.set_set_perm hi hj;unfold swp Z7;simpa [List.getD,hi,hj] using this
def HeapTo (ps:List Z6) (n:Nat):Prop:= ∀ k,0<k->k<n->ltB (Z7 ps k) (Z7 ps ((k-1) / 2))=false
def UpTo (ps:List Z6) (n j:Nat):Prop:=
  (∀ k,0<k->k<n->k ≠ j->ltB (Z7 ps k) (Z7 ps ((k-1) / 2))=false)/\
  (∀ k,0<k->k<n->(k-1) / 2=j->0<j->ltB (Z7 ps k) (Z7 ps ((j-1) / 2))=false)
def DnTo (ps:List Z6) (n i0 i:Nat):Prop:=
  (∀ k,0<k->k<n->(k-1) / 2 ≠ i->(k ≠ i0\/i ≠ i0)->ltB (Z7 ps k) (Z7 ps ((k-1) / 2))=false)/\
  (∀ k,0<k->k<n->(k-1) / 2=i->0<i->ltB (Z7 ps k) (Z7 ps ((i-1) / 2))=false)
theorem UpTo.done {ps:List Z6} {n j:Nat} (h:UpTo ps n j) (hd:j=0\/ltB (Z7 ps j) (Z7 ps ((j-1) / 2))=false):HeapTo ps n:=fun k h0 hn=>by
  by_cases e:k=j
  · subst e
    rcases hd with hd | hd
    · omega
    · exact hd
  · exact h.1 k h0 hn e
theorem UpTo.step {ps:List Z6} {n j:Nat} (h:UpTo ps n j) (hj0:0<j) (hj:j<n) (hn:n<=ps.length) (hl:ltB (Z7 ps j) (Z7 ps ((j-1) / 2))=true):UpTo (swp ps ((j-1) / 2) j) n ((j-1) / 2):=by
  have hi:(j-1) / 2<j:=by omega
  have at':=fun k=>Tz (ps:=ps) (i:=(j-1) / 2) (j:=j) (by omega) (by omega) k;generalize hi':(j-1) / 2=i at *;have hp:ltB (Z7 ps i) (Z7 ps j)=false:=SE hl;refine ⟨fun k k0 kn kne=> ?_,fun k k0 kn kp i0=> ?_⟩
  · rw [at' k,at' ((k-1) / 2)]
    by_cases e1:k=j
    · subst e1
      rw [if_pos rfl,hi',if_neg (by omega),if_pos rfl];exact hp
    · rw [if_neg e1,if_neg kne]
      by_cases e2:(k-1) / 2=j
      · rw [if_pos e2]
        have:=h.2 k k0 kn e2 hj0
        rwa [hi'] at this
      · rw [if_neg e2]
        by_cases e3:(k-1) / 2=i
        · rw [if_pos e3]
          have:=h.1 k k0 kn e1;rw [e3] at this;exact Uc hp this
        · rw [if_neg e3]
          exact h.1 k k0 kn e1
  · rw [at' k,at' ((i-1) / 2),if_neg (by omega:(i-1) / 2 ≠ j),if_neg (by omega:(i-1) / 2 ≠ i)]
    by_cases e1:k=j
    · rw [if_pos e1]
      exact h.1 i i0 (by omega) (by omega)
    · rw [if_neg e1,if_neg (by omega)]
      have h1:=h.1 k k0 kn e1;rw [kp] at h1;exact Uc (h.1 i i0 (by omega) (by omega)) h1
theorem DnTo.still {ps:List Z6} {n i:Nat} (h:DnTo ps n i i) (hd:∀ k,0<k->k<n->(k-1) / 2=i->ltB (Z7 ps k) (Z7 ps i)=false):UpTo ps n i:=
  ⟨fun k k0 kn kne=>by
    by_cases e:(k-1) / 2=i
    · rw [e];exact hd k k0 kn e
    · exact h.1 k k0 kn e (.inl kne),h.2⟩
theorem DnTo.moved {ps:List Z6} {n i0 i:Nat} (h:DnTo ps n i0 i) (hm:i ≠ i0) (hd:∀ k,0<k->k<n->(k-1) / 2=i->ltB (Z7 ps k) (Z7 ps i)=false):HeapTo ps n:=fun k k0 kn=>by
  by_cases e:(k-1) / 2=i
  · rw [e];exact hd k k0 kn e
  · exact h.1 k k0 kn e (.inr hm)
theorem DnTo.step {ps : List Z6} {n i0 i j : Nat} (h : DnTo ps n i0 i) (hi0 : i0 ≤ i) (hj0 : 0 < j) (hji : (j - 1) / 2 = i) (hj : j < n) (hn : n ≤ ps.length) (hl : ltB (Z7 ps j) (Z7 ps i) = true)
    (hm : ∀ k, 0 < k → k < n → (k - 1) / 2 = i → ltB (Z7 ps k) (Z7 ps j) = false) : DnTo (swp ps i j) n i0 j := by
  have at' := fun k => Tz (ps := ps) (i := i) (j := j) (by omega) (by omega) k;have hp : ltB (Z7 ps i) (Z7 ps j) = false := SE hl;refine ⟨fun k k0 kn kne _ => ?_, fun k k0 kn kp _ => ?_⟩
  · rw [at' k, at' ((k - 1) / 2), if_neg kne]
    by_cases e1 : k = j
    · subst e1
      rw [if_pos rfl, if_pos hji];exact hp
    · rw [if_neg e1]
      by_cases e2 : k = i
      · subst e2
        rw [if_pos rfl, if_neg (by omega)];exact h.2 j hj0 hj hji k0
      · rw [if_neg e2]
        by_cases e3 : (k - 1) / 2 = i
        · rw [if_pos e3]
          exact hm k k0 kn e3
        · rw [if_neg e3]
          exact h.1 k k0 kn e3 (by omega)
  · rw [at' k, at' ((j - 1) / 2), hji, if_neg (by omega : k ≠ j), if_neg (by omega : k ≠ i), if_neg (by omega : i ≠ j), if_pos rfl]
    have := h.1 k k0 kn (by omega) (by omega)
    rwa [kp] at this
theorem HeapTo.least {ps:List Z6} {n:Nat} (h:HeapTo ps n):∀ k,k<n->ltB (Z7 ps k) (Z7 ps 0)=false:=by
  intro k
  induction k using Nat.strongRecOn with
  | ind k ih=>
    intro hk;by_cases e:k=0
    · subst e;exact Rq _
    · exact Uc (ih ((k-1) / 2) (by omega) (by omega)) (h k (by omega) hk)
theorem Sk {ps qs:List Z6} {k:Nat} (h:k<ps.length):Z7 (ps++qs) k=Z7 ps k:=by unfold Z7;simp [List.getD,List.getElem?_append_left h]
theorem V8 {ps:List Z6} {n k:Nat} (h:k<n):Z7 (ps.take n) k=Z7 ps k:=by unfold Z7;simp [List.getD,h]
theorem HeapTo.push {ps:List Z6} (e:Z6) (h:HeapTo ps ps.length):UpTo (ps++[e]) (ps.length+1) ps.length:=
  ⟨fun k k0 kn kne=>by rw [Sk (by omega),Sk (by omega)];exact h k k0 (by omega),fun k k0 kn kp h0=>by omega⟩
theorem HeapTo.swap {ps:List Z6} {n i:Nat} (h:HeapTo ps (n+1)) (hl:ps.length=n+1) (hi:i<n):DnTo (swp ps i n) n i i:=by
  have at':=fun k=>Tz (ps:=ps) (i:=i) (j:=n) (by omega) (by omega) k;refine ⟨fun k k0 kn kne kd=> ?_,fun k k0 kn kp i0=> ?_⟩
  · rw [at' k,at' ((k-1) / 2),if_neg (by omega),if_neg (by omega),if_neg (by omega),if_neg kne]
    exact h k k0 (by omega)
  · rw [at' k,at' ((i-1) / 2),if_neg (by omega),if_neg (by omega),if_neg (by omega),if_neg (by omega)]
    have h1:=h k k0 (by omega);rw [kp] at h1;exact Uc (h i i0 (by omega)) h1
abbrev Ris (ps:List Z6):Prop:=ps.Pairwise fun a b=>ltB b a=false
theorem CK {ps qs:List Z6} (h:Ris ps) (k:Ris qs) (hp:ps.Perm qs):ps=qs:=
  hp.eq_of_pairwise (le:=fun a b=>ltB b a=false) (fun _ _ _ _ h1 h2=>CB h1 h2) h k
theorem EB {ps:List Z6} (h:Ris ps):HeapTo ps ps.length:=fun k k0 kn=>by
  have hk:(k-1) / 2<k:=by omega
  have:=List.pairwise_iff_getElem.1 h ((k-1) / 2) k (by omega) kn hk;unfold Z7;simpa [List.getD,kn,(by omega:(k-1) / 2<ps.length)] using this
theorem EC {ps : List Z6} {x : Z6} (h : Ris ps) (hx : ∀ y ∈ ps, ltB x y = false) : Ris (ps ++ [x]) := by
  unfold Ris; rw [List.pairwise_append]
  exact ⟨h, by simp, fun a ha b hb => by obtain rfl : b = x := by simpa using hb
                                         exact hx a ha⟩
theorem Pq {ps:List Z6} {n:Nat} (h:ps.length=n+1):ps.take n++[Z7 ps n]=ps:=by
  have e:Z7 ps n=ps[n]:=by unfold Z7;simp [List.getD,h]
  rw [e,<-List.take_succ_eq_append_getElem (by omega),List.take_of_length_le (by omega)]
theorem Wo {ps:List Z6} {k:Nat} (h:k<ps.length):Z7 ps k ∈ ps:=by unfold Z7;simp [List.getD,h]
theorem RV {ps:List Z6} {x:Z6} (h:x ∈ ps):∃ k,k<ps.length/\Z7 ps k=x:=by
  obtain ⟨k,hk,rfl⟩:=List.getElem_of_mem h;exact ⟨k,hk,by unfold Z7;simp [List.getD,hk]⟩
def Ok (p:Z6):Bool:=inB p.1 (-1000000000000) 1000000000000 && inB p.2 0 99
def Wu (ps:List Z6) (who:Int):Int:=match ps.findIdx? (fun p=>p.2 ==who) with
  | some k=>k
  | none=> -1
def Wr (ps:List Z6) (k:Nat):Bool:=Ok (Z7 ps k) && ((k ==0 || ltB (Z7 ps (k-1)) (Z7 ps k)) && decide (Wu (ps.take k) (Z7 ps k).2<0))
def YP (ps:List Z6):Bool:=decide (ps.length<=100) && (List.range ps.length).all (Wr ps)
def Yo (e:Z6):List Z6->Nat
  | []=>0
  | p::ps=>if ltB p e then Yo e ps+1 else 0
def V9 (ps:List Z6) (e:Z6):List Z6:=ps.take (Yo e ps)++e::ps.drop (Yo e ps)
def Ul (ps:List Z6) (e:Z6):List Z6 × Bool:=if YP ps then if YP (V9 ps e) then (V9 ps e,true) else (ps,false) else ([],false)
def T6 (ps:List Z6):Z6 × Bool:=if YP ps && decide (0<ps.length) then (Z7 ps 0,true) else ((0,0),false)
theorem On {ps:List Z6} {who:Int} (h:∀ j,j<ps.length->(Z7 ps j).2 ≠ who):Wu ps who= -1:=by
  unfold Wu;rw [List.findIdx?_eq_none_iff.2];intro p hp;obtain ⟨k,hk,rfl⟩:=RV hp;simpa using h k hk
theorem H9 {ps:List Z6} {who:Int} {k:Nat} (hk:k<ps.length) (h:(Z7 ps k).2=who) (hn:∀ j,j<k->(Z7 ps j).2 ≠ who):Wu ps who=k:=by
  have e:∀ j (hj:j<ps.length),Z7 ps j=ps[j]:=fun j hj=>by unfold Z7;simp [List.getD,hj]
  unfold Wu;rw [List.findIdx?_eq_some_iff_getElem.2 ⟨hk,by rw [<-e k hk];simpa using h,fun j hj=>by rw [<-e j (by omega)];simpa using hn j hj⟩]
theorem Qb (ps:List Z6) (who:Int):(Wu ps who= -1/\ ∀ j,j<ps.length->(Z7 ps j).2 ≠ who)\/ ∃ k:Nat,Wu ps who=k/\k<ps.length/\(Z7 ps k).2=who/\ ∀ j,j<k->(Z7 ps j).2 ≠ who:=by
  have e:∀ j (hj:j<ps.length),Z7 ps j=ps[j]:=fun j hj=>by unfold Z7;simp [List.getD,hj]
  cases hf:ps.findIdx? (fun p=>p.2 ==who) with
  | none=>
    left;refine ⟨by unfold Wu;rw [hf],fun j hj=> ?_⟩;have:=List.findIdx?_eq_none_iff.1 hf _ (Wo hj);simpa using this
  | some k=>
    right;obtain ⟨hk,h1,h2⟩:=List.findIdx?_eq_some_iff_getElem.1 hf;refine ⟨k,by unfold Wu;rw [hf],hk,by rw [e k hk];simpa using h1,fun j hj=> ?_⟩;have:=h2 j hj;rw [e j (by omega)];simpa using this
theorem DZ (ps:List Z6) (who:Int) : -1<=Wu ps who/\Wu ps who<ps.length:=by
  rcases Qb ps who with ⟨h,_⟩ | ⟨k,h,hk,_⟩<;>omega
theorem KA {ps:List Z6} (hl:ps.length<=100) (h:∀ j,j<ps.length->Wr ps j=true):YP ps=true:=by
  unfold YP;simp only [ZJ,Yg,List.all_eq_true];exact ⟨hl,fun j hj=>h j (List.mem_range.1 hj)⟩
theorem O8 {ps:List Z6} {j:Nat} (hj:j<ps.length) (h:Wr ps j=false):YP ps=false:=by
  unfold YP;rw [Bool.and_eq_false_iff];right;rw [List.all_eq_false];exact ⟨j,List.mem_range.2 hj,by simp [h]⟩
theorem IK {ps:List Z6} (hl:100<ps.length):YP ps=false:=by
  unfold YP;rw [Bool.and_eq_false_iff];left;exact TG (by omega)
theorem FP {ps:List Z6} (h:YP ps=true):ps.length<=100/\ ∀ j,j<ps.length->Wr ps j=true:=by
  unfold YP at h;simp only [ZJ,Yg,List.all_eq_true] at h;exact ⟨h.1,fun j hj=>h.2 j (List.mem_range.2 hj)⟩
theorem Pn {ps : List Z6} {k : Nat} (h : Wr ps k = true) : Ok (Z7 ps k) = true ∧ (0 < k → ltB (Z7 ps (k - 1)) (Z7 ps k) = true) ∧ Wu (ps.take k) (Z7 ps k).2 < 0 := by
  unfold Wr at h; simp only [ZJ, Bool.or_eq_true, Yg, beq_iff_eq] at h
  exact ⟨h.1, fun h0 => by rcases h.2.1 with e | e; · omega
                           · exact e, h.2.2⟩
structure IsQ (ps:List Z6):Prop where
  len:ps.length<=100
  ent:∀ p ∈ ps,Ok p=true
  ord:ps.Pairwise fun a b=>ltB a b=true
  who:ps.Pairwise fun a b=>a.2 ≠ b.2
theorem CJ {ps:List Z6} (h:∀ k,0<k->k<ps.length->ltB (Z7 ps (k-1)) (Z7 ps k)=true):∀ i j,i<j->j<ps.length->ltB (Z7 ps i) (Z7 ps j)=true:=by
  intro i j
  induction j with
  | zero=>intro h;omega
  | succ j ih=>
    intro hij hj;have h1:=h (j+1) (by omega) hj;by_cases e:i=j
    · subst e;simpa using h1
    · exact CC (ih (by omega) (by omega)) (by simpa using h1)
theorem Cz {ps:List Z6} (h:YP ps=true):IsQ ps:=by
  obtain ⟨hl,hs⟩:=FP h;have e:∀ j (hj:j<ps.length),Z7 ps j=ps[j]:=fun j hj=>by unfold Z7;simp [List.getD,hj]
  refine ⟨hl,fun p hp=> ?_,?_,?_⟩
  · obtain ⟨k,hk,rfl⟩:=RV hp
    exact (Pn (hs k hk)).1
  · rw [List.pairwise_iff_getElem]
    intro i j hi hj hij;rw [<-e i hi,<-e j hj];exact CJ (fun k k0 kn=>(Pn (hs k kn)).2.1 k0) i j hij hj
  · rw [List.pairwise_iff_getElem]
    intro i j hi hj hij;rw [<-e i hi,<-e j hj];have h3:=(Pn (hs j hj)).2.2
    rcases Qb (ps.take j) (Z7 ps j).2 with ⟨_,h4⟩ | ⟨k,h4,_⟩
    · have:=h4 i (by simp;omega)
      rwa [V8 hij] at this
    · omega
theorem IL {ps:List Z6} (h:IsQ ps):YP ps=true:=by
  have e:∀ j (hj:j<ps.length),Z7 ps j=ps[j]:=fun j hj=>by unfold Z7;simp [List.getD,hj]
  refine KA h.len fun j hj=> ?_;unfold Wr;simp only [ZJ,Bool.or_eq_true,Yg,beq_iff_eq];refine ⟨h.ent _ (Wo hj),?_,?_⟩
  · by_cases h0:j=0
    · exact .inl h0
    · right
      rw [e j hj,e (j-1) (by omega)];exact List.pairwise_iff_getElem.1 h.ord (j-1) j (by omega) hj (by omega)
  · rw [On (fun i hi=> ?_)]
    · omega
    · have hi':i<j:=by simp at hi;omega
      rw [V8 hi',e i (by omega),e j hj];exact List.pairwise_iff_getElem.1 h.who i j (by omega) hj hi'
theorem IsQ.ris {ps:List Z6} (h:IsQ ps):Ris ps:=h.ord.imp fun hab=>SE hab
theorem OS (e:Z6):∀ ps:List Z6,Yo e ps<=ps.length
  | []=>ZY _
  | p::ps=>by have:=OS e ps;unfold Yo;split<;>simp<;>omega
theorem OT (e:Z6):∀ (ps:List Z6) (k:Nat),k<Yo e ps->ltB (Z7 ps k) e=true
  | [],k,h=>by simp [Yo] at h
  | p::ps,k,h=>by
    unfold Yo at h
    split at h
    · cases k with
      | zero=>simpa [Z7] using ‹ltB p e=true›
      | succ k=>
        have:=OT e ps k (by omega);simpa [Z7] using this
    · omega
theorem OR (e:Z6):∀ (ps:List Z6),Yo e ps<ps.length->ltB (Z7 ps (Yo e ps)) e=false
  | [],h=>by simp at h
  | p::ps,h=>by
    unfold Yo at h ⊢;by_cases hp:ltB p e=true
    · rw [if_pos hp] at h ⊢
      have:=OR e ps (by simpa using h);simpa [Z7] using this
    · rw [if_neg hp] at h ⊢
      simpa [Z7] using hp
theorem Ej {e:Z6} {ps:List Z6} {k:Nat} (hk:k<=ps.length) (h:∀ j,j<k->ltB (Z7 ps j) e=true) (hn:k=ps.length\/ltB (Z7 ps k) e=false):Yo e ps=k:=by
  rcases Nat.lt_trichotomy (Yo e ps) k with h1 | h1 | h1
  · have h2:=OR e ps (by omega)
    rw [h _ h1] at h2;cases h2
  · exact h1
  · rcases hn with hn | hn
    · have:=OS e ps;omega
    · have:=OT e ps k h1
      rw [hn] at this;cases this
theorem SK (ps:List Z6) (e:Z6):(V9 ps e).Perm (ps++[e]):=by
  unfold V9;have h1:(ps.take (Yo e ps)++e::ps.drop (Yo e ps)).Perm (e::(ps.take (Yo e ps)++ps.drop (Yo e ps))):=List.perm_middle;rw [List.take_append_drop] at h1;exact h1.trans (List.perm_append_comm (l₁:=[e]) (l₂:=ps))
theorem Ez (ps:List Z6) (e:Z6):(V9 ps e).length=ps.length+1:=by have:=(SK ps e).length_eq;simpa using this
theorem Kx {ps:List Z6} (h:Ris ps) (e:Z6):Ris (V9 ps e):=by
  have hle:=OS e ps
  have hdr:∀ y ∈ ps.drop (Yo e ps),ltB y e=false:=fun y hy=>by
    obtain ⟨k,hk,rfl⟩:=List.getElem_of_mem hy;have hk':Yo e ps+k<ps.length:=by simp at hk;omega
    rw [List.getElem_drop];have h0:=OR e ps (by omega);have e0:Z7 ps (Yo e ps)=ps[Yo e ps]'(by omega):=by unfold Z7;simp [List.getD,(by omega:Yo e ps<ps.length)]
    rw [e0] at h0;by_cases hz:k=0
    · subst hz;simpa using h0
    · have h1:=List.pairwise_iff_getElem.1 h (Yo e ps) (Yo e ps+k) (by omega) hk' (by omega)
      exact Uc h0 h1
  have hta:∀ y ∈ ps.take (Yo e ps),ltB y e=true:=fun y hy=>by
    obtain ⟨k,hk,rfl⟩:=List.getElem_of_mem hy;have hk':k<Yo e ps:=by simp at hk;omega
    have:=OT e ps k hk';rw [List.getElem_take];unfold Z7 at this;simpa [List.getD,(by omega:k<ps.length)] using this
  unfold V9 Ris;rw [List.pairwise_append,List.pairwise_cons];refine ⟨h.sublist (List.take_sublist _ _),⟨fun y hy=>hdr y hy,h.sublist (List.drop_sublist _ _)⟩,fun a ha b hb=> ?_⟩
  rcases List.mem_cons.1 hb with rfl | hb
  · exact SE (hta a ha)
  · exact Uc (SE (hta a ha)) (hdr b hb)
theorem IW {ps qs:List Z6} {e:Z6} (h:IsQ ps) (hq:Ris qs) (hp:qs.Perm (ps++[e])):qs=V9 ps e:=
  CK hq (Kx h.ris e) (hp.trans (SK ps e).symm)
theorem Wm:(prog.info? 138).map (fun i=>(i.zero,i.size,i.bytes))=some (some (.agg #[.int .i64 0,.int .i64 0]),2,16):=by kernel_rfl
theorem Uk (ps:List Z6):(Zq ps).length=ps.length*2:=by unfold Zq;exact SI ps
theorem Sl (ps qs:List Z6):Zq (ps++qs)=Zq ps++Zq qs:=by unfold Zq;rw [List.flatMap_append]
theorem Qm:∀ (ps:List Z6) (n:Nat),Zq (ps.take n)=(Zq ps).take (n*2)
 | [],n=>by simp [Zq]
 | p::ps,0=>by simp [Zq]
 | p::ps,n+1=>by
  have ih:=Qm ps n;unfold Zq at ih ⊢;rw [show (n+1)*2=n*2+2 by omega];simpa using ih
def EntsAt (n₀:Nat) (w:World) (v:Value) (ps:List Z6):Prop:=w.ownsRow n₀ 138 2 v ps.length (Zq ps)
theorem EntsAt.lt {n₀:Nat} {w:World} {v:Value} {ps:List Z6} (h:EntsAt n₀ w v ps) {k:Nat} (hk:v.ownBlock=some k):n₀<=k/\k<w.heap.size:=World.ownsRow.lt h k hk
theorem EntsAt.mono {n₀ n₁:Nat} {w:World} {v:Value} {ps:List Z6} (h:EntsAt n₀ w v ps) (hn:n₁<=n₀):EntsAt n₁ w v ps:=Tq h hn
theorem EntsAt.same {n₀:Nat} {w w':World} {v:Value} {ps:List Z6} (h:EntsAt n₀ w v ps) (hs:∀ k,v.ownBlock=some k->w'.heap[k]?=w.heap[k]?):EntsAt n₀ w' v ps:=YJ h hs
theorem EntsAt.later {n₀:Nat} {w w':World} {v:Value} {ps:List Z6} (h:EntsAt n₀ w v ps) (hb:Below w.heap.size w w'):EntsAt n₀ w' v ps:=h.same fun k hk=>hb.block k (h.lt hk).2
theorem EntsAt.pc {n₀:Nat} {w:World} {v:Value} {ps:List Z6} (h:EntsAt n₀ w v ps):IsPaces w v ps:=by
 have h':=h
 rcases h.2 with ⟨rfl,hz⟩ | ⟨g,cap,cur,rfl,hb,hg,hnc,hcm,r⟩
 ·exact ⟨none,0,by rw [hz],by omega,by omega,.inl (List.eq_nil_of_length_eq_zero hz)⟩
 ·refine ⟨_,cap,rfl,hnc,by unfold maxLen at hcm;omega,.inr ⟨g,0,rfl,(Array.getElem?_eq_some_iff.1 hg).1,fun k hk=> ?_⟩⟩
  have hp:=WM (f:=fun p:Z6=>Value.int .i64 p.1) (g:=fun p:Z6=>Value.int .i64 p.2) ps k hk;have hat:Z7 ps k=ps[k]:=by unfold Z7;simp [List.getD,hk]
  rw [Nat.zero_add,hat];exact ⟨(World.ownsRow.cellAt h' (k*2) (by omega)).trans hp.1,(World.ownsRow.cellAt h' (k*2+1) (by omega)).trans hp.2⟩
theorem EntsAt.shape {n₀:Nat} {w:World} {v:Value} {ps:List Z6} (h:EntsAt n₀ w v ps):∃ a cap,v= .slice a ps.length cap:=by
 rcases h.2 with ⟨rfl,hz⟩ | ⟨g,cap,cur,rfl,_⟩
 ·exact ⟨none,0,by rw [hz]⟩
 ·exact ⟨_,cap,rfl⟩
theorem EntsAt.cut {n₀:Nat} {w:World} {a:Option Addr} {len cap:Nat} {ps:List Z6} (h:EntsAt n₀ w (.slice a len cap) ps) {n:Nat} (hn:n<=ps.length) (ha:a ≠ none):EntsAt n₀ w (.slice a n cap) (ps.take n):=by
 have hl:(ps.take n).length=n:=by simp;omega
 unfold EntsAt;rw [hl,Qm]
 rcases h.2 with ⟨hv,hz⟩ | ⟨g,cap',cur,hv,hb,hg,hnc,hcm,hs,ht⟩
 ·cases hv;exact absurd rfl ha
 ·cases hv
  refine ⟨by rw [List.length_take,Uk];omega,.inr ⟨g,cap,cur,rfl,hb,hg,by omega,hcm,hs,?_⟩⟩;rw [<-ht,List.take_take];congr 1;omega
theorem IsPaces.cut {w:World} {a:Option Addr} {len cap:Nat} {ps:List Z6} (h:IsPaces w (.slice a len cap) ps) {n:Nat} (hn:n<=ps.length):IsPaces w (.slice a n cap) (ps.take n):=by
 obtain ⟨a',cap',he,hc,hm,hr⟩:=h;cases he;have hl:(ps.take n).length=n:=by simp;omega
 refine ⟨a,cap,by rw [hl],by omega,hm,?_⟩
 rcases hr with hr | ⟨b,off,rfl,hlt,hcl⟩
 ·exact .inl (by rw [hr];simp)
 ·refine .inr ⟨b,off,rfl,hlt,fun k hk=> ?_⟩
  rw [V8 (by omega)];exact hcl k (by omega)
theorem Gy {a b c d:Int} (h:a ≠ c):ltB (a,b) (c,d)=decide (a<c):=by unfold ltB;simp;omega
theorem Gz {a b d:Int} : ltB (a,b) (a,d)=decide (b<d):=by unfold ltB;simp
theorem Um (a b c d:Int) (w:World):cB 183 #[.agg #[.int .i64 a,.int .i64 b],.agg #[.int .i64 c,.int .i64 d]] w (.bool (ltB (a,b) (c,d))):=by
 by_cases h:a=c
 ·subst h
  rw [Gz];go_enter func183,ntmps183;go_wp2_with fail;go_ret;exact ⟨rfl,((ba _ _)).alloc (by simp) _⟩
 ·rw [Gy h]
  have h':(a ==c)=false:=by simpa using h
  have h2:(a !=c)=true:=by simpa using h
  clear h;go_enter func183,ntmps183;go_wp2_with fail;go_ret;exact ⟨rfl,((ba _ _)).alloc (by simp) _⟩
theorem Xl (a b c d:Int) (w:World):cB 234 #[.agg #[.int .i64 a,.int .i64 b],.agg #[.int .i64 c,.int .i64 d]] w (.bool (ltB (a,b) (c,d))):=by
 by_cases h:a=c
 ·subst h
  rw [Gz];go_enter func234,ntmps234;go_wp2_with fail;go_ret;exact ⟨rfl,((ba _ _)).alloc (by simp) _⟩
 ·rw [Gy h]
  have h':(a ==c)=false:=by simpa using h
  have h2:(a !=c)=true:=by simpa using h
  clear h;go_enter func234,ntmps234;go_wp2_with fail;go_ret;exact ⟨rfl,((ba _ _)).alloc (by simp) _⟩
theorem MO (n:Int) (w:World):cE 212 #[.int .i64 n] w (.bool (inB n (-1000000000000) 1000000000000)):=by
 go_enter func212,ntmps212;go_wp2_with (go_at_call 192;refine (ZL _ _ _ _).mono ?_;rintro e w' ⟨rfl,rfl⟩)
 go_ret;exact ⟨rfl,rfl⟩
theorem V3 (f c:Int) (w:World):cB 233 #[.agg #[.int .i64 f,.int .i64 c]] w (.bool (Ok (f,c))):=by
 cases h1:inB f (-1000000000000) 1000000000000
 ·go_enter func233,ntmps233
  go_wp2_with fail;refine (MO _ _).mono ?_;rintro e w' ⟨rfl,rfl⟩;go_wp2_with fail;go_ret;exact ⟨Z5 (by unfold Ok;simp [h1]),(ba _ _)⟩
 ·go_enter func233,ntmps233
  go_wp2_with fail;refine (MO _ _).mono ?_;rintro e w' ⟨rfl,rfl⟩;go_wp2_with fail;refine (ZL _ _ _ _).mono ?_;rintro e w' ⟨rfl,rfl⟩;go_wp2_with fail;go_ret;exact ⟨Z5 (by unfold Ok;simp [h1]),(ba _ _)⟩
theorem MQ (f c who:Int) (B:Nat) (w:World) (hc:w.cell? ⟨B,0,none⟩=some (.int .i64 who)) (hB:B<w.heap.size) :
  cB 251 #[.agg #[.int .i64 f,.int .i64 c],.pointer (some ⟨B,0,none⟩)] w (.bool (c ==who)):=by
 have hne:B ≠ w.heap.size:=Vd hB;go_enter func251,ntmps251;go_wp2_with fail;go_ret;exact ⟨rfl,(ba _ _)⟩
theorem JV {w:World} {v:Value} {ps:List Z6} (who:Int) (B:Nat) (h:IsPaces w v ps) (hc:w.cell? ⟨B,0,none⟩=some (.int .i64 who)) (hB:B<w.heap.size) :
  cB 250 #[v,.func (Fn.func 251) #[] #[.pointer (some ⟨B,0,none⟩)]] w (.int .i64 (Wu ps who)):=by
 obtain ⟨a,cap,rfl,hcc,hm,hr⟩:=h;have Hr:=Z9 hr;have Hc:=Z9 hc;clear hr hc;go_enter func250,ntmps250;go_wp2_with fail
 go_loopw [5,8] (fun _ i wr=> ∃ k:Nat,k<=ps.length/\i= .int .i64 k/\Hid (∀ j,j<k->(Z7 ps j).2 ≠ who)/\Below w.heap.size w wr) (fun _ i _=>ps.length-(intOf i).toNat)
 case atStart=>exact ⟨0,ZR _,rfl,Z9 (fun j hj=>by omega),Z0 _ _⟩
 case round=>
  obtain ⟨k,hk,rfl,hno,hb⟩:=hrel;have Hb:=Z9 hb;by_cases hlt:k<ps.length
  ·rcases uh Hr with h0 | ⟨b,off,rfl,hbw,hcl⟩
   ·rw [h0] at hlt;simp at hlt
   obtain ⟨c0,c1⟩:=hcl k hlt;rw [<-hb.cell (p:=⟨b,off+k*2,none⟩) hbw] at c0;rw [<-hb.cell (p:=⟨b,off+k*2+1,none⟩) hbw] at c1;generalize hz:Z7 ps k=p at *;obtain ⟨f,z⟩:=p;simp only at c0 c1;have hcb:=(hb.cell (p:=⟨B,0,none⟩) hB).trans (uh Hc);have hBr:B<wr.heap.size:=ZD hB hb.size;have Hz:=Z9 hz;have Hcb:=Z9 hcb;clear hz hcl hb hcb;by_cases hx:z=who
   ·subst hx
    go_wp2_with fail;refine ck (MQ _ _ _ _ _ (uh Hcb) hBr) fun w1 hb1=> ?_;have Hb1:=Z9 hb1;clear hb1;go_wp2_with fail;go_ret;exact ⟨ZQ (H9 hlt (by rw [uh Hz]) (uh hno)).symm,(uh Hb).trans ((uh Hb1).mono (uh Hb).size)⟩
   ·have hx':(z ==who)=false:=by simpa using hx
    have Hx:=Z9 hx;clear hx;go_wp2_with fail;refine (MQ _ _ _ _ _ (uh Hcb) hBr).mono ?_;rw [hx'];rintro e w1 ⟨rfl,hb1⟩;have Hb1:=Z9 hb1;clear hb1;go_wp2_with fail;go_roundw
    case rel=>exact ⟨k+1,by omega,by go_num,Z9 (Y4 (uh hno) (by rw [uh Hz];exact uh Hx)),(uh Hb).trans ((uh Hb1).mono (uh Hb).size)⟩
    case measure=>exact ms
  ·obtain rfl:k=ps.length:=by omega
   go_wp2_with fail;go_ret;exact ⟨ZQ (On (uh hno)).symm,hb⟩
theorem Kv {w:World} {v:Value} {ps:List Z6} (who:Int) (h:IsPaces w v ps) :
  cB 235 #[v,.int .i64 who] w (.int .i64 (Wu ps who)):=by
 have Hv:=Z9 h;obtain ⟨a,cap,rfl,hcc,hm,hr⟩:=h;clear hr;go_enter func235,ntmps235;go_wp2_with fail;refine ck (JV who w.heap.size ((uh Hv).below ((ba _ _))) (by simp) (by simp)) fun w1 hb=> ?_;have Hb:=Z9 hb;clear hb;go_wp2_with fail;go_ret;exact ⟨rfl,((ba _ _)).trans ((uh Hb).mono (by simp))⟩
end Go.Proofs.YtgdpaigcmoifbaaGreatDoor
