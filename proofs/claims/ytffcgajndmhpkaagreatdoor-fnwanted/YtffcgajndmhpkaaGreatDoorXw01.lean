/- Part 1 of what the proof rests on. No condition but those that a theorem names. -/
import Derived.Test.YtffcgajndmhpkaaGreatDoorRows
import Derived.Test.YtffcgajndmhpkaaGreatDoorTie
import Derived.KernelRfl
import Derived.SevenTiedAt
import Derived.Test.YtffcgajndmhpkaaGreatDoorChecked
import GoSem.Claim
import GoSem.ClaimJoined
import GoSem.ClaimMapViews
import Derived.JoinedTies
import Derived.RowKit
import Derived.WalkKit
import Derived.ProofKit
import Derived.OpenShut
import Derived.Outline
import Derived.Lib.QuietBelow
import Derived.Deep.QuietTactic
import Derived.BigQuiet
import Derived.Laws.OwnMore
import Derived.OwnWalk
import Derived.Maps.AppendAt
set_option maxHeartbeats 8000000
set_option maxRecDepth 100000
namespace Go.Proofs.YtffcgajndmhpkaaGreatDoor
open Go
variable {w w' w0 w1 w2 w3 w₀ wr W W' X A B C : World} {v v0 v1 v2 v3 v4 u u0 u1 u2 u3 u4 : Value}
theorem BA : Tryz.pinned.checked.prog.mainIs = some (true, "626d3be9a7070331a205b817a13979c1371d85ec4c86334440f83fb2a7432c2f".toList) := by kernel_rfl
theorem Cv:true=Tryz.pinned.checked.prog.looks []:=by kernel_rfl
theorem Dz:(Tryz.prog.funcs.toList.any Func.goes)=false:=by kernel_rfl
theorem Ct (f:FuncId):Tryz.prog.goes f=false:=by
 have h:∀ fn ∈ Tryz.prog.funcs.toList,Func.goes fn=false:=fun fn hf=>by
  have:=List.any_eq_false.1 Dz fn hf
  simpa using this
 have hg:∀ g:FuncId,(Tryz.prog.funcs[g]?).any Func.goes=false:=fun g=>by
  cases hx:Tryz.prog.funcs[g]? with
  | none=>rfl
  | some fn=>exact h fn (by simpa using Array.mem_of_getElem? hx)
 unfold Program.goes
 simp [hg]
 intro _ i hi
 exact h _ (by simp)
theorem Bz (c:OpenClaim) (hc:c.start= .entering):false=c.goesBy Tryz.pinned.checked.prog:=by
 show false=c.goesBy Tryz.prog
 unfold OpenClaim.goesBy Program.goesAt Program.goesFrom
 rw [hc]
 cases Tryz.prog.funcNamed c.func with
 | none=>rfl
 | some f=>simp [Ct]
open Go.ChangeShapes Go.WideShapes Go.ChangeAt Go.RowKit
set_option linter.unusedVariables false
theorem ba (w:World) (o:Obj):Below w.heap.size w (w.alloc o):=(Below.refl _ _).alloc (Nat.le_refl _) _
theorem ms {G:Prop} (h:G:=by (simp [intOf];omega)):G:=h
theorem wq {P:Program} {id:Nat} {Q:Exit->Act->World->Prop} {a:Act} {l:List Oper} (h:wpQuiet P l.toArray (fun w'=> ∃ p:Regrown,w'=Go.Sort.grow (redrawn w p.d) p.os) (fun a'=> ∀ w',(∃ p:Regrown,w'=Go.Sort.grow (redrawn w p.d) p.os)->Q .normal a' w') l a) (hm:P.follows .mixedOrders=true:=by kernel_rfl) (hB:Region.lexB .any l.toArray=true:=by kernel_rfl):(Code.region id l.toArray true).wp P Q a w:=wp_region_quiet_below hm hB h
theorem wqn {P:Program} {ops:Array Oper} {C:World->Prop} {Q:Exit->Act->World->Prop} {a:Act} (h:∀ w',Below w.heap.size w w'->Q .normal a w'):wpQuiet P ops C (fun a'=> ∀ w',(∃ p:Regrown,w'=Go.Sort.grow (redrawn w p.d) p.os)->Q .normal a' w') [] a:=wpQuiet_nil (fun w' hp=>by obtain ⟨p,rfl⟩:=hp;exact h _ (below_regrown w p.d p.os))
theorem ck {P:Program} {f:FuncId} {args:Array Value}  {R:World->Prop} {Q:Ending->World->Prop} (h:Calls P f args w fun e w'=>e= .returned v/\R w') (hk:∀ w',R w'->Q (.returned v) w'):Calls P f args w Q:=h.mono (by rintro e w' ⟨rfl,hr⟩;exact hk w' hr)
theorem ZI {k:IntKind} {a b:Int} (h:a=b):Ending.returned (.int k a)= .returned (.int k b):=by rw [h]
theorem Z5 {a b:Bool} (h:a=b):Ending.returned (.bool a)= .returned (.bool b):=by rw [h]
def inB (x lo hi:Int):Bool:=decide (lo<=x/\x<=hi)
theorem Zv {x lo hi:Int} (h1:lo<=x) (h2:x<=hi):inB x lo hi=true:=by unfold inB;exact decide_eq_true ⟨h1,h2⟩
theorem U7 {x lo hi:Int} (h:x<lo\/hi<x):inB x lo hi=false:=by unfold inB;exact decide_eq_false (by omega)
theorem ZU {x lo hi:Int} (h:inB x lo hi=true):lo<=x/\x<=hi:=by unfold inB at h;exact of_decide_eq_true h
theorem Z9 {p:Prop} (h:p):Hid p:=h
theorem uh {p:Prop} (h:Hid p):p:=h
theorem Mq (a b:Int) (w:World):Calls Tryz.prog 187 #[.int .i64 a,.int .i64 b] w fun e w'=>e= .returned (.int .i64 (min a b))/\w'=w:=by
 by_cases h:a<b
 all_goals
  go_enter Tryz.func187,Tryz.ntmps187
  go_wp2
  go_ret
  exact ⟨ZI (by omega),rfl⟩
theorem Ss (a b:Int) (w:World):Calls Tryz.prog 124 #[.int .i64 a,.int .i64 b] w fun e w'=>e= .returned (.int .i64 (max a b))/\w'=w:=by
 by_cases h:b<a
 all_goals
  go_enter Tryz.func124,Tryz.ntmps124
  go_wp2
  go_ret
  exact ⟨ZI (by omega),rfl⟩
theorem Tx (x l h:Int) (w:World):Calls Tryz.prog 189 #[.int .i64 x,.int .i64 l,.int .i64 h] w fun e w'=>e= .returned (.int .i64 (min (max x l) h))/\w'=w:=by
 go_enter Tryz.func189,Tryz.ntmps189
 go_wp2_with (first | (go_at_call 187;refine (Mq _ _ _).mono ?_;rintro e w' ⟨rfl,rfl⟩) | (go_at_call 124;refine (Ss _ _ _).mono ?_;rintro e w' ⟨rfl,rfl⟩))
 go_ret
 exact ⟨rfl,rfl⟩
theorem VR (x l h:Int) (w:World):Calls Tryz.prog 258 #[.int .i64 x,.int .i64 l,.int .i64 h] w fun e w'=>e= .returned (.int .i64 (min (max x l) h))/\w'=w:=by
 by_cases c1:x<l
 ·by_cases c2:h<l
  all_goals
   go_enter Tryz.func258,Tryz.ntmps258
   go_wp2
   all_goals (go_ret;exact ⟨ZI (by omega),rfl⟩)
 ·by_cases c2:h<x
  all_goals
   go_enter Tryz.func258,Tryz.ntmps258
   go_wp2
   all_goals (go_ret;exact ⟨ZI (by omega),rfl⟩)
theorem ZZ (x lo hi:Int) (w:World):Calls Tryz.prog 40 #[.int .i64 x,.int .i64 lo,.int .i64 hi] w fun e w'=>e= .returned (.bool (inB x lo hi))/\w'=w:=by
 by_cases h1:lo<=x
 ·by_cases h2:x<=hi
  all_goals
   go_enter Tryz.func40,Tryz.ntmps40
   go_wp2
   go_ret
   exact ⟨Z5 (by first | exact (Zv h1 h2).symm | exact (U7 (by omega)).symm),rfl⟩
 ·go_enter Tryz.func40,Tryz.ntmps40
  go_wp2
  go_ret
  exact ⟨Z5 (U7 (by omega)).symm,rfl⟩
theorem Um (x:Int) (w:World):Calls Tryz.prog 162 #[.int .i64 x] w fun e w'=>e= .returned (.bool (inB x 0 1000000000))/\w'=w:=by
 go_enter Tryz.func162,Tryz.ntmps162
 go_wp2_with (go_at_call 40;refine (ZZ _ _ _ _).mono ?_;rintro e w' ⟨rfl,rfl⟩)
 go_ret
 exact ⟨rfl,rfl⟩
theorem Oi (x:Int) (w:World):Calls Tryz.prog 265 #[.int .i64 x] w fun e w'=>e= .returned (.bool (inB x 0 1024))/\w'=w:=by
 by_cases h1:0<=x
 ·by_cases h2:x<=1024
  all_goals
   go_enter Tryz.func265,Tryz.ntmps265
   go_wp2
   go_ret
   exact ⟨Z5 (by first | exact (Zv h1 h2).symm | exact (U7 (by omega)).symm),rfl⟩
 ·go_enter Tryz.func265,Tryz.ntmps265
  go_wp2
  go_ret
  exact ⟨Z5 (U7 (by omega)).symm,rfl⟩
theorem sA {α:Type} (l:List α) (i:Nat) (a:α):l.toArray.setIfInBounds i a=(l.set i a).toArray:=by simp
theorem sZ {α:Type} (x:α) (l:List α) (a:α):(x::l).set 0 a=a::l:=rfl
theorem sS {α:Type} (x:α) (l:List α) (n:Nat) (a:α):(x::l).set (n+1) a=x::l.set n a:=rfl
abbrev Z6:=Int × Int
abbrev Z2:=Int × List Z6
def Z7 (ps:List Z6) (k:Nat):Z6:=ps.getD k (0,0)
def Z0 (rs:List Z2) (k:Nat):Z2:=rs.getD k (0,[])
def IsPaces (w:World) (v:Value) (ps:List Z6):Prop:=
 ∃ (a:Option Addr) (cap:Nat),v= .slice a ps.length cap/\ps.length<=cap/\cap<=9223372036854775807/\(ps=[]\/ ∃ b off,a=some ⟨b,off,none⟩/\b<w.heap.size/\
  ∀ k,k<ps.length->w.cell? ⟨b,off+k*2,none⟩=some (.int .i64 (Z7 ps k).1)/\w.cell? ⟨b,off+k*2+1,none⟩=some (.int .i64 (Z7 ps k).2))
def IsRooms (w:World) (v:Value) (rs:List Z2):Prop:=
 ∃ (a:Option Addr) (cap:Nat),v= .slice a rs.length cap/\rs.length<=cap/\cap<=9223372036854775807/\(rs=[]\/ ∃ b off,a=some ⟨b,off,none⟩/\b<w.heap.size/\
  ∀ k,k<rs.length->w.cell? ⟨b,off+k*2,none⟩=some (.int .i64 (Z0 rs k).1)/\ ∃ pv,w.cell? ⟨b,off+k*2+1,none⟩=some pv/\IsPaces w pv (Z0 rs k).2)
theorem IsPaces.below  {ps:List Z6} (h:IsPaces w v ps) (hb:Below w.heap.size w w'):IsPaces w' v ps:=by
 obtain ⟨a,cap,rfl,hc,hm,hr⟩:=h
 refine ⟨a,cap,rfl,hc,hm,?_⟩
 rcases hr with hr | ⟨b,off,rfl,hlt,hcl⟩
 ·exact .inl hr
 ·refine .inr ⟨b,off,rfl,Nat.lt_of_lt_of_le hlt hb.size,fun k hk=> ?_⟩
  obtain ⟨h1,h2⟩:=hcl k hk
  exact ⟨by rw [hb.cell (p:=⟨b,off+k*2,none⟩) hlt];exact h1,by rw [hb.cell (p:=⟨b,off+k*2+1,none⟩) hlt];exact h2⟩
theorem IsRooms.below  {rs:List Z2} (h:IsRooms w v rs) (hb:Below w.heap.size w w'):IsRooms w' v rs:=by
 obtain ⟨a,cap,rfl,hc,hm,hr⟩:=h
 refine ⟨a,cap,rfl,hc,hm,?_⟩
 rcases hr with hr | ⟨b,off,rfl,hlt,hcl⟩
 ·exact .inl hr
 ·refine .inr ⟨b,off,rfl,Nat.lt_of_lt_of_le hlt hb.size,fun k hk=> ?_⟩
  obtain ⟨h1,pv,h2,h3⟩:=hcl k hk
  exact ⟨by rw [hb.cell (p:=⟨b,off+k*2,none⟩) hlt];exact h1,pv,by rw [hb.cell (p:=⟨b,off+k*2+1,none⟩) hlt];exact h2,h3.below hb⟩
theorem Kt {rs:List Z2} {n k:Nat} (h:k<n):Z0 (rs.take n) k=Z0 rs k:=by
 unfold Z0;simp [List.getD,h]
theorem IsRooms.taken {a:Option Addr} {len cap:Nat} {rs:List Z2} (h:IsRooms w (.slice a len cap) rs) {n:Nat} (hn:n<=len):IsRooms w (.slice a n cap) (rs.take n):=by
 obtain ⟨a',cap',he,hc,hm,hr⟩:=h
 cases he
 have hl:(rs.take n).length=n:=by simp;omega
 refine ⟨a,cap,by rw [hl],by omega,hm,?_⟩
 rcases hr with hr | ⟨b,off,rfl,hlt,hcl⟩
 ·exact .inl (by rw [hr];simp)
 ·refine .inr ⟨b,off,rfl,hlt,fun k hk=> ?_⟩
  rw [Kt (by omega)]
  exact hcl k (by omega)
def Vi (p:Z6):Bool:=inB p.1 1 1024 && inB p.2 1 1024
def RK (p q:Z6):Bool:=decide (q.1<p.1) && decide (q.2<p.2)
def Xy (ps:List Z6) (k:Nat):Bool:=Vi (Z7 ps k) && (k ==0 || RK (Z7 ps k) (Z7 ps (k-1)))
def TU (ps:List Z6):Bool:=(List.range ps.length).all (Xy ps)
def Zt (r:Z2):Bool:=inB r.1 1 4 && (inB r.2.length 1 4 && TU r.2)
def Z1 (rs:List Z2):Int:=(rs.map (·.1)).sum
def Zh (rs:List Z2):Bool:=inB rs.length 1 3 && (rs.all Zt && decide (Z1 rs<=8))
theorem Kf {ps:List Z6} (h:∀ j,j<ps.length->Xy ps j=true):TU ps=true:=by
 unfold TU;rw [List.all_eq_true];intro j hj;exact h j (List.mem_range.1 hj)
theorem Uq {ps:List Z6} {j:Nat} (hj:j<ps.length) (h:Xy ps j=false):TU ps=false:=by
 unfold TU;rw [List.all_eq_false];exact ⟨j,List.mem_range.2 hj,by simp [h]⟩
theorem QE {ps:List Z6} (h:TU ps=true) {j:Nat} (hj:j<ps.length):Xy ps j=true:=by
 unfold TU at h;rw [List.all_eq_true] at h;exact h j (List.mem_range.2 hj)
theorem OJ {rs:List Z2} {k:Nat} (h:k<rs.length):Z0 rs k ∈ rs:=by
 unfold Z0;simp [List.getD,h]
theorem ND {rs:List Z2} (h:∀ j,j<rs.length->Zt (Z0 rs j)=true):rs.all Zt=true:=by
 rw [List.all_eq_true];intro r hr
 obtain ⟨j,hj,rfl⟩:=List.getElem_of_mem hr
 have:=h j hj
 unfold Z0 at this;simpa [List.getD,hj] using this
theorem NC {rs:List Z2} {j:Nat} (hj:j<rs.length) (h:Zt (Z0 rs j)=false):rs.all Zt=false:=by
 rw [List.all_eq_false];exact ⟨_,OJ hj,by simp [h]⟩
theorem SD {rs:List Z2} (h:rs.all Zt=true) {j:Nat} (hj:j<rs.length):Zt (Z0 rs j)=true:=by
 rw [List.all_eq_true] at h;exact h _ (OJ hj)
theorem Rv {r:Z2} (h:Zt r=true):1<=r.1/\r.1<=4/\1<=r.2.length/\r.2.length<=4:=by
 unfold Zt at h;simp only [Bool.and_eq_true] at h
 have h1:=ZU h.1;have h2:=ZU h.2.1
 omega
theorem Ys (rs:List Z2) {k:Nat} (h:k<rs.length):Z1 (rs.take (k+1))=Z1 (rs.take k)+(Z0 rs k).1:=by
 unfold Z1 Z0
 rw [List.take_succ_eq_append_getElem h,List.map_append,List.sum_append];simp [List.getD,h]
theorem SE {rs:List Z2} (h:rs.all Zt=true):∀ k,k<=rs.length->(k:Int)<=Z1 (rs.take k)/\Z1 (rs.take k)<=4*k
 | 0,_=>by simp [Z1]
 | k+1,hk=>by
  have ih:=SE h k (by omega)
  have hb:=Rv (SD h (j:=k) (by omega))
  rw [Ys rs (by omega)];omega
theorem Vz (rs:List Z2):Z1 (rs.take rs.length)=Z1 rs:=by rw [List.take_length]
theorem Zy {rs:List Z2} (h:Zh rs=true):1<=rs.length/\rs.length<=3/\rs.all Zt=true/\Z1 rs<=8:=by
 unfold Zh at h;simp only [Bool.and_eq_true,decide_eq_true_eq] at h
 have h1:=ZU h.1
 exact ⟨by omega,by omega,h.2.1,h.2.2⟩
open Go.ChangeShapes Go.WideShapes Go.ChangeAt Go.RowKit Go.Sort
theorem NG {B:Nat} (hb:Below B W w1):(∀ b o,b<B->w1.cell? ⟨b,o,none⟩=W.cell? ⟨b,o,none⟩)/\(∀ b o,b<B->w1.frozen? ⟨b,o,none⟩=W.frozen? ⟨b,o,none⟩):=
 ⟨fun b o h=>hb.cell (p:=⟨b,o,none⟩) h,fun b o h=>hb.frozen (p:=⟨b,o,none⟩) h⟩
theorem ZD (lo n hi:Int) (w:World):Calls Tryz.prog 117 #[.int .i64 lo,.int .i64 n,.int .i64 hi] w fun e w'=>e= .returned (.bool (inB n lo hi))/\w'=w:=by
 by_cases h1:lo<=n
 ·by_cases h2:n<=hi
  all_goals
   go_enter Tryz.func117,Tryz.ntmps117
   go_wp2
   go_ret
   exact ⟨Z5 (by unfold inB;simp [h1,h2]),rfl⟩
 ·go_enter Tryz.func117,Tryz.ntmps117
  go_wp2
  go_ret
  exact ⟨Z5 (by unfold inB;simp;omega),rfl⟩
theorem YF {P:Nat->Prop} {k:Nat} (h:∀ j,j<k->P j) (hk:P k):∀ j,j<k+1->P j:=fun j hj=>by
 by_cases e:j<k
 ·exact h j e
 ·obtain rfl:j=k:=by omega
  exact hk
structure But (bc:Nat) (w w':World):Prop where
 os:w'.os=w.os
 tape:w'.tape=w.tape
 output:w'.output=w.output
 size:w.heap.size<=w'.heap.size
 block:∀ k,k<w.heap.size->k ≠ bc->w'.heap[k]?=w.heap[k]?
theorem But.refl (bc:Nat) (w:World):But bc w w:=⟨rfl,rfl,rfl,Nat.le_refl _,fun _ _ _=>rfl⟩
theorem But.trans {bc:Nat} {a b c:World} (h:But bc a b) (k:But bc b c):But bc a c:=
 ⟨k.os.trans h.os,k.tape.trans h.tape,k.output.trans h.output,Nat.le_trans h.size k.size,fun i hi hn=>(k.block i (Nat.lt_of_lt_of_le hi h.size) hn).trans (h.block i hi hn)⟩
theorem But.below {bc B:Nat} {a w:World} (h:But bc a w) (hB:B<=bc) (hs:B<=a.heap.size):Below B a w:=
 ⟨h.os,h.tape,h.output,h.size,fun k hk=>h.block k (Nat.lt_of_lt_of_le hk hs) (by omega)⟩
theorem But.later {bc:Nat} {a b c:World} (h:But bc a b) (k:Below b.heap.size b c):But bc a c:=
 h.trans ⟨k.os,k.tape,k.output,k.size,fun i hi _=>k.block i hi⟩
theorem But.within {bc:Nat} {a b c:World} (h:But bc a b) (k:Below a.heap.size b c):But bc a c:=
 ⟨k.os.trans h.os,k.tape.trans h.tape,k.output.trans h.output,Nat.le_trans h.size k.size,fun i hi hn=>(k.block i hi).trans (h.block i hi hn)⟩
theorem But.setCell {bc:Nat} {a w:World} (h:But bc a w) (o:Nat) (v:Value):But bc a (w.setCell ⟨bc,o,none⟩ v):=
 h.trans ⟨rfl,rfl,rfl,by simp,fun k hk hn=>Below.heap_setCell w ⟨bc,o,none⟩ v k hn⟩
theorem But.cell {bc:Nat} (h:But bc w w') {p:Addr} (hp:p.block<w.heap.size) (hn:p.block ≠ bc):w'.cell? p=w.cell? p:=
 World.cell?_of_block (w:=w) (h.block p.block hp hn)
theorem XS {B t size n:Nat} {xs:List Value} (h:w.ownsRow B t size v n xs) (hs:∀ k,v.ownBlock=some k->w'.heap[k]?=w.heap[k]?):w'.ownsRow B t size v n xs:=by
 refine ⟨h.1,?_⟩
 rcases h.2 with hz | ⟨g,cap,cur,rfl,hb,hg,r⟩
 ·exact .inl hz
 ·exact .inr ⟨g,cap,cur,rfl,hb,(hs g rfl).trans hg,r⟩
theorem Up {B B' t size n:Nat} {xs:List Value} (h:w.ownsRow B t size v n xs) (hb:B'<=B):w.ownsRow B' t size v n xs:=by
 refine ⟨h.1,?_⟩
 rcases h.2 with hz | ⟨g,cap,cur,rfl,hb',r⟩
 ·exact .inl hz
 ·exact .inr ⟨g,cap,cur,rfl,by omega,r⟩
def Zj (ps:List Z6):List Value:=ps.flatMap fun p=>[.int .i64 p.1,.int .i64 p.2]
def Tf (qs:List (Z2 × Value)):List Value:=qs.flatMap fun q=>[.int .i64 q.1.1,q.2]
theorem My {α:Type} {f g:α->Value} : ∀ l:List α,(l.flatMap fun p=>[f p,g p]).length=l.length*2
 | []=>rfl
 | p::l=>by rw [List.flatMap_cons,List.length_append,My l];simp;omega
theorem Vv {α:Type} {f g:α->Value} : ∀ (l:List α) (k:Nat) (h:k<l.length),(l.flatMap fun p=>[f p,g p])[k*2]?=some (f l[k])/\(l.flatMap fun p=>[f p,g p])[k*2+1]?=some (g l[k])
 | p::l,0,_=>by simp
 | p::l,k+1,h=>by
  have ih:=Vv (f:=f) (g:=g) l k (by simpa using h)
  rw [List.flatMap_cons,show (k+1)*2=k*2+2 by omega,show k*2+2+1=(k*2+1)+2 by omega]
  simpa using ih
theorem SM {a b c:World} {row:Option Nat} (h:a.grownBy b row) (k:b.grownBy c row):a.grownBy c row:=
 ⟨k.os.trans h.os,k.tape.trans h.tape,k.output.trans h.output,Nat.le_trans h.size k.size,fun i hi hn=>(k.block i (Nat.lt_of_lt_of_le hi h.size) hn).trans (h.block i hi hn)⟩
theorem J6 {B g n cap t:Nat} {xs:List Value} (h:w.ownsRow B t 2 (.slice (some ⟨g,0,none⟩) n cap) n xs) (j:Nat) (u u':Value) :
  ((w.setCell ⟨g,j,none⟩ u).setCell ⟨g,j+1,none⟩ u').ownsRow B t 2 (.slice (some ⟨g,0,none⟩) n cap) n ((xs.set j u).set (j+1) u')/\w.grownBy ((w.setCell ⟨g,j,none⟩ u).setCell ⟨g,j+1,none⟩ u') (some g):=by
 have h1:=World.ownsRow.stored h j u
 have h2:=World.ownsRow.stored h1.1 (j+1) u'
 exact ⟨h2.1,SM h1.2 h2.2⟩
theorem BO (f c:Int):∀ (ps:List Z6) (j:Nat),j<ps.length->((Zj ps).set (j*2) (.int .i64 f)).set (j*2+1) (.int .i64 c)=Zj (ps.set j (f,c))
 | p::ps,0,_=>by simp [Zj]
 | p::ps,j+1,h=>by
  have ih:=BO f c ps j (by simpa using h)
  unfold Zj at ih ⊢
  rw [List.flatMap_cons,show (j+1)*2=j*2+2 by omega,show j*2+2+1=(j*2+1)+2 by omega]
  simpa using ih
theorem RO (w:World) (r:Option Nat):w.grownBy w r:=⟨rfl,rfl,rfl,Nat.le_refl _,fun _ _ _=>rfl⟩
theorem TI {b o:Nat} (h:w.heap.size<=b):w.frozen? ⟨b,o,none⟩=false:=by
 unfold World.frozen?
 rw [Array.getElem?_eq_none h]
theorem RQ (f c:Int) (w:World):Calls Tryz.prog 232 #[.agg #[.int .i64 f,.int .i64 c]] w fun e w'=>e= .returned (.bool (Vi (f,c)))/\Below w.heap.size w w':=by
 cases h1:inB f 1 1024
 ·go_enter Tryz.func232,Tryz.ntmps232
  go_wp2_with fail
  refine (ZD _ _ _ _).mono ?_
  rintro e w' ⟨rfl,rfl⟩
  go_wp2_with fail
  go_ret
  exact ⟨Z5 (by unfold Vi;simp [h1]),(ba _ _)⟩
 ·go_enter Tryz.func232,Tryz.ntmps232
  go_wp2_with fail
  refine (ZD _ _ _ _).mono ?_
  rintro e w' ⟨rfl,rfl⟩
  go_wp2_with fail
  refine (ZD _ _ _ _).mono ?_
  rintro e w' ⟨rfl,rfl⟩
  go_wp2_with fail
  go_ret
  exact ⟨Z5 (by unfold Vi;simp [h1]),(ba _ _)⟩
theorem SR (f c f' c':Int) (w:World):Calls Tryz.prog 233 #[.agg #[.int .i64 f,.int .i64 c],.agg #[.int .i64 f',.int .i64 c']] w fun e w'=>e= .returned (.bool (RK (f,c) (f',c')))/\Below w.heap.size w w':=by
 by_cases h1:f'<f
 ·go_enter Tryz.func233,Tryz.ntmps233
  go_wp2_with fail
  all_goals
   go_ret
   exact ⟨Z5 (by unfold RK;simp [h1]),((ba _ _)).alloc (by simp) _⟩
 ·go_enter Tryz.func233,Tryz.ntmps233
  go_wp2_with fail
  all_goals
   go_ret
   exact ⟨Z5 (by unfold RK;simp;omega),((ba _ _)).alloc (by simp) _⟩
theorem CG {ps:List Z6} {k:Nat} {p:Z6} (hp:Z7 ps k=p) (h:Vi p=false):Xy ps k=false:=by unfold Xy;rw [hp];simp [h]
theorem CE {ps:List Z6} {p:Z6} (hp:Z7 ps 0=p) (h:Vi p=true):Xy ps 0=true:=by unfold Xy;rw [hp];simp [h]
theorem Gi {ps:List Z6} {k:Nat} {p q:Z6} (hp:Z7 ps (k+1)=p) (hq:Z7 ps k=q) (h:Vi p=true):Xy ps (k+1)=RK p q:=by unfold Xy;simp [hp,hq,h]
theorem Kg  {ps:List Z6} (h:IsPaces w v ps) :
  Calls Tryz.prog 183 #[v] w fun e w'=>e= .returned (.bool (TU ps))/\Below w.heap.size w w':=by
 obtain ⟨a,cap,rfl,hc,hm,hr⟩:=h
 have Hr:=Z9 hr
 clear hr
 go_enter Tryz.func183,Tryz.ntmps183
 go_wp2_with fail
 go_loopw [7] (fun i wr=> ∃ k:Nat,k<=ps.length/\i= .int .i64 k/\(∀ j,j<k->Xy ps j=true)/\Below w.heap.size w wr) (fun i _=>ps.length-(intOf i).toNat)
 case atStart=>exact ⟨0,Nat.zero_le _,rfl,fun j hj=>by omega,Below.refl _ _⟩
 case round=>
  obtain ⟨k,hk,rfl,hst,hb⟩:=hrel
  have Hst:=Z9 hst
  have Hb:=Z9 hb
  clear hst
  by_cases hlt:k<ps.length
  ·rcases uh Hr with h0 | ⟨b,off,rfl,hbw,hcl⟩
   ·rw [h0] at hlt;simp at hlt
   have hbr:b<wr.heap.size:=Nat.lt_of_lt_of_le hbw hb.size
   have hne:b ≠ wr.heap.size:=Nat.ne_of_lt hbr
   obtain ⟨c0,c1⟩:=hcl k hlt
   rw [<-hb.cell (p:=⟨b,off+k*2,none⟩) hbw] at c0
   rw [<-hb.cell (p:=⟨b,off+k*2+1,none⟩) hbw] at c1
   generalize hp:Z7 ps k=p at c0 c1
   have Hp:=Z9 hp
   clear hp
   obtain ⟨f,c⟩:=p
   simp only at c0 c1
   have d0:(wr.alloc (.cells #[.int .i64 f,.int .i64 c] 42)).cell? ⟨wr.heap.size,0,none⟩=some (.int .i64 f):=by simp
   have d1:(wr.alloc (.cells #[.int .i64 f,.int .i64 c] 42)).cell? ⟨wr.heap.size,1,none⟩=some (.int .i64 c):=by simp
   have k0:=cell_regrown d0
   have k1:=cell_regrown d1
   clear d0 d1
   cases hpb:Vi (f,c)
   ·clear hcl
    go_wp2_with fail
    refine wq ?_
    repeat (go_big_quiet_step (first | exact Calls.regrown_of (RQ _ _ _) | exact Calls.regrown_of (SR _ _ _ _ _)))
    refine wpQuiet_nil ?_
    intro _ hw'
    obtain ⟨⟨dq,osq⟩,hw''⟩:=hw'
    subst hw''
    go_wp2_with fail
    go_ret
    exact ⟨Z5 (Uq hlt (CG (uh Hp) hpb)).symm,(uh Hb).trans (((Below.refl _ _).alloc (uh Hb).size _).trans ((below_regrown _ _ _).mono (by simp;have:=(uh Hb).size;omega)))⟩
   ·by_cases hz:0<k
    ·have hd:decide (0<k)=true:=decide_eq_true hz
     obtain ⟨e0,e1⟩:=hcl (k-1) (by omega)
     rw [<-hb.cell (p:=⟨b,off+(k-1)*2,none⟩) hbw] at e0
     rw [<-hb.cell (p:=⟨b,off+(k-1)*2+1,none⟩) hbw] at e1
     generalize hq:Z7 ps (k-1)=q at e0 e1
     have Hq:=Z9 hq
     clear hq
     obtain ⟨f',c'⟩:=q
     simp only at e0 e1
     have m0:=cell_regrown (w:=wr.alloc (.cells #[.int .i64 f,.int .i64 c] 42)) (a:=⟨b,off+(k-1)*2,none⟩) (v:= .int .i64 f') (by rw [World.cell?_alloc_old _ _ _ hne];exact e0)
     have m1:=cell_regrown (w:=wr.alloc (.cells #[.int .i64 f,.int .i64 c] 42)) (a:=⟨b,off+(k-1)*2+1,none⟩) (v:= .int .i64 c') (by rw [World.cell?_alloc_old _ _ _ hne];exact e1)
     clear hcl e0 e1
     cases hab:RK (f,c) (f',c')
     all_goals
      go_wp2_with fail
      refine wq ?_
      repeat (go_big_quiet_step (first | exact Calls.regrown_of (RQ _ _ _) | exact Calls.regrown_of (SR _ _ _ _ _)))
      refine wpQuiet_nil ?_
      intro _ hw'
      obtain ⟨⟨dq,osq⟩,hw''⟩:=hw'
      subst hw''
      go_wp2_with fail
     ·go_ret
      exact ⟨Z5 (Uq hlt (by obtain ⟨m,rfl⟩:∃ m,k=m+1:=⟨k-1,by omega⟩;rw [Gi (uh Hp) (uh Hq) hpb];exact hab)).symm,(uh Hb).trans (((Below.refl _ _).alloc (uh Hb).size _).trans ((below_regrown _ _ _).mono (by simp;have:=(uh Hb).size;omega)))⟩
     ·have hs:Xy ps k=true:=by obtain ⟨m,rfl⟩:∃ m,k=m+1:=⟨k-1,by omega⟩;rw [Gi (uh Hp) (uh Hq) hpb];exact hab
      go_roundw
      case rel=>exact ⟨k+1,by omega,by go_num,YF (uh Hst) hs,(uh Hb).trans (((Below.refl _ _).alloc (uh Hb).size _).trans ((below_regrown _ _ _).mono (by simp;have:=(uh Hb).size;omega)))⟩
      case measure=>exact ms
    ·obtain rfl:k=0:=by omega
     simp only [Nat.zero_mul,Nat.add_zero] at c0 c1
     clear hcl hz
     go_wp2_with fail
     refine wq ?_
     repeat (go_big_quiet_step (first | exact Calls.regrown_of (RQ _ _ _) | exact Calls.regrown_of (SR _ _ _ _ _)))
     refine wpQuiet_nil ?_
     intro _ hw'
     obtain ⟨⟨dq,osq⟩,hw''⟩:=hw'
     subst hw''
     go_wp2_with fail
     go_roundw
     case rel=>exact ⟨1,by omega,by go_num,YF (uh Hst) (CE (uh Hp) hpb),(uh Hb).trans (((Below.refl _ _).alloc (uh Hb).size _).trans ((below_regrown _ _ _).mono (by simp;have:=(uh Hb).size;omega)))⟩
     case measure=>exact ms
  ·obtain rfl:k=ps.length:=by omega
   go_wp2_with fail
   go_ret
   exact ⟨Z5 (Kf (uh Hst)).symm,hb⟩
theorem Gc {b:Int} {ps:List Z6} (h:inB b 1 4=false):Zt (b,ps)=false:=by unfold Zt;simp [h]
theorem Gd {b:Int} {ps:List Z6} (h:inB ps.length 1 4=false):Zt (b,ps)=false:=by unfold Zt;simp [h]
theorem Ge {b:Int} {ps:List Z6} (h:inB b 1 4=true) (h2:inB ps.length 1 4=true):Zt (b,ps)=TU ps:=by unfold Zt;simp [h,h2]
theorem Xn  {ps:List Z6} (b:Int) (h:IsPaces w v ps) :
  Calls Tryz.prog 116 #[.agg #[.int .i64 b,v]] w fun e w'=>e= .returned (.bool (Zt (b,ps)))/\Below w.heap.size w w':=by
 have Hv:=Z9 h
 obtain ⟨a,cap,rfl,hc,hm,hr⟩:=h
 clear hr
 have hl:(ps.length:Int)<=9223372036854775807:=by omega
 cases h1:inB b 1 4
 ·go_enter Tryz.func116,Tryz.ntmps116
  go_wp2_with fail
  refine (ZD _ _ _ _).mono ?_
  rintro e w' ⟨rfl,rfl⟩
  go_wp2_with fail
  go_ret
  exact ⟨Z5 (Gc h1).symm,(ba _ _)⟩
 cases h2:inB ps.length 1 4
 ·go_enter Tryz.func116,Tryz.ntmps116
  go_wp2_with fail
  refine (ZD _ _ _ _).mono ?_
  rintro e w' ⟨rfl,rfl⟩
  go_wp2_with fail
  refine (ZD _ _ _ _).mono ?_
  rintro e w' ⟨rfl,rfl⟩
  go_wp2_with fail
  go_ret
  exact ⟨Z5 (Gd h2).symm,(ba _ _)⟩
 ·have H3:=Z9 (Ge h1 h2)
  go_enter Tryz.func116,Tryz.ntmps116
  go_wp2_with fail
  refine (ZD _ _ _ _).mono ?_
  rintro e w' ⟨rfl,rfl⟩
  go_wp2_with fail
  refine (ZD _ _ _ _).mono ?_
  rintro e w' ⟨rfl,rfl⟩
  go_wp2_with fail
  refine ck (Kg ((uh Hv).below ((ba _ _)))) fun w1 hb=> ?_
  go_wp2_with fail
  go_ret
  exact ⟨Z5 (uh H3).symm,((ba _ _)).trans (hb.mono (by simp))⟩
theorem XO {B:Nat} (h:Below B w w') (n:Nat):Below B w (w'.drewN n):=⟨h.os,h.tape,h.output,h.size,h.block⟩
theorem D9 {ps:List Z6} {k:Nat} {f c:Int} (hp:Z7 ps k=(f,c)) (h:inB f 1 1024=false):Xy ps k=false:=by unfold Xy Vi;rw [hp];simp [h]
theorem Ea {ps:List Z6} {k:Nat} {f c:Int} (hp:Z7 ps k=(f,c)) (h:inB c 1 1024=false):Xy ps k=false:=by unfold Xy Vi;rw [hp];simp [h]
theorem CF {ps:List Z6} {k:Nat} {f c f' c':Int} (hp:Z7 ps k=(f,c)) (hz:0<k) (hq:Z7 ps (k-1)=(f',c')) (h1:inB f 1 1024=true) (h2:inB c 1 1024=true):Xy ps k=(decide (f'<f) && decide (c'<c)):=by
 unfold Xy Vi RK;rw [hp,hq];simp [h1,h2];omega
theorem Eb {ps:List Z6} {f c:Int} (hp:Z7 ps 0=(f,c)) (h1:inB f 1 1024=true) (h2:inB c 1 1024=true):Xy ps 0=true:=by unfold Xy Vi;rw [hp];simp [h1,h2]
theorem YX  {ps:List Z6} (rb:Int) (h:IsPaces w v ps) :
  Calls Tryz.prog 163 #[.agg #[.int .i64 rb,v]] w fun e w'=>e= .returned (.bool (Zt (rb,ps)))/\Below w.heap.size w w':=by
 obtain ⟨a,cap,rfl,hc,hm,hr⟩:=h
 have Hr:=Z9 hr
 clear hr
 have hl:(ps.length:Int)<=9223372036854775807:=by omega
 cases h1:inB rb 1 4
 ·go_enter Tryz.func163,Tryz.ntmps163
  go_wp2_with fail
  refine (ZZ _ _ _ _).mono ?_
  rintro e w' ⟨rfl,rfl⟩
  go_wp2_with fail
  go_ret
  exact ⟨Z5 (Gc h1).symm,(ba _ _)⟩
 cases h2:inB ps.length 1 4
 ·go_enter Tryz.func163,Tryz.ntmps163
  go_wp2_with fail
  refine (ZZ _ _ _ _).mono ?_
  rintro e w' ⟨rfl,rfl⟩
  go_wp2_with fail
  refine (ZZ _ _ _ _).mono ?_
  rintro e w' ⟨rfl,rfl⟩
  go_wp2_with fail
  go_ret
  exact ⟨Z5 (Gd h2).symm,(ba _ _)⟩
 have H3:=Z9 (Ge h1 h2)
 go_enter Tryz.func163,Tryz.ntmps163
 go_wp2_with fail
 refine (ZZ _ _ _ _).mono ?_
 rintro e w' ⟨rfl,rfl⟩
 go_wp2_with fail
 refine (ZZ _ _ _ _).mono ?_
 rintro e w' ⟨rfl,rfl⟩
 go_wp2_with fail
 clear h1 h2
 go_loopw [3] (fun i wr=> ∃ k:Nat,k<=ps.length/\i= .int .i64 k/\(∀ j,j<k->Xy ps j=true)/\Below (w.heap.size+1) (w.alloc (.cells #[.int .i64 rb,.slice a ps.length cap] 45)) wr) (fun i _=>ps.length-(intOf i).toNat)
 case atStart=>exact ⟨0,Nat.zero_le _,rfl,fun j hj=>by omega,Below.refl _ _⟩
 case round=>
  obtain ⟨k,hk,rfl,hst,hb⟩:=hrel
  have Hst:=Z9 hst
  have Hb:=Z9 hb
  clear hst
  have hsz:w.heap.size+1<=wr.heap.size:=by have:=hb.size;simpa using this
  have hbox:wr.cell? ⟨w.heap.size,1,none⟩=some (.slice a ps.length cap):=by rw [hb.cell (p:=⟨w.heap.size,1,none⟩) (by simp)];simp
  have hne0:w.heap.size ≠ wr.heap.size:=by omega
  by_cases hlt:k<ps.length
  ·rcases uh Hr with h0 | ⟨b,off,rfl,hbw,hcl⟩
   ·rw [h0] at hlt;simp at hlt
   have hbB:Below w.heap.size w wr:=((ba _ _)).trans (hb.mono (by omega))
   have hne:b ≠ wr.heap.size:=by omega
   have hne':b ≠ w.heap.size:=by omega
   obtain ⟨c0,c1⟩:=hcl k hlt
   rw [<-hbB.cell (p:=⟨b,off+k*2,none⟩) hbw] at c0
   rw [<-hbB.cell (p:=⟨b,off+k*2+1,none⟩) hbw] at c1
   generalize hp:Z7 ps k=p at c0 c1
   have Hp:=Z9 hp
   obtain ⟨f,c⟩:=p
   simp only at c0 c1
   clear hp hb
   cases h1:inB f 1 1024
   ·clear hcl
    go_wp2_with fail
    go_quiet (exact Calls.quiet_of_same (ZZ _ _ _ _))
    go_wp2_with fail
    go_ret
    exact ⟨Z5 (by rw [uh H3];exact (Uq hlt (D9 (uh Hp) h1)).symm),((ba _ _)).trans ((XO ((uh Hb).alloc hsz _) _).mono (by omega))⟩
   cases h2:inB c 1 1024
   ·clear hcl
    go_wp2_with fail
    go_quiet (exact Calls.quiet_of_same (ZZ _ _ _ _))
    go_wp2_with fail
    go_ret
    exact ⟨Z5 (by rw [uh H3];exact (Uq hlt (Ea (uh Hp) h2)).symm),((ba _ _)).trans ((XO ((uh Hb).alloc hsz _) _).mono (by omega))⟩
   by_cases hz:0<k
   ·have hd:decide (0<k)=true:=decide_eq_true hz
    obtain ⟨e0,e1⟩:=hcl (k-1) (by omega)
    rw [<-hbB.cell (p:=⟨b,off+(k-1)*2,none⟩) hbw] at e0
    rw [<-hbB.cell (p:=⟨b,off+(k-1)*2+1,none⟩) hbw] at e1
    generalize hq:Z7 ps (k-1)=q at e0 e1
    have Hq:=Z9 hq
    obtain ⟨f',c'⟩:=q
    simp only at e0 e1
    have q0:(wr.alloc (.cells #[.int .i64 f,.int .i64 c] 42)).cell? ⟨w.heap.size,1,none⟩=some (.slice (some ⟨b,off,none⟩) ps.length cap):=by rw [World.cell?_alloc_old _ _ _ hne0];exact hbox
    have q1:(wr.alloc (.cells #[.int .i64 f,.int .i64 c] 42)).cell? ⟨b,off+(k-1)*2,none⟩=some (.int .i64 f'):=by rw [World.cell?_alloc_old _ _ _ hne];exact e0
    have q2:(wr.alloc (.cells #[.int .i64 f,.int .i64 c] 42)).cell? ⟨b,off+(k-1)*2+1,none⟩=some (.int .i64 c'):=by rw [World.cell?_alloc_old _ _ _ hne];exact e1
    clear hcl hq e0 e1
    have Hs:=Z9 (CF (uh Hp) hz (uh Hq) h1 h2)
    by_cases g1:f<=f'
    ·have g1':decide (f<=f')=true:=decide_eq_true g1
     go_wp2_with fail
     go_quiet (exact Calls.quiet_of_same (ZZ _ _ _ _))
     go_wp2_with fail
     go_ret
     exact ⟨Z5 (by rw [uh H3];exact (Uq hlt (by rw [uh Hs];simp;omega)).symm),((ba _ _)).trans ((XO ((uh Hb).alloc hsz _) _).mono (by omega))⟩
    have g1':decide (f<=f')=false:=decide_eq_false g1
    by_cases g2:c<=c'
    ·have g2':decide (c<=c')=true:=decide_eq_true g2
     go_wp2_with fail
     go_quiet (exact Calls.quiet_of_same (ZZ _ _ _ _))
     go_wp2_with fail
     go_ret
     exact ⟨Z5 (by rw [uh H3];exact (Uq hlt (by rw [uh Hs];simp;omega)).symm),((ba _ _)).trans ((XO ((uh Hb).alloc hsz _) _).mono (by omega))⟩
    ·have g2':decide (c<=c')=false:=decide_eq_false g2
     go_wp2_with fail
     go_quiet (exact Calls.quiet_of_same (ZZ _ _ _ _))
     go_wp2_with fail
     go_roundw
     case rel=>exact ⟨k+1,by omega,by go_num,YF (uh Hst) (by rw [uh Hs];simp;omega),XO ((uh Hb).alloc hsz _) _⟩
     case measure=>exact ms
   ·obtain rfl:k=0:=by omega
    simp only [Nat.zero_mul,Nat.add_zero] at c0 c1
    clear hcl hz
    go_wp2_with fail
    go_quiet (exact Calls.quiet_of_same (ZZ _ _ _ _))
    go_wp2_with fail
    go_roundw
    case rel=>exact ⟨1,by omega,by go_num,YF (uh Hst) (Eb (uh Hp) h1 h2),XO ((uh Hb).alloc hsz _) _⟩
    case measure=>exact ms
  ·obtain rfl:k=ps.length:=by omega
   clear hb
   go_wp2_with fail
   go_ret
   exact ⟨Z5 (by rw [uh H3];exact (Kf (uh Hst)).symm),((ba _ _)).trans ((uh Hb).mono (by omega))⟩
end Go.Proofs.YtffcgajndmhpkaaGreatDoor
