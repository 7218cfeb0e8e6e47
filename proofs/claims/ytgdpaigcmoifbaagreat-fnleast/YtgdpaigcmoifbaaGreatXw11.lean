/- Part 11 of what the proof rests on. No condition but those that a theorem names. -/
import Derived.Test.YtgdpaigcmoifbaaGreatXw03
import Derived.Test.YtgdpaigcmoifbaaGreatXw04
import Derived.Lib.ItoaNum
import Derived.Lib.ItoaLen
import Derived.Lib.AtoiTie
import Derived.Lib.ParseIntBTie
import Derived.Lib.SplitLaws
import Derived.Lib.Join
set_option maxHeartbeats 8000000
set_option maxRecDepth 100000
namespace Go.Proofs.YtgdpaigcmoifbaaGreat
open Go.ChangeShapes Go.WideShapes Go.ChangeAt Go.RowKit Go.Sort
set_option linter.unusedVariables false
abbrev Yg:=Bool × Int × Int
def Wu (p:Yg):List Value:=[.bool p.1,.int .i64 p.2.1,.int .i64 p.2.2]
theorem Zt (p:Yg):(Wu p).length=3:=rfl
abbrev Us (w:World) (v:Value) (ps:List Yg):Prop:=IsRec 3 Wu w v ps
abbrev DesksAt (n₀:Nat) (w:World) (v:Value) (ps:List Yg):Prop:=RecAt 40 3 Wu n₀ w v ps
theorem DesksAt.list {n₀:Nat} {w:World} {v:Value} {ps:List Yg} (h:DesksAt n₀ w v ps):Us w v ps:=RecAt.recs Zt (by omega) h
theorem Zh {w:World} {b off:Nat} {ps:List Yg} (h:∀ j,j<ps.length-> ∀ i u,(Wu (Z8 ps j))[i]?=some u->w.cell? ⟨b,off+j*3+i,none⟩=some u) {j:Nat} (hj:j<ps.length) :
  w.cell? ⟨b,off+j*3,none⟩=some (.bool (Z8 ps j).1)/\w.cell? ⟨b,off+j*3+1,none⟩=some (.int .i64 (Z8 ps j).2.1)/\w.cell? ⟨b,off+j*3+2,none⟩=some (.int .i64 (Z8 ps j).2.2):=
 ⟨h j hj 0 _ rfl,h j hj 1 _ rfl,h j hj 2 _ rfl⟩
open Go.ChangeShapes Go.WideShapes Go.ChangeAt Go.RowKit Go.Sort Go.Proofs.Tryz
theorem IQ (g o i:Nat):(⟨g,o,none⟩:Addr).add i=⟨g,o+i,none⟩:=by unfold Addr.add;split<;>simp_all
theorem PH {e k bytes:Nat} {z:Value} (h:(prog.info? e).map (fun i=>(i.zero,i.size,i.bytes))=some (some z,k,bytes)):∃ i,prog.info? e=some i/\i.zero=some z/\i.size=k/\i.bytes=bytes:=by
 cases hi:prog.info? e with
 | none=>rw [hi] at h;cases h
 | some i=>
  rw [hi] at h;simp only [Option.map_some,Option.some.injEq,Prod.mk.injEq] at h;exact ⟨i,rfl,h.1,h.2.1,h.2.2⟩
theorem RQ {w:World} {base t ty e size n:Nat} {i:TypeInfo} (ht:prog.underlying t=some (.slice e)) (hi:prog.info? e=some i) {v:Value} {xs:List Value} (hown:w.ownsRow base e size v n xs) (a:Option Addr) (c:Nat) :
  (Builtin.append_ #[t,t] ty #[v,.slice a 0 c]).run prog w= .ok v w:=by
 rcases hown.2 with ⟨rfl,rfl⟩ | ⟨g,cap,cur,rfl,_,_,hnc,_⟩
 ·cases a<;>simp [Builtin.append_,run_underlying ht,sizeOf,typeInfo,hi,Builtin.lenOf,Builtin.firstCells,loadCells,loadCellsFrom]
 ·cases a<;>simp [Builtin.append_,run_underlying ht,sizeOf,typeInfo,hi,Builtin.lenOf,Builtin.firstCells,hnc,storeCells,loadCells,loadCellsFrom]
structure Ob {α:Type} (e k:Nat) (z:Value) (enc:α->List Value):Prop where
 info:(prog.info? e).map (fun i=>(i.zero,i.size,i.bytes))=some (some z,k,8*k)
 zero:z.cells.size=k
 len:∀ x,(enc x).length=k
 pos:0<k
 few:k<=100
 one:∀ x,∀ u ∈ enc x,u.oneCell'=true
section
variable {α : Type} {e k : Nat} {enc : α → List Value}
theorem F6 (hone:∀ x:α,∀ u ∈ enc x,u.oneCell'=true) (qs:List α):∀ u ∈ UR enc qs,u.oneCell'=true:=fun u hu=>by
 unfold UR at hu;obtain ⟨p,_,hp⟩:=List.mem_flatMap.1 hu;exact hone p u hp
theorem Zq {B g:Nat} {w:World} (hg:g=w.heap.size) (hB:B<=g):RecAt e k enc B (w.alloc (.cells #[] e)) (.slice (some ⟨g,0,none⟩) 0 0) []:=by
 subst hg;exact ⟨by simp [UR],.inr ⟨_,0,#[],rfl,hB,heap_alloc_new w _,Z0 _,ZA _,by simp,by simp [UR]⟩⟩
end
section
variable {α : Type} [Inhabited α] {e k : Nat} {enc : α → List Value} {z : Value}
theorem Kh (hk:∀ x,(enc x).length=k) (h0:0<k) {w:World} {b off:Nat} {qs:List α} (h:∀ j,j<qs.length-> ∀ i u,(enc (Z8 qs j))[i]?=some u->w.cell? ⟨b,off+j*k+i,none⟩=some u) :
  ∀ (j:Nat) (u:Value),(UR enc qs)[j]?=some u->w.cell? ((⟨b,off,none⟩:Addr).add j)=some u:=fun j u hj=>by
 have hlt:j<qs.length*k:=by
  rcases Nat.lt_or_ge j (qs.length*k) with h | h
  ·exact h
  ·rw [List.getElem?_eq_none (by rw [V3 hk];exact h)] at hj;cases hj
 have hd:j / k<qs.length:=(Nat.div_lt_iff_lt_mul h0).2 hlt;have hr:j%k<k:=Nat.mod_lt _ h0;have he:j=j / k*k+j%k:=by rw [Nat.mul_comm];exact (Nat.div_add_mod j k).symm
 rw [IQ];rw [he,Vz hk qs (j / k) hd (j%k) hr] at hj;have:=h (j / k) hd (j%k) u hj;rw [Nat.add_assoc,<-he] at this;exact this
theorem XW (T:Ob e k z enc) {w:World} {base t ty:Nat} (ht:prog.underlying t=some (.slice e)) {v x:Value} {ps qs:List α} (hown:RecAt e k enc base w v ps) (hx:IsRec k enc w x qs) (hb:ps.length+qs.length<=4000) (hbase:base<=w.heap.size) :
  ∃ v' w',(Builtin.append_ #[t,t] ty #[v,x]).run prog w= .ok v' w'/\RecAt e k enc base w' v' (ps++qs)/\w.grownBy w' v.ownBlock/\(v'.ownBlock=v.ownBlock\/v'.ownBlock=some w.heap.size):=by
 obtain ⟨i0,hi,hz0,hz1,hz2⟩:=PH T.info;obtain ⟨a,c,rfl,hc,hm,hr⟩:=hx;by_cases h0:qs=[]
 ·subst h0
  refine ⟨v,w,RQ ht hi hown a c,by simpa using hown,Sg _ _,.inl rfl⟩
 ·rcases hr with hr | ⟨b,off,rfl,hlt,hcl⟩
  ·exact absurd hr h0
  ·have hk:=T.few
   have hmul:(ps.length+qs.length)*(8*k)<=4000*800:=Nat.mul_le_mul hb (by omega)
   obtain ⟨v',w',hr,h2,h3,_,h5⟩:=run_append_own_at (P:=prog) w base t ty e i0 z k (8*k) ht hi hz0 hz1 hz2 T.zero T.pos v ps.length _ hown ⟨b,off,none⟩ qs.length c (UR enc qs) (V3 T.len qs)
    (Kh T.len T.pos hcl) (F6 T.one qs) (by simp only [maxLen];omega) (by omega) hbase
   refine ⟨v',w',hr,?_,h3,h5⟩;unfold RecAt;rw [Og,List.length_append];exact h2
theorem ZG (T:Ob e k z enc) {w:World} {ops:Array Oper} {rest:List Oper} {o:Oper} {a:Act} {Q:Exit->Act->World->Prop} (hgd:o.guard=none) (s x:Operand) (t:TypeId) (ht:prog.underlying t=some (.slice e))
  (ho:o.op= .call { callee:= .builtin .append,args:=#[s,x],argTypes:=#[t,t] }) (base:Nat) (v u:Value) (ps qs:List α) (hs:a.eval s=v) (hx:a.eval x=u) (hown:RecAt e k enc base w v ps) (hr:IsRec k enc w u qs)
  (hb:ps.length+qs.length<=4000) (hbase:base<=w.heap.size)
  (h:∀ v' w',RecAt e k enc base w' v' (ps++qs)->w.grownBy w' v.ownBlock->(v'.ownBlock=v.ownBlock\/v'.ownBlock=some w.heap.size)->wpList prog ops Q rest (a.put o.dst v') w') :
  wpList prog ops Q (o::rest) a w:=by
 refine wpList_plain hgd fun K hK=> ?_;obtain ⟨v',w',hrun,h2,h3,h5⟩:=XW T (ty:=o.type) ht hown hr hb hbase;unfold Oper.wp execOp;simp only [ho,resolve,invoke,builtin,Sem.run_bind,Sem.run_pure,Result.andThen_ok,List.map_toArray,List.map_cons,List.map_nil,hs,hx,hrun];exact hK _ _ (h v' w' h2 h3 h5)
theorem WH {w:World} (x:α) {g c:Nat} (hg:g=w.heap.size) (hc:1<=c) (hc2:c<=4000):IsRec k enc (w.alloc (.cells (enc x).toArray e)) (.slice (some ⟨g,0,none⟩) 1 c) [x]:=by
 subst hg;refine ⟨_,c,rfl,hc,by omega,.inr ⟨_,0,rfl,by simp,fun j hj i u hu=> ?_⟩⟩;obtain rfl:j=0:=by simpa using hj
 rw [Nat.zero_mul,Nat.zero_add,World.cell?_alloc_at _ _ _ _ rfl];have hr:Z8 [x] 0=x:=rfl;rw [hr] at hu;simpa using hu
theorem BM (hk:∀ x,(enc x).length=k) (h0:0<k) (xs:List α) {j i:Nat} (hj:j<xs.length) (hi:i<k) (u:Value) (x:α) (hx:enc x=(enc (Z8 xs j)).set i u):(UR enc xs).set (j*k+i) u=UR enc (xs.set j x):=by
 have hl:=V3 hk xs;have hjk:j*k+k<=xs.length*k:=by rw [<-Nat.succ_mul];exact Nat.mul_le_mul_right k hj
 apply List.ext_getElem?;intro m;by_cases hm:m<xs.length*k
 ·have hd:m / k<xs.length:=(Nat.div_lt_iff_lt_mul h0).2 hm
  have hr:m%k<k:=Nat.mod_lt _ h0;have he:m=m / k*k+m%k:=by rw [Nat.mul_comm];exact (Nat.div_add_mod m k).symm
  have hg:=Vz hk (xs.set j x) (m / k) (by simpa using hd) (m%k) hr;have hg0:=Vz hk xs (m / k) hd (m%k) hr;rw [<-he] at hg hg0;rw [hg,ZD hj];by_cases e:m / k=j
  ·rw [if_pos e,hx]
   by_cases ei:m%k=i
   ·have hmi:m=j*k+i:=by rw [<-e,<-ei];exact he
    rw [ei,hmi,List.getElem?_set_self (by rw [hl];omega),List.getElem?_set_self (by rw [hk];exact hi)]
   ·have hmi:j*k+i ≠ m:=by rw [<-e];omega
    rw [List.getElem?_set_ne hmi,List.getElem?_set_ne (Ne.symm ei),hg0,e]
  ·rw [if_neg e,List.getElem?_set_ne,hg0]
   intro h;apply e;rw [<-h];exact Nat.div_eq_of_lt_le (Nat.le_add_right _ _) (by rw [Nat.succ_mul];omega)
 ·rw [List.getElem?_eq_none (by simp;omega),List.getElem?_eq_none (by rw [V3 hk];simp;omega)]
theorem RecAt.put1 (hk:∀ x,(enc x).length=k) (h0:0<k) {t n₀ n cap g:Nat} {w:World} {xs:List α} (h:RecAt t k enc n₀ w (.slice (some ⟨g,0,none⟩) n cap) xs) (hn:n=xs.length) {j i:Nat} (hj:j<xs.length) (hi:i<k) (u:Value) (x:α) (hx:enc x=(enc (Z8 xs j)).set i u) :
  RecAt t k enc n₀ (w.setCell ⟨g,j*k+i,none⟩ u) (.slice (some ⟨g,0,none⟩) n cap) (xs.set j x)/\w.grownBy (w.setCell ⟨g,j*k+i,none⟩ u) (some g):=by
 subst hn;obtain ⟨h1,h2⟩:=World.ownsRow.stored h (j*k+i) u;rw [BM hk h0 xs hj hi u x hx] at h1;refine ⟨?_,h2⟩;unfold RecAt;rw [V1];exact h1
end
end Go.Proofs.YtgdpaigcmoifbaaGreat
namespace Go.Proofs.YtgdpaigcmoifbaaGreat
open Go.ChangeShapes Go.WideShapes Go.ChangeAt Go.RowKit
set_option linter.unusedVariables false
def Uv (need:Int) (p:Z4):Bool:=decide (5*need<=4*p.1)
def S0 (need:Int):List Z4->Nat
 | []=>0
 | [_]=>0
 | p::q::ps=>if Uv need p then 0 else S0 need (q::ps)+1
def Xk (r:ZY) (need:Int):Int:=if Y8 r && inB need 0 1000000 then S0 need r.2 else -1
def Xf (r:ZY) (pace work:Int):Int:=if Y8 r && (inB work 0 1000000 && inB pace 0 (r.2.length-1)) then Yl (Z7 r.2 pace.toNat).2 work (Z7 r.2 pace.toNat).1 else -1
def Qc (r:ZY) (need work:Int):Int:=Xf r (Xk r need) work
theorem GS (p:Z4) (ps:List Z4):Z7 (p::ps) 0=p:=rfl
theorem GV (p:Z4) (ps:List Z4) (k:Nat):Z7 (p::ps) (k+1)=Z7 ps k:=by unfold Z7;simp [List.getD]
theorem zU {need:Int} {p:Z4} (h:5*need<=4*p.1):Uv need p=true:=V0 h
theorem zT {need:Int} {p:Z4} (h:4*p.1<5*need):Uv need p=false:=Yb (by omega)
theorem Rv (need:Int):∀ (ps:List Z4) (k:Nat),k+1<=ps.length->(∀ j,j<k->Uv need (Z7 ps j)=false)->(k+1=ps.length\/Uv need (Z7 ps k)=true)->S0 need ps=k
 | [],k,hk,_,_=>by simp at hk
 | [p],k,hk,_,_=>by simp at hk;subst hk;rfl
 | p::q::ps,0,_,_,he=>by
  rcases he with he | he
  ·simp at he
  ·rw [GS] at he;simp [S0,he]
 | p::q::ps,k+1,hk,hlo,he=>by
  have h0:=hlo 0 (by omega);rw [GS] at h0
  have ih:=Rv need (q::ps) k (by simp at hk ⊢;omega) (fun j hj=>by have:=hlo (j+1) (by omega);rwa [GV] at this) (by
   rcases he with he | he
   ·left;simp at he ⊢;omega
   ·right;rwa [GV] at he)
  simp [S0,h0,ih]
theorem MA (need:Int):∀ ps:List Z4,1<=ps.length->S0 need ps+1<=ps.length
 | [],h=>by simp at h
 | [p],_=>by simp [S0]
 | p::q::ps,_=>by
  have ih:=MA need (q::ps) (by simp);unfold S0;split<;>simp at ih ⊢;omega
theorem QR {r:ZY} (h:Y8 r=true) {k:Nat} (hk:k<r.2.length):1<=(Z7 r.2 k).1/\(Z7 r.2 k).1<=1024/\1<=(Z7 r.2 k).2/\(Z7 r.2 k).2<=1024:=by
 unfold Y8 at h;simp only [ZO] at h;have h1:=J9 h.2.2 hk;unfold Wo TB at h1;simp only [ZO] at h1;have a:=ZN h1.1.1;have b:=ZN h1.1.2;omega
theorem Ot {r:ZY} {need:Int} (h:Y8 r=false):Xk r need= -1:=by unfold Xk;simp [h]
theorem Ou {r:ZY} {need:Int} (h:inB need 0 1000000=false):Xk r need= -1:=by unfold Xk;simp [h]
theorem Qf {r:ZY} {need:Int} (h:Y8 r=true) (h2:inB need 0 1000000=true):Xk r need=S0 need r.2:=by unfold Xk;simp [h,h2]
theorem QZ {r:ZY} {pace work:Int} (h:Y8 r=false):Xf r pace work= -1:=by unfold Xf;simp [h]
theorem Q2 {r:ZY} {pace work:Int} (h:inB work 0 1000000=false):Xf r pace work= -1:=by unfold Xf;simp [h]
theorem Ts {r:ZY} {pace work:Int} (h:inB pace 0 (r.2.length-1)=false):Xf r pace work= -1:=by unfold Xf;simp [h]
theorem Sa {r:ZY} {pace work:Int} (h:Y8 r=true) (h2:inB work 0 1000000=true) (h3:inB pace 0 (r.2.length-1)=true):Xf r pace work=Yl (Z7 r.2 pace.toNat).2 work (Z7 r.2 pace.toNat).1:=by unfold Xf;simp [h,h2,h3]
theorem J7 {a b c:Int} (a0:0<=a) (a1:a<=1000000000) (b0:0<=b) (b1:b<=1000000000) (c0:1<=c) (c1:c<=1000000000):Yl a b c=a*b / c:=by
 unfold Yl;rw [Zn a0 a1,Zn b0 b1,Zn c0 c1];rfl
theorem FR (r:ZY) (pace work:Int) : -1<=Xf r pace work/\Xf r pace work<=1024000000:=by
 cases h:Y8 r
 ·rw [QZ h];omega
 cases h2:inB work 0 1000000
 ·rw [Q2 h2];omega
 cases h3:inB pace 0 (r.2.length-1)
 ·rw [Ts h3];omega
 rw [Sa h h2 h3];have hb:=ZN h2;have hp:=ZN h3;have hr:=QR h (k:=pace.toNat) (by omega);generalize Z7 r.2 pace.toNat=p at *;rw [J7 (by omega) (by omega) (by omega) (by omega) (by omega) (by omega)];have m0:0<=p.2*work:=Int.mul_nonneg (by omega) (by omega);have m1:p.2*work<=1024*1000000:=Int.mul_le_mul (by omega) (by omega) (by omega) (by omega);have d0:=Int.ediv_nonneg m0 (show 0<=p.1 by omega);have d1:=Int.ediv_le_self p.1 m0;omega
open Go.Lib
abbrev Txt:=List UInt8
def YO (c:UInt8) (cur:Txt):Txt->List Txt
 | []=>[cur]
 | x::r=>if x=c then cur::YO c [] r else YO c (cur++[x]) r
def YR (c:UInt8) (l:Txt):List Txt:=YO c [] l
theorem UA (c:UInt8) (cur r:Txt):YO c cur (c::r)=cur::YO c [] r:=by simp [YO]
theorem UB {c x:UInt8} (h:x ≠ c) (cur r:Txt):YO c cur (x::r)=YO c (cur++[x]) r:=by simp [YO,h]
theorem Wy (c:UInt8):∀ (l cur:Txt),1<=(YO c cur l).length/\(YO c cur l).length<=l.length+1
 | [],cur=>by simp [YO]
 | x::r,cur=>by
  by_cases h:x=c
  ·subst h;rw [UA];have:=Wy x r [];simp;omega
  ·rw [UB h];have:=Wy c r (cur++[x]);simp;omega
theorem Kt (c:UInt8) (l:Txt):YR c l ≠ []:=fun h=>by have:=(Wy c l []).1;unfold YR at h;rw [h] at this;simp at this
theorem Ui (c:UInt8):∀ (l cur:Txt),∀ p ∈ YO c cur l,p.length<=cur.length+l.length
 | [],cur,p,hp=>by simp [YO] at hp;subst hp;simp
 | x::r,cur,p,hp=>by
  by_cases h:x=c
  ·subst h;rw [UA] at hp
   rcases List.mem_cons.1 hp with rfl | hp
   ·simp
   ·have:=Ui x r [] p hp;simp at this ⊢;omega
  ·rw [UB h] at hp;have:=Ui c r _ p hp;simp at this ⊢;omega
theorem Qp (sep x:Txt) (r:List Txt):joinTail sep (x::r)=sep++x++joinTail sep r:=by simp [joinTail]
theorem TV (c:UInt8):∀ (l cur:Txt),join (YO c cur l) [c]=cur++l
 | [],cur=>by simp [YO,join_one]
 | x::r,cur=>by
  by_cases h:x=c
  ·subst h
   rw [UA,join_cons];have ih:=TV x r [];cases hs:YO x [] r with
   | nil=>have:=(Wy x r []).1;rw [hs] at this;simp at this
   | cons p q=>rw [hs,join_cons] at ih;rw [Qp];simp at ih ⊢;rw [ih]
  ·rw [UB h,TV c r];simp
def Ya (l:Txt):Option Int:=
 match l with
 | []=>none
 | c::r=>if c=45 then (if r=[]\/9<r.length\/r.head?=some 48 then none else (decFrom 0 r).map fun n:Nat=> -(n:Int))
  else if 9<(c::r).length\/(c=48/\r ≠ []) then none else (decFrom 0 (c::r)).map fun n:Nat=>(n:Int)
theorem GN {d:Nat} (h:d<10):(UInt8.ofNat (48+d)).toNat=48+d:=by simp;omega
theorem LK {b:UInt8} {d:Nat} (h:digitVal b=some d):d<10/\b=UInt8.ofNat (48+d):=by
 obtain ⟨h1,h2,h3⟩:=digitVal_eq h;refine ⟨by omega,?_⟩;apply UInt8.toNat_inj.1;rw [GN (by omega)];omega
theorem LJ {a d:Nat} (ha:0<a) (hd:d<10):decDigits (a*10+d)=decDigits a++[UInt8.ofNat (48+d)]:=by
 rw [decDigits,dif_neg (by omega),show (a*10+d) / 10=a by omega,show (a*10+d)%10=d by omega]
theorem Q4:∀ (r:Txt) (a n:Nat),0<a->decFrom a r=some n->decDigits n=decDigits a++r/\a<=n
 | [],a,n,_,h=>by simp [decFrom] at h;subst h;simp
 | b::r,a,n,ha,h=>by
  unfold decFrom at h;cases hd:digitVal b with
  | none=>rw [hd] at h;cases h
  | some d=>
   rw [hd] at h;obtain ⟨h1,h2⟩:=LK hd;have ih:=Q4 r (a*10+d) n (by omega) h;rw [ih.1,LJ ha h1,h2];simp;omega
theorem RL {b:UInt8} {r:Txt} {n:Nat} (h:decFrom 0 (b::r)=some n) (hb:b ≠ 48\/r=[]):decDigits n=b::r/\(b ≠ 48->0<n):=by
 unfold decFrom at h;cases hd:digitVal b with
 | none=>rw [hd] at h;cases h
 | some d=>
  rw [hd] at h;obtain ⟨h1,h2⟩:=LK hd;simp at h;by_cases h0:d=0
  ·subst h0
   have hb48:b=48:=by rw [h2];rfl
   rcases hb with hb | rfl
   ·exact absurd hb48 hb
   ·simp [decFrom] at h;subst h;subst hb48;exact ⟨by rw [decDigits_one (by decide)];rfl,fun h=>absurd rfl h⟩
  ·have:=Q4 r d n (by omega) h
   rw [this.1,decDigits_one h1,h2];simp;intro _;omega
theorem Sz {l:Txt} {v:Int} (h:Ya l=some v):l=itoa v/\ -999999999<=v/\v<=999999999:=by
 unfold Ya at h
 split at h
 ·cases h
 ·rename_i c r
  split at h
  ·rename_i hc
   split at h
   ·cases h
   ·rename_i hr
    simp only [not_or] at hr;obtain ⟨n,hn,rfl⟩:=Option.map_eq_some_iff.1 h;cases r with
    | nil=>exact absurd rfl hr.1
    | cons b r=>
     have hb:b ≠ 48:=fun e=>hr.2.2 (by simp [e]);have hw:=RL hn (.inl hb);have hlt:=decFrom_lt _ _ _ hn;have:n<10 ^ 9:=Y0 (by simpa using hlt) (Nat.pow_le_pow_right (by decide) (by have:=hr.2.1;simp at this ⊢;omega));have h3:(10:Nat) ^ 9=1000000000:=by decide
     have hp:=hw.2 hb;refine ⟨?_,by omega,by omega⟩;unfold itoa;rw [if_pos (by omega),show (-(n:Int)).natAbs=n by omega,hw.1,hc]
  ·rename_i hc
   split at h
   ·cases h
   ·rename_i hr
    simp only [not_or] at hr;obtain ⟨n,hn,rfl⟩:=Option.map_eq_some_iff.1 h
    have hb:c ≠ 48\/r=[]:=by
     by_cases e:c=48
     ·exact .inr (Classical.byContradiction fun hne=>hr.2 ⟨e,hne⟩)
     ·exact .inl e
    have hw:=RL hn hb;have hlt:=decFrom_lt _ _ _ hn;have:n<10 ^ 9:=Y0 (by simpa using hlt) (Nat.pow_le_pow_right (by decide) (by have:=hr.1;simp at this ⊢;omega));have h3:(10:Nat) ^ 9=1000000000:=by decide
    refine ⟨?_,by omega,by omega⟩;unfold itoa;rw [if_neg (by omega),show ((n:Int)).toNat=n by omega,hw.1]
def Yk (l:Txt):Option Z4:=
 match YR 58 l with
 | [a,b]=>(Ya a).bind fun f=>(Ya b).bind fun k=>some (f,k)
 | _=>none
def YD (l:Txt):Option ZY:=
 match YR 32 l with
 | []=>none
 | a::ws=>(Ya a).bind fun n=>(ws.mapM Yk).bind fun ps=>some (n,ps)
def Ys (l:Txt):Option (List ZY):=((YR 47 l).mapM YD).bind fun rs=>if YW rs=true then some rs else none
def PM (p:Z4):Txt:=itoa p.1++58::itoa p.2
def PN (r:ZY):Txt:=join (itoa r.1::r.2.map PM) [32]
def Im (rs:List ZY):Txt:=if YW rs=true then join (rs.map PN) [47] else []
theorem K6 {l:Txt} {p:Z4} (h:Yk l=some p):PM p=l:=by
 unfold Yk at h
 split at h
 ·rename_i a b hs
  obtain ⟨f,hf,h⟩:=Option.bind_eq_some_iff.1 h;obtain ⟨k,hk,h⟩:=Option.bind_eq_some_iff.1 h;cases h;have hj:=TV 58 l [];unfold YR at hs;rw [hs,join_cons,Qp] at hj;unfold PM;rw [<-(Sz hf).1,<-(Sz hk).1];simpa [joinTail] using hj
 ·cases h
theorem OY {α β:Type} {f:α->Option β} {g:β->α} : ∀ (l:List α) (ps:List β),l.mapM f=some ps->(∀ x p,f x=some p->g p=x)->ps.map g=l
 | [],ps,h,_=>by simp at h;subst h;rfl
 | x::l,ps,h,hg=>by
  rw [List.mapM_cons] at h;obtain ⟨p,hp,h⟩:=Option.bind_eq_some_iff.1 h;obtain ⟨q,hq,h⟩:=Option.bind_eq_some_iff.1 h;cases h;simp [hg x p hp,OY l q hq hg]
theorem K7 {l:Txt} {r:ZY} (h:YD l=some r):PN r=l:=by
 unfold YD at h
 split at h
 ·cases h
 ·rename_i a ws hs
  obtain ⟨n,hn,h⟩:=Option.bind_eq_some_iff.1 h;obtain ⟨ps,hp,h⟩:=Option.bind_eq_some_iff.1 h;cases h;have hj:=TV 32 l [];unfold YR at hs;rw [hs] at hj;unfold PN;rw [<-(Sz hn).1,OY (g:=PM) _ _ hp (fun x p=>K6)];simpa using hj
theorem KV {l:Txt} {rs:List ZY} (h:Ys l=some rs):YW rs=true/\Im rs=l:=by
 unfold Ys at h;obtain ⟨rs',hr,h⟩:=Option.bind_eq_some_iff.1 h
 split at h
 ·rename_i hb
  cases h;refine ⟨hb,?_⟩;unfold Im;rw [if_pos hb,OY (g:=PN) _ _ hr (fun x p=>K7)];have hj:=TV 47 l [];simpa [YR] using hj
 ·cases h
open Go.ChangeShapes Go.WideShapes Go.ChangeAt Go.RowKit Go.Sort Go.Proofs.Tryz
open Go.Lib (digitVal decFrom)
def bs (l:Txt):ByteArray:=⟨l.toArray⟩
theorem QB (l:Txt):(bs l).data.toList=l:=by simp [bs]
theorem CY (s:ByteArray):bs s.data.toList=s:=by simp [bs]
theorem ze (l:Txt):(bs l).size=l.length:=by simp [bs,ByteArray.size]
def StrsAt (n₀:Nat) (w:World) (v:Value) (zs:List Txt):Prop:=w.ownsRow n₀ 9 1 v zs.length (zs.map fun z=>Value.string (bs z))
theorem StrsAt.lt {n₀:Nat} {w:World} {v:Value} {zs:List Txt} (h:StrsAt n₀ w v zs) {k:Nat} (hk:v.ownBlock=some k):n₀<=k/\k<w.heap.size:=World.ownsRow.lt h k hk
theorem StrsAt.view {n₀:Nat} {w:World} {v:Value} {zs:List Txt} (h:StrsAt n₀ w v zs) :
  ∃ (a:Option Addr) (cap:Nat),v= .slice a zs.length cap/\zs.length<=cap/\cap<=9223372036854775807/\(zs=[]\/ ∃ g,a=some ⟨g,0,none⟩/\n₀<=g/\g<w.heap.size/\
   (∀ k,k<zs.length->w.cell? ⟨g,k,none⟩=some (.string (bs (zs.getD k []))))):=by
 have h':=h
 rcases h.2 with ⟨rfl,hz⟩ | ⟨g,cap,cur,rfl,hb,hg,hnc,hcm,r⟩
 ·exact ⟨none,0,by rw [hz],by omega,by omega,.inl (List.eq_nil_of_length_eq_zero hz)⟩
 ·refine ⟨_,cap,rfl,hnc,by unfold maxLen at hcm;omega,.inr ⟨g,rfl,hb,(Array.getElem?_eq_some_iff.1 hg).1,fun k hk=> ?_⟩⟩
  rw [World.ownsRow.cellAt h' k (by omega)];simp [List.getElem?_eq_getElem hk]
theorem zn:(prog.info? 9).map (fun i=>(i.zero,i.size,i.bytes))=some (some (.string ByteArray.empty),1,16):=by kernel_rfl
theorem CD (l:Txt) (f k:Nat) (hf:f<=k) (h:k<l.length):(l.take (k+1)).drop f=(l.take k).drop f++[l[k]]:=by
 rw [List.take_succ_eq_append_getElem h,List.drop_append_of_le_length (by simp;omega)]
theorem OQ (l:Txt) (k:Nat) (h:k<l.length):l.drop k=l[k]::l.drop (k+1):=List.drop_eq_getElem_cons h
theorem D5 (s:ByteArray) (f k:Nat):s.extract f k=bs ((s.data.toList.take k).drop f):=by
 rw [<-CY (s.extract f k)];congr 1;rw [Go.Lib.extract_data];simp [List.drop_take]
theorem Ku {w wr w1:World} {v v':Value} {P:List Txt} {s:ByteArray} {a k:Nat} {o:Obj} (hown:StrsAt w.heap.size wr v P) (hb:Below w.heap.size w wr)
  (hown':w1.ownsRow w.heap.size 9 1 v' (P.length+1) ((P.map fun z=>Value.string (bs z))++[.string (s.extract a k)])) (hg:(wr.alloc o).grownBy w1 v.ownBlock) :
  StrsAt w.heap.size w1 v' (P++[(s.data.toList.take k).drop a])/\Below w.heap.size w w1:=by
 refine ⟨?_,?_⟩
 ·unfold StrsAt;rw [D5] at hown';simpa using hown'
 ·exact (hb.alloc hb.size o).grown hg (by have:=hb.size;simp;omega) (fun j ej=>(hown.lt ej).1)
theorem Rl (s:ByteArray) (c:UInt8) (w:World) (hs:s.size<=1048576) :
  Calls prog 264 #[.string s,.int .u8 c.toNat] w fun e w'=> ∃ v,e= .returned v/\StrsAt w.heap.size w' v (YR c s.data.toList)/\Below w.heap.size w w':=by
 obtain ⟨i0,hi,hz0,hz1,hz2⟩:=info_parts zn;go_enter func264,ntmps264;go_wp2_with fail
 go_loopw [5,6,7] (fun v f i wr=> ∃ (P:List Txt) (a k:Nat),f= .int .i64 a/\i= .int .i64 k/\StrsAt w.heap.size wr v P/\P.length<=k/\Below w.heap.size w wr/\((k<=s.size/\a<=k/\P++YO c ((s.data.toList.take k).drop a) (s.data.toList.drop k)=YR c s.data.toList)\/(k=s.size+1/\P=YR c s.data.toList))) (fun _ _ i _=>s.size+1-(intOf i).toNat)
 case atStart=>exact ⟨[],0,0,rfl,rfl,World.ownsRow_lit w #[] 0 (Z0 _) (by simp [maxLen]) rfl,by simp,(ba _ _),.inl ⟨by omega,by omega,by simp [YR]⟩⟩
 case round=>
  obtain ⟨P,a,k,rfl,rfl,hown,hpl,hb,hcase⟩:=hrel;have Hb:=Z9 hb;have Hown:=Z9 hown;clear hb hown
  rcases hcase with ⟨hk,ha,hsp⟩ | ⟨rfl,hP⟩
  ·have Hsp:=Z9 hsp
   clear hsp;by_cases hend:k=s.size
   ·subst hend
    go_wp2_with (at_builtin;refine wpList_append_own _ rfl _ _ 207 rfl w.heap.size 9 i0 (.string ByteArray.empty) 1 16 underlying207 hi hz0 hz1 hz2 rfl (by decide) _ _ _ rfl (World.ownsRow.alloc (uh Hown) _) ⟨_,0,none⟩ 1 1 [.string (s.extract a s.size)] rfl rfl (cell_one_new _ _ _) (by simp [Value.oneCell']) (by simp only [maxLen];omega) (by omega) (by have:=(uh Hb).size;simp;omega) ?_;intro v' w1 hown' hgrow _;have R:=Ku (uh Hown) (uh Hb) hown' hgrow;have HR:=Z9 R;clear hown' hgrow R)
    go_roundw
    case rel=>exact ⟨P++[(s.data.toList.take s.size).drop a],s.size+1,s.size+1,by go_num,by go_num,(uh HR).1,by simp;omega,(uh HR).2,.inr ⟨rfl,by rw [<-uh Hsp,List.drop_eq_nil_of_le (show s.data.toList.length<=s.size by simp)];rfl⟩⟩
    case measure=>simp [intOf]
   ·have hlt:k<s.size:=by omega
    have hll:k<s.data.toList.length:=by simpa using hlt
    have hat:s.data.toList[k]=s[k]:=rfl;by_cases hc:s[k]=c
    ·have Hc:=Z9 hc
     have Hn:Hid (P++[(s.data.toList.take k).drop a]++YO c ((s.data.toList.take (k+1)).drop (k+1)) (s.data.toList.drop (k+1))=YR c s.data.toList):=Z9 (by
      have h0:=uh Hsp;rw [OQ _ k hll,hat,hc,UA] at h0
      rw [<-h0];simp)
     clear hc hat;have hbeq:((s[k].toNat:Int) ==(c.toNat:Int))=true:=by rw [show s[k]=c from uh Hc];simp
     have hne:((k:Int) ==(s.size:Int))=false:=beq_eq_false_iff_ne.2 (by omega);go_wp2_with (at_builtin;refine wpList_append_own _ rfl _ _ 207 rfl w.heap.size 9 i0 (.string ByteArray.empty) 1 16 underlying207 hi hz0 hz1 hz2 rfl (by decide) _ _ _ rfl (World.ownsRow.alloc (uh Hown) _) ⟨_,0,none⟩ 1 1 [.string (s.extract a k)] rfl rfl (cell_one_new _ _ _) (by simp [Value.oneCell']) (by simp only [maxLen];omega) (by omega) (by have:=(uh Hb).size;simp;omega) ?_;intro v' w1 hown' hgrow _;have R:=Ku (uh Hown) (uh Hb) hown' hgrow;have HR:=Z9 R;clear hown' hgrow R)
     go_roundw
     case rel=>exact ⟨P++[(s.data.toList.take k).drop a],k+1,k+1,by go_num,by go_num,(uh HR).1,by simp;omega,(uh HR).2,.inl ⟨by omega,by omega,uh Hn⟩⟩
     case measure=>exact ms
    ·have Hn:Hid (P++YO c ((s.data.toList.take (k+1)).drop a) (s.data.toList.drop (k+1))=YR c s.data.toList):=Z9 (by
      have h0:=uh Hsp;rw [OQ _ k hll,hat,UB hc] at h0
      rw [<-h0,CD _ a k ha hll,hat])
     have hbeq:((s[k].toNat:Int) ==(c.toNat:Int))=false:=beq_eq_false_iff_ne.2 (fun e=>hc (UInt8.toNat_inj.1 (by omega)));have hne:((k:Int) ==(s.size:Int))=false:=beq_eq_false_iff_ne.2 (by omega);clear hc hat;go_wp2_with fail;go_roundw
     case rel=>exact ⟨P,a,k+1,rfl,by go_num,uh Hown,by omega,uh Hb,.inl ⟨by omega,by omega,uh Hn⟩⟩
     case measure=>exact ms
  ·have HP:=Z9 hP
   clear hP;go_wp2_with fail;go_ret;exact ⟨_,rfl,by rw [<-uh HP];exact uh Hown,uh Hb⟩
theorem Uu {l:Txt} {acc n k:Nat} {b:UInt8} (h1:l[k]?=some b) (h2:digitVal b=none):Go.Lib.decFrom acc l=none:=by
 cases h:Go.Lib.decFrom acc l with
 | none=>rfl
 | some m=>obtain ⟨d,hd⟩:=Go.Lib.digit_of_decFrom l acc m h k b h1;rw [h2] at hd;cases hd
theorem QN {c:UInt8} {r:Txt} (hc:c ≠ 45) (h9:(c::r).length<=9) (h0:¬ (c=48/\r ≠ [])):Ya (c::r)=(Go.Lib.decFrom 0 (c::r)).map fun n:Nat=>(n:Int):=by
 unfold Ya;simp only [if_neg hc];rw [if_neg];rw [not_or];exact ⟨by omega,h0⟩
theorem TC {c:UInt8} {r:Txt} (hc:c ≠ 45) (h:9<(c::r).length\/(c=48/\r ≠ [])):Ya (c::r)=none:=by
 unfold Ya;simp only [if_neg hc];rw [if_pos h]
theorem O7 {r:Txt} (h1:r ≠ []) (h9:r.length<=9) (h0:r.head? ≠ some 48):Ya (45::r)=(Go.Lib.decFrom 0 r).map fun n:Nat=> -(n:Int):=by
 unfold Ya;simp only [if_true];rw [if_neg];rw [not_or,not_or];exact ⟨h1,by omega,h0⟩
theorem U2 {r:Txt} (h:r=[]\/9<r.length\/r.head?=some 48):Ya (45::r)=none:=by
 unfold Ya;simp only [if_true];rw [if_pos h]
def Wl (l:Txt):Value:= .tuple #[.int .i64 ((Ya l).getD 0),.bool (Ya l).isSome]
theorem Xt {l:Txt} (h:Ya l=none):Wl l= .tuple #[.int .i64 0,.bool false]:=by unfold Wl;rw [h];rfl
theorem Qg {l:Txt} {v:Int} (h:Ya l=some v):Wl l= .tuple #[.int .i64 v,.bool true]:=by unfold Wl;rw [h];rfl
theorem FW {b:UInt8} (h1:48<=b.toNat) (h2:b.toNat<=57):digitVal b=some (b.toNat-48):=by unfold Go.Lib.digitVal;rw [if_pos ⟨h1,h2⟩]
theorem QE {b:UInt8} (h:b.toNat<48\/57<b.toNat):digitVal b=none:=by unfold Go.Lib.digitVal;rw [if_neg (by omega)]
theorem O9 {a b:Value} (h:a=b):Ending.returned a= .returned b:=by rw [h]
theorem Sl {s:ByteArray} (h:0<s.size):s.data.toList=s[0]::s.data.toList.drop 1:=OQ s.data.toList 0 (by simpa using h)
theorem D8 {s:ByteArray} {k:Nat} (h:k<s.size):s.data.toList[k]?=some s[k]:=by
 rw [List.getElem?_eq_getElem (by simpa using h)];rfl
theorem zl {s:ByteArray} {k:Nat} (h:k<s.size) (h1:1<=k):(s.data.toList.drop 1)[k-1]?=some s[k]:=by
 rw [List.getElem?_drop,show 1+(k-1)=k by omega];exact D8 h
theorem yQ {s:ByteArray} (h:0<s.size):s.toList.isEmpty=false:=by
 rw [ByteArray.toList_eq,Sl h];rfl
theorem I2 {b c:UInt8} (h:b ≠ c):((b.toNat:Int) ==(c.toNat:Int))=false:=beq_eq_false_iff_ne.2 (fun e=>h (UInt8.toNat_inj.1 (by omega)))
theorem I1 {b c:UInt8} (h:b=c):((b.toNat:Int) ==(c.toNat:Int))=true:=by rw [h];simp
theorem Em (s:ByteArray) (w:World) (h0:0<s.size) (hm:s.size<=9223372036854775807) (h45:s[0] ≠ 45) :
  cE 265 #[.string s] w (Wl s.data.toList):=by
 have Hl:=Z9 (Sl h0);have hemp:=yQ h0;have H45:=Z9 h45;have hb45:((s[0].toNat:Int) ==45)=false:=I2 (c:=45) h45;have hlen:s.data.toList.length=s.size:=by simp
 have Hlen:=Z9 hlen;clear h45 hlen;by_cases h9:9<s.size
 ·have hd1:decide ((s.size:Int)<1)=false:=Yb (by omega)
  have hd2:decide (9<(s.size:Int))=true:=V0 (by omega);have HN:Hid (Wl s.data.toList= .tuple #[.int .i64 0,.bool false]):=Z9 (Xt (by rw [uh Hl];exact TC (uh H45) (.inl (by rw [<-uh Hl,uh Hlen];omega))));go_enter func265,ntmps265;go_wp2_with fail
  go_ret2
  exact ⟨O9 (uh HN).symm,rfl⟩
 have hd1:decide ((s.size:Int)<1)=false:=Yb (by omega);have hd2:decide (9<(s.size:Int))=false:=Yb (by omega);go_enter func265,ntmps265;go_wp2_with fail
 go_loop [6,7] (fun n i=> ∃ (k m:Nat),0<=k/\k<=s.size/\i= .int .i64 k/\n= .int .i64 m/\decFrom 0 (s.data.toList.take k)=some m) (fun _ i=>s.size-(intOf i).toNat)
 case atStart=>exact ⟨0,0,by omega,by omega,rfl,rfl,by simp [decFrom]⟩
 case round=>
  obtain ⟨k,m,hk1,hk,rfl,rfl,hdec⟩:=hrel
  have hmb:m<1000000000:=by
   have hx:=Go.Lib.decFrom_lt _ _ _ hdec;have hy:(s.data.toList.take k).length<=9:=by rw [List.length_take];omega
   exact Y0 (by simpa using hx) (Xv (Nat.pow_le_pow_right (by decide) hy) (by decide))
  have Hdec:=Z9 hdec;clear hdec;by_cases hlt:k<s.size
  ·have hga:=D8 hlt
   have Hga:=Z9 hga;clear hga;have hb8:s[k].toNat<=255:=by have:=s[k].toNat_lt;omega
   by_cases hd:s[k].toNat<48
   ·have HN:Hid (Wl s.data.toList= .tuple #[.int .i64 0,.bool false]):=Z9 (Xt (by rw [uh Hl];by_cases hz:s[0]=48/\s.data.toList.drop 1 ≠ [];exact TC (uh H45) (.inr hz);rw [QN (uh H45) (by rw [<-uh Hl,uh Hlen];omega) hz,<-uh Hl,Uu (n:=0) (uh Hga) (QE (by omega))];rfl))
    have ht:decide ((s[k].toNat:Int)<48)=true:=V0 (by omega);go_wp2_with fail
    go_ret2
    exact ⟨O9 (uh HN).symm,rfl⟩
   by_cases hd':57<s[k].toNat
   ·have HN:Hid (Wl s.data.toList= .tuple #[.int .i64 0,.bool false]):=Z9 (Xt (by rw [uh Hl];by_cases hz:s[0]=48/\s.data.toList.drop 1 ≠ [];exact TC (uh H45) (.inr hz);rw [QN (uh H45) (by rw [<-uh Hl,uh Hlen];omega) hz,<-uh Hl,Uu (n:=0) (uh Hga) (QE (by omega))];rfl))
    have ht:decide ((s[k].toNat:Int)<48)=false:=Yb (by omega);have ht':decide (57<(s[k].toNat:Int))=true:=V0 (by omega);go_wp2_with fail
    go_ret2
    exact ⟨O9 (uh HN).symm,rfl⟩
   ·have ht:decide ((s[k].toNat:Int)<48)=false:=Yb (by omega)
    have ht':decide (57<(s[k].toNat:Int))=false:=Yb (by omega);have Hn:=Z9 (Go.Lib.decFrom_take s.data.toList k 0 m s[k] (s[k].toNat-48) (uh Hdec) (uh Hga) (FW (by omega) (by omega)));have Hx:Hid (((m*10+(s[k].toNat-48):Nat):Int)=(m:Int)*10+((s[k].toNat:Int)-48)):=Z9 (by omega);have g1:48<=(s[k].toNat:Int):=by omega
    have g2:(s[k].toNat:Int)<=57:=by omega
    go_wp2_with fail
    go_round
    case rel=>exact ⟨k+1,m*10+(s[k].toNat-48),by omega,by omega,by go_num,by rw [uh Hx],uh Hn⟩
    case measure=>exact ms
  ·obtain rfl:k=s.size:=by omega
   have Hall:Hid (decFrom 0 s.data.toList=some m):=Z9 (by have hh:=uh Hdec;rwa [List.take_of_length_le (by rw [uh Hlen];omega)] at hh);by_cases hz:s[0]=48
   ·have hb48:((s[0].toNat:Int) ==48)=true:=I1 (c:=48) hz
    by_cases h1s:1<s.size
    ·have ht:decide (1<(s.size:Int))=true:=V0 (by omega)
     have HN:Hid (Wl s.data.toList= .tuple #[.int .i64 0,.bool false]):=Z9 (Xt (by rw [uh Hl];exact TC (uh H45) (.inr ⟨hz,fun e=>by have:=congrArg List.length e;rw [List.length_drop,uh Hlen] at this;simp at this;omega⟩)));clear hz;go_wp2_with fail
     go_ret2
     exact ⟨O9 (uh HN).symm,rfl⟩
    ·have ht:decide (1<(s.size:Int))=false:=Yb (by omega)
     have HN:Hid (Wl s.data.toList= .tuple #[.int .i64 m,.bool true]):=Z9 (Qg (by rw [uh Hl,QN (uh H45) (by rw [<-uh Hl,uh Hlen];omega) (fun hh=>hh.2 (List.eq_nil_of_length_eq_zero (by rw [List.length_drop,uh Hlen];omega))),<-uh Hl,uh Hall];rfl));clear hz;go_wp2_with fail
     go_ret2
     exact ⟨O9 (uh HN).symm,rfl⟩
   ·have hb48:((s[0].toNat:Int) ==48)=false:=I2 (c:=48) hz
    have HN:Hid (Wl s.data.toList= .tuple #[.int .i64 m,.bool true]):=Z9 (Qg (by rw [uh Hl,QN (uh H45) (by rw [<-uh Hl,uh Hlen];omega) (fun hh=>hz hh.1),<-uh Hl,uh Hall];rfl));clear hz;go_wp2_with fail
    go_ret2
    exact ⟨O9 (uh HN).symm,rfl⟩
theorem El (s:ByteArray) (w:World) (h0:0<s.size) (hm:s.size<=9223372036854775807) (h45:s[0]=45) :
  cE 265 #[.string s] w (Wl s.data.toList):=by
 have Hl:=Z9 (Sl h0);have hemp:=yQ h0;have H45:=Z9 h45;have hb45:((s[0].toNat:Int) ==45)=true:=I1 (c:=45) h45;have hlen:s.data.toList.length=s.size:=by simp
 have Hlen:=Z9 hlen;clear h45 hlen;by_cases h9:10<s.size
 ·have hd1:decide ((s.size:Int)-1<1)=false:=Yb (by omega)
  have hd2:decide (9<(s.size:Int)-1)=true:=V0 (by omega);have HN:Hid (Wl s.data.toList= .tuple #[.int .i64 0,.bool false]):=Z9 (Xt (by rw [uh Hl];rw [uh H45];exact U2 (.inr (.inl (by rw [List.length_drop,uh Hlen];omega)))));go_enter func265,ntmps265;go_wp2_with fail
  go_ret2
  exact ⟨O9 (uh HN).symm,rfl⟩
 by_cases h1s:s.size<2
 ·have hd1:decide ((s.size:Int)-1<1)=true:=V0 (by omega)
  have HN:Hid (Wl s.data.toList= .tuple #[.int .i64 0,.bool false]):=Z9 (Xt (by rw [uh Hl,uh H45];exact U2 (.inl (List.eq_nil_of_length_eq_zero (by rw [List.length_drop,uh Hlen];omega)))));go_enter func265,ntmps265;go_wp2_with fail
  go_ret2
  exact ⟨O9 (uh HN).symm,rfl⟩
 have hd1:decide ((s.size:Int)-1<1)=false:=Yb (by omega);have hd2:decide (9<(s.size:Int)-1)=false:=Yb (by omega);go_enter func265,ntmps265;go_wp2_with fail
 go_loop [6,7] (fun n i=> ∃ (k m:Nat),1<=k/\k<=s.size/\i= .int .i64 k/\n= .int .i64 m/\decFrom 0 ((s.data.toList.drop 1).take (k-1))=some m) (fun _ i=>s.size-(intOf i).toNat)
 case atStart=>exact ⟨1,0,by omega,by omega,rfl,rfl,by simp [decFrom]⟩
 case round=>
  obtain ⟨k,m,hk1,hk,rfl,rfl,hdec⟩:=hrel
  have hmb:m<1000000000:=by
   have hx:=Go.Lib.decFrom_lt _ _ _ hdec;have hy:((s.data.toList.drop 1).take (k-1)).length<=9:=by rw [List.length_take];omega
   exact Y0 (by simpa using hx) (Xv (Nat.pow_le_pow_right (by decide) hy) (by decide))
  have Hdec:=Z9 hdec;clear hdec;by_cases hlt:k<s.size
  ·have hga:=zl hlt hk1
   have Hga:=Z9 hga;clear hga;have hb8:s[k].toNat<=255:=by have:=s[k].toNat_lt;omega
   by_cases hd:s[k].toNat<48
   ·have HN:Hid (Wl s.data.toList= .tuple #[.int .i64 0,.bool false]):=Z9 (Xt (by rw [uh Hl,uh H45];by_cases hz:(s.data.toList.drop 1).head?=some 48;exact U2 (.inr (.inr hz));rw [O7 (fun e=>by have:=congrArg List.length e;rw [List.length_drop,uh Hlen] at this;simp at this;omega) (by rw [List.length_drop,uh Hlen];omega) hz,Uu (n:=0) (uh Hga) (QE (by omega))];rfl))
    have ht:decide ((s[k].toNat:Int)<48)=true:=V0 (by omega);go_wp2_with fail
    go_ret2
    exact ⟨O9 (uh HN).symm,rfl⟩
   by_cases hd':57<s[k].toNat
   ·have HN:Hid (Wl s.data.toList= .tuple #[.int .i64 0,.bool false]):=Z9 (Xt (by rw [uh Hl,uh H45];by_cases hz:(s.data.toList.drop 1).head?=some 48;exact U2 (.inr (.inr hz));rw [O7 (fun e=>by have:=congrArg List.length e;rw [List.length_drop,uh Hlen] at this;simp at this;omega) (by rw [List.length_drop,uh Hlen];omega) hz,Uu (n:=0) (uh Hga) (QE (by omega))];rfl))
    have ht:decide ((s[k].toNat:Int)<48)=false:=Yb (by omega);have ht':decide (57<(s[k].toNat:Int))=true:=V0 (by omega);go_wp2_with fail
    go_ret2
    exact ⟨O9 (uh HN).symm,rfl⟩
   ·have ht:decide ((s[k].toNat:Int)<48)=false:=Yb (by omega)
    have ht':decide (57<(s[k].toNat:Int))=false:=Yb (by omega);have Hn:=Z9 (Go.Lib.decFrom_take (s.data.toList.drop 1) (k-1) 0 m s[k] (s[k].toNat-48) (uh Hdec) (uh Hga) (FW (by omega) (by omega)));have Hx:Hid (((m*10+(s[k].toNat-48):Nat):Int)=(m:Int)*10+((s[k].toNat:Int)-48)):=Z9 (by omega);have g1:48<=(s[k].toNat:Int):=by omega
    have g2:(s[k].toNat:Int)<=57:=by omega
    go_wp2_with fail
    go_round
    case rel=>exact ⟨k+1,m*10+(s[k].toNat-48),by omega,by omega,by go_num,by rw [uh Hx],by have hh:=uh Hn;rwa [show k-1+1=k+1-1 by omega] at hh⟩
    case measure=>exact ms
  ·obtain rfl:k=s.size:=by omega
   have Hall:Hid (decFrom 0 (s.data.toList.drop 1)=some m):=Z9 (by have hh:=uh Hdec;rwa [List.take_of_length_le (by rw [List.length_drop,uh Hlen];omega)] at hh);have hs1:1<s.size:=by omega
   have Hh:Hid ((s.data.toList.drop 1).head?=some s[1]):=Z9 (by rw [List.head?_drop];exact D8 hs1);have Hne:Hid (s.data.toList.drop 1 ≠ []):=Z9 (fun e=>by have:=congrArg List.length e;rw [List.length_drop,uh Hlen] at this;simp at this;omega);by_cases hz:s[1]=48
   ·have hb48:((s[1].toNat:Int) ==48)=true:=I1 (c:=48) hz
    have HN:Hid (Wl s.data.toList= .tuple #[.int .i64 0,.bool false]):=Z9 (Xt (by rw [uh Hl,uh H45];exact U2 (.inr (.inr (by rw [uh Hh,hz])))));clear hz;go_wp2_with fail
    go_ret2
    exact ⟨O9 (uh HN).symm,rfl⟩
   ·have hb48:((s[1].toNat:Int) ==48)=false:=I2 (c:=48) hz
    have HN:Hid (Wl s.data.toList= .tuple #[.int .i64 (-(m:Int)),.bool true]):=Z9 (Qg (by rw [uh Hl,uh H45,O7 (uh Hne) (by rw [List.length_drop,uh Hlen];omega) (fun e=>hz (by rw [uh Hh] at e;exact Option.some.inj e)),uh Hall];rfl));clear hz;go_wp2_with fail
    go_ret2
    exact ⟨O9 (uh HN).symm,rfl⟩
theorem Qa (s:ByteArray) (w:World) (hm:s.size<=9223372036854775807) :
  cE 265 #[.string s] w (Wl s.data.toList):=by
 by_cases h0:0<s.size
 ·by_cases h45:s[0]=45
  ·exact El s w h0 hm h45
  ·exact Em s w h0 hm h45
 ·have hd:s.data.toList=[]:=List.eq_nil_of_length_eq_zero (by rw [show s.data.toList.length=s.size by simp];omega)
  have hemp:s.toList.isEmpty=true:=by rw [ByteArray.toList_eq,hd];rfl
  have HN:Hid (Wl s.data.toList= .tuple #[.int .i64 0,.bool false]):=Z9 (Xt (by rw [hd];rfl));have hz:s.size=0:=by omega
  clear hd;go_enter func265,ntmps265;go_wp2_with fail
  go_ret2
  exact ⟨O9 (uh HN).symm,rfl⟩
end Go.Proofs.YtgdpaigcmoifbaaGreat
