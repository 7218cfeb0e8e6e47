/- Part 11 of what the proof rests on. No condition but those that a theorem names. -/
import Derived.Test.YtlcpgkakdieeaaaGreatXk03
import Derived.Test.YtlcpgkakdieeaaaGreatXk04
import Derived.Test.YtlcpgkakdieeaaaGreatXk05
set_option maxHeartbeats 8000000
set_option maxRecDepth 100000
namespace Go.Proofs.YtlcpgkakdieeaaaGreat
open Go.ChangeShapes Go.WideShapes Go.ChangeAt Go.RowKit Go.Sort
set_option linter.unusedVariables false
abbrev Yd:=Bool × Int × Int
def Xb (p:Yd):List Value:=[.bool p.1,.int .i64 p.2.1,.int .i64 p.2.2]
theorem Zy (p:Yd):(Xb p).length=3:=rfl
abbrev UY (w:World) (v:Value) (ps:List Yd):Prop:=IsRec 3 Xb w v ps
abbrev DesksAt (n₀:Nat) (w:World) (v:Value) (ps:List Yd):Prop:=RecAt 54 3 Xb n₀ w v ps
theorem DesksAt.list {n₀:Nat} {w:World} {v:Value} {ps:List Yd} (h:DesksAt n₀ w v ps):UY w v ps:=RecAt.recs Zy (by omega) h
theorem Zg {w:World} {b off:Nat} {ps:List Yd} (h:∀ j,j<ps.length-> ∀ i u,(Xb (Z8 ps j))[i]?=some u->w.cell? ⟨b,off+j*3+i,none⟩=some u) {j:Nat} (hj:j<ps.length) :
  w.cell? ⟨b,off+j*3,none⟩=some (.bool (Z8 ps j).1)/\w.cell? ⟨b,off+j*3+1,none⟩=some (.int .i64 (Z8 ps j).2.1)/\w.cell? ⟨b,off+j*3+2,none⟩=some (.int .i64 (Z8 ps j).2.2):=
 ⟨h j hj 0 _ rfl,h j hj 1 _ rfl,h j hj 2 _ rfl⟩
open Go.ChangeShapes Go.WideShapes Go.ChangeAt Go.RowKit Go.Sort Go.Proofs.Tryz
theorem Ku (g o i:Nat):(⟨g,o,none⟩:Addr).add i=⟨g,o+i,none⟩:=by unfold Addr.add;split<;>simp_all
theorem JI {e k bytes:Nat} {z:Value} (h:(prog.info? e).map (fun i=>(i.zero,i.size,i.bytes))=some (some z,k,bytes)):∃ i,prog.info? e=some i/\i.zero=some z/\i.size=k/\i.bytes=bytes:=by
 cases hi:prog.info? e with
 | none=>rw [hi] at h;cases h
 | some i=>
  rw [hi] at h;simp only [Option.map_some,Option.some.injEq,Prod.mk.injEq] at h;exact ⟨i,rfl,h.1,h.2.1,h.2.2⟩
theorem Pd {w:World} {base t ty e size n:Nat} {i:TypeInfo} (ht:prog.underlying t=some (.slice e)) (hi:prog.info? e=some i) {v:Value} {xs:List Value} (hown:w.ownsRow base e size v n xs) (a:Option Addr) (c:Nat) :
  (Builtin.append_ #[t,t] ty #[v,.slice a 0 c]).run prog w= .ok v w:=by
 rcases hown.2 with ⟨rfl,rfl⟩ | ⟨g,cap,cur,rfl,_,_,hnc,_⟩
 ·cases a<;>simp [Builtin.append_,run_underlying ht,sizeOf,typeInfo,hi,Builtin.lenOf,Builtin.firstCells,loadCells,loadCellsFrom]
 ·cases a<;>simp [Builtin.append_,run_underlying ht,sizeOf,typeInfo,hi,Builtin.lenOf,Builtin.firstCells,hnc,storeCells,loadCells,loadCellsFrom]
structure Po {α:Type} (e k:Nat) (z:Value) (enc:α->List Value):Prop where
 info:(prog.info? e).map (fun i=>(i.zero,i.size,i.bytes))=some (some z,k,8*k)
 zero:z.cells.size=k
 len:∀ x,(enc x).length=k
 pos:0<k
 few:k<=100
 one:∀ x,∀ u ∈ enc x,u.oneCell'=true
section
variable {α : Type} {e k : Nat} {enc : α → List Value}
theorem Ct (hone:∀ x:α,∀ u ∈ enc x,u.oneCell'=true) (qs:List α):∀ u ∈ UD enc qs,u.oneCell'=true:=fun u hu=>by
 unfold UD at hu;obtain ⟨p,_,hp⟩:=List.mem_flatMap.1 hu;exact hone p u hp
theorem YW {B g:Nat} {w:World} (hg:g=w.heap.size) (hB:B<=g):RecAt e k enc B (w.alloc (.cells #[] e)) (.slice (some ⟨g,0,none⟩) 0 0) []:=by
 subst hg;exact ⟨by simp [UD],.inr ⟨_,0,#[],rfl,hB,heap_alloc_new w _,Z0 _,ZC _,by simp,by simp [UD]⟩⟩
end
section
variable {α : Type} [Inhabited α] {e k : Nat} {enc : α → List Value} {z : Value}
theorem EH (hk:∀ x,(enc x).length=k) (h0:0<k) {w:World} {b off:Nat} {qs:List α} (h:∀ j,j<qs.length-> ∀ i u,(enc (Z8 qs j))[i]?=some u->w.cell? ⟨b,off+j*k+i,none⟩=some u) :
  ∀ (j:Nat) (u:Value),(UD enc qs)[j]?=some u->w.cell? ((⟨b,off,none⟩:Addr).add j)=some u:=fun j u hj=>by
 have hlt:j<qs.length*k:=by
  rcases Nat.lt_or_ge j (qs.length*k) with h | h
  ·exact h
  ·rw [List.getElem?_eq_none (by rw [VR hk];exact h)] at hj;cases hj
 have hd:j / k<qs.length:=(Nat.div_lt_iff_lt_mul h0).2 hlt;have hr:j%k<k:=Nat.mod_lt _ h0;have he:j=j / k*k+j%k:=by rw [Nat.mul_comm];exact (Nat.div_add_mod j k).symm
 rw [Ku];rw [he,VQ hk qs (j / k) hd (j%k) hr] at hj;have:=h (j / k) hd (j%k) u hj;rw [Nat.add_assoc,<-he] at this;exact this
theorem Wv (T:Po e k z enc) {w:World} {base t ty:Nat} (ht:prog.underlying t=some (.slice e)) {v x:Value} {ps qs:List α} (hown:RecAt e k enc base w v ps) (hx:IsRec k enc w x qs) (hb:ps.length+qs.length<=4000) (hbase:base<=w.heap.size) :
  ∃ v' w',(Builtin.append_ #[t,t] ty #[v,x]).run prog w= .ok v' w'/\RecAt e k enc base w' v' (ps++qs)/\w.grownBy w' v.ownBlock/\(v'.ownBlock=v.ownBlock\/v'.ownBlock=some w.heap.size):=by
 obtain ⟨i0,hi,hz0,hz1,hz2⟩:=JI T.info;obtain ⟨a,c,rfl,hc,hm,hr⟩:=hx;by_cases h0:qs=[]
 ·subst h0
  refine ⟨v,w,Pd ht hi hown a c,by simpa using hown,Rm _ _,.inl rfl⟩
 ·rcases hr with hr | ⟨b,off,rfl,hlt,hcl⟩
  ·exact absurd hr h0
  ·have hk:=T.few
   have hmul:(ps.length+qs.length)*(8*k)<=4000*800:=Nat.mul_le_mul hb (by omega)
   obtain ⟨v',w',hr,h2,h3,_,h5⟩:=run_append_own_at (P:=prog) w base t ty e i0 z k (8*k) ht hi hz0 hz1 hz2 T.zero T.pos v ps.length _ hown ⟨b,off,none⟩ qs.length c (UD enc qs) (VR T.len qs)
    (EH T.len T.pos hcl) (Ct T.one qs) (by simp only [maxLen];omega) (by omega) hbase
   refine ⟨v',w',hr,?_,h3,h5⟩;unfold RecAt;rw [IL,List.length_append];exact h2
theorem ZH (T:Po e k z enc) {w:World} {ops:Array Oper} {rest:List Oper} {o:Oper} {a:Act} {Q:Exit->Act->World->Prop} (hgd:o.guard=none) (s x:Operand) (t:TypeId) (ht:prog.underlying t=some (.slice e))
  (ho:o.op= .call { callee:= .builtin .append,args:=#[s,x],argTypes:=#[t,t] }) (base:Nat) (v u:Value) (ps qs:List α) (hs:a.eval s=v) (hx:a.eval x=u) (hown:RecAt e k enc base w v ps) (hr:IsRec k enc w u qs)
  (hb:ps.length+qs.length<=4000) (hbase:base<=w.heap.size)
  (h:∀ v' w',RecAt e k enc base w' v' (ps++qs)->w.grownBy w' v.ownBlock->(v'.ownBlock=v.ownBlock\/v'.ownBlock=some w.heap.size)->wpList prog ops Q rest (a.put o.dst v') w') :
  wpList prog ops Q (o::rest) a w:=by
 refine wpList_plain hgd fun K hK=> ?_;obtain ⟨v',w',hrun,h2,h3,h5⟩:=Wv T (ty:=o.type) ht hown hr hb hbase;unfold Oper.wp execOp;simp only [ho,resolve,invoke,builtin,Sem.run_bind,Sem.run_pure,Result.andThen_ok,List.map_toArray,List.map_cons,List.map_nil,hs,hx,hrun];exact hK _ _ (h v' w' h2 h3 h5)
theorem Vs {w:World} (x:α) {g c:Nat} (hg:g=w.heap.size) (hc:1<=c) (hc2:c<=4000):IsRec k enc (w.alloc (.cells (enc x).toArray e)) (.slice (some ⟨g,0,none⟩) 1 c) [x]:=by
 subst hg;refine ⟨_,c,rfl,hc,by omega,.inr ⟨_,0,rfl,by simp,fun j hj i u hu=> ?_⟩⟩;obtain rfl:j=0:=by simpa using hj
 rw [Nat.zero_mul,Nat.zero_add,World.cell?_alloc_at _ _ _ _ rfl];have hr:Z8 [x] 0=x:=rfl;rw [hr] at hu;simpa using hu
theorem DY (hk:∀ x,(enc x).length=k) (h0:0<k) (xs:List α) {j i:Nat} (hj:j<xs.length) (hi:i<k) (u:Value) (x:α) (hx:enc x=(enc (Z8 xs j)).set i u):(UD enc xs).set (j*k+i) u=UD enc (xs.set j x):=by
 have hl:=VR hk xs;have hjk:j*k+k<=xs.length*k:=by rw [<-Nat.succ_mul];exact Nat.mul_le_mul_right k hj
 apply List.ext_getElem?;intro m;by_cases hm:m<xs.length*k
 ·have hd:m / k<xs.length:=(Nat.div_lt_iff_lt_mul h0).2 hm
  have hr:m%k<k:=Nat.mod_lt _ h0;have he:m=m / k*k+m%k:=by rw [Nat.mul_comm];exact (Nat.div_add_mod m k).symm
  have hg:=VQ hk (xs.set j x) (m / k) (by simpa using hd) (m%k) hr;have hg0:=VQ hk xs (m / k) hd (m%k) hr;rw [<-he] at hg hg0;rw [hg,ZD hj];by_cases e:m / k=j
  ·rw [if_pos e,hx]
   by_cases ei:m%k=i
   ·have hmi:m=j*k+i:=by rw [<-e,<-ei];exact he
    rw [ei,hmi,List.getElem?_set_self (by rw [hl];omega),List.getElem?_set_self (by rw [hk];exact hi)]
   ·have hmi:j*k+i ≠ m:=by rw [<-e];omega
    rw [List.getElem?_set_ne hmi,List.getElem?_set_ne (Ne.symm ei),hg0,e]
  ·rw [if_neg e,List.getElem?_set_ne,hg0]
   intro h;apply e;rw [<-h];exact Nat.div_eq_of_lt_le (Nat.le_add_right _ _) (by rw [Nat.succ_mul];omega)
 ·rw [List.getElem?_eq_none (by simp;omega),List.getElem?_eq_none (by rw [VR hk];simp;omega)]
theorem RecAt.put1 (hk:∀ x,(enc x).length=k) (h0:0<k) {t n₀ n cap g:Nat} {w:World} {xs:List α} (h:RecAt t k enc n₀ w (.slice (some ⟨g,0,none⟩) n cap) xs) (hn:n=xs.length) {j i:Nat} (hj:j<xs.length) (hi:i<k) (u:Value) (x:α) (hx:enc x=(enc (Z8 xs j)).set i u) :
  RecAt t k enc n₀ (w.setCell ⟨g,j*k+i,none⟩ u) (.slice (some ⟨g,0,none⟩) n cap) (xs.set j x)/\w.grownBy (w.setCell ⟨g,j*k+i,none⟩ u) (some g):=by
 subst hn;obtain ⟨h1,h2⟩:=World.ownsRow.stored h (j*k+i) u;rw [DY hk h0 xs hj hi u x hx] at h1;refine ⟨?_,h2⟩;unfold RecAt;rw [Wz];exact h1
end
end Go.Proofs.YtlcpgkakdieeaaaGreat
namespace Go.Proofs.YtlcpgkakdieeaaaGreat
open Go.ChangeShapes Go.WideShapes Go.ChangeAt Go.RowKit
set_option linter.unusedVariables false
def RN (need:Int) (p:Z4):Bool:=decide (5*need<=4*p.1)
def QU (need:Int):List Z4->Nat
 | []=>0
 | [_]=>0
 | p::q::ps=>if RN need p then 0 else QU need (q::ps)+1
def Xl (r:ZW) (need:Int):Int:=if Ze r && inB need 0 1000000 then QU need r.2 else -1
def Xk (r:ZW) (pace work:Int):Int:=if Ze r && (inB work 0 1000000 && inB pace 0 (r.2.length-1)) then WJ (Z7 r.2 pace.toNat).2 work (Z7 r.2 pace.toNat).1 else -1
def KU (r:ZW) (need work:Int):Int:=Xk r (Xl r need) work
theorem Jz (p:Z4) (ps:List Z4):Z7 (p::ps) 0=p:=rfl
theorem JB (p:Z4) (ps:List Z4) (k:Nat):Z7 (p::ps) (k+1)=Z7 ps k:=by unfold Z7;simp [List.getD]
theorem Cp {need:Int} {p:Z4} (h:5*need<=4*p.1):RN need p=true:=VJ h
theorem Co {need:Int} {p:Z4} (h:4*p.1<5*need):RN need p=false:=Xs (by omega)
theorem Od (need:Int):∀ (ps:List Z4) (k:Nat),k+1<=ps.length->(∀ j,j<k->RN need (Z7 ps j)=false)->(k+1=ps.length\/RN need (Z7 ps k)=true)->QU need ps=k
 | [],k,hk,_,_=>by simp at hk
 | [p],k,hk,_,_=>by simp at hk;subst hk;rfl
 | p::q::ps,0,_,_,he=>by
  rcases he with he | he
  ·simp at he
  ·rw [Jz] at he;simp [QU,he]
 | p::q::ps,k+1,hk,hlo,he=>by
  have h0:=hlo 0 (by omega);rw [Jz] at h0
  have ih:=Od need (q::ps) k (by simp at hk ⊢;omega) (fun j hj=>by have:=hlo (j+1) (by omega);rwa [JB] at this) (by
   rcases he with he | he
   ·left;simp at he ⊢;omega
   ·right;rwa [JB] at he)
  simp [QU,h0,ih]
theorem JE (need:Int):∀ ps:List Z4,1<=ps.length->QU need ps+1<=ps.length
 | [],h=>by simp at h
 | [p],_=>by simp [QU]
 | p::q::ps,_=>by
  have ih:=JE need (q::ps) (by simp);unfold QU;split<;>simp at ih ⊢;omega
theorem Md {r:ZW} (h:Ze r=true) {k:Nat} (hk:k<r.2.length):1<=(Z7 r.2 k).1/\(Z7 r.2 k).1<=1024/\1<=(Z7 r.2 k).2/\(Z7 r.2 k).2<=1024:=by
 unfold Ze at h;simp only [ZP] at h;have h1:=Qd h.2.2 hk;unfold Xd UN at h1;simp only [ZP] at h1;have a:=ZN h1.1.1;have b:=ZN h1.1.2;omega
theorem JC {r:ZW} {need:Int} (h:Ze r=false):Xl r need= -1:=by unfold Xl;simp [h]
theorem JD {r:ZW} {need:Int} (h:inB need 0 1000000=false):Xl r need= -1:=by unfold Xl;simp [h]
theorem GG {r:ZW} {need:Int} (h:Ze r=true) (h2:inB need 0 1000000=true):Xl r need=QU need r.2:=by unfold Xl;simp [h,h2]
theorem Pt {r:ZW} {pace work:Int} (h:Ze r=false):Xk r pace work= -1:=by unfold Xk;simp [h]
theorem Pu {r:ZW} {pace work:Int} (h:inB work 0 1000000=false):Xk r pace work= -1:=by unfold Xk;simp [h]
theorem Pv {r:ZW} {pace work:Int} (h:inB pace 0 (r.2.length-1)=false):Xk r pace work= -1:=by unfold Xk;simp [h]
theorem Nm {r:ZW} {pace work:Int} (h:Ze r=true) (h2:inB work 0 1000000=true) (h3:inB pace 0 (r.2.length-1)=true):Xk r pace work=WJ (Z7 r.2 pace.toNat).2 work (Z7 r.2 pace.toNat).1:=by unfold Xk;simp [h,h2,h3]
theorem Ev {a b c:Int} (a0:0<=a) (a1:a<=1000000000) (b0:0<=b) (b1:b<=1000000000) (c0:1<=c) (c1:c<=1000000000):WJ a b c=a*b / c:=by
 unfold WJ;rw [Zo a0 a1,Zo b0 b1,Zo c0 c1];rfl
theorem IE (r:ZW) (pace work:Int) : -1<=Xk r pace work/\Xk r pace work<=1024000000:=by
 cases h:Ze r
 ·rw [Pt h];omega
 cases h2:inB work 0 1000000
 ·rw [Pu h2];omega
 cases h3:inB pace 0 (r.2.length-1)
 ·rw [Pv h3];omega
 rw [Nm h h2 h3];have hb:=ZN h2;have hp:=ZN h3;have hr:=Md h (k:=pace.toNat) (by omega);generalize Z7 r.2 pace.toNat=p at *;rw [Ev (by omega) (by omega) (by omega) (by omega) (by omega) (by omega)];have m0:0<=p.2*work:=Int.mul_nonneg (by omega) (by omega);have m1:p.2*work<=1024*1000000:=Int.mul_le_mul (by omega) (by omega) (by omega) (by omega);have d0:=Int.ediv_nonneg m0 (show 0<=p.1 by omega);have d1:=Int.ediv_le_self p.1 m0;omega
open Go.ChangeShapes Go.WideShapes Go.ChangeAt Go.RowKit Go.Sort
open Draw (St Off Row Cur)
theorem XU {a:Option Addr} {len cap bc:Nat} {w w':World} (h:St a len cap bc w) (hb:Below (bc+1) w w'):St a len cap bc w':=by
 obtain ⟨⟨hlt,i,x,h0,h1,c0,c1,c2,f1,f2⟩,hr⟩:=h;have hc:∀ o,w'.cell? ⟨bc,o,none⟩=w.cell? ⟨bc,o,none⟩:=fun o=>hb.cell (p:=⟨bc,o,none⟩) (Nat.lt_succ_self bc);have hf:∀ o,w'.frozen? ⟨bc,o,none⟩=w.frozen? ⟨bc,o,none⟩:=fun o=>hb.frozen (p:=⟨bc,o,none⟩) (Nat.lt_succ_self bc);refine ⟨⟨Zf hlt hb.size,i,x,h0,h1,(hc 0).trans c0,(hc 1).trans c1,(hc 2).trans c2,(hf 1).trans f1,(hf 2).trans f2⟩,Draw.row_below hr (hb.mono (Nat.le_succ bc))⟩
theorem V0 {a:Option Addr} {len cap bc:Nat} {w:World} (h:St a len cap bc w):bc<w.heap.size:=h.cur.1
theorem TM {bc:Nat} {a b c:World} (h:Off bc a b) (k:Below a.heap.size b c):Off bc a c:=
 ⟨k.os.trans h.os,k.tape.trans h.tape,k.output.trans h.output,XN h.size k.size,fun i hi hn=>(k.block i hi).trans (h.block i hi hn)⟩
theorem TN {bc:Nat} {w w':World} (h:Off bc w.drew w'):Off bc w w':=⟨h.os,h.tape,h.output,h.size,h.block⟩
theorem RZ {a:Option Addr} {len cap bc:Nat} {w:World} (h:St a len cap bc w):St a len cap bc w.drew:=⟨h.cur,h.row⟩
theorem LZ {bc:Nat} {w w':World} {cs:Array Value} {t:TypeId} {j:Int} (p:Off bc (w.alloc (.cells cs t)) w') (hb:bc<w.heap.size) (h0:0<=j) (h1:j<cs.size) (hz:cs.toList.all Draw.isI64=true):∃ v,w'.cell? ⟨w.heap.size,j.toNat,none⟩=some (.int .i64 v):=by
 obtain ⟨v,hv⟩:=Draw.pick_any cs j.toNat (by omega) hz;exact ⟨v,by rw [p.cell (p:=⟨w.heap.size,j.toNat,none⟩) (by simp) (by simp;omega),World.cell?_alloc_at _ _ _ _ rfl];exact hv⟩
open Go.ChangeShapes Go.WideShapes Go.ChangeAt Go.RowKit Go.Sort Go.Proofs.Tryz
theorem BV {ps:List Z4} {k:Nat} {p:Z4} (hp:Z7 ps k=p) (h:Nu p=false):VL ps k=false:=by unfold VL;rw [hp];simp [h]
theorem BX {ps:List Z4} {k:Nat} {p q:Z4} (hz:0<k) (hp:Z7 ps k=p) (hq:Z7 ps (k-1)=q) (h:ltB q p=false):VL ps k=false:=by unfold VL;rw [hp,hq];simp [h];omega
theorem BY {ps:List Z4} {k:Nat} {f z:Int} (hp:Z7 ps k=(f,z)) (h:0<=VO (ps.take k) z):VL ps k=false:=by unfold VL;rw [hp];simp;intros;exact h
theorem BZ {ps:List Z4} {k:Nat} {f z:Int} {q:Z4} (hz:0<k) (hp:Z7 ps k=(f,z)) (hq:Z7 ps (k-1)=q) (h1:Nu (f,z)=true) (h2:ltB q (f,z)=true) (h:VO (ps.take k) z<0):VL ps k=true:=by unfold VL;rw [hp,hq];simp [h1,h2,h]
theorem BU {ps:List Z4} {p:Z4} (hp:Z7 ps 0=p) (h:Nu p=true):VL ps 0=true:=by unfold VL;rw [hp];simp [h,VO]
theorem TR {w:World} {v:Value} {ps:List Z4} {who F:Int} (hF:VO ps who=F) (h:IsPaces w v ps) :
  cB 178 #[v,.int .i64 who] w (.int .i64 F):=by
 subst hF;exact JJ who h
theorem Yj {w:World} {v:Value} {ps:List Z4} (h:IsPaces w v ps) :
  cB 144 #[v] w (.bool (Yv ps)):=by
 have Hr2:=Z9 h;obtain ⟨a,cap,rfl,hc,hm,hr⟩:=h;have Hr:=Z9 hr;clear hr;by_cases hbig:100<ps.length
 ·go_enter func144,ntmps144
  go_wp2_with fail;go_ret;exact ⟨Z5 (GL hbig).symm,ZZ _ _⟩
 go_enter func144,ntmps144;go_wp2_with fail
 go_loopw [10] (fun i wr=> ∃ k:Nat,k<=ps.length/\i= .int .i64 k/\(∀ j,j<k->VL ps j=true)/\Below w.heap.size w wr) (fun i _=>ps.length-(intOf i).toNat)
 case atStart=>exact ⟨0,ZC _,rfl,fun j hj=>by omega,ZZ _ _⟩
 case round=>
  obtain ⟨k,hk,rfl,hst,hb⟩:=hrel;have Hst:=Z9 hst;have Hb:=Z9 hb;clear hst;by_cases hlt:k<ps.length
  ·rcases uh Hr with h0 | ⟨b,off,rfl,hbw,hcl⟩
   ·rw [h0] at hlt;simp at hlt
   have hbr:b<wr.heap.size:=Zf hbw hb.size;have hne:b ≠ wr.heap.size:=Vj hbr;obtain ⟨c0,c1⟩:=hcl k hlt;rw [<-hb.cell (p:=⟨b,off+k*2,none⟩) hbw] at c0;rw [<-hb.cell (p:=⟨b,off+k*2+1,none⟩) hbw] at c1;generalize hp:Z7 ps k=p at c0 c1;have Hp:=Z9 hp;clear hp;obtain ⟨f,z⟩:=p;simp only at c0 c1;have Hip:=Z9 ((((uh Hr2).below hb).cut (n:=k) (by omega)).below ((ZZ _ _).alloc (Z0 _) (.cells #[.int .i64 f,.int .i64 z] 105)));have d0:(wr.alloc (.cells #[.int .i64 f,.int .i64 z] 105)).cell? ⟨wr.heap.size,0,none⟩=some (.int .i64 f):=by simp
   have d1:(wr.alloc (.cells #[.int .i64 f,.int .i64 z] 105)).cell? ⟨wr.heap.size,1,none⟩=some (.int .i64 z):=by simp
   have k0:=ZY d0;have k1:=ZY d1;clear d0 d1;obtain ⟨F,hF⟩:=ZL (VO (ps.take k) z);have hFb:=Cq (ps.take k) z;rw [hF] at hFb;have HF:=Z9 hF;clear hF;cases hpb:Nu (f,z)
   ·clear hcl
    go_wp2_with fail;refine wq ?_
    repeat (go_big_quiet_step (first | exact ZX (Vn _ _ _) | exact ZX (WI _ _ _ _ _) | exact ZX (TR (uh HF) ((uh Hip).below (Z1 _ _ _)))))
    refine wpQuiet_nil ?_;intro _ hw';obtain ⟨⟨dq,osq⟩,hw''⟩:=hw';subst hw'';go_wp2_with fail;go_ret;exact ⟨Z5 (Oj hlt (BV (uh Hp) hpb)).symm,(uh Hb).trans (((ZZ _ _).alloc (uh Hb).size _).trans ((Z1 _ _ _).mono (by simp;have:=(uh Hb).size;omega)))⟩
   ·by_cases hz:0<k
    ·have hd:decide (0<k)=true:=VJ hz
     obtain ⟨e0,e1⟩:=hcl (k-1) (by omega);rw [<-hb.cell (p:=⟨b,off+(k-1)*2,none⟩) hbw] at e0;rw [<-hb.cell (p:=⟨b,off+(k-1)*2+1,none⟩) hbw] at e1;generalize hq:Z7 ps (k-1)=q at e0 e1;have Hq:=Z9 hq;clear hq;obtain ⟨f',z'⟩:=q;simp only at e0 e1;have m0:=ZY (w:=wr.alloc (.cells #[.int .i64 f,.int .i64 z] 105)) (a:=⟨b,off+(k-1)*2,none⟩) (v:= .int .i64 f') (by rw [World.cell?_alloc_old _ _ _ hne];exact e0);have m1:=ZY (w:=wr.alloc (.cells #[.int .i64 f,.int .i64 z] 105)) (a:=⟨b,off+(k-1)*2+1,none⟩) (v:= .int .i64 z') (by rw [World.cell?_alloc_old _ _ _ hne];exact e1);clear hcl e0 e1;cases hab:ltB (f',z') (f,z)
     ·go_wp2_with fail
      refine wq ?_
      repeat (go_big_quiet_step (first | exact ZX (Vn _ _ _) | exact ZX (WI _ _ _ _ _) | exact ZX (TR (uh HF) ((uh Hip).below (Z1 _ _ _)))))
      refine wpQuiet_nil ?_;intro _ hw';obtain ⟨⟨dq,osq⟩,hw''⟩:=hw';subst hw'';go_wp2_with fail;go_ret;exact ⟨Z5 (Oj hlt (BX hz (uh Hp) (uh Hq) hab)).symm,(uh Hb).trans (((ZZ _ _).alloc (uh Hb).size _).trans ((Z1 _ _ _).mono (by simp;have:=(uh Hb).size;omega)))⟩
     ·by_cases hF0:F= -1
      ·subst hF0
       go_wp2_with fail;refine wq ?_
       repeat (go_big_quiet_step (first | exact ZX (Vn _ _ _) | exact ZX (WI _ _ _ _ _) | exact ZX (TR (uh HF) ((uh Hip).below (Z1 _ _ _)))))
       refine wpQuiet_nil ?_;intro _ hw';obtain ⟨⟨dq,osq⟩,hw''⟩:=hw';subst hw'';go_wp2_with fail;go_roundw
       case rel=>exact ⟨k+1,by omega,by go_num,Yi (uh Hst) (BZ hz (uh Hp) (uh Hq) hpb hab (by rw [uh HF];omega)),(uh Hb).trans (((ZZ _ _).alloc (uh Hb).size _).trans ((Z1 _ _ _).mono (by simp;have:=(uh Hb).size;omega)))⟩
       case measure=>exact ms
      ·have hF1:0<=F:=by omega
       have hF2:(F == -1)=false:=by simpa using hF0
       have hF3:(F != -1)=true:=by simpa using hF0
       clear hF0;go_wp2_with fail;refine wq ?_
       repeat (go_big_quiet_step (first | exact ZX (Vn _ _ _) | exact ZX (WI _ _ _ _ _) | exact ZX (TR (uh HF) ((uh Hip).below (Z1 _ _ _)))))
       refine wpQuiet_nil ?_;intro _ hw';obtain ⟨⟨dq,osq⟩,hw''⟩:=hw';subst hw'';go_wp2_with fail;go_ret;exact ⟨Z5 (Oj hlt (BY (uh Hp) (by rw [uh HF];exact hF1))).symm,(uh Hb).trans (((ZZ _ _).alloc (uh Hb).size _).trans ((Z1 _ _ _).mono (by simp;have:=(uh Hb).size;omega)))⟩
    ·obtain rfl:k=0:=by omega
     obtain rfl:F= -1:=by simp at hFb;omega
     simp only [Nat.zero_mul,Nat.add_zero] at c0 c1 k0 k1;clear hcl hz;go_wp2_with fail;refine wq ?_
     repeat (go_big_quiet_step (first | exact ZX (Vn _ _ _) | exact ZX (WI _ _ _ _ _) | exact ZX (TR (uh HF) ((uh Hip).below (Z1 _ _ _)))))
     refine wpQuiet_nil ?_;intro _ hw';obtain ⟨⟨dq,osq⟩,hw''⟩:=hw';subst hw'';go_wp2_with fail;go_roundw
     case rel=>exact ⟨1,by omega,by go_num,Yi (uh Hst) (BU (uh Hp) hpb),(uh Hb).trans (((ZZ _ _).alloc (uh Hb).size _).trans ((Z1 _ _ _).mono (by simp;have:=(uh Hb).size;omega)))⟩
     case measure=>exact ms
  ·obtain rfl:k=ps.length:=by omega
   go_wp2_with fail;go_ret;exact ⟨Z5 (JQ (by omega) (uh Hst)).symm,hb⟩
theorem FO:Po 70 3 (.agg #[.int .i64 0,.int .i64 0,.int .i64 0]) WU:=
 ⟨Eb,rfl,XP,by omega,by omega,fun x u hu=>by
  unfold WU at hu;simp only [List.mem_cons,List.not_mem_nil,or_false] at hu
  rcases hu with rfl | rfl | rfl<;>rfl⟩
theorem NA {w:World} (x0 x1 x2:Int) {g c:Nat} (hg:g=w.heap.size) (hc:1<=c) (hc2:c<=4000):X8 (w.alloc (.cells #[.int .i64 x0,.int .i64 x1,.int .i64 x2] 70)) (.slice (some ⟨g,0,none⟩) 1 c) [(x0,x1,x2)]:=
 Vs (e:=70) (enc:=WU) (x0,x1,x2) hg hc hc2
theorem RecAt.away {α:Type} {t k:Nat} {enc:α->List Value} {n₀ bc:Nat} {w w':World} {v:Value} {xs:List α} (h:RecAt t k enc n₀ w v xs) (ho:Off bc w w') (hb:bc<n₀):RecAt t k enc n₀ w' v xs:=
 h.same fun i hi=>ho.block i (h.lt hi).2 (by have:=(h.lt hi).1;omega)
structure Gbox (a:Option Addr) (len cap bc:Nat) (w0 w:World) (v:Value) (ps:List Zv):Prop where
 st:St a len cap bc w
 off:Off bc w0 w
 gt:bc<w0.heap.size
 row:GuildsAt w0.heap.size w v ps
section
variable {a : Option Addr} {len cap bc : Nat} {w0 w w' : World} {v : Value} {ps : List Zv}
theorem Gbox.step (h:Gbox a len cap bc w0 w v ps) (hs:St a len cap bc w') (ho:Off bc w w'):Gbox a len cap bc w0 w' v ps:=⟨hs,h.off.trans ho,h.gt,RecAt.away h.row ho h.gt⟩
theorem Gbox.alloc (h:Gbox a len cap bc w0 w v ps) (o:Obj):Gbox a len cap bc w0 (w.alloc o) v ps:=h.step (h.st.alloc _) ((Off.refl _ _).alloc _)
theorem Gbox.grown (h:Gbox a len cap bc w0 w v ps) {v':Value} {qs:List Zv} (hg:w.grownBy w' v.ownBlock) (hr:GuildsAt w0.heap.size w' v' qs):Gbox a len cap bc w0 w' v' qs:=by
 have hk:∀ k,v.ownBlock=some k->w0.heap.size<=k:=fun k e=>(RecAt.lt h.row e).1;have h1:=h.gt;have h2:=h.off.size;have hb:Below w0.heap.size w w':=(ZZ _ _).grown hg h2 hk;exact ⟨XU h.st (hb.mono (by omega)),TM h.off hb,h.gt,hr⟩
end
theorem Gt (a:Option Addr) (len cap bc:Nat) (w:World) (hs:St a len cap bc w) :
  Calls prog 146 #[.pointer (some ⟨bc,0,none⟩)] w fun e w'=> ∃ v ps,e= .returned v/\ps.length<=4/\Gbox a len cap bc w w' v ps:=by
 have Hs:=Z9 hs;have hbc:=V0 hs;clear hs;go_enter func146,ntmps146;go_wp2_with fail;have HE:Hid (GuildsAt w.heap.size (w.alloc (.cells #[] 70)) (.slice (some ⟨w.heap.size,0,none⟩) 0 0) []):=Z9 (YW rfl (Z0 _));refine (Draw.below_any a len cap bc 5 (by omega) (by omega) _ ((uh Hs).alloc _)).mono ?_;rintro e w1 ⟨n,rfl,n0,n1,s1,o1⟩;have HG1:Hid (Gbox a len cap bc w w1 (.slice (some ⟨w.heap.size,0,none⟩) 0 0) []):=Z9 (Gbox.step ⟨(uh Hs).alloc _,(Off.refl _ _).alloc _,hbc,uh HE⟩ s1 o1);clear s1 o1 HE;go_wp2_with fail
 go_loopw [3,4] (fun s i wr=> ∃ (k:Nat) (ps:List Zv),ps.length+k<=4/\i= .int .i64 k/\Gbox a len cap bc w wr s ps) (fun _ i _=>(intOf i).toNat)
 case atStart=>exact ⟨n.toNat,[],by simp;omega,by rw [show ((n.toNat:Nat):Int)=n by omega],uh HG1⟩
 case round=>
  obtain ⟨k,ps,hk,rfl,hG⟩:=hrel;obtain ⟨ra,rcap,rfl⟩:=RecAt.shape hG.row;have HG:=Z9 hG;clear hG;by_cases hk0:0<k
  ·go_wp2_with fail
   refine (Draw.below_any a len cap bc 600 (by omega) (by omega) _ (uh HG).st).mono ?_;rintro e w2 ⟨low,rfl,l0,l1,s2,o2⟩;have HG2:=Z9 ((uh HG).step s2 o2);clear s2 o2 HG;go_wp2_with fail;refine (Draw.below_any a len cap bc _ (by omega) (by omega) _ (uh HG2).st).mono ?_;rintro e w3 ⟨ab,rfl,a0,a1,s3,o3⟩;have HG3:=Z9 ((uh HG2).step s3 o3);clear s3 o3 HG2;go_wp2_with fail;refine (Draw.from_any a len cap bc low 1024 (by omega) (by omega) (by omega) _ (uh HG3).st).mono ?_;rintro e w4 ⟨hi,rfl,h0,h1,s4,o4⟩;have HG4:=Z9 ((uh HG3).step s4 o4);have hsz:=(uh HG4).off.size;clear s4 o4 HG3;go_wp2_with (at_builtin;refine ZH FO rfl (.tmp 15) (.tmp 27) 27 underlying27 rfl w.heap.size _ _ ps [(ab-1,low,hi)] rfl rfl ((uh HG4).alloc _).row (NA _ _ _ rfl (Z0 _) (by omega)) (by simp;omega) (by simp;omega) ?_;intro v' w5 hown hgrow hat)
   have HG5:=Z9 (((uh HG4).alloc _).grown hgrow hown);clear hown hgrow hat;go_wp2_with fail;go_roundw
   case rel=>exact ⟨k-1,ps++[(ab-1,low,hi)],by simp;omega,by rw [show ((k:Int)-1)=((k-1:Nat):Int) by omega],uh HG5⟩
   case measure=>exact ms
  ·obtain rfl:k=0:=by omega
   go_wp2_with fail;go_ret;exact ⟨_,ps,rfl,by omega,uh HG⟩
end Go.Proofs.YtlcpgkakdieeaaaGreat
namespace Go.Proofs.YtlcpgkakdieeaaaGreat
open Go.ChangeShapes Go.WideShapes Go.ChangeAt Go.RowKit Go.Sort Go.Proofs.Tryz
open Draw (St Off Row Cur)
set_option linter.unusedVariables false
theorem Gbox.put {a:Option Addr} {len cap bc:Nat} {w0 w:World} {g n rcap:Nat} {ps:List Zv} (h:Gbox a len cap bc w0 w (.slice (some ⟨g,0,none⟩) n rcap) ps) (hn:n=ps.length) {j i:Nat} (hj:j<ps.length) (hi:i<3) (y:Int) :
  ∃ qs:List Zv,qs.length=ps.length/\Gbox a len cap bc w0 (w.setCell ⟨g,j*3+i,none⟩ (.int .i64 y)) (.slice (some ⟨g,0,none⟩) n rcap) qs:=by
 have key:∃ x:Zv,WU x=(WU (Z8 ps j)).set i (.int .i64 y):=by
  generalize Z8 ps j=p;obtain ⟨p0,p1,p2⟩:=p
  rcases (show i=0\/i=1\/i=2 by omega) with rfl | rfl | rfl
  ·exact ⟨(y,p1,p2),rfl⟩
  ·exact ⟨(p0,y,p2),rfl⟩
  ·exact ⟨(p0,p1,y),rfl⟩
 obtain ⟨x,hx⟩:=key;obtain ⟨h1,h2⟩:=RecAt.put1 XP (by omega) h.row hn hj hi (.int .i64 y) x hx;exact ⟨ps.set j x,by simp,h.grown h2 h1⟩
theorem MF (a:Option Addr) (len cap bc:Nat) (w:World) (hs:St a len cap bc w) :
  Calls prog 111 #[.pointer (some ⟨bc,0,none⟩)] w fun e w'=> ∃ v ps,e= .returned v/\ps.length<=4/\Gbox a len cap bc w w' v ps:=by
 have Hs:=Z9 hs;clear hs;go_enter func111,ntmps111;go_wp2_with fail;refine (Gt a len cap bc _ (uh Hs)).mono ?_;rintro e w1 ⟨v,ps,rfl,hl,hG⟩;obtain ⟨ra,rcap,rfl⟩:=RecAt.shape hG.row;have HG:=Z9 hG;clear hG Hs;by_cases hz:0<ps.length
 ·go_wp2_with fail
  refine (Draw.once_any a len cap bc 6 (by omega) (by omega) _ (uh HG).st).mono ?_;rintro e w2 ⟨b,rfl,s2,o2⟩;have HG2:=Z9 ((uh HG).step s2 o2);clear s2 o2 HG;cases b
  ·go_wp2_with fail
   go_ret;exact ⟨_,ps,rfl,hl,uh HG2⟩
  ·go_wp2_with fail
   refine (Draw.below_any a len cap bc _ (by omega) (by omega) _ (uh HG2).st).mono ?_;rintro e w3 ⟨x,rfl,x0,x1,s3,o3⟩;have HG3:=Z9 ((uh HG2).step s3 o3);clear s3 o3 HG2;obtain ⟨j,rfl⟩:∃ j:Nat,x=j:=⟨x.toNat,by omega⟩
   have hj:j<ps.length:=by omega
   obtain ⟨g,rfl,_⟩:=RecAt.view XP (by omega) (uh HG3).row rfl hz;go_wp2_with fail;refine (Draw.below_any a len cap bc 3 (by omega) (by omega) _ (uh HG3).st).mono ?_;rintro e w4 ⟨y,rfl,y0,y1,s4,o4⟩;have HG4:=Z9 ((uh HG3).step s4 o4);clear s4 o4 HG3
   rcases (show y=0\/y=1\/y=2 by omega) with rfl | rfl | rfl
   ·go_wp2_with fail
    refine (Draw.from_any a len cap bc (-2) ps.length (by omega) (by omega) (by omega) _ (uh HG4).st).mono ?_;rintro e w5 ⟨z,rfl,z0,z1,s5,o5⟩;have HG5:=Z9 ((uh HG4).step s5 o5);clear s5 o5 HG4;obtain ⟨g',hg',_,_,hcells,hfz⟩:=RecAt.view XP (by omega) (uh HG5).row rfl hz;cases hg';have c0:=hcells j hj 0 _ rfl;have f0:=hfz (j*3);simp only [Nat.add_zero] at c0;obtain ⟨qs,hq,hG6⟩:=(uh HG5).put rfl hj (i:=0) (by omega) z;have HG6:=Z9 hG6;clear hcells hfz hG6;go_wp2_with fail;go_ret;exact ⟨_,qs,rfl,by omega,uh HG6⟩
   ·go_wp2_with fail
    refine (Draw.drawForce_any a len cap bc _ (uh HG4).st).mono ?_;rintro e w5 ⟨z,rfl,s5,o5⟩;have HG5:=Z9 ((uh HG4).step s5 o5);clear s5 o5 HG4;obtain ⟨g',hg',_,_,hcells,hfz⟩:=RecAt.view XP (by omega) (uh HG5).row rfl hz;cases hg';have c0:=hcells j hj 1 _ rfl;have f0:=hfz (j*3+1);obtain ⟨qs,hq,hG6⟩:=(uh HG5).put rfl hj (i:=1) (by omega) z;have HG6:=Z9 hG6;clear hcells hfz hG6;go_wp2_with fail;go_ret;exact ⟨_,qs,rfl,by omega,uh HG6⟩
   ·go_wp2_with fail
    refine (Draw.drawForce_any a len cap bc _ (uh HG4).st).mono ?_;rintro e w5 ⟨z,rfl,s5,o5⟩;have HG5:=Z9 ((uh HG4).step s5 o5);clear s5 o5 HG4;obtain ⟨g',hg',_,_,hcells,hfz⟩:=RecAt.view XP (by omega) (uh HG5).row rfl hz;cases hg';have c0:=hcells j hj 2 _ rfl;have f0:=hfz (j*3+2);obtain ⟨qs,hq,hG6⟩:=(uh HG5).put rfl hj (i:=2) (by omega) z;have HG6:=Z9 hG6;clear hcells hfz hG6;go_wp2_with fail;go_ret;exact ⟨_,qs,rfl,by omega,uh HG6⟩
 ·obtain rfl:ps=[]:=List.eq_nil_of_length_eq_zero (by omega)
  go_wp2_with fail;go_ret;exact ⟨_,[],rfl,by simp,uh HG⟩
theorem RO {ps:List Z4} (h:(Yv ps && decide (0<ps.length))=false):Td ps=((0,0),false):=by unfold Td;rw [h];rfl
theorem Ny {ps:List Z4} (h:Yv ps=true) (hl:0<ps.length):Td ps=(Z7 ps 0,true):=by unfold Td;rw [h,decide_eq_true hl];rfl
theorem O7 {w:World} {v:Value} {ps:List Z4} (h:IsPaces w v ps) :
  cB 105 #[v] w (.tuple #[.agg #[.int .i64 (Td ps).1.1,.int .i64 (Td ps).1.2],.bool (Td ps).2]):=by
 have Hv:=Z9 h;obtain ⟨a,cap,rfl,hc,hm,hr⟩:=h;cases hq:Yv ps
 ·rw [RO (by rw [hq];rfl)]
  clear hr;go_enter func105,ntmps105;go_wp2_with fail;refine (Yj ((uh Hv).below ((ba _ _)))).mono ?_;rw [hq];rintro e w1 ⟨rfl,hb⟩;have Hb:=Z9 hb;have hsz:=hb.size;simp at hsz;obtain ⟨k1,k2⟩:=Ng hb;clear hb;go_wp2_with fail;exact ZE (v:= .tuple #[.agg #[.int .i64 0,.int .i64 0],.bool false]) (by simp [results,results105,go_sem,k1]) rfl ⟨rfl,((((ba _ _)).trans ((uh Hb).mono (by simp))).setCell (by simp) _).setCell (by simp) _⟩
 ·rcases hr with hr | ⟨b,off,rfl,hbw,hcl⟩
  ·subst hr
   rw [RO (by simp)];go_enter func105,ntmps105;go_wp2_with fail;refine (Yj ((uh Hv).below ((ba _ _)))).mono ?_;rw [hq];rintro e w1 ⟨rfl,hb⟩;have Hb:=Z9 hb;have hsz:=hb.size;simp at hsz;obtain ⟨k1,k2⟩:=Ng hb;clear hb;go_wp2_with fail;exact ZE (v:= .tuple #[.agg #[.int .i64 0,.int .i64 0],.bool false]) (by simp [results,results105,go_sem,k1]) rfl ⟨rfl,((((ba _ _)).trans ((uh Hb).mono (by simp))).setCell (by simp) _).setCell (by simp) _⟩
  ·by_cases hl:0<ps.length
   ·rw [Ny hq hl]
    obtain ⟨c0,c1⟩:=hcl 0 hl;simp only [Nat.zero_mul,Nat.add_zero] at c0 c1;generalize Z7 ps 0=p at *;obtain ⟨f,z⟩:=p;simp only at c0 c1;have hl2:(ps.length ==0)=false:=beq_eq_false_iff_ne.2 (by omega);have hl3:((ps.length:Int) ==0)=false:=beq_eq_false_iff_ne.2 (by omega);have hne:b ≠ w.heap.size:=Vj hbw;clear hcl;go_enter func105,ntmps105;go_wp2_with fail;refine (Yj ((uh Hv).below ((ba _ _)))).mono ?_;rw [hq];rintro e w1 ⟨rfl,hb⟩;have Hb:=Z9 hb;have hsz:=hb.size;simp at hsz;have c0':=(hb.cell (p:=⟨b,off,none⟩) (by simp;omega)).trans ((World.cell?_alloc_old _ _ _ hne).trans c0);have c1':=(hb.cell (p:=⟨b,off+1,none⟩) (by simp;omega)).trans ((World.cell?_alloc_old _ _ _ hne).trans c1);obtain ⟨k1,k2⟩:=Ng hb;clear hb c0 c1;go_wp2_with fail;exact ZE (v:= .tuple #[.agg #[.int .i64 f,.int .i64 z],.bool true]) (by simp [results,results105,go_sem,k1]) rfl ⟨rfl,((((ba _ _)).trans ((uh Hb).mono (by simp))).setCell (by simp) _).setCell (by simp) _⟩
   ·obtain rfl:ps=[]:=List.eq_nil_of_length_eq_zero (by omega)
    rw [RO (by simp)];clear hcl;go_enter func105,ntmps105;go_wp2_with fail;refine (Yj ((uh Hv).below ((ba _ _)))).mono ?_;rw [hq];rintro e w1 ⟨rfl,hb⟩;have Hb:=Z9 hb;have hsz:=hb.size;simp at hsz;obtain ⟨k1,k2⟩:=Ng hb;clear hb;go_wp2_with fail;exact ZE (v:= .tuple #[.agg #[.int .i64 0,.int .i64 0],.bool false]) (by simp [results,results105,go_sem,k1]) rfl ⟨rfl,((((ba _ _)).trans ((uh Hb).mono (by simp))).setCell (by simp) _).setCell (by simp) _⟩
end Go.Proofs.YtlcpgkakdieeaaaGreat
