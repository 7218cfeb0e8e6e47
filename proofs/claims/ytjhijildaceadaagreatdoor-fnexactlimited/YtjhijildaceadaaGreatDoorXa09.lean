/- Part 9 of what the proof rests on. No condition but those that a theorem names. -/
import Derived.Test.YtjhijildaceadaaGreatDoorXa08
import Derived.OrdersHeld
import Derived.Deep.RegionHeldLaw
namespace Go.Proofs.YtjhijildaceadaaGreatDoor
open Go.ChangeShapes Go.WideShapes Go.ChangeAt Go.RowKit Go.Sort
set_option linter.unusedVariables false
set_option linter.unusedSimpArgs false
set_option maxRecDepth 100000
structure Errs (w:World) (q:Int->Addr):Prop where
 c1:w.cell? ⟨4,0,none⟩=some (Zv (q 1))
 c2:w.cell? ⟨1,0,none⟩=some (Zv (q 2))
 c3:w.cell? ⟨0,0,none⟩=some (Zv (q 3))
 c4:w.cell? ⟨3,0,none⟩=some (Zv (q 4))
 c5:w.cell? ⟨2,0,none⟩=some (Zv (q 5))
 ct:w.cell? ⟨5,0,none⟩=some (rty 97)
 b1:∃ c t,w.heap[(q 1).block]?=some (.cells c t (0,0))
 b2:∃ c t,w.heap[(q 2).block]?=some (.cells c t (0,0))
 b3:∃ c t,w.heap[(q 3).block]?=some (.cells c t (0,0))
 b4:∃ c t,w.heap[(q 4).block]?=some (.cells c t (0,0))
 b5:∃ c t,w.heap[(q 5).block]?=some (.cells c t (0,0))
 n12:q 1 ≠ q 2
 n13:q 1 ≠ q 3
 n14:q 1 ≠ q 4
 n15:q 1 ≠ q 5
 n23:q 2 ≠ q 3
 n24:q 2 ≠ q 4
 n25:q 2 ≠ q 5
 n34:q 3 ≠ q 4
 n35:q 3 ≠ q 5
 n45:q 4 ≠ q 5
theorem Ud {w w':World} {k:Nat} (h:∃ c t,w.heap[k]?=some (.cells c t (0,0))) (hb:Below w.heap.size w w'):∃ c t,w'.heap[k]?=some (.cells c t (0,0)):=by
 obtain ⟨c,t,e⟩:=h
 exact ⟨c,t,(hb.block k (Array.getElem?_eq_some_iff.1 e).1).trans e⟩
theorem Errs.below {w w':World} {q:Int->Addr} (h:Errs w q) (hb:Below w.heap.size w w'):Errs w' q:=
 ⟨(hb.cell (World.block_lt_of_cell? _ _ h.c1)).trans h.c1,(hb.cell (World.block_lt_of_cell? _ _ h.c2)).trans h.c2,(hb.cell (World.block_lt_of_cell? _ _ h.c3)).trans h.c3,(hb.cell (World.block_lt_of_cell? _ _ h.c4)).trans h.c4,(hb.cell (World.block_lt_of_cell? _ _ h.c5)).trans h.c5,(hb.cell (World.block_lt_of_cell? _ _ h.ct)).trans h.ct,Ud h.b1 hb,Ud h.b2 hb,Ud h.b3 hb,Ud h.b4 hb,Ud h.b5 hb,h.n12,h.n13,h.n14,h.n15,h.n23,h.n24,h.n25,h.n34,h.n35,h.n45⟩
theorem F5 (w:World):Calls Tryz.prog 182 #[.nilIface] w fun e w'=>e= .returned (.int .i64 0)/\w'=w:=by
 go_enter Tryz.func182,Tryz.ntmps182
 go_wp2_with fail
 go_ret
 exact ⟨rfl,rfl⟩
theorem KP (p:Nat) {w:World} {q:Int->Addr} (h:Errs w q) (hp:w.cell? ⟨p,6,none⟩=some (Zv (q 1))):Calls Tryz.prog 182 #[Qm p] w fun e w'=>e= .returned (.int .i64 1)/\w'=w:=by
 have HE:=Z9 h
 have Hp:=Z9 hp
 clear hp
 obtain ⟨x1,x2,x3,x4,x5,_⟩:=h
 go_enter Tryz.func182,Tryz.ntmps182
 go_wp2_with fail
 refine (Vg p (q 1) _ (uh Hp)).mono ?_
 rintro e w' ⟨rfl,h9⟩
 subst w'
 go_wp2_with fail
 go_ret
 exact ⟨rfl,rfl⟩
theorem KQ (p:Nat) {w:World} {q:Int->Addr} (h:Errs w q) (hp:w.cell? ⟨p,6,none⟩=some (Zv (q 2))):Calls Tryz.prog 182 #[Qm p] w fun e w'=>e= .returned (.int .i64 2)/\w'=w:=by
 have HE:=Z9 h
 have Hp:=Z9 hp
 clear hp
 obtain ⟨x1,x2,x3,x4,x5,_⟩:=h
 go_enter Tryz.func182,Tryz.ntmps182
 go_wp2_with fail
 obtain ⟨ca,ta,ha⟩:=(uh HE).b2
 obtain ⟨cb,tb,hb⟩:=(uh HE).b1
 refine (Y4 p _ (uh Hp) ((uh HE).n12.symm) ha hb).mono ?_
 clear ha hb
 rintro e w' ⟨rfl,h9⟩
 subst w'
 go_wp2_with fail
 refine (Vg p (q 2) _ (uh Hp)).mono ?_
 rintro e w' ⟨rfl,h9⟩
 subst w'
 go_wp2_with fail
 go_ret
 exact ⟨rfl,rfl⟩
theorem KR (p:Nat) {w:World} {q:Int->Addr} (h:Errs w q) (hp:w.cell? ⟨p,6,none⟩=some (Zv (q 3))):Calls Tryz.prog 182 #[Qm p] w fun e w'=>e= .returned (.int .i64 3)/\w'=w:=by
 have HE:=Z9 h
 have Hp:=Z9 hp
 clear hp
 obtain ⟨x1,x2,x3,x4,x5,_⟩:=h
 go_enter Tryz.func182,Tryz.ntmps182
 go_wp2_with fail
 obtain ⟨ca,ta,ha⟩:=(uh HE).b3
 obtain ⟨cb,tb,hb⟩:=(uh HE).b1
 refine (Y4 p _ (uh Hp) ((uh HE).n13.symm) ha hb).mono ?_
 clear ha hb
 rintro e w' ⟨rfl,h9⟩
 subst w'
 go_wp2_with fail
 obtain ⟨ca,ta,ha⟩:=(uh HE).b3
 obtain ⟨cb,tb,hb⟩:=(uh HE).b2
 refine (Y4 p _ (uh Hp) ((uh HE).n23.symm) ha hb).mono ?_
 clear ha hb
 rintro e w' ⟨rfl,h9⟩
 subst w'
 go_wp2_with fail
 obtain ⟨ca,ta,ha⟩:=(uh HE).b3
 obtain ⟨cb,tb,hb⟩:=(uh HE).b4
 refine (Y4 p _ (uh Hp) ((uh HE).n34) ha hb).mono ?_
 clear ha hb
 rintro e w' ⟨rfl,h9⟩
 subst w'
 go_wp2_with fail
 obtain ⟨ca,ta,ha⟩:=(uh HE).b3
 obtain ⟨cb,tb,hb⟩:=(uh HE).b5
 refine (Y4 p _ (uh Hp) ((uh HE).n35) ha hb).mono ?_
 clear ha hb
 rintro e w' ⟨rfl,h9⟩
 subst w'
 go_wp2_with fail
 go_ret
 exact ⟨rfl,rfl⟩
theorem KS (p:Nat) {w:World} {q:Int->Addr} (h:Errs w q) (hp:w.cell? ⟨p,6,none⟩=some (Zv (q 4))):Calls Tryz.prog 182 #[Qm p] w fun e w'=>e= .returned (.int .i64 4)/\w'=w:=by
 have HE:=Z9 h
 have Hp:=Z9 hp
 clear hp
 obtain ⟨x1,x2,x3,x4,x5,_⟩:=h
 go_enter Tryz.func182,Tryz.ntmps182
 go_wp2_with fail
 obtain ⟨ca,ta,ha⟩:=(uh HE).b4
 obtain ⟨cb,tb,hb⟩:=(uh HE).b1
 refine (Y4 p _ (uh Hp) ((uh HE).n14.symm) ha hb).mono ?_
 clear ha hb
 rintro e w' ⟨rfl,h9⟩
 subst w'
 go_wp2_with fail
 obtain ⟨ca,ta,ha⟩:=(uh HE).b4
 obtain ⟨cb,tb,hb⟩:=(uh HE).b2
 refine (Y4 p _ (uh Hp) ((uh HE).n24.symm) ha hb).mono ?_
 clear ha hb
 rintro e w' ⟨rfl,h9⟩
 subst w'
 go_wp2_with fail
 refine (Vg p (q 4) _ (uh Hp)).mono ?_
 rintro e w' ⟨rfl,h9⟩
 subst w'
 go_wp2_with fail
 go_ret
 exact ⟨rfl,rfl⟩
theorem KT (p:Nat) {w:World} {q:Int->Addr} (h:Errs w q) (hp:w.cell? ⟨p,6,none⟩=some (Zv (q 5))):Calls Tryz.prog 182 #[Qm p] w fun e w'=>e= .returned (.int .i64 5)/\w'=w:=by
 have HE:=Z9 h
 have Hp:=Z9 hp
 clear hp
 obtain ⟨x1,x2,x3,x4,x5,_⟩:=h
 go_enter Tryz.func182,Tryz.ntmps182
 go_wp2_with fail
 obtain ⟨ca,ta,ha⟩:=(uh HE).b5
 obtain ⟨cb,tb,hb⟩:=(uh HE).b1
 refine (Y4 p _ (uh Hp) ((uh HE).n15.symm) ha hb).mono ?_
 clear ha hb
 rintro e w' ⟨rfl,h9⟩
 subst w'
 go_wp2_with fail
 obtain ⟨ca,ta,ha⟩:=(uh HE).b5
 obtain ⟨cb,tb,hb⟩:=(uh HE).b2
 refine (Y4 p _ (uh Hp) ((uh HE).n25.symm) ha hb).mono ?_
 clear ha hb
 rintro e w' ⟨rfl,h9⟩
 subst w'
 go_wp2_with fail
 obtain ⟨ca,ta,ha⟩:=(uh HE).b5
 obtain ⟨cb,tb,hb⟩:=(uh HE).b4
 refine (Y4 p _ (uh Hp) ((uh HE).n45.symm) ha hb).mono ?_
 clear ha hb
 rintro e w' ⟨rfl,h9⟩
 subst w'
 go_wp2_with fail
 refine (Vg p (q 5) _ (uh Hp)).mono ?_
 rintro e w' ⟨rfl,h9⟩
 subst w'
 go_wp2_with fail
 go_ret
 exact ⟨rfl,rfl⟩
theorem IK {w:World} {q:Int->Addr} (h:Errs w q):Calls Tryz.prog 182 #[Zv (q 3)] w fun e w'=>e= .returned (.int .i64 3)/\w'=w:=by
 have HE:=Z9 h
 obtain ⟨x1,x2,x3,x4,x5,_⟩:=h
 go_enter Tryz.func182,Tryz.ntmps182
 go_wp2_with fail
 obtain ⟨ca,ta,ha⟩:=(uh HE).b3
 obtain ⟨cb,tb,hb⟩:=(uh HE).b1
 refine (QV _ ((uh HE).n13.symm) ha hb).mono ?_
 clear ha hb
 rintro e w' ⟨rfl,h9⟩
 subst w'
 go_wp2_with fail
 obtain ⟨ca,ta,ha⟩:=(uh HE).b3
 obtain ⟨cb,tb,hb⟩:=(uh HE).b2
 refine (QV _ ((uh HE).n23.symm) ha hb).mono ?_
 clear ha hb
 rintro e w' ⟨rfl,h9⟩
 subst w'
 go_wp2_with fail
 obtain ⟨ca,ta,ha⟩:=(uh HE).b3
 obtain ⟨cb,tb,hb⟩:=(uh HE).b4
 refine (QV _ ((uh HE).n34) ha hb).mono ?_
 clear ha hb
 rintro e w' ⟨rfl,h9⟩
 subst w'
 go_wp2_with fail
 obtain ⟨ca,ta,ha⟩:=(uh HE).b3
 obtain ⟨cb,tb,hb⟩:=(uh HE).b5
 refine (QV _ ((uh HE).n35) ha hb).mono ?_
 clear ha hb
 rintro e w' ⟨rfl,h9⟩
 subst w'
 go_wp2_with fail
 go_ret
 exact ⟨rfl,rfl⟩
theorem IL {c:Int} (hc:c=1\/c=2\/c=3\/c=4\/c=5) (p:Nat) {w:World} {q:Int->Addr} (h:Errs w q) (hp:w.cell? ⟨p,6,none⟩=some (Zv (q c))):Calls Tryz.prog 182 #[Qm p] w fun e w'=>e= .returned (.int .i64 c)/\w'=w:=by
 rcases hc with rfl | rfl | rfl | rfl | rfl
 ·exact KP p h hp
 ·exact KQ p h hp
 ·exact KR p h hp
 ·exact KS p h hp
 ·exact KT p h hp
theorem KC (g o i:Nat):(⟨g,o,none⟩:Addr).add i=⟨g,o+i,none⟩:=by unfold Addr.add;split<;>simp_all
theorem Ra {e k bytes:Nat} {z:Value} (h:(Tryz.prog.info? e).map (fun i=>(i.zero,i.size,i.bytes))=some (some z,k,bytes)):∃ i,Tryz.prog.info? e=some i/\i.zero=some z/\i.size=k/\i.bytes=bytes:=by
 cases hi:Tryz.prog.info? e with
 | none=>rw [hi] at h;cases h
 | some i=>
  rw [hi] at h
  simp only [Option.map_some,Option.some.injEq,Prod.mk.injEq] at h
  exact ⟨i,rfl,h.1,h.2.1,h.2.2⟩
theorem Tv {w:World} {base t ty e size n:Nat} {i:TypeInfo} (ht:Tryz.prog.underlying t=some (.slice e)) (hi:Tryz.prog.info? e=some i) {v:Value} {xs:List Value} (hown:w.ownsRow base e size v n xs) (a:Option Addr) (c:Nat) :
  (Builtin.append_ #[t,t] ty #[v,.slice a 0 c]).run Tryz.prog w= .ok v w:=by
 rcases hown.2 with ⟨rfl,rfl⟩ | ⟨g,cap,cur,rfl,_,_,hnc,_⟩
 ·cases a<;>simp [Builtin.append_,run_underlying ht,sizeOf,typeInfo,hi,Builtin.lenOf,Builtin.firstCells,loadCells,loadCellsFrom]
 ·cases a<;>simp [Builtin.append_,run_underlying ht,sizeOf,typeInfo,hi,Builtin.lenOf,Builtin.firstCells,hnc,storeCells,loadCells,loadCellsFrom]
structure M8 {α:Type} (e k:Nat) (z:Value) (enc:α->List Value):Prop where
 info:(Tryz.prog.info? e).map (fun i=>(i.zero,i.size,i.bytes))=some (some z,k,8*k)
 zero:z.cells.size=k
 len:∀ x,(enc x).length=k
 pos:0<k
 few:k<=100
 one:∀ x,∀ u ∈ enc x,u.oneCell'=true
section
variable {α : Type} {e k : Nat} {enc : α → List Value}
theorem IY (hone:∀ x:α,∀ u ∈ enc x,u.oneCell'=true) (qs:List α):∀ u ∈ Vr enc qs,u.oneCell'=true:=fun u hu=>by
 unfold Vr at hu
 obtain ⟨p,_,hp⟩:=List.mem_flatMap.1 hu
 exact hone p u hp
theorem Zl {B g:Nat} {w:World} (hg:g=w.heap.size) (hB:B<=g):RecAt e k enc B (w.alloc (.cells #[] e)) (.slice (some ⟨g,0,none⟩) 0 0) []:=by
 subst hg
 exact ⟨by simp [Vr],.inr ⟨_,0,#[],rfl,hB,heap_alloc_new w _,Nat.le_refl _,Nat.zero_le _,by simp,by simp [Vr]⟩⟩
end
section
variable {α : Type} [Inhabited α] {e k : Nat} {enc : α → List Value} {z : Value}
theorem Mi (hk:∀ x,(enc x).length=k) (h0:0<k) {w:World} {b off:Nat} {qs:List α} (h:∀ j,j<qs.length-> ∀ i u,(enc (Z8 qs j))[i]?=some u->w.cell? ⟨b,off+j*k+i,none⟩=some u) :
  ∀ (j:Nat) (u:Value),(Vr enc qs)[j]?=some u->w.cell? ((⟨b,off,none⟩:Addr).add j)=some u:=fun j u hj=>by
 have hlt:j<qs.length*k:=by
  rcases Nat.lt_or_ge j (qs.length*k) with h | h
  ·exact h
  ·rw [List.getElem?_eq_none (by rw [Wg hk];exact h)] at hj;cases hj
 have hd:j / k<qs.length:=(Nat.div_lt_iff_lt_mul h0).2 hlt
 have hr:j%k<k:=Nat.mod_lt _ h0
 have he:j=j / k*k+j%k:=by rw [Nat.mul_comm];exact (Nat.div_add_mod j k).symm
 rw [KC]
 rw [he,Wf hk qs (j / k) hd (j%k) hr] at hj
 have:=h (j / k) hd (j%k) u hj
 rw [Nat.add_assoc,<-he] at this
 exact this
theorem Tx (T:M8 e k z enc) {w:World} {base t ty:Nat} (ht:Tryz.prog.underlying t=some (.slice e)) {v x:Value} {ps qs:List α} (hown:RecAt e k enc base w v ps) (hx:IsRec k enc w x qs) (hb:ps.length+qs.length<=4000) (hbase:base<=w.heap.size) :
  ∃ v' w',(Builtin.append_ #[t,t] ty #[v,x]).run Tryz.prog w= .ok v' w'/\RecAt e k enc base w' v' (ps++qs)/\w.grownBy w' v.ownBlock/\(v'.ownBlock=v.ownBlock\/v'.ownBlock=some w.heap.size):=by
 obtain ⟨i0,hi,hz0,hz1,hz2⟩:=Ra T.info
 obtain ⟨a,c,rfl,hc,hm,hr⟩:=hx
 by_cases h0:qs=[]
 ·subst h0
  refine ⟨v,w,Tv ht hi hown a c,by simpa using hown,Xh _ _,.inl rfl⟩
 ·rcases hr with hr | ⟨b,off,rfl,hlt,hcl⟩
  ·exact absurd hr h0
  ·have hk:=T.few
   have hmul:(ps.length+qs.length)*(8*k)<=4000*800:=Nat.mul_le_mul hb (by omega)
   obtain ⟨v',w',hr,h2,h3,_,h5⟩:=run_append_own_at (P:=Tryz.prog) w base t ty e i0 z k (8*k) ht hi hz0 hz1 hz2 T.zero T.pos v ps.length _ hown ⟨b,off,none⟩ qs.length c (Vr enc qs) (Wg T.len qs)
    (Mi T.len T.pos hcl) (IY T.one qs) (by simp only [maxLen];omega) (by omega) hbase
   refine ⟨v',w',hr,?_,h3,h5⟩
   unfold RecAt
   rw [Px,List.length_append]
   exact h2
theorem ZO (T:M8 e k z enc) {w:World} {ops:Array Oper} {rest:List Oper} {o:Oper} {a:Act} {Q:Exit->Act->World->Prop} (hgd:o.guard=none) (s x:Operand) (t:TypeId) (ht:Tryz.prog.underlying t=some (.slice e))
  (ho:o.op= .call { callee:= .builtin .append,args:=#[s,x],argTypes:=#[t,t] }) (base:Nat) (v u:Value) (ps qs:List α) (hs:a.eval s=v) (hx:a.eval x=u) (hown:RecAt e k enc base w v ps) (hr:IsRec k enc w u qs)
  (hb:ps.length+qs.length<=4000) (hbase:base<=w.heap.size)
  (h:∀ v' w',RecAt e k enc base w' v' (ps++qs)->w.grownBy w' v.ownBlock->(v'.ownBlock=v.ownBlock\/v'.ownBlock=some w.heap.size)->wpList Tryz.prog ops Q rest (a.put o.dst v') w') :
  wpList Tryz.prog ops Q (o::rest) a w:=by
 refine wpList_plain hgd fun K hK=> ?_
 obtain ⟨v',w',hrun,h2,h3,h5⟩:=Tx T (ty:=o.type) ht hown hr hb hbase
 unfold Oper.wp execOp
 simp only [ho,resolve,invoke,builtin,Sem.run_bind,Sem.run_pure,Result.andThen_ok,List.map_toArray,List.map_cons,List.map_nil,hs,hx,hrun]
 exact hK _ _ (h v' w' h2 h3 h5)
theorem U1 {w:World} (x:α) {g c:Nat} (hg:g=w.heap.size) (hc:1<=c) (hc2:c<=4000):IsRec k enc (w.alloc (.cells (enc x).toArray e)) (.slice (some ⟨g,0,none⟩) 1 c) [x]:=by
 subst hg
 refine ⟨_,c,rfl,hc,by omega,.inr ⟨_,0,rfl,by simp,fun j hj i u hu=> ?_⟩⟩
 obtain rfl:j=0:=by simpa using hj
 rw [Nat.zero_mul,Nat.zero_add,World.cell?_alloc_at _ _ _ _ rfl]
 have hr:Z8 [x] 0=x:=rfl
 rw [hr] at hu
 simpa using hu
theorem En (hk:∀ x,(enc x).length=k) (h0:0<k) (xs:List α) {j i:Nat} (hj:j<xs.length) (hi:i<k) (u:Value) (x:α) (hx:enc x=(enc (Z8 xs j)).set i u):(Vr enc xs).set (j*k+i) u=Vr enc (xs.set j x):=by
 have hl:=Wg hk xs
 have hjk:j*k+k<=xs.length*k:=by rw [<-Nat.succ_mul];exact Nat.mul_le_mul_right k hj
 apply List.ext_getElem?
 intro m
 by_cases hm:m<xs.length*k
 ·have hd:m / k<xs.length:=(Nat.div_lt_iff_lt_mul h0).2 hm
  have hr:m%k<k:=Nat.mod_lt _ h0
  have he:m=m / k*k+m%k:=by rw [Nat.mul_comm];exact (Nat.div_add_mod m k).symm
  have hg:=Wf hk (xs.set j x) (m / k) (by simpa using hd) (m%k) hr
  have hg0:=Wf hk xs (m / k) hd (m%k) hr
  rw [<-he] at hg hg0
  rw [hg,ZV hj]
  by_cases e:m / k=j
  ·rw [if_pos e,hx]
   by_cases ei:m%k=i
   ·have hmi:m=j*k+i:=by rw [<-e,<-ei];exact he
    rw [ei,hmi,List.getElem?_set_self (by rw [hl];omega),List.getElem?_set_self (by rw [hk];exact hi)]
   ·have hmi:j*k+i ≠ m:=by rw [<-e];omega
    rw [List.getElem?_set_ne hmi,List.getElem?_set_ne (Ne.symm ei),hg0,e]
  ·rw [if_neg e,List.getElem?_set_ne,hg0]
   intro h
   apply e
   rw [<-h]
   exact Nat.div_eq_of_lt_le (Nat.le_add_right _ _) (by rw [Nat.succ_mul];omega)
 ·rw [List.getElem?_eq_none (by simp;omega),List.getElem?_eq_none (by rw [Wg hk];simp;omega)]
theorem RecAt.put1 (hk:∀ x,(enc x).length=k) (h0:0<k) {t n₀ n cap g:Nat} {w:World} {xs:List α} (h:RecAt t k enc n₀ w (.slice (some ⟨g,0,none⟩) n cap) xs) (hn:n=xs.length) {j i:Nat} (hj:j<xs.length) (hi:i<k) (u:Value) (x:α) (hx:enc x=(enc (Z8 xs j)).set i u) :
  RecAt t k enc n₀ (w.setCell ⟨g,j*k+i,none⟩ u) (.slice (some ⟨g,0,none⟩) n cap) (xs.set j x)/\w.grownBy (w.setCell ⟨g,j*k+i,none⟩ u) (some g):=by
 subst hn
 obtain ⟨h1,h2⟩:=World.ownsRow.stored h (j*k+i) u
 rw [En hk h0 xs hj hi u x hx] at h1
 refine ⟨?_,h2⟩
 unfold RecAt
 rw [List.length_set]
 exact h1
end
end Go.Proofs.YtjhijildaceadaaGreatDoor
namespace Go.Proofs.YtjhijildaceadaaGreatDoor
set_option linter.unusedVariables false
section
variable {P : Program} {ops : Array Oper} {z : Oper} {Q : Exit → Act → World → Prop} {md : Region.Mode}
def Mr (P:Program) (full:Array Oper) (Q:Exit->Act->World->Prop) (n:Nat):Exit->Act->World->Prop
 | .normal,a,w=>wpOp P full Q n (fun a' w'=>Q .normal a' w') a w
 | e,a,w=>Q e a w
def RQ (md:Region.Mode) (ops:Array Oper) (z:Oper):Bool:=
 (List.range ops.size).all (fun i=>(ops[i]?).all fun o=>o.guard.isNone && o.after.all fun e=>decide (e.on<i)) && (List.range ops.size).all (fun i=>(z.after.any fun e=>Region.binds md e && decide (e.on=i)) || (List.range ops.size).any fun j=>decide (i<j) && (ops[j]?).any fun o=>o.after.any fun e=>Region.binds md e && decide (e.on=i)) && z.after.all fun e=>decide (e.on<ops.size)
theorem Bz {Q':Exit->Act->World->Prop} (hq:∀ e a w,e ≠ .normal->Q' e a w->Q e a w) {o:Oper} {a:Act} {w:World} {K:Act->World->Prop} (h:o.wp P a w K Q'):o.wp P a w K Q:=by
 have hl:LetsOut Q'->LetsOut Q:=fun ⟨a,w,h⟩=>⟨a,w,hq _ _ _ (by simp) h⟩
 unfold Oper.wp at *
 generalize (execOp a.eval o).run P w=r at *
 cases r with
 | ok n w'=>
  cases n<;>simp only [Oper.upon] at h ⊢ <;>
   first
    | exact h
    | exact Calls.mono h (fun e w'' he=>by cases e<;>first | exact he | exact hq _ _ _ (by simp) he | exact hl he)
 | halt x w'=>
  cases x<;>simp only [Oper.upon] at h ⊢<;>first | exact h | exact hq _ _ _ (by simp) h | exact hl h
theorem P5 (l:Array Bool) (d:Bool) (i:Nat):(l.push false).getD i d=if i=l.size then false else l.getD i d:=by
 simp only [Array.getD_eq_getD_getElem?,Array.getElem?_push]
 split<;>rfl
theorem Oo (l:Array Bool) (hl:l.size=ops.size):Region.ready md (ops.push z) (l.push false)=Region.ready md ops l++(if (z.after.all fun e=> !Region.binds md e || l.getD e.on false)=true then [ops.size] else []):=by
 have hout:∀ j,(l.push false).getD j false=l.getD j false:=fun j=>by
  rw [P5]
  split
  ·rename_i h;subst h;simp
  ·rfl
 unfold Region.ready
 rw [Array.size_push,List.range_succ,List.filter_append]
 congr 1
 ·refine List.filter_congr fun i hi=> ?_
  have hi:=List.mem_range.1 hi
  rw [P5,if_neg (by omega),Array.getElem?_push,if_neg (by omega)]
  simp only [hout]
 ·simp only [List.filter_cons,List.filter_nil]
  rw [P5,if_pos hl.symm,Array.getElem?_push,if_pos rfl]
  simp only [hout,Bool.not_false,Bool.true_and,Option.map_some,Option.getD_some]
theorem DD (l:Array Bool) {i:Nat} (hi:i<l.size):(l.push false).setIfInBounds i true=(l.setIfInBounds i true).push false:=by
 apply Array.ext_getElem?
 intro j
 simp only [Array.getElem?_setIfInBounds,Array.getElem?_push,Array.size_push,Array.size_setIfInBounds]
 by_cases h1:i=j
 ·subst h1
  have h2:¬ i=l.size:=by omega
  have h3:i<l.size+1:=by omega
  simp [h2,h3,hi]
 ·simp [h1]
theorem Qy (h:RQ md ops z=true):(∀ (i:Nat) (o:Oper),ops[i]?=some o->o.guard=none/\ ∀ e ∈ o.after,e.on<i)/\(∀ i,i<ops.size->(∃ e ∈ z.after,Region.binds md e=true/\e.on=i)\/ ∃ (j:Nat) (o:Oper),i<j/\j<ops.size/\ops[j]?=some o/\ ∃ e ∈ o.after,Region.binds md e=true/\e.on=i)/\ ∀ e ∈ z.after,e.on<ops.size:=by
 unfold RQ at h
 simp only [Bool.and_eq_true,List.all_eq_true,List.mem_range] at h
 obtain ⟨⟨h1,h2⟩,h3⟩:=h
 refine ⟨fun i o ho=> ?_,fun i hi=> ?_,fun e he=> ?_⟩
 ·have hi:i<ops.size:=by
   rcases Nat.lt_or_ge i ops.size with h | h
   ·exact h
   ·rw [Array.getElem?_eq_none h] at ho;cases ho
  have:=h1 i hi
  rw [ho] at this
  simp only [Option.all_some,Bool.and_eq_true,Option.isNone_iff_eq_none,Array.all_eq_true_iff_forall_mem,decide_eq_true_eq] at this
  exact this
 ·have:=h2 i hi
  rw [Bool.or_eq_true] at this
  rcases this with this | this
  ·obtain ⟨k,hk,h9⟩:=Array.any_eq_true.1 this
   simp only [Bool.and_eq_true,decide_eq_true_eq] at h9
   exact .inl ⟨_,Array.getElem_mem hk,h9.1,h9.2⟩
  ·obtain ⟨j,hj,hja⟩:=List.any_eq_true.1 this
   have hj:=List.mem_range.1 hj
   rw [Bool.and_eq_true,decide_eq_true_eq] at hja
   have ho:ops[j]?=some ops[j]:=Array.getElem?_eq_getElem hj
   have h8:=hja.2
   rw [ho] at h8
   obtain ⟨k,hk,h9⟩:=Array.any_eq_true.1 h8
   simp only [Bool.and_eq_true,decide_eq_true_eq] at h9
   exact .inr ⟨j,_,hja.1,hj,ho,_,Array.getElem_mem hk,h9.1,h9.2⟩
 ·simp only [Array.all_eq_true_iff_forall_mem,decide_eq_true_eq] at h3
  exact h3 e he
theorem Fj {l:Array Bool} {i:Nat} (hi:i<l.size) (h:l.getD i true=true):l.getD i false=true:=by
 simp only [Array.getD_eq_getD_getElem?,Array.getElem?_eq_getElem hi,Option.getD_some] at h ⊢
 exact h
theorem EL (hok:RQ md ops z=true) {l:Array Bool} (hl:l.size=ops.size) (hr:Region.ready md ops l=[]):∀ i,i<ops.size->l.getD i true=true:=by
 obtain ⟨h1,_,_⟩:=Qy hok
 intro i
 induction i using Nat.strongRecOn with
 | _ i ih=>
  intro hi
  cases hg:l.getD i true
  ·exfalso
   have ho:ops[i]?=some ops[i]:=Array.getElem?_eq_getElem hi
   obtain ⟨_,ha⟩:=h1 i _ ho
   have hm:i ∈ Region.ready md ops l:=by
    unfold Region.ready
    rw [List.mem_filter]
    refine ⟨List.mem_range.2 hi,?_⟩
    rw [hg,ho]
    simp only [Bool.not_false,Bool.true_and,Option.map_some,Option.getD_some,Array.all_eq_true_iff_forall_mem]
    intro e he
    have hlt:=ha e he
    rw [Fj (by omega) (ih e.on hlt (by omega)),Bool.or_true]
   rw [hr] at hm
   exact List.not_mem_nil hm
  ·rfl
theorem GW {l:Array Bool} (h:∀ i,i<ops.size->l.getD i true=true):Region.ready md ops l=[]:=by
 unfold Region.ready
 rw [List.filter_eq_nil_iff]
 intro i hi
 rw [h i (List.mem_range.1 hi)]
 simp
theorem Fd {l:Array Bool} {a:Act} {w:World} (hr:Region.ready md ops l=[]) (h:Q .normal a w):∀ fuel,wpAny P md ops Q fuel l a w
 | 0=>⟨hr,h⟩
 | _+1=>⟨fun _=>h,by rw [hr];simp⟩
def Kz (md:Region.Mode) (ops:Array Oper) (l:Array Bool):Prop:= ∀ (i:Nat) (o:Oper),ops[i]?=some o->l.getD i false=true-> ∀ e ∈ o.after,Region.binds md e=true->l.getD e.on false=true
theorem FK (hok:RQ md ops z=true) {l:Array Bool} (hcl:Kz md ops l) (hz:(z.after.all fun e=> !Region.binds md e || l.getD e.on false)=true):∀ d i,i+d+1=ops.size->l.getD i false=true:=by
 obtain ⟨_,k2,_⟩:=Qy hok
 rw [Array.all_eq_true_iff_forall_mem] at hz
 intro d
 induction d using Nat.strongRecOn with
 | _ d ih=>
  intro i hi
  rcases k2 i (by omega) with ⟨e,he,hb,rfl⟩ | ⟨j,o,hij,hj,ho,e,he,hb,rfl⟩
  ·have:=hz e he
   rw [hb] at this
   simpa using this
  ·exact hcl j o ho (ih (ops.size-j-1) (by omega) j (by omega)) e he hb
theorem DQ (hok:RQ md ops z=true):∀ (fuel:Nat) (l:Array Bool) (a:Act) (w:World),l.size=ops.size->Kz md ops l->wpAny P md ops (Mr P (ops.push z) Q ops.size) fuel l a w->wpAny P md (ops.push z) Q (fuel+1) (l.push false) a w:=by
 obtain ⟨k1,k2,k3⟩:=Qy hok
 have last:∀ (fuel:Nat) (l:Array Bool) (a:Act) (w:World),l.size=ops.size->Region.ready md ops l=[]->Mr P (ops.push z) Q ops.size .normal a w->wpAny P md (ops.push z) Q (fuel+1) (l.push false) a w:=by
  intro fuel l a w hl hr hq
  have hall:=EL hok hl hr
  have hz:(z.after.all fun e=> !Region.binds md e || l.getD e.on false)=true:=by
   rw [Array.all_eq_true_iff_forall_mem]
   intro e he
   rw [Fj (by have:=k3 e he;omega) (hall e.on (k3 e he)),Bool.or_true]
  have hrf:=Oo (ops:=ops) (z:=z) (md:=md) l hl
  rw [hr,if_pos hz,List.nil_append] at hrf
  refine ⟨fun h0=>(by rw [hrf] at h0;cases h0),fun i hi=> ?_⟩
  rw [hrf] at hi
  obtain rfl:i=ops.size:=by simpa using hi
  refine wpOp_mono (fun a' w' h=>Fd (GW fun j hj=> ?_) h fuel) hq
  rw [Array.size_push] at hj
  simp only [Array.getD_eq_getD_getElem?,Array.getElem?_setIfInBounds,Array.getElem?_push,Array.size_push]
  by_cases hj2:ops.size=j
  ·subst hj2
   simp [hl]
  ·have h9:=hall j (by omega)
   rw [Array.getD_eq_getD_getElem?] at h9
   have h8:¬ j=l.size:=by omega
   simp only [hj2,h8,if_false]
   exact h9
 intro fuel
 induction fuel with
 | zero=>intro l a w hl hcl h;exact last 0 l a w hl h.1 h.2
 | succ fuel ih=>
  intro l a w hl hcl h
  by_cases hr:Region.ready md ops l=[]
  ·exact last (fuel+1) l a w hl hr (h.1 hr)
  ·obtain ⟨j,hj⟩:=List.exists_mem_of_ne_nil _ hr
   have hjm:=hj
   unfold Region.ready at hjm
   rw [List.mem_filter] at hjm
   have hjn:=List.mem_range.1 hjm.1
   have hjl:l.getD j true=false:=by
    have:=hjm.2
    simp only [Bool.and_eq_true,Bool.not_eq_true'] at this
    exact this.1
   have hz:¬ (z.after.all fun e=> !Region.binds md e || l.getD e.on false)=true:=by
    intro hall
    have:=FK hok hcl hall (ops.size-j-1) j (by omega)
    simp only [Array.getD_eq_getD_getElem?,Array.getElem?_eq_getElem (show j<l.size by omega),Option.getD_some] at this hjl
    rw [this] at hjl
    cases hjl
   have hrf:=Oo (ops:=ops) (z:=z) (md:=md) l hl
   rw [if_neg hz,List.append_nil] at hrf
   refine ⟨fun h0=>(by rw [hrf] at h0;exact absurd h0 hr),fun i hi=> ?_⟩
   rw [hrf] at hi
   have hin:i<ops.size:=by
    unfold Region.ready at hi
    exact List.mem_range.1 (List.mem_filter.1 hi).1
   have hop:=h.2 i hi
   have ho:ops[i]?=some ops[i]:=Array.getElem?_eq_getElem hin
   have hof:(ops.push z)[i]?=some ops[i]:=by rw [Array.getElem?_push,if_neg (by omega)];exact ho
   have hg:=(k1 i _ ho).1
   have w1:∀ (full:Array Oper),Region.wanted ops[i] (yielded full a.tmps)=true:=fun full=>by simp [Region.wanted,hg]
   have hq:∀ (e:Exit) (a:Act) (w:World),e ≠ .normal->Mr P (ops.push z) Q ops.size e a w->Q e a w:=fun e a w hne h=>by
    cases e<;>first | exact h | exact absurd rfl hne
   unfold wpOp at hop ⊢
   simp only [ho,w1,if_true] at hop
   simp only [hof,w1,if_true]
   rw [DD l (by omega)]
   have hcl2:Kz md ops (l.setIfInBounds i true):=by
    have hmono:∀ x,l.getD x false=true->(l.setIfInBounds i true).getD x false=true:=fun x hx=>by
     simp only [Array.getD_eq_getD_getElem?,Array.getElem?_setIfInBounds] at hx ⊢
     by_cases hxi:i=x
     ·subst hxi;simp [show i<l.size by omega]
     ·rw [if_neg hxi];exact hx
    intro x o' ho' hx e he hb
    by_cases hxi:i=x
    ·subst hxi
     apply hmono
     have hi9:=hi
     unfold Region.ready at hi9
     rw [List.mem_filter,ho'] at hi9
     have:=hi9.2
     simp only [Bool.and_eq_true,Option.map_some,Option.getD_some,Array.all_eq_true_iff_forall_mem] at this
     have h8:=this.2 e he
     rw [hb] at h8
     simpa using h8
    ·apply hmono
     refine hcl x o' ho' ?_ e he hb
     simp only [Array.getD_eq_getD_getElem?,Array.getElem?_setIfInBounds,if_neg hxi] at hx ⊢
     exact hx
   rcases hop with hop | ⟨has,a9,w9,hlo⟩
   ·exact .inl (Bz hq (Oper.wp_mono (fun a' w' h9=>ih _ a' w' (by simpa using hl) hcl2 h9) hop))
   ·exact .inr ⟨has,a9,w9,hq _ _ _ (by simp) hlo⟩
theorem OW {id:Nat} {a:Act} {w:World} {S:World->Prop} (hm:P.follows .mixedOrders=true) (hok:RQ .any ops z=true) (hS:S w.drew)
  (h:S w.drew->wpAnyH P .any ops (Mr P (ops.push z) Q ops.size) S ops.size (Array.replicate ops.size false) a w.drew):(Code.region id (ops.push z) true).wp P Q a w:=by
 refine wp_region_any hm ?_
 have h9:=DQ (Q:=Q) hok ops.size (Array.replicate ops.size false) a w.drew (by simp) (fun i o ho hx=>by
  simp only [Array.getD_eq_getD_getElem?,Array.getElem?_replicate] at hx
  split at hx<;>simp at hx) (wpAny_of_held _ _ _ _ (h hS))
 rw [Array.size_push]
 have hrep:(Array.replicate ops.size false).push false=Array.replicate (ops.size+1) false:=by simp [Array.replicate_succ]
 rw [hrep] at h9
 exact h9
theorem ZF {full:Array Oper} {n:Nat} {o:Oper} {a:Act} {w:World} (ho:full[n]?=some o) (hg:o.guard=none) (h:o.wp P a w (fun a' w'=>Q .normal a' w') Q):Mr P full Q n .normal a w:=by
 show wpOp P full Q n _ a w
 unfold wpOp
 simp only [ho,show Region.wanted o (yielded full a.tmps)=true by simp [Region.wanted,hg],if_true]
 exact .inl h
theorem ZU {id:Nat} {full:List Oper} {a:Act} {w:World} {S:World->Prop} (hm:P.follows .mixedOrders=true) (hne:full ≠ []) (hok:RQ .any full.dropLast.toArray (full.getLast hne)=true) (hS:S w.drew)
  (h:S w.drew->wpAnyH P .any full.dropLast.toArray (Mr P full.toArray Q full.dropLast.length) S full.dropLast.length (Array.replicate full.dropLast.length false) a w.drew):(Code.region id full.toArray true).wp P Q a w:=by
 have e:full.toArray=full.dropLast.toArray.push (full.getLast hne):=by rw [List.push_toArray,List.dropLast_concat_getLast]
 rw [e]
 refine OW hm hok hS ?_
 rw [<-e]
 simpa using h
end
theorem rd {P:Program} {ops:Array Oper} {Q:Exit->Act->World->Prop} {md:Region.Mode} {S:World->Prop} (i:Nat) {o:Oper} {fuel:Nat} {listed:Array Bool} {a:Act} {w:World} (ho:ops[i]?=some o)
  (h:∀ K':Act->World->Prop,Shut (∀ a w,S w->(S w->wpAnyH P md ops Q S fuel (listed.setIfInBounds i true) a w)->K' a w)->if Region.wanted o (yielded ops a.tmps)=true then Oper.wp P o a w K' Q else K' (a.put o.dst undef) w)
  (hr:Region.ready md ops listed=[i]:=by kernel_rfl):wpAnyH P md ops Q S (fuel+1) listed a w:=wpAnyH_ready hr (by simp) (AllReadyH.cons ho h AllReadyH.nil)
theorem tk {P:Program} {ops:Array Oper} {Q:Exit->Act->World->Prop} {md:Region.Mode} {S:World->Prop} (i:Nat) {oi:Oper} {v:Value} {fuel:Nat} {listed:Array Bool} {a:Act} {w:World} (hi:ops[i]?=some oi) (hS:S w)
  (h:wpAnyH P md ops Q S fuel (listed.setIfInBounds i true) (a.put oi.dst v) w) (hw:Region.wanted oi (yielded ops a.tmps)=true:=by rfl) (hv:∀ w,S w->(execOp a.eval oi).run P w= .ok (.value v) w:=by intro W9 hSw;(try dsimp only at hSw);go_simp;(try with_reducible rfl)) (hs:Region.noSelect ops=true:=by kernel_rfl) (hf:Region.free md ops listed i=true:=by kernel_rfl) (hr:(Region.ready md ops listed).contains i=true:=by kernel_rfl)
  (hQ:∀ c a w,Q (.panic c) (a.put oi.dst v) w->Q (.panic c) a w:=by exact fun _ _ _ h=>h):wpAnyH P md ops Q S (fuel+1) listed a w:=wpAnyH_take hi hs hf hr hQ (Or.inl ⟨hw,hv⟩) hS h
end Go.Proofs.YtjhijildaceadaaGreatDoor
