/- Part 6 of what the proof rests on. No condition but those that a theorem names. -/
import Derived.Test.YtmdgokjeobnnaaaGreatDoorXt01
import Derived.OrdersHeld
import Derived.Deep.RegionHeldLaw
import Derived.WalkMore
import Derived.Below
set_option maxHeartbeats 8000000
set_option maxRecDepth 100000
namespace Go.Proofs.YtmdgokjeobnnaaaGreatDoor
set_option linter.unusedVariables false
def TG (x:Int):Bool:=inB x (-1000000000000) 1000000000000
def Y8 (h m:Int):Int:=if TG m then max h (m-20000) else h
def Zu (h f t:Int):Int:=if TG h && (TG f && TG t) then h-f+t else h
def Y4 (m f:Int):Int:=if TG m && TG f then min (max m f) 900000000000 else m
theorem ON {x:Int} (h:TG x=true) : -1000000000000<=x/\x<=1000000000000:=ZS h
theorem Qk {x:Int} (h0 : -1000000000000<=x) (h1:x<=1000000000000):TG x=true:=YJ h0 h1
theorem IP {h f t:Int} (h0 : -1000000000000<=h) (h1:h<=1000000000000) (f0 : -1000000000000<=f) (f1:f<=1000000000000) (t0 : -1000000000000<=t) (t1:t<=1000000000000):Zu h f t=h-f+t:=by
 unfold Zu;rw [Qk h0 h1,Qk f0 f1,Qk t0 t1];rfl
theorem J1 {m f:Int} (m0 : -1000000000000<=m) (m1:m<=1000000000000) (f0 : -1000000000000<=f) (f1:f<=1000000000000):Y4 m f=min (max m f) 900000000000:=by
 unfold Y4;rw [Qk m0 m1,Qk f0 f1];rfl
section
variable {P : Program} {ops : Array Oper} {z : Oper} {Q : Exit → Act → World → Prop} {md : Region.Mode}
def PH (P:Program) (full:Array Oper) (Q:Exit->Act->World->Prop) (n:Nat):Exit->Act->World->Prop
 | .normal,a,w=>wpOp P full Q n (fun a' w'=>Q .normal a' w') a w
 | e,a,w=>Q e a w
def Tx (md:Region.Mode) (ops:Array Oper) (z:Oper):Bool:=
 (List.range ops.size).all (fun i=>(ops[i]?).all fun o=>o.guard.isNone && o.after.all fun e=>decide (e.on<i)) && (List.range ops.size).all (fun i=>(z.after.any fun e=>Region.binds md e && decide (e.on=i)) || (List.range ops.size).any fun j=>decide (i<j) && (ops[j]?).any fun o=>o.after.any fun e=>Region.binds md e && decide (e.on=i)) && z.after.all fun e=>decide (e.on<ops.size)
theorem GA {Q':Exit->Act->World->Prop} (hq:∀ e a w,e ≠ .normal->Q' e a w->Q e a w) {o:Oper} {a:Act} {w:World} {K:Act->World->Prop} (h:o.wp P a w K Q'):o.wp P a w K Q:=by
 have hl:LetsOut Q'->LetsOut Q:=fun ⟨a,w,h⟩=>⟨a,w,hq _ _ _ (by simp) h⟩
 unfold Oper.wp at *;generalize (execOp a.eval o).run P w=r at *;cases r with
 | ok n w'=>
  cases n<;>simp only [Oper.upon] at h ⊢ <;>
   first
    | exact h
    | exact Calls.mono h (fun e w'' he=>by cases e<;>first | exact he | exact hq _ _ _ (by simp) he | exact hl he)
 | halt x w'=>
  cases x<;>simp only [Oper.upon] at h ⊢<;>first | exact h | exact hq _ _ _ (by simp) h | exact hl h
theorem Sl (l:Array Bool) (d:Bool) (i:Nat):(l.push false).getD i d=if i=l.size then false else l.getD i d:=by
 simp only [Array.getD_eq_getD_getElem?,Array.getElem?_push]
 split<;>rfl
theorem QR (l:Array Bool) (hl:l.size=ops.size):Region.ready md (ops.push z) (l.push false)=Region.ready md ops l++(if (z.after.all fun e=> !Region.binds md e || l.getD e.on false)=true then [ops.size] else []):=by
 have hout:∀ j,(l.push false).getD j false=l.getD j false:=fun j=>by
  rw [Sl]
  split
  ·rename_i h;subst h;simp
  ·rfl
 unfold Region.ready;rw [Array.size_push,List.range_succ,List.filter_append]
 congr 1
 ·refine List.filter_congr fun i hi=> ?_
  have hi:=List.mem_range.1 hi;rw [Sl,if_neg (by omega),Array.getElem?_push,if_neg (by omega)];simp only [hout]
 ·simp only [List.filter_cons,List.filter_nil]
  rw [Sl,if_pos hl.symm,Array.getElem?_push,if_pos rfl];simp only [hout,Bool.not_false,Bool.true_and,Option.map_some,Option.getD_some]
theorem Jc (l:Array Bool) {i:Nat} (hi:i<l.size):(l.push false).setIfInBounds i true=(l.setIfInBounds i true).push false:=by
 apply Array.ext_getElem?;intro j;simp only [Array.getElem?_setIfInBounds,Array.getElem?_push,Array.size_push,Array.size_setIfInBounds];by_cases h1:i=j
 ·subst h1
  have h2:¬ i=l.size:=by omega
  have h3:i<l.size+1:=by omega
  simp [h2,h3,hi]
 ·simp [h1]
theorem SF (h:Tx md ops z=true):(∀ (i:Nat) (o:Oper),ops[i]?=some o->o.guard=none/\ ∀ e ∈ o.after,e.on<i)/\(∀ i,i<ops.size->(∃ e ∈ z.after,Region.binds md e=true/\e.on=i)\/ ∃ (j:Nat) (o:Oper),i<j/\j<ops.size/\ops[j]?=some o/\ ∃ e ∈ o.after,Region.binds md e=true/\e.on=i)/\ ∀ e ∈ z.after,e.on<ops.size:=by
 unfold Tx at h;simp only [ZR,List.all_eq_true,List.mem_range] at h;obtain ⟨⟨h1,h2⟩,h3⟩:=h;refine ⟨fun i o ho=> ?_,fun i hi=> ?_,fun e he=> ?_⟩
 ·have hi:i<ops.size:=by
   rcases Nat.lt_or_ge i ops.size with h | h
   ·exact h
   ·rw [Array.getElem?_eq_none h] at ho;cases ho
  have:=h1 i hi;rw [ho] at this;simp only [Option.all_some,ZR,Option.isNone_iff_eq_none,Array.all_eq_true_iff_forall_mem,YV] at this;exact this
 ·have:=h2 i hi
  rw [Bool.or_eq_true] at this
  rcases this with this | this
  ·obtain ⟨k,hk,h9⟩:=Array.any_eq_true.1 this
   simp only [ZR,YV] at h9;exact .inl ⟨_,Array.getElem_mem hk,h9.1,h9.2⟩
  ·obtain ⟨j,hj,hja⟩:=List.any_eq_true.1 this
   have hj:=List.mem_range.1 hj;rw [ZR,YV] at hja;have ho:ops[j]?=some ops[j]:=Array.getElem?_eq_getElem hj;have h8:=hja.2;rw [ho] at h8;obtain ⟨k,hk,h9⟩:=Array.any_eq_true.1 h8;simp only [ZR,YV] at h9;exact .inr ⟨j,_,hja.1,hj,ho,_,Array.getElem_mem hk,h9.1,h9.2⟩
 ·simp only [Array.all_eq_true_iff_forall_mem,YV] at h3
  exact h3 e he
theorem KY {l:Array Bool} {i:Nat} (hi:i<l.size) (h:l.getD i true=true):l.getD i false=true:=by
 simp only [Array.getD_eq_getD_getElem?,Array.getElem?_eq_getElem hi,Option.getD_some] at h ⊢;exact h
theorem Kl (hok:Tx md ops z=true) {l:Array Bool} (hl:l.size=ops.size) (hr:Region.ready md ops l=[]):∀ i,i<ops.size->l.getD i true=true:=by
 obtain ⟨h1,_,_⟩:=SF hok;intro i
 induction i using Nat.strongRecOn with
 | _ i ih=>
  intro hi;cases hg:l.getD i true
  ·exfalso
   have ho:ops[i]?=some ops[i]:=Array.getElem?_eq_getElem hi;obtain ⟨_,ha⟩:=h1 i _ ho
   have hm:i ∈ Region.ready md ops l:=by
    unfold Region.ready;rw [List.mem_filter];refine ⟨List.mem_range.2 hi,?_⟩;rw [hg,ho];simp only [Bool.not_false,Bool.true_and,Option.map_some,Option.getD_some,Array.all_eq_true_iff_forall_mem];intro e he;have hlt:=ha e he;rw [KY (by omega) (ih e.on hlt (by omega)),Bool.or_true]
   rw [hr] at hm;exact List.not_mem_nil hm
  ·rfl
theorem Md {l:Array Bool} (h:∀ i,i<ops.size->l.getD i true=true):Region.ready md ops l=[]:=by
 unfold Region.ready;rw [List.filter_eq_nil_iff];intro i hi;rw [h i (List.mem_range.1 hi)];simp
theorem KN {l:Array Bool} {a:Act} {w:World} (hr:Region.ready md ops l=[]) (h:Q .normal a w):∀ fuel,wpAny P md ops Q fuel l a w
 | 0=>⟨hr,h⟩
 | _+1=>⟨fun _=>h,by rw [hr];simp⟩
def Oo (md:Region.Mode) (ops:Array Oper) (l:Array Bool):Prop:= ∀ (i:Nat) (o:Oper),ops[i]?=some o->l.getD i false=true-> ∀ e ∈ o.after,Region.binds md e=true->l.getD e.on false=true
theorem Ls (hok:Tx md ops z=true) {l:Array Bool} (hcl:Oo md ops l) (hz:(z.after.all fun e=> !Region.binds md e || l.getD e.on false)=true):∀ d i,i+d+1=ops.size->l.getD i false=true:=by
 obtain ⟨_,k2,_⟩:=SF hok;rw [Array.all_eq_true_iff_forall_mem] at hz;intro d
 induction d using Nat.strongRecOn with
 | _ d ih=>
  intro i hi
  rcases k2 i (by omega) with ⟨e,he,hb,rfl⟩ | ⟨j,o,hij,hj,ho,e,he,hb,rfl⟩
  ·have:=hz e he
   rw [hb] at this;simpa using this
  ·exact hcl j o ho (ih (ops.size-j-1) (by omega) j (by omega)) e he hb
theorem Jr (hok:Tx md ops z=true):∀ (fuel:Nat) (l:Array Bool) (a:Act) (w:World),l.size=ops.size->Oo md ops l->wpAny P md ops (PH P (ops.push z) Q ops.size) fuel l a w->wpAny P md (ops.push z) Q (fuel+1) (l.push false) a w:=by
 obtain ⟨k1,k2,k3⟩:=SF hok
 have last:∀ (fuel:Nat) (l:Array Bool) (a:Act) (w:World),l.size=ops.size->Region.ready md ops l=[]->PH P (ops.push z) Q ops.size .normal a w->wpAny P md (ops.push z) Q (fuel+1) (l.push false) a w:=by
  intro fuel l a w hl hr hq;have hall:=Kl hok hl hr
  have hz:(z.after.all fun e=> !Region.binds md e || l.getD e.on false)=true:=by
   rw [Array.all_eq_true_iff_forall_mem];intro e he;rw [KY (by have:=k3 e he;omega) (hall e.on (k3 e he)),Bool.or_true]
  have hrf:=QR (ops:=ops) (z:=z) (md:=md) l hl;rw [hr,if_pos hz,List.nil_append] at hrf;refine ⟨fun h0=>(by rw [hrf] at h0;cases h0),fun i hi=> ?_⟩;rw [hrf] at hi;obtain rfl:i=ops.size:=by simpa using hi
  refine wpOp_mono (fun a' w' h=>KN (Md fun j hj=> ?_) h fuel) hq;rw [Array.size_push] at hj;simp only [Array.getD_eq_getD_getElem?,Array.getElem?_setIfInBounds,Array.getElem?_push,Array.size_push];by_cases hj2:ops.size=j
  ·subst hj2
   simp [hl]
  ·have h9:=hall j (by omega)
   rw [Array.getD_eq_getD_getElem?] at h9;have h8:¬ j=l.size:=by omega
   simp only [hj2,h8,if_false];exact h9
 intro fuel
 induction fuel with
 | zero=>intro l a w hl hcl h;exact last 0 l a w hl h.1 h.2
 | succ fuel ih=>
  intro l a w hl hcl h;by_cases hr:Region.ready md ops l=[]
  ·exact last (fuel+1) l a w hl hr (h.1 hr)
  ·obtain ⟨j,hj⟩:=List.exists_mem_of_ne_nil _ hr
   have hjm:=hj;unfold Region.ready at hjm;rw [List.mem_filter] at hjm;have hjn:=List.mem_range.1 hjm.1
   have hjl:l.getD j true=false:=by
    have:=hjm.2;simp only [ZR,Bool.not_eq_true'] at this;exact this.1
   have hz:¬ (z.after.all fun e=> !Region.binds md e || l.getD e.on false)=true:=by
    intro hall;have:=Ls hok hcl hall (ops.size-j-1) j (by omega);simp only [Array.getD_eq_getD_getElem?,Array.getElem?_eq_getElem (show j<l.size by omega),Option.getD_some] at this hjl;rw [this] at hjl;cases hjl
   have hrf:=QR (ops:=ops) (z:=z) (md:=md) l hl;rw [if_neg hz,List.append_nil] at hrf;refine ⟨fun h0=>(by rw [hrf] at h0;exact absurd h0 hr),fun i hi=> ?_⟩;rw [hrf] at hi
   have hin:i<ops.size:=by
    unfold Region.ready at hi;exact List.mem_range.1 (List.mem_filter.1 hi).1
   have hop:=h.2 i hi;have ho:ops[i]?=some ops[i]:=Array.getElem?_eq_getElem hin;have hof:(ops.push z)[i]?=some ops[i]:=by rw [Array.getElem?_push,if_neg (by omega)];exact ho
   have hg:=(k1 i _ ho).1;have w1:∀ (full:Array Oper),Region.wanted ops[i] (yielded full a.tmps)=true:=fun full=>by simp [Region.wanted,hg]
   have hq:∀ (e:Exit) (a:Act) (w:World),e ≠ .normal->PH P (ops.push z) Q ops.size e a w->Q e a w:=fun e a w hne h=>by
    cases e<;>first | exact h | exact absurd rfl hne
   unfold wpOp at hop ⊢;simp only [ho,w1,if_true] at hop;simp only [hof,w1,if_true];rw [Jc l (by omega)]
   have hcl2:Oo md ops (l.setIfInBounds i true):=by
    have hmono:∀ x,l.getD x false=true->(l.setIfInBounds i true).getD x false=true:=fun x hx=>by
     simp only [Array.getD_eq_getD_getElem?,Array.getElem?_setIfInBounds] at hx ⊢;by_cases hxi:i=x
     ·subst hxi;simp [show i<l.size by omega]
     ·rw [if_neg hxi];exact hx
    intro x o' ho' hx e he hb;by_cases hxi:i=x
    ·subst hxi
     apply hmono;have hi9:=hi;unfold Region.ready at hi9;rw [List.mem_filter,ho'] at hi9;have:=hi9.2;simp only [ZR,Option.map_some,Option.getD_some,Array.all_eq_true_iff_forall_mem] at this;have h8:=this.2 e he;rw [hb] at h8;simpa using h8
    ·apply hmono
     refine hcl x o' ho' ?_ e he hb;simp only [Array.getD_eq_getD_getElem?,Array.getElem?_setIfInBounds,if_neg hxi] at hx ⊢;exact hx
   rcases hop with hop | ⟨has,a9,w9,hlo⟩
   ·exact .inl (GA hq (Oper.wp_mono (fun a' w' h9=>ih _ a' w' (by simpa using hl) hcl2 h9) hop))
   ·exact .inr ⟨has,a9,w9,hq _ _ _ (by simp) hlo⟩
theorem Rk {id:Nat} {a:Act} {w:World} {S:World->Prop} (hm:P.follows .mixedOrders=true) (hok:Tx .any ops z=true) (hS:S w.drew)
  (h:S w.drew->wpAnyH P .any ops (PH P (ops.push z) Q ops.size) S ops.size (Array.replicate ops.size false) a w.drew):(Code.region id (ops.push z) true).wp P Q a w:=by
 refine wp_region_any hm ?_
 have h9:=Jr (Q:=Q) hok ops.size (Array.replicate ops.size false) a w.drew (by simp) (fun i o ho hx=>by
  simp only [Array.getD_eq_getD_getElem?,Array.getElem?_replicate] at hx
  split at hx<;>simp at hx) (wpAny_of_held _ _ _ _ (h hS))
 rw [Array.size_push];have hrep:(Array.replicate ops.size false).push false=Array.replicate (ops.size+1) false:=by simp [Array.replicate_succ]
 rw [hrep] at h9;exact h9
theorem ZH {full:Array Oper} {n:Nat} {o:Oper} {a:Act} {w:World} (ho:full[n]?=some o) (hg:o.guard=none) (h:o.wp P a w (fun a' w'=>Q .normal a' w') Q):PH P full Q n .normal a w:=by
 show wpOp P full Q n _ a w;unfold wpOp;simp only [ho,show Region.wanted o (yielded full a.tmps)=true by simp [Region.wanted,hg],if_true];exact .inl h
theorem ZN {id:Nat} {full:List Oper} {a:Act} {w:World} {S:World->Prop} (hm:P.follows .mixedOrders=true) (hne:full ≠ []) (hok:Tx .any full.dropLast.toArray (full.getLast hne)=true) (hS:S w.drew)
  (h:S w.drew->wpAnyH P .any full.dropLast.toArray (PH P full.toArray Q full.dropLast.length) S full.dropLast.length (Array.replicate full.dropLast.length false) a w.drew):(Code.region id full.toArray true).wp P Q a w:=by
 have e:full.toArray=full.dropLast.toArray.push (full.getLast hne):=by rw [List.push_toArray,List.dropLast_concat_getLast]
 rw [e];refine Rk hm hok hS ?_;rw [<-e];simpa using h
end
theorem rd {P:Program} {ops:Array Oper} {Q:Exit->Act->World->Prop} {md:Region.Mode} {S:World->Prop} (i:Nat) {o:Oper} {fuel:Nat} {listed:Array Bool} {a:Act} {w:World} (ho:ops[i]?=some o)
  (h:∀ K':Act->World->Prop,Shut (∀ a w,S w->(S w->wpAnyH P md ops Q S fuel (listed.setIfInBounds i true) a w)->K' a w)->if Region.wanted o (yielded ops a.tmps)=true then Oper.wp P o a w K' Q else K' (a.put o.dst undef) w)
  (hr:Region.ready md ops listed=[i]:=by kernel_rfl):wpAnyH P md ops Q S (fuel+1) listed a w:=wpAnyH_ready hr (by simp) (AllReadyH.cons ho h AllReadyH.nil)
theorem tk {P:Program} {ops:Array Oper} {Q:Exit->Act->World->Prop} {md:Region.Mode} {S:World->Prop} (i:Nat) {oi:Oper} {v:Value} {fuel:Nat} {listed:Array Bool} {a:Act} {w:World} (hi:ops[i]?=some oi) (hS:S w)
  (h:wpAnyH P md ops Q S fuel (listed.setIfInBounds i true) (a.put oi.dst v) w) (hw:Region.wanted oi (yielded ops a.tmps)=true:=by rfl) (hv:∀ w,S w->(execOp a.eval oi).run P w= .ok (.value v) w:=by intro W9 hSw;(try dsimp only at hSw);go_simp;(try with_reducible rfl)) (hs:Region.noSelect ops=true:=by kernel_rfl) (hf:Region.free md ops listed i=true:=by kernel_rfl) (hr:(Region.ready md ops listed).contains i=true:=by kernel_rfl)
  (hQ:∀ c a w,Q (.panic c) (a.put oi.dst v) w->Q (.panic c) a w:=by exact fun _ _ _ h=>h):wpAnyH P md ops Q S (fuel+1) listed a w:=wpAnyH_take hi hs hf hr hQ (Or.inl ⟨hw,hv⟩) hS h
theorem tq {P:Program} {ops:Array Oper} {Q:Exit->Act->World->Prop} {md:Region.Mode} {S:World->Prop} (i:Nat) {oi:Oper} {v:Value} {fuel:Nat} {listed:Array Bool} {a:Act} {w:World} (h:wpAnyH P md ops Q S fuel (listed.setIfInBounds i true) (a.put oi.dst v) w) (hi:ops[i]?=some oi:=by rfl) (hS:S w:=by assumption) (hw:Region.wanted oi (yielded ops a.tmps)=true:=by rfl) (hv:∀ w,S w->(execOp a.eval oi).run P w= .ok (.value v) w:=by intro W9 hSw;(try dsimp only at hSw);go_simp;(try with_reducible rfl)) (hs:Region.noSelect ops=true:=by kernel_rfl) (hf:Region.free md ops listed i=true:=by kernel_rfl) (hr:(Region.ready md ops listed).contains i=true:=by kernel_rfl)
  (hQ:∀ c a w,Q (.panic c) (a.put oi.dst v) w->Q (.panic c) a w:=by exact fun _ _ _ h=>h):wpAnyH P md ops Q S (fuel+1) listed a w:=tk i hi hS h hw hv hs hf hr hQ
theorem tp {P:Program} {ops:Array Oper} {Q:Exit->Act->World->Prop} {md:Region.Mode} {S:World->Prop} (i:Nat) {oi:Oper} {v:Value} {fuel:Nat} {listed:Array Bool} {a a':Act} {w:World} (h:wpAnyH P md ops Q S fuel (listed.setIfInBounds i true) a' w) (hi:ops[i]?=some oi:=by rfl) (hS:S w:=by assumption) (hw:Region.wanted oi (yielded ops a.tmps)=true:=by rfl) (hv:∀ w,S w->(execOp a.eval oi).run P w= .ok (.value v) w:=by intro W9 hSw;(try dsimp only at hSw);go_simp;(try with_reducible rfl)) (ha:a.put oi.dst v=a':=by (try simp only [Act.put,sA,sZ,sS]);rfl) (hs:Region.noSelect ops=true:=by kernel_rfl) (hf:Region.free md ops listed i=true:=by kernel_rfl) (hr:(Region.ready md ops listed).contains i=true:=by kernel_rfl)
  (hQ:∀ c a w,Q (.panic c) (a.put oi.dst v) w->Q (.panic c) a w:=by exact fun _ _ _ h=>h):wpAnyH P md ops Q S (fuel+1) listed a w:=tk i hi hS (ha ▸ h) hw hv hs hf hr hQ
theorem tz {P:Program} {ops:Array Oper} {Q:Exit->Act->World->Prop} {md:Region.Mode} {S:World->Prop} {i:Nat} {oi:Oper} {v:Value} {fuel:Nat} {listed:Array Bool} {a a':Act} {w:World} (h:wpAnyH P md ops Q S fuel (listed.setIfInBounds i true) a' w) (hx:ops.size-(fuel+1)=i:=by simp only [List.size_toArray,Zn,Y2,Nat.zero_add,Nat.reduceAdd,Nat.reduceSub];rfl) (hi:ops[i]?=some oi:=by rfl) (hS:S w:=by assumption) (hw:Region.wanted oi (yielded ops a.tmps)=true:=by rfl) (hv:∀ w,S w->(execOp a.eval oi).run P w= .ok (.value v) w:=by intro W9 hSw;(try dsimp only at hSw);go_simp;(try with_reducible rfl)) (ha:a.put oi.dst v=a':=by (try simp only [Act.put,sA,sZ,sS]);rfl) (hs:Region.noSelect ops=true:=by kernel_rfl) (hf:Region.free md ops listed i=true:=by kernel_rfl) (hr:(Region.ready md ops listed).contains i=true:=by kernel_rfl)
  (hQ:∀ c a w,Q (.panic c) (a.put oi.dst v) w->Q (.panic c) a w:=by exact fun _ _ _ h=>h):wpAnyH P md ops Q S (fuel+1) listed a w:=tk i hi hS (ha ▸ h) hw hv hs hf hr hQ
end Go.Proofs.YtmdgokjeobnnaaaGreatDoor
namespace Go.Proofs.YtmdgokjeobnnaaaGreatDoor
open Go.ChangeShapes Go.WideShapes Go.ChangeAt Go.RowKit Go.Proofs.Tryz
set_option linter.unusedVariables false
theorem Yt (x:Int) (w:World):cE 170 #[.int .i64 x] w (.bool (inB x 0 1000000)):=by
 go_enter func170,ntmps170;go_wp2_with (go_at_call 27;refine (Z4 _ _ _ _).mono ?_;rintro e w' ⟨rfl,rfl⟩)
 go_ret;exact ⟨rfl,rfl⟩
def amt (x:Int):Bool:=inB x 0 1000000
def Wb (w u f:Int):Bool:=(amt w && (amt u && amt f)) && decide (5*(w+u)<=4*f)
def QB (u f:Int):Bool:=(amt u && amt f) && !decide (5*u<=4*f)
def Vp (u f:Int):Int:=if amt u && amt f then f-u else -1000001
theorem IQ (u f:Int):decide (4*f<5*u)= !decide (5*u<=4*f):=by
 by_cases h:5*u<=4*f
 ·rw [decide_eq_true h,decide_eq_false (by omega)];rfl
 ·rw [decide_eq_false h,decide_eq_true (by omega)];rfl
theorem VZ (x u f:Int) (w:World):cE 164 #[.int .i64 x,.int .i64 u,.int .i64 f] w (.bool (Wb x u f)):=by
 cases hx:inB x 0 1000000
 ·go_enter func164,ntmps164
  go_wp2_with (go_at_call 170;refine (Yt _ _).mono ?_;rintro e w' ⟨rfl,rfl⟩)
  go_ret;exact ⟨ZU (by simp [Wb,amt,hx]),rfl⟩
 ·cases hu:inB u 0 1000000
  ·go_enter func164,ntmps164
   go_wp2_with (go_at_call 170;refine (Yt _ _).mono ?_;rintro e w' ⟨rfl,rfl⟩)
   go_ret;exact ⟨ZU (by simp [Wb,amt,hx,hu]),rfl⟩
  ·cases hf:inB f 0 1000000
   ·go_enter func164,ntmps164
    go_wp2_with (go_at_call 170;refine (Yt _ _).mono ?_;rintro e w' ⟨rfl,rfl⟩)
    go_ret;exact ⟨ZU (by simp [Wb,amt,hx,hu,hf]),rfl⟩
   ·obtain ⟨x0,x1⟩:=ZS hx
    obtain ⟨u0,u1⟩:=ZS hu;obtain ⟨f0,f1⟩:=ZS hf;go_enter func164,ntmps164;go_wp2_with (go_at_call 170;refine (Yt _ _).mono ?_;rintro e w' ⟨rfl,rfl⟩)
    go_ret;exact ⟨ZU (by simp [Wb,amt,hx,hu,hf]),rfl⟩
theorem RG (u f:Int) (w:World):cE 168 #[.int .i64 u,.int .i64 f] w (.bool (QB u f)):=by
 cases hu:inB u 0 1000000
 ·go_enter func168,ntmps168
  go_wp2_with (go_at_call 170;refine (Yt _ _).mono ?_;rintro e w' ⟨rfl,rfl⟩)
  go_ret;exact ⟨ZU (by simp [QB,amt,hu]),rfl⟩
 ·cases hf:inB f 0 1000000
  ·go_enter func168,ntmps168
   go_wp2_with (go_at_call 170;refine (Yt _ _).mono ?_;rintro e w' ⟨rfl,rfl⟩)
   go_ret;exact ⟨ZU (by simp [QB,amt,hu,hf]),rfl⟩
  ·obtain ⟨u0,u1⟩:=ZS hu
   obtain ⟨f0,f1⟩:=ZS hf;go_enter func168,ntmps168;go_wp2_with (go_at_call 170;refine (Yt _ _).mono ?_;rintro e w' ⟨rfl,rfl⟩)
   go_ret;exact ⟨ZU (by simp [QB,amt,hu,hf,IQ]),rfl⟩
theorem RF (u f:Int) (w:World):cE 155 #[.int .i64 u,.int .i64 f] w (.int .i64 (Vp u f)):=by
 cases hu:inB u 0 1000000
 ·go_enter func155,ntmps155
  go_wp2_with (go_at_call 170;refine (Yt _ _).mono ?_;rintro e w' ⟨rfl,rfl⟩)
  go_ret;exact ⟨Za (by simp [Vp,amt,hu]),rfl⟩
 ·cases hf:inB f 0 1000000
  ·go_enter func155,ntmps155
   go_wp2_with (go_at_call 170;refine (Yt _ _).mono ?_;rintro e w' ⟨rfl,rfl⟩)
   go_ret;exact ⟨Za (by simp [Vp,amt,hu,hf]),rfl⟩
  ·obtain ⟨u0,u1⟩:=ZS hu
   obtain ⟨f0,f1⟩:=ZS hf;go_enter func155,ntmps155;go_wp2_with (go_at_call 170;refine (Yt _ _).mono ?_;rintro e w' ⟨rfl,rfl⟩)
   go_ret;exact ⟨Za (by simp [Vp,amt,hu,hf]),rfl⟩
end Go.Proofs.YtmdgokjeobnnaaaGreatDoor
