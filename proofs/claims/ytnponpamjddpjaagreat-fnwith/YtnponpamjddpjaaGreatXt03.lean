/- Part 3 of what the proof rests on. No condition but those that a theorem names. -/
import Derived.Test.YtnponpamjddpjaaGreatXt02
import Derived.OrdersHeld
import Derived.Deep.RegionHeldLaw
import Derived.Deep.DrawnRows
import Derived.BigRegion
import Derived.Deep.RegionLawGrows
import Derived.Deep.Fields
import Derived.Deep.Slices
set_option maxHeartbeats 8000000
set_option maxRecDepth 100000
namespace Go.Proofs.YtnponpamjddpjaaGreat
set_option linter.unusedVariables false
section
variable {P : Program} {ops : Array Oper} {z : Oper} {Q : Exit → Act → World → Prop} {md : Region.Mode}
def Ou (P:Program) (full:Array Oper) (Q:Exit->Act->World->Prop) (n:Nat):Exit->Act->World->Prop
 | .normal,a,w=>wpOp P full Q n (fun a' w'=>Q .normal a' w') a w
 | e,a,w=>Q e a w
def SU (md:Region.Mode) (ops:Array Oper) (z:Oper):Bool:=
 (List.range ops.size).all (fun i=>(ops[i]?).all fun o=>o.guard.isNone && o.after.all fun e=>decide (e.on<i)) && (List.range ops.size).all (fun i=>(z.after.any fun e=>Region.binds md e && decide (e.on=i)) || (List.range ops.size).any fun j=>decide (i<j) && (ops[j]?).any fun o=>o.after.any fun e=>Region.binds md e && decide (e.on=i)) && z.after.all fun e=>decide (e.on<ops.size)
theorem EW {Q':Exit->Act->World->Prop} (hq:∀ e a w,e ≠ .normal->Q' e a w->Q e a w) {o:Oper} {a:Act} {w:World} {K:Act->World->Prop} (h:o.wp P a w K Q'):o.wp P a w K Q:=by
 have hl:LetsOut Q'->LetsOut Q:=fun ⟨a,w,h⟩=>⟨a,w,hq _ _ _ (by simp) h⟩
 unfold Oper.wp at *
 generalize (execOp a.eval o).run P w=r at *
 cases r with
 | ok n w'=>
  cases n<;>simp only [Oper.upon] at h ⊢ <;>
   first
    | exact h
    | exact Calls.mono h (fun e w'' he=>by cases e<;>first | exact he | exact hq _ _ _ (by simp) he | exact hl he)
 | halt x w'=>
  cases x<;>simp only [Oper.upon] at h ⊢<;>first | exact h | exact hq _ _ _ (by simp) h | exact hl h
theorem RC (l:Array Bool) (d:Bool) (i:Nat):(l.push false).getD i d=if i=l.size then false else l.getD i d:=by
 simp only [Array.getD_eq_getD_getElem?,Array.getElem?_push]
 split<;>rfl
theorem PR (l:Array Bool) (hl:l.size=ops.size):Region.ready md (ops.push z) (l.push false)=Region.ready md ops l++(if (z.after.all fun e=> !Region.binds md e || l.getD e.on false)=true then [ops.size] else []):=by
 have hout:∀ j,(l.push false).getD j false=l.getD j false:=fun j=>by
  rw [RC]
  split
  ·rename_i h;subst h;simp
  ·rfl
 unfold Region.ready
 rw [Array.size_push,List.range_succ,List.filter_append]
 congr 1
 ·refine List.filter_congr fun i hi=> ?_
  have hi:=List.mem_range.1 hi
  rw [RC,if_neg (by omega),Array.getElem?_push,if_neg (by omega)]
  simp only [hout]
 ·simp only [List.filter_cons,List.filter_nil]
  rw [RC,if_pos hl.symm,Array.getElem?_push,if_pos rfl]
  simp only [hout,Bool.not_false,Bool.true_and,Option.map_some,Option.getD_some]
theorem Gv (l:Array Bool) {i:Nat} (hi:i<l.size):(l.push false).setIfInBounds i true=(l.setIfInBounds i true).push false:=by
 apply Array.ext_getElem?
 intro j
 simp only [Array.getElem?_setIfInBounds,Array.getElem?_push,Array.size_push,Array.size_setIfInBounds]
 by_cases h1:i=j
 ·subst h1
  have h2:¬ i=l.size:=by omega
  have h3:i<l.size+1:=by omega
  simp [h2,h3,hi]
 ·simp [h1]
theorem RY (h:SU md ops z=true):(∀ (i:Nat) (o:Oper),ops[i]?=some o->o.guard=none/\ ∀ e ∈ o.after,e.on<i)/\(∀ i,i<ops.size->(∃ e ∈ z.after,Region.binds md e=true/\e.on=i)\/ ∃ (j:Nat) (o:Oper),i<j/\j<ops.size/\ops[j]?=some o/\ ∃ e ∈ o.after,Region.binds md e=true/\e.on=i)/\ ∀ e ∈ z.after,e.on<ops.size:=by
 unfold SU at h
 simp only [Bool.and_eq_true,List.all_eq_true,List.mem_range] at h
 obtain ⟨⟨h1,h2⟩,h3⟩:=h
 refine ⟨fun i o ho=> ?_,fun i hi=> ?_,fun e he=> ?_⟩
 ·have hi:i<ops.size:=by
   rcases Nat.lt_or_ge i ops.size with h | h
   ·exact h
   ·rw [Array.getElem?_eq_none h] at ho;cases ho
  have:=h1 i hi
  rw [ho] at this
  simp only [Option.all_some,Bool.and_eq_true,Option.isNone_iff_eq_none,Array.all_eq_true_iff_forall_mem,decide_eq_true_eq] at this
  exact this
 ·have:=h2 i hi
  rw [Bool.or_eq_true] at this
  rcases this with this | this
  ·obtain ⟨k,hk,h9⟩:=Array.any_eq_true.1 this
   simp only [Bool.and_eq_true,decide_eq_true_eq] at h9
   exact .inl ⟨_,Array.getElem_mem hk,h9.1,h9.2⟩
  ·obtain ⟨j,hj,hja⟩:=List.any_eq_true.1 this
   have hj:=List.mem_range.1 hj
   rw [Bool.and_eq_true,decide_eq_true_eq] at hja
   have ho:ops[j]?=some ops[j]:=Array.getElem?_eq_getElem hj
   have h8:=hja.2
   rw [ho] at h8
   obtain ⟨k,hk,h9⟩:=Array.any_eq_true.1 h8
   simp only [Bool.and_eq_true,decide_eq_true_eq] at h9
   exact .inr ⟨j,_,hja.1,hj,ho,_,Array.getElem_mem hk,h9.1,h9.2⟩
 ·simp only [Array.all_eq_true_iff_forall_mem,decide_eq_true_eq] at h3
  exact h3 e he
theorem I3 {l:Array Bool} {i:Nat} (hi:i<l.size) (h:l.getD i true=true):l.getD i false=true:=by
 simp only [Array.getD_eq_getD_getElem?,Array.getElem?_eq_getElem hi,Option.getD_some] at h ⊢
 exact h
theorem IC (hok:SU md ops z=true) {l:Array Bool} (hl:l.size=ops.size) (hr:Region.ready md ops l=[]):∀ i,i<ops.size->l.getD i true=true:=by
 obtain ⟨h1,_,_⟩:=RY hok
 intro i
 induction i using Nat.strongRecOn with
 | _ i ih=>
  intro hi
  cases hg:l.getD i true
  ·exfalso
   have ho:ops[i]?=some ops[i]:=Array.getElem?_eq_getElem hi
   obtain ⟨_,ha⟩:=h1 i _ ho
   have hm:i ∈ Region.ready md ops l:=by
    unfold Region.ready
    rw [List.mem_filter]
    refine ⟨List.mem_range.2 hi,?_⟩
    rw [hg,ho]
    simp only [Bool.not_false,Bool.true_and,Option.map_some,Option.getD_some,Array.all_eq_true_iff_forall_mem]
    intro e he
    have hlt:=ha e he
    rw [I3 (by omega) (ih e.on hlt (by omega)),Bool.or_true]
   rw [hr] at hm
   exact List.not_mem_nil hm
  ·rfl
theorem Kt {l:Array Bool} (h:∀ i,i<ops.size->l.getD i true=true):Region.ready md ops l=[]:=by
 unfold Region.ready
 rw [List.filter_eq_nil_iff]
 intro i hi
 rw [h i (List.mem_range.1 hi)]
 simp
theorem IU {l:Array Bool} {a:Act} {w:World} (hr:Region.ready md ops l=[]) (h:Q .normal a w):∀ fuel,wpAny P md ops Q fuel l a w
 | 0=>⟨hr,h⟩
 | _+1=>⟨fun _=>h,by rw [hr];simp⟩
def MU (md:Region.Mode) (ops:Array Oper) (l:Array Bool):Prop:= ∀ (i:Nat) (o:Oper),ops[i]?=some o->l.getD i false=true-> ∀ e ∈ o.after,Region.binds md e=true->l.getD e.on false=true
theorem Jw (hok:SU md ops z=true) {l:Array Bool} (hcl:MU md ops l) (hz:(z.after.all fun e=> !Region.binds md e || l.getD e.on false)=true):∀ d i,i+d+1=ops.size->l.getD i false=true:=by
 obtain ⟨_,k2,_⟩:=RY hok
 rw [Array.all_eq_true_iff_forall_mem] at hz
 intro d
 induction d using Nat.strongRecOn with
 | _ d ih=>
  intro i hi
  rcases k2 i (by omega) with ⟨e,he,hb,rfl⟩ | ⟨j,o,hij,hj,ho,e,he,hb,rfl⟩
  ·have:=hz e he
   rw [hb] at this
   simpa using this
  ·exact hcl j o ho (ih (ops.size-j-1) (by omega) j (by omega)) e he hb
theorem GH (hok:SU md ops z=true):∀ (fuel:Nat) (l:Array Bool) (a:Act) (w:World),l.size=ops.size->MU md ops l->wpAny P md ops (Ou P (ops.push z) Q ops.size) fuel l a w->wpAny P md (ops.push z) Q (fuel+1) (l.push false) a w:=by
 obtain ⟨k1,k2,k3⟩:=RY hok
 have last:∀ (fuel:Nat) (l:Array Bool) (a:Act) (w:World),l.size=ops.size->Region.ready md ops l=[]->Ou P (ops.push z) Q ops.size .normal a w->wpAny P md (ops.push z) Q (fuel+1) (l.push false) a w:=by
  intro fuel l a w hl hr hq
  have hall:=IC hok hl hr
  have hz:(z.after.all fun e=> !Region.binds md e || l.getD e.on false)=true:=by
   rw [Array.all_eq_true_iff_forall_mem]
   intro e he
   rw [I3 (by have:=k3 e he;omega) (hall e.on (k3 e he)),Bool.or_true]
  have hrf:=PR (ops:=ops) (z:=z) (md:=md) l hl
  rw [hr,if_pos hz,List.nil_append] at hrf
  refine ⟨fun h0=>(by rw [hrf] at h0;cases h0),fun i hi=> ?_⟩
  rw [hrf] at hi
  obtain rfl:i=ops.size:=by simpa using hi
  refine wpOp_mono (fun a' w' h=>IU (Kt fun j hj=> ?_) h fuel) hq
  rw [Array.size_push] at hj
  simp only [Array.getD_eq_getD_getElem?,Array.getElem?_setIfInBounds,Array.getElem?_push,Array.size_push]
  by_cases hj2:ops.size=j
  ·subst hj2
   simp [hl]
  ·have h9:=hall j (by omega)
   rw [Array.getD_eq_getD_getElem?] at h9
   have h8:¬ j=l.size:=by omega
   simp only [hj2,h8,if_false]
   exact h9
 intro fuel
 induction fuel with
 | zero=>intro l a w hl hcl h;exact last 0 l a w hl h.1 h.2
 | succ fuel ih=>
  intro l a w hl hcl h
  by_cases hr:Region.ready md ops l=[]
  ·exact last (fuel+1) l a w hl hr (h.1 hr)
  ·obtain ⟨j,hj⟩:=List.exists_mem_of_ne_nil _ hr
   have hjm:=hj
   unfold Region.ready at hjm
   rw [List.mem_filter] at hjm
   have hjn:=List.mem_range.1 hjm.1
   have hjl:l.getD j true=false:=by
    have:=hjm.2
    simp only [Bool.and_eq_true,Bool.not_eq_true'] at this
    exact this.1
   have hz:¬ (z.after.all fun e=> !Region.binds md e || l.getD e.on false)=true:=by
    intro hall
    have:=Jw hok hcl hall (ops.size-j-1) j (by omega)
    simp only [Array.getD_eq_getD_getElem?,Array.getElem?_eq_getElem (show j<l.size by omega),Option.getD_some] at this hjl
    rw [this] at hjl
    cases hjl
   have hrf:=PR (ops:=ops) (z:=z) (md:=md) l hl
   rw [if_neg hz,List.append_nil] at hrf
   refine ⟨fun h0=>(by rw [hrf] at h0;exact absurd h0 hr),fun i hi=> ?_⟩
   rw [hrf] at hi
   have hin:i<ops.size:=by
    unfold Region.ready at hi
    exact List.mem_range.1 (List.mem_filter.1 hi).1
   have hop:=h.2 i hi
   have ho:ops[i]?=some ops[i]:=Array.getElem?_eq_getElem hin
   have hof:(ops.push z)[i]?=some ops[i]:=by rw [Array.getElem?_push,if_neg (by omega)];exact ho
   have hg:=(k1 i _ ho).1
   have w1:∀ (full:Array Oper),Region.wanted ops[i] (yielded full a.tmps)=true:=fun full=>by simp [Region.wanted,hg]
   have hq:∀ (e:Exit) (a:Act) (w:World),e ≠ .normal->Ou P (ops.push z) Q ops.size e a w->Q e a w:=fun e a w hne h=>by
    cases e<;>first | exact h | exact absurd rfl hne
   unfold wpOp at hop ⊢
   simp only [ho,w1,if_true] at hop
   simp only [hof,w1,if_true]
   rw [Gv l (by omega)]
   have hcl2:MU md ops (l.setIfInBounds i true):=by
    have hmono:∀ x,l.getD x false=true->(l.setIfInBounds i true).getD x false=true:=fun x hx=>by
     simp only [Array.getD_eq_getD_getElem?,Array.getElem?_setIfInBounds] at hx ⊢
     by_cases hxi:i=x
     ·subst hxi;simp [show i<l.size by omega]
     ·rw [if_neg hxi];exact hx
    intro x o' ho' hx e he hb
    by_cases hxi:i=x
    ·subst hxi
     apply hmono
     have hi9:=hi
     unfold Region.ready at hi9
     rw [List.mem_filter,ho'] at hi9
     have:=hi9.2
     simp only [Bool.and_eq_true,Option.map_some,Option.getD_some,Array.all_eq_true_iff_forall_mem] at this
     have h8:=this.2 e he
     rw [hb] at h8
     simpa using h8
    ·apply hmono
     refine hcl x o' ho' ?_ e he hb
     simp only [Array.getD_eq_getD_getElem?,Array.getElem?_setIfInBounds,if_neg hxi] at hx ⊢
     exact hx
   rcases hop with hop | ⟨has,a9,w9,hlo⟩
   ·exact .inl (EW hq (Oper.wp_mono (fun a' w' h9=>ih _ a' w' (by simpa using hl) hcl2 h9) hop))
   ·exact .inr ⟨has,a9,w9,hq _ _ _ (by simp) hlo⟩
theorem Ql {id:Nat} {a:Act} {w:World} {S:World->Prop} (hm:P.follows .mixedOrders=true) (hok:SU .any ops z=true) (hS:S w.drew)
  (h:S w.drew->wpAnyH P .any ops (Ou P (ops.push z) Q ops.size) S ops.size (Array.replicate ops.size false) a w.drew):(Code.region id (ops.push z) true).wp P Q a w:=by
 refine wp_region_any hm ?_
 have h9:=GH (Q:=Q) hok ops.size (Array.replicate ops.size false) a w.drew (by simp) (fun i o ho hx=>by
  simp only [Array.getD_eq_getD_getElem?,Array.getElem?_replicate] at hx
  split at hx<;>simp at hx) (wpAny_of_held _ _ _ _ (h hS))
 rw [Array.size_push]
 have hrep:(Array.replicate ops.size false).push false=Array.replicate (ops.size+1) false:=by simp [Array.replicate_succ]
 rw [hrep] at h9
 exact h9
theorem ZI {full:Array Oper} {n:Nat} {o:Oper} {a:Act} {w:World} (ho:full[n]?=some o) (hg:o.guard=none) (h:o.wp P a w (fun a' w'=>Q .normal a' w') Q):Ou P full Q n .normal a w:=by
 show wpOp P full Q n _ a w
 unfold wpOp
 simp only [ho,show Region.wanted o (yielded full a.tmps)=true by simp [Region.wanted,hg],if_true]
 exact .inl h
theorem ZP {id:Nat} {full:List Oper} {a:Act} {w:World} {S:World->Prop} (hm:P.follows .mixedOrders=true) (hne:full ≠ []) (hok:SU .any full.dropLast.toArray (full.getLast hne)=true) (hS:S w.drew)
  (h:S w.drew->wpAnyH P .any full.dropLast.toArray (Ou P full.toArray Q full.dropLast.length) S full.dropLast.length (Array.replicate full.dropLast.length false) a w.drew):(Code.region id full.toArray true).wp P Q a w:=by
 have e:full.toArray=full.dropLast.toArray.push (full.getLast hne):=by rw [List.push_toArray,List.dropLast_concat_getLast]
 rw [e]
 refine Ql hm hok hS ?_
 rw [<-e]
 simpa using h
end
theorem rd {P:Program} {ops:Array Oper} {Q:Exit->Act->World->Prop} {md:Region.Mode} {S:World->Prop} (i:Nat) {o:Oper} {fuel:Nat} {listed:Array Bool} {a:Act} {w:World} (ho:ops[i]?=some o)
  (h:∀ K':Act->World->Prop,Shut (∀ a w,S w->(S w->wpAnyH P md ops Q S fuel (listed.setIfInBounds i true) a w)->K' a w)->if Region.wanted o (yielded ops a.tmps)=true then Oper.wp P o a w K' Q else K' (a.put o.dst undef) w)
  (hr:Region.ready md ops listed=[i]:=by kernel_rfl):wpAnyH P md ops Q S (fuel+1) listed a w:=wpAnyH_ready hr (by simp) (AllReadyH.cons ho h AllReadyH.nil)
theorem tk {P:Program} {ops:Array Oper} {Q:Exit->Act->World->Prop} {md:Region.Mode} {S:World->Prop} (i:Nat) {oi:Oper} {v:Value} {fuel:Nat} {listed:Array Bool} {a:Act} {w:World} (hi:ops[i]?=some oi) (hS:S w)
  (h:wpAnyH P md ops Q S fuel (listed.setIfInBounds i true) (a.put oi.dst v) w) (hw:Region.wanted oi (yielded ops a.tmps)=true:=by rfl) (hv:∀ w,S w->(execOp a.eval oi).run P w= .ok (.value v) w:=by intro W9 hSw;(try dsimp only at hSw);go_simp;(try with_reducible rfl)) (hs:Region.noSelect ops=true:=by kernel_rfl) (hf:Region.free md ops listed i=true:=by kernel_rfl) (hr:(Region.ready md ops listed).contains i=true:=by kernel_rfl)
  (hQ:∀ c a w,Q (.panic c) (a.put oi.dst v) w->Q (.panic c) a w:=by exact fun _ _ _ h=>h):wpAnyH P md ops Q S (fuel+1) listed a w:=wpAnyH_take hi hs hf hr hQ (Or.inl ⟨hw,hv⟩) hS h
end Go.Proofs.YtnponpamjddpjaaGreat
namespace Go.Proofs.YtnponpamjddpjaaGreat
open Go.ChangeShapes Go.WideShapes Go.ChangeAt Go.RowKit Go.Sort
set_option linter.unusedVariables false
set_option linter.unusedSimpArgs false
def Uk (p:Z6):List Value:=[.int .i64 p.1,.int .i64 p.2]
theorem Lo (p:Z6):(Uk p).length=2:=rfl
theorem GK:QT 150 2 (.agg #[.int .i64 0,.int .i64 0]) Uk:=⟨by kernel_rfl,rfl,Lo,by omega,by omega,fun x u hu=>by
  simp only [Uk,List.mem_cons,List.not_mem_nil,or_false] at hu
  rcases hu with rfl | rfl<;>rfl⟩
theorem IsPaces.rec {w : World} {v : Value} {ps : List Z6} (h : IsPaces w v ps) : IsRec 2 Uk w v ps := by
  obtain ⟨a, cap, rfl, hc, hm, hr⟩ := h
  refine ⟨a, cap, rfl, hc, hm, ?_⟩
  rcases hr with hr | ⟨b, off, rfl, hlt, hcl⟩
  · exact .inl hr
  · refine .inr ⟨b, off, rfl, hlt, fun j hj i u hu => ?_⟩
    obtain ⟨c0, c1⟩ := hcl j hj
    have e : Z8 ps j = Z7 ps j := by unfold Z8 Z7; simp [List.getD, hj]
    rw [e] at hu
    match i, hu with
    | 0, hu => obtain rfl : u = _ := by simpa [Uk] using hu.symm
               exact c0
    | 1, hu => obtain rfl : u = _ := by simpa [Uk] using hu.symm
               exact c1
    | i + 2, hu => simp [Uk] at hu
theorem Oc {B t sz n:Nat} {w:World} {v:Value} {xs:List Value} (h:w.ownsRow B t sz v n xs):∃ a cap,v= .slice a n cap:=by
  rcases h.2 with ⟨rfl,hz⟩ | ⟨g,cap,cur,rfl,_⟩
  · exact ⟨none,0,by rw [hz]⟩
  · exact ⟨_,cap,rfl⟩
theorem Ud {w : World} {base t ty : Nat} (ht : Tryz.prog.underlying t = some (.slice 61)) {v : Value} {n : Nat} {xs : List Value} (hown : w.ownsRow base 61 2 v n xs) {g c : Nat} {rb : Int} {pv : Value} (h0 : w.cell? ⟨g, 0, none⟩ = some (.int .i64 rb)) (h1 : w.cell? ⟨g, 1, none⟩ = some pv) (h1c : pv.oneCell' = true) (hn : n ≤ 4000) (hbase : base ≤ w.heap.size) :
    ∃ v' w', (Builtin.append_ #[t, t] ty #[v, .slice (some ⟨g, 0, none⟩) 1 c]).run Tryz.prog w = .ok v' w' ∧ w'.ownsRow base 61 2 v' (n + 1) (xs ++ [.int .i64 rb, pv]) ∧ w.grownBy w' v.ownBlock ∧ (v'.ownBlock = v.ownBlock ∨ v'.ownBlock = some w.heap.size) := by
  obtain ⟨i0, hi, hz0, hz1, hz2⟩ := Mn NY
  obtain ⟨v', w', hr, h2, h3, _, h5⟩ := run_append_own_at (P := Tryz.prog) w base t ty 61 i0 (.agg #[.int .i64 0, .slice none 0 0]) 2 32 ht hi hz0 hz1 hz2 rfl (by omega) v n xs hown ⟨g, 0, none⟩ 1 c [.int .i64 rb, pv] rfl
    (fun j u hu => by
      match j, hu with
      | 0, hu => obtain rfl : u = _ := by simpa using hu.symm
                 rw [MX]; exact h0
      | 1, hu => obtain rfl : u = _ := by simpa using hu.symm
                 rw [MX]; exact h1
      | j + 2, hu => simp at hu)
    (fun u hu => by
      simp only [List.mem_cons, List.not_mem_nil, or_false] at hu
      rcases hu with rfl | rfl
      · rfl
      · exact h1c) (by simp only [maxLen]; omega) (by omega) hbase
  exact ⟨v', w', hr, h2, h3, h5⟩
theorem Xi {ops : Array Oper} {o : Oper} {a : Act} {w : World} {K : Act → World → Prop} {Q : Exit → Act → World → Prop} {E : Prop} (hgd : o.guard = none) (s x : Operand) (t : TypeId)
    (ho : o.op = .call { callee := .builtin .append, args := #[s, x], argTypes := #[t, t] }) {v u v' : Value} {w' : World} (hs : a.eval s = v) (hx : a.eval x = u) (hrun : (Builtin.append_ #[t, t] o.type #[v, u]).run Tryz.prog w = .ok v' w')
    (h : K (a.put o.dst v') w') : if Region.wanted o (yielded ops a.tmps) = true then Oper.wp Tryz.prog o a w K Q else E := by
  have hw : Region.wanted o (yielded ops a.tmps) = true := by simp [Region.wanted, hgd]
  rw [if_pos hw]
  unfold Oper.wp execOp
  simp only [ho, resolve, invoke, builtin, Sem.run_bind, Sem.run_pure, Result.andThen_ok, List.map_toArray, List.map_cons, List.map_nil, hs, hx, hrun]
  exact h
theorem WC {w : World} {v : Value} {rs : List Z0} (h : IsRooms w v rs) (hl : rs.length ≤ 1000) (hp : ∀ r ∈ rs, r.2.length ≤ 1000) :
    Calls Tryz.prog 154 #[.agg #[v]] w fun e w' => ∃ v' qs, e = .returned (.agg #[v']) ∧ qs.map (·.1) = rs ∧ OwnHall w.heap.size w' v' qs ∧ Below w.heap.size w w' := by
  have Hv := Z9 h
  obtain ⟨a, cap, rfl, hc, hm, hr⟩ := h
  have Hr := Z9 hr
  have HP := Z9 hp
  clear hr hp
  go_enter Tryz.func154, Tryz.ntmps154
  go_wp2_with fail
  go_loopw [4] (fun i wr => ∃ (k : Nat) (u : Value) (qs : List (Z0 × Value)), k ≤ rs.length ∧ i = .int .i64 k ∧ Blk wr (w.heap.size + 1 + 1) 26 #[u] ∧ Blk wr w.heap.size 26 #[.slice a rs.length cap] ∧ Blk wr (w.heap.size + 1) 26 #[.slice none 0 0] ∧ OwnHall (w.heap.size + 3) wr u qs ∧ qs.map (·.1) = rs.take k ∧ Below w.heap.size w wr) (fun i _ => rs.length - (intOf i).toNat)
  case atStart =>
    refine ⟨0, _, [], Nat.zero_le _, rfl, ?_, ((Blk.new w _ _).alloc _).alloc _, ?_, OwnHall.nil _ _, rfl, (((Below.refl _ _).alloc (Nat.le_refl _) _).alloc (by simp) _).alloc (by simp; omega) _⟩
    · have k := Blk.new ((w.alloc (.cells #[.slice a rs.length cap] 26)).alloc (.cells #[.slice none 0 0] 26)) 26 #[.slice none 0 0]
      rw [World.size_alloc, World.size_alloc] at k
      exact k
    · have k := Blk.new (w.alloc (.cells #[.slice a rs.length cap] 26)) 26 #[.slice none 0 0]
      rw [World.size_alloc] at k
      exact k.alloc _
  case round =>
    obtain ⟨k, u, qs, hk, rfl, ko, ka, kr, ho, hq, hb⟩ := hrel
    have hql : qs.length = k := by have := congrArg List.length hq; simp at this; omega
    obtain ⟨ua, uc, rfl⟩ := ho.shape
    have Hql := Z9 hql
    rw [hql] at ko ho
    clear hql
    have Ko := Z9 ko
    have Ka := Z9 ka
    have Kr := Z9 kr
    have Ho := Z9 ho
    have Hq := Z9 hq
    have Hb := Z9 hb
    have x0 := ko.cell (i := 0) rfl
    have f0 := ko.free 0
    have y0 := ka.cell (i := 0) rfl
    have hsz := ko.lt
    by_cases hlt : k < rs.length
    · rcases uh Hr with e0 | ⟨b, off, rfl, hbw, hcl⟩
      · rw [e0] at hlt; simp at hlt
      obtain ⟨c0, pv, c1, hpv⟩ := hcl k hlt
      rw [← hb.cell (p := ⟨b, off + k * 2, none⟩) hbw] at c0
      rw [← hb.cell (p := ⟨b, off + k * 2 + 1, none⟩) hbw] at c1
      have Hpv := Z9 (hpv.below (hb.mono (Nat.le_refl _)))
      have hpl := uh HP (ZV rs k) (by unfold ZV; simp [List.getD, hlt])
      have Htk : Hid (rs.take (k + 1) = rs.take k ++ [ZV rs k]) := Z9 (by rw [List.take_succ_eq_append_getElem hlt]; unfold ZV; simp [List.getD, hlt])
      generalize ZV rs k = r at *
      obtain ⟨n, ps⟩ := r
      simp only at c0 hpl hpv
      obtain ⟨pa, pc, rfl, _, _, _⟩ := hpv
      have hbw' : b < wr.heap.size := by have := hb.size; omega
      clear hcl ko ka kr ho hq hb
      have x1 := ((uh Ko).alloc (.cells #[] 150)).cell (i := 0) rfl
      have f1 := ((uh Ko).alloc (.cells #[] 150)).free 0
      have y1 := ((uh Ka).alloc (.cells #[] 150)).cell (i := 0) rfl
      have c2 := (((Below.refl wr.heap.size wr).alloc (Nat.le_refl _) (.cells #[] 150)).cell (p := ⟨b, off + k * 2, none⟩) hbw').trans c0
      have c3 := (((Below.refl wr.heap.size wr).alloc (Nat.le_refl _) (.cells #[] 150)).cell (p := ⟨b, off + k * 2 + 1, none⟩) hbw').trans c1
      have HA : Hid (Below wr.heap.size wr (wr.alloc (.cells #[] 150))) := Z9 ((Below.refl wr.heap.size wr).alloc (Nat.le_refl _) _)
      obtain ⟨v4, w4, hrun4, hown4, hg4, hat4⟩ := Xh GK (w := (wr.alloc (.cells #[] 150)).drew) (t := 59) (ty := 59) (base := wr.heap.size) Tryz.underlying59 (RecAt.later (Zb (w := wr) rfl (Nat.le_refl _)) (Below.refl _ _).drew) (IsPaces.rec ((uh Hpv).below (uh HA).drew)) (by simp; omega) (by simp)
      rw [List.nil_append] at hown4
      have X4 : Below wr.heap.size wr w4 := (uh HA).drew.trans ((Below.refl _ _).grown hg4 (by simp) (fun i e => by cases e; exact Nat.le_refl _))
      obtain ⟨pa4, pc4, rfl⟩ := RecAt.shape hown4
      have hk4 := (uh Ko).below X4 (uh Ko).lt
      have hz4 := X4.size
      have r0 := hk4.cell (i := 0) rfl
      have r1 := hk4.free 0
      have hk5 := hk4.alloc (.cells #[.int .i64 n, .slice pa4 ps.length pc4] 61)
      have r2 := hk5.cell (i := 0) rfl
      have r3 := (X4.cell (p := ⟨b, off + k * 2, none⟩) hbw').trans c0
      have r4 := ((uh Ka).below X4 (uh Ka).lt).cell (i := 0) rfl
      have r5 := (((uh Ka).below X4 (uh Ka).lt).alloc (.cells #[.int .i64 n, .slice pa4 ps.length pc4] 61)).cell (i := 0) rfl
      have HO4 := Z9 hown4
      have HX4 := Z9 X4
      obtain ⟨v5, w5, hrun5, hown5, hg5, hat5⟩ := Ud (w := w4.alloc (.cells #[.int .i64 n, .slice pa4 ps.length pc4] 61)) (t := 24) (ty := 24) (base := w.heap.size + 3) (v := .slice ua k uc) (n := k) (xs := TU qs) Tryz.underlying24 (World.ownsRow.alloc (by have h9 := ((uh Ho).later (uh HX4)).row; rw [uh Hql] at h9; exact h9) _) (g := w4.heap.size) (c := 1) (Z2 w4 (i := 0) rfl) (Z2 w4 (i := 1) rfl) rfl (by omega) (by simp; omega)
      obtain ⟨a5, c5, rfl⟩ := Oc hown5
      have hn5 : ∀ i, (Value.slice ua k uc).ownBlock = some i → w.heap.size + 3 ≤ i := fun i e => ((uh Ho).lt (.inl e)).1
      have hk6 := hk5.same (w' := w5) (hg5.block _ hk5.lt (fun e => by have := hn5 _ e.symm; omega))
      have s0 := hk6.cell (i := 0) rfl
      have s1 := hk6.free 0
      have HK6 := Z9 hk6
      have HO5 := Z9 hown5
      have HG5 := Z9 hg5
      have HA5 := Z9 hat5
      have X5 : Hid (Below (w.heap.size + 1 + 1 + 1) wr w5) := Z9 (by
        have q1 : Below wr.heap.size wr w4 := uh HX4
        have q2 : Below w4.heap.size w4 (w4.alloc (.cells #[.int .i64 n, .slice pa4 ps.length pc4] 61)) := (Below.refl _ _).alloc (Nat.le_refl _) _
        have q3 : Below (w.heap.size + 1 + 1 + 1) (w4.alloc (.cells #[.int .i64 n, .slice pa4 ps.length pc4] 61)) w5 := (Below.refl _ _).grown (uh HG5) (by have := q1.size; simp; omega) (fun i e => by have := ((uh Ho).lt (.inl e)).1; omega)
        exact ((q1.mono (by omega)).trans (q2.mono (by have := q1.size; omega))).trans q3)
      have hp5 : OwnHall (w.heap.size + 3) w5 (.slice a5 (k + 1) c5) (qs ++ [((n, ps), .slice pa4 ps.length pc4)]) := by
        have q1 : OwnHall (w.heap.size + 3) w4 (.slice ua k uc) qs := (uh Ho).later (uh HX4)
        have q2 : PacesAt wr.heap.size w4 (.slice pa4 ps.length pc4) ps := uh HO4
        have q3 : PacesAt (w.heap.size + 3) w4 (.slice pa4 ps.length pc4) ps := q2.mono (by omega)
        refine OwnHall.push (w := w4) (w1 := w5) (v := .slice ua k uc) (o := .cells #[.int .i64 n, .slice pa4 ps.length pc4] 61) q1 q3 ?_ ?_ ?_ (uh HG5) (uh HA5)
        · intro b' e e'
          have h8 := (q2.lt e).1
          have h9 := ((uh Ho).lt (.inl e')).2
          omega
        · intro q hq' b' e e'
          have h8 := (q2.lt e').1
          have h9 := ((uh Ho).lt (.inr ⟨q, hq', e⟩)).2
          omega
        · rw [uh Hql]; exact uh HO5
      have HP5 := Z9 hp5
      have z0 := ((uh Ka).below (uh X5) (by omega)).cell (i := 0) rfl
      have z1 := ((uh X5).cell (p := ⟨b, off + k * 2, none⟩) (show b < w.heap.size + 1 + 1 + 1 by omega)).trans c0
      have z2 := ((uh X5).cell (p := ⟨b, off + k * 2 + 1, none⟩) (show b < w.heap.size + 1 + 1 + 1 by omega)).trans c1
      have r6 := ((uh HX4).cell (p := ⟨b, off + k * 2 + 1, none⟩) hbw').trans c1
      have r7 : (w4.alloc (.cells #[.int .i64 n, .slice pa4 ps.length pc4] 61)).cell? ⟨b, off + k * 2, none⟩ = some (.int .i64 n) := (((Below.refl w4.heap.size w4).alloc (Nat.le_refl _) _).cell (p := ⟨b, off + k * 2, none⟩) (by show b < w4.heap.size; omega)).trans r3
      have r8 : (w4.alloc (.cells #[.int .i64 n, .slice pa4 ps.length pc4] 61)).cell? ⟨b, off + k * 2 + 1, none⟩ = some (.slice pa ps.length pc) := (((Below.refl w4.heap.size w4).alloc (Nat.le_refl _) _).cell (p := ⟨b, off + k * 2 + 1, none⟩) (by show b < w4.heap.size; omega)).trans r6
      have t0 : (w5.setCell ⟨w.heap.size + 1 + 1, 0, none⟩ (.slice a5 (k + 1) c5)).cell? ⟨w.heap.size, 0, none⟩ = some (.slice (some ⟨b, off, none⟩) rs.length cap) := (World.cell?_setCell_other _ _ _ _ (by simp)).trans z0
      have t1 : (w5.setCell ⟨w.heap.size + 1 + 1, 0, none⟩ (.slice a5 (k + 1) c5)).cell? ⟨b, off + k * 2, none⟩ = some (.int .i64 n) := (World.cell?_setCell_other _ _ _ _ (fun e => by have := congrArg Addr.block e; simp at this; omega)).trans z1
      have t2 : (w5.setCell ⟨w.heap.size + 1 + 1, 0, none⟩ (.slice a5 (k + 1) c5)).cell? ⟨b, off + k * 2 + 1, none⟩ = some (.slice pa ps.length pc) := (World.cell?_setCell_other _ _ _ _ (fun e => by have := congrArg Addr.block e; simp at this; omega)).trans z2
      have R4 := Z9 hrun4
      have R5 := Z9 hrun5
      clear hown5 hg5 hat5 hk5 hn5 hk6 hown4 X4 hg4 hat4 hk4 hrun4 hrun5 hp5
      go_wp2_with fail
      refine ZP (S := fun w' => w'.cell? ⟨w.heap.size, 0, none⟩ = some (.slice (some ⟨b, off, none⟩) rs.length cap) ∧ w'.cell? ⟨w.heap.size + 1 + 1, 0, none⟩ = some (.slice ua k uc) ∧ w'.cell? ⟨b, off + k * 2, none⟩ = some (.int .i64 n) ∧ w'.cell? ⟨b, off + k * 2 + 1, none⟩ = some (.slice pa ps.length pc)) (by kernel_rfl) (List.cons_ne_nil _ _) (by kernel_rfl) ⟨y0, x0, c0, c1⟩ (fun hHeld => ?_)
      simp only [List.dropLast_cons_cons, List.dropLast_singleton, List.length_cons, List.length_nil, Nat.zero_add, Nat.reduceAdd]
      (refine tk 0 rfl (by assumption) ?_; (try simp only [Act.put, sA, sZ, sS]))
      (refine tk 1 rfl (by assumption) ?_; (try simp only [Act.put, sA, sZ, sS]))
      (refine tk 2 rfl (by assumption) ?_; (try simp only [Act.put, sA, sZ, sS]))
      (refine tk 3 rfl (by assumption) ?_; (try simp only [Act.put, sA, sZ, sS]))
      (refine tk 4 rfl (by assumption) ?_; (try simp only [Act.put, sA, sZ, sS]))
      (refine tk 5 rfl (by assumption) ?_; (try simp only [Act.put, sA, sZ, sS]))
      (refine tk 6 rfl (by assumption) ?_; (try simp only [Act.put, sA, sZ, sS]))
      (refine tk 7 rfl (by assumption) ?_; (try simp only [Act.put, sA, sZ, sS]))
      (refine tk 9 rfl (by assumption) ?_; (try simp only [Act.put, sA, sZ, sS]))
      (refine tk 10 rfl (by assumption) ?_; (try simp only [Act.put, sA, sZ, sS]))
      (refine tk 11 rfl (by assumption) ?_; (try simp only [Act.put, sA, sZ, sS]))
      (refine tk 12 rfl (by assumption) ?_; (try simp only [Act.put, sA, sZ, sS]))
      (refine tk 13 rfl (by assumption) ?_; (try simp only [Act.put, sA, sZ, sS]))
      (refine tk 14 rfl (by assumption) ?_; (try simp only [Act.put, sA, sZ, sS]))
      refine rd 8 rfl (fun K hK => ?_)
      go_simp
      refine hK.out _ _ ⟨y1, x1, c2, c3⟩ (fun hHeld => ?_)
      clear hK K
      (try simp only [Act.put, sA, sZ, sS])
      refine rd 15 rfl (fun K hK => ?_)
      refine Xi rfl (.tmp 21) (.tmp 27) 59 rfl rfl rfl (uh R4) ?_
      refine hK.out _ _ ⟨r4, r0, r3, r6⟩ (fun hHeld => ?_)
      clear hK K
      (try simp only [Act.put, sA, sZ, sS])
      (refine tk 16 rfl (by assumption) ?_; (try simp only [Act.put, sA, sZ, sS]))
      refine rd 17 rfl (fun K hK => ?_)
      go_simp
      refine hK.out _ _ ⟨r5, r2, r7, r8⟩ (fun hHeld => ?_)
      clear hK K
      (try simp only [Act.put, sA, sZ, sS])
      refine rd 18 rfl (fun K hK => ?_)
      refine Xi rfl (.tmp 14) (.tmp 30) 24 rfl rfl rfl (uh R5) ?_
      refine hK.out _ _ ⟨z0, s0, z1, z2⟩ (fun hHeld => ?_)
      clear hK K
      (try simp only [Act.put, sA, sZ, sS])
      (refine tk 19 rfl (by assumption) ?_; (try simp only [Act.put, sA, sZ, sS]))
      refine wpAnyH_done (by kernel_rfl) ?_ _
      refine ZI rfl rfl ?_
      go_simp
      clear hHeld
      go_wp2_with fail
      go_roundw
      case rel =>
        refine ⟨k + 1, .slice a5 (k + 1) c5, qs ++ [((n, ps), .slice pa4 ps.length pc4)], by omega, by go_num, ?_, ?_, ?_, ?_, by rw [List.map_append, uh Hq, uh Htk]; rfl, ?_⟩
        · have q := (uh HK6).set 0 (.slice a5 (k + 1) c5)
          exact q
        · exact ((uh Ka).below (uh X5) (by omega)).other (by show w.heap.size ≠ w.heap.size + 1 + 1; omega) _
        · exact ((uh Kr).below (uh X5) (by omega)).other (by show w.heap.size + 1 ≠ w.heap.size + 1 + 1; omega) _
        · exact (uh HP5).same fun i h0 hi => heap_setCell_other _ _ _ _ (by show i ≠ w.heap.size + 1 + 1; omega)
        · exact ((uh Hb).trans ((uh X5).mono (by omega))).setCell (by show _ ≤ w.heap.size + 1 + 1; omega) _
      case measure => simp [intOf]; omega
    · obtain rfl : k = rs.length := by omega
      have r0 := kr.cell (i := 0) rfl
      have r1 := kr.free 0
      go_wp2_with fail
      rw [List.take_length] at hq
      refine bodyPost_ret (v := .agg #[.slice ua rs.length uc]) (by simp [results, Tryz.results154, go_sem, *]) rfl ⟨_, qs, rfl, hq, ?_, ?_⟩
      · exact (ho.same fun i h0 hi => heap_setCell_other _ _ _ _ (by show i ≠ w.heap.size + 1; omega)).mono (by omega)
      · exact hb.setCell (by show _ ≤ w.heap.size + 1; omega) _
abbrev Z4:=Int × Int × Int × Int × Int × Int × Int × Int × Int × Int × Int
def ZR (p:Z4):List Value:=[.int .i64 p.1,.int .i64 p.2.1,.int .i64 p.2.2.1,.int .i64 p.2.2.2.1,.int .i64 p.2.2.2.2.1,.int .i64 p.2.2.2.2.2.1,.int .i64 p.2.2.2.2.2.2.1,.int .i64 p.2.2.2.2.2.2.2.1,.int .i64 p.2.2.2.2.2.2.2.2.1,.int .i64 p.2.2.2.2.2.2.2.2.2.1,.int .i64 p.2.2.2.2.2.2.2.2.2.2]
theorem ZW (p:Z4):(ZR p).length=11:=rfl
abbrev WK (w:World) (v:Value) (ps:List Z4):Prop:=IsRec 11 ZR w v ps
abbrev SmithsAt (n₀:Nat) (w:World) (v:Value) (ps:List Z4):Prop:=RecAt 41 11 ZR n₀ w v ps
theorem SmithsAt.list {n₀:Nat} {w:World} {v:Value} {ps:List Z4} (h:SmithsAt n₀ w v ps):WK w v ps:=RecAt.recs ZW (by omega) h
theorem ZD {w:World} {b off:Nat} {ps:List Z4} (h:∀ j,j<ps.length-> ∀ i u,(ZR (Z8 ps j))[i]?=some u->w.cell? ⟨b,off+j*11+i,none⟩=some u) {j:Nat} (hj:j<ps.length) :
  w.cell? ⟨b,off+j*11,none⟩=some (.int .i64 (Z8 ps j).1)/\w.cell? ⟨b,off+j*11+1,none⟩=some (.int .i64 (Z8 ps j).2.1)/\w.cell? ⟨b,off+j*11+2,none⟩=some (.int .i64 (Z8 ps j).2.2.1)/\w.cell? ⟨b,off+j*11+3,none⟩=some (.int .i64 (Z8 ps j).2.2.2.1)/\w.cell? ⟨b,off+j*11+4,none⟩=some (.int .i64 (Z8 ps j).2.2.2.2.1)/\w.cell? ⟨b,off+j*11+5,none⟩=some (.int .i64 (Z8 ps j).2.2.2.2.2.1)/\w.cell? ⟨b,off+j*11+6,none⟩=some (.int .i64 (Z8 ps j).2.2.2.2.2.2.1)/\w.cell? ⟨b,off+j*11+7,none⟩=some (.int .i64 (Z8 ps j).2.2.2.2.2.2.2.1)/\w.cell? ⟨b,off+j*11+8,none⟩=some (.int .i64 (Z8 ps j).2.2.2.2.2.2.2.2.1)/\w.cell? ⟨b,off+j*11+9,none⟩=some (.int .i64 (Z8 ps j).2.2.2.2.2.2.2.2.2.1)/\w.cell? ⟨b,off+j*11+10,none⟩=some (.int .i64 (Z8 ps j).2.2.2.2.2.2.2.2.2.2):=
 ⟨h j hj 0 _ rfl,h j hj 1 _ rfl,h j hj 2 _ rfl,h j hj 3 _ rfl,h j hj 4 _ rfl,h j hj 5 _ rfl,h j hj 6 _ rfl,h j hj 7 _ rfl,h j hj 8 _ rfl,h j hj 9 _ rfl,h j hj 10 _ rfl⟩
abbrev Ys:=Bool × Int × Int
def XA (p:Ys):List Value:=[.bool p.1,.int .i64 p.2.1,.int .i64 p.2.2]
theorem ZF (p:Ys):(XA p).length=3:=rfl
abbrev VN (w:World) (v:Value) (ps:List Ys):Prop:=IsRec 3 XA w v ps
abbrev DesksAt (n₀:Nat) (w:World) (v:Value) (ps:List Ys):Prop:=RecAt 55 3 XA n₀ w v ps
theorem DesksAt.list {n₀:Nat} {w:World} {v:Value} {ps:List Ys} (h:DesksAt n₀ w v ps):VN w v ps:=RecAt.recs ZF (by omega) h
theorem Zk {w:World} {b off:Nat} {ps:List Ys} (h:∀ j,j<ps.length-> ∀ i u,(XA (Z8 ps j))[i]?=some u->w.cell? ⟨b,off+j*3+i,none⟩=some u) {j:Nat} (hj:j<ps.length) :
  w.cell? ⟨b,off+j*3,none⟩=some (.bool (Z8 ps j).1)/\w.cell? ⟨b,off+j*3+1,none⟩=some (.int .i64 (Z8 ps j).2.1)/\w.cell? ⟨b,off+j*3+2,none⟩=some (.int .i64 (Z8 ps j).2.2):=
 ⟨h j hj 0 _ rfl,h j hj 1 _ rfl,h j hj 2 _ rfl⟩
open Go.ChangeShapes Go.WideShapes Go.ChangeAt Go.RowKit Go.Sort Go.Deep
def Uj (z:Int):List Value:=[.int .i64 z]
theorem YJ (z:Int):(Uj z).length=1:=rfl
abbrev Rs (w:World) (v:Value) (zs:List Int):Prop:=IsRec 1 Uj w v zs
abbrev NumsAt (n₀:Nat) (w:World) (v:Value) (zs:List Int):Prop:=RecAt 2 1 Uj n₀ w v zs
theorem NumsAt.list {n₀:Nat} {w:World} {v:Value} {zs:List Int} (h:NumsAt n₀ w v zs):Rs w v zs:=RecAt.recs YJ (by omega) h
theorem PH {w:World} {b off:Nat} {zs:List Int} (h:∀ j,j<zs.length-> ∀ i u,(Uj (Z8 zs j))[i]?=some u->w.cell? ⟨b,off+j*1+i,none⟩=some u) {j:Nat} (hj:j<zs.length) :
  w.cell? ⟨b,off+j,none⟩=some (.int .i64 (Z8 zs j)):=by
 have:=h j hj 0 _ rfl
 simpa using this
structure Z3 where
 rooms:List Z0
 guilds:List ZA
 smiths:List Z4
 desks:List Ys
 paces:List Int
 now:Int
structure Smy (w:World) (v0 v1 v2 v3 v4:Value) (m:Z3):Prop where
 rooms:IsRooms w v0 m.rooms
 guilds:XI w v1 m.guilds
 smiths:WK w v2 m.smiths
 desks:VN w v3 m.desks
 paces:Rs w v4 m.paces
theorem Smy.below {w w':World} {v0 v1 v2 v3 v4:Value} {m:Z3} (h:Smy w v0 v1 v2 v3 v4 m) (hb:Below w.heap.size w w'):Smy w' v0 v1 v2 v3 v4 m:=
 ⟨h.rooms.below hb,h.guilds.below hb,h.smiths.below hb,h.desks.below hb,h.paces.below hb⟩
theorem Smy.alloc {w:World} {v0 v1 v2 v3 v4:Value} {m:Z3} (h:Smy w v0 v1 v2 v3 v4 m) (o:Obj):Smy (w.alloc o) v0 v1 v2 v3 v4 m:=h.below ((Below.refl _ _).alloc (Nat.le_refl _) _)
theorem RecAt.set_old {α:Type} {t k:Nat} {enc:α->List Value} {n₀:Nat} {w:World} {v:Value} {xs:List α} (h:RecAt t k enc n₀ w v xs) (g o:Nat) (u:Value) (hg:g<n₀):RecAt t k enc n₀ (w.setCell ⟨g,o,none⟩ u) v xs:=
 h.same fun i hi=>heap_setCell_other w _ i u (by have:=(h.lt hi).1;show i ≠ g;omega)
abbrev E6:Array Value:=#[.slice none 0 0,.slice none 0 0,.slice none 0 0,.slice none 0 0,.slice none 0 0,.int .i64 0]
abbrev S6 (a0:Option Addr) (p0:Nat) (a1:Option Addr) (p1:Nat) (a2:Option Addr) (p2:Nat) (a3:Option Addr) (p3:Nat) (a4:Option Addr) (p4:Nat) (m:Z3):Array Value:=#[.slice a0 m.rooms.length p0,.slice a1 m.guilds.length p1,.slice a2 m.smiths.length p2,.slice a3 m.desks.length p3,.slice a4 m.paces.length p4,.int .i64 m.now]
theorem Smy.five {w:World} {v0 v1 v2 v3 v4:Value} {m:Z3} (h:Smy w v0 v1 v2 v3 v4 m):∃ a0 p0 a1 p1 a2 p2 a3 p3 a4 p4,v0= .slice a0 m.rooms.length p0/\v1= .slice a1 m.guilds.length p1/\v2= .slice a2 m.smiths.length p2/\v3= .slice a3 m.desks.length p3/\v4= .slice a4 m.paces.length p4/\m.rooms.length<=p0/\p0<=9223372036854775807/\m.guilds.length<=p1/\p1<=9223372036854775807/\m.smiths.length<=p2/\p2<=9223372036854775807/\m.desks.length<=p3/\p3<=9223372036854775807/\m.paces.length<=p4/\p4<=9223372036854775807:=by
 obtain ⟨a0,p0,e0,x0,y0,_⟩:=h.rooms
 obtain ⟨a1,p1,e1,x1,y1,_⟩:=h.guilds
 obtain ⟨a2,p2,e2,x2,y2,_⟩:=h.smiths
 obtain ⟨a3,p3,e3,x3,y3,_⟩:=h.desks
 obtain ⟨a4,p4,e4,x4,y4,_⟩:=h.paces
 exact ⟨a0,p0,a1,p1,a2,p2,a3,p3,a4,p4,e0,e1,e2,e3,e4,x0,y0,x1,y1,x2,y2,x3,y3,x4,y4⟩
def OZ (u v:Value):Prop:= ∀ b,u.ownBlock=some b->v.ownBlock ≠ some b
def Qm (u v:Value) (qs:List (Z0 × Value)):Prop:=OZ u v/\ ∀ q ∈ qs,OZ u q.2
structure FullSmy (n₀:Nat) (w:World) (v0 v1 v2 v3 v4:Value) (m:Z3) (qs:List (Z0 × Value)):Prop where
 hall:OwnHall n₀ w v0 qs
 rooms:qs.map (·.1)=m.rooms
 guilds:GuildsAt n₀ w v1 m.guilds
 smiths:SmithsAt n₀ w v2 m.smiths
 desks:DesksAt n₀ w v3 m.desks
 paces:NumsAt n₀ w v4 m.paces
 h1:Qm v1 v0 qs
 h2:Qm v2 v0 qs
 h3:Qm v3 v0 qs
 h4:Qm v4 v0 qs
 a12:OZ v1 v2
 a13:OZ v1 v3
 a14:OZ v1 v4
 a23:OZ v2 v3
 a24:OZ v2 v4
 a34:OZ v3 v4
theorem FullSmy.smy {n₀:Nat} {w:World} {v0 v1 v2 v3 v4:Value} {m:Z3} {qs:List (Z0 × Value)} (h:FullSmy n₀ w v0 v1 v2 v3 v4 m qs):Smy w v0 v1 v2 v3 v4 m:=
 ⟨by rw [<-h.rooms];exact h.hall.rooms,h.guilds.list,h.smiths.list,h.desks.list,h.paces.list⟩
theorem OwnHall.set_old {n₀:Nat} {w:World} {v:Value} {qs:List (Z0 × Value)} (h:OwnHall n₀ w v qs) (g o:Nat) (u:Value) (hg:g<n₀):OwnHall n₀ (w.setCell ⟨g,o,none⟩ u) v qs:=
 h.same fun k h0 hk=>heap_setCell_other w _ k u (by show k ≠ g;omega)
theorem FullSmy.below {n₀:Nat} {w w':World} {v0 v1 v2 v3 v4:Value} {m:Z3} {qs:List (Z0 × Value)} (h:FullSmy n₀ w v0 v1 v2 v3 v4 m qs) (hb:Below w.heap.size w w'):FullSmy n₀ w' v0 v1 v2 v3 v4 m qs:=
 ⟨h.hall.later hb,h.rooms,RecAt.later h.guilds hb,RecAt.later h.smiths hb,RecAt.later h.desks hb,RecAt.later h.paces hb,h.h1,h.h2,h.h3,h.h4,h.a12,h.a13,h.a14,h.a23,h.a24,h.a34⟩
theorem FullSmy.set {n₀:Nat} {w:World} {v0 v1 v2 v3 v4:Value} {m:Z3} {qs:List (Z0 × Value)} (h:FullSmy n₀ w v0 v1 v2 v3 v4 m qs) (g o:Nat) (u:Value) (hg:g<n₀):FullSmy n₀ (w.setCell ⟨g,o,none⟩ u) v0 v1 v2 v3 v4 m qs:=
 ⟨h.hall.set_old g o u hg,h.rooms,RecAt.set_old h.guilds g o u hg,RecAt.set_old h.smiths g o u hg,RecAt.set_old h.desks g o u hg,RecAt.set_old h.paces g o u hg,h.h1,h.h2,h.h3,h.h4,h.a12,h.a13,h.a14,h.a23,h.a24,h.a34⟩
theorem FullSmy.mono {n₀ n₁:Nat} {w:World} {v0 v1 v2 v3 v4:Value} {m:Z3} {qs:List (Z0 × Value)} (h:FullSmy n₀ w v0 v1 v2 v3 v4 m qs) (hn:n₁<=n₀):FullSmy n₁ w v0 v1 v2 v3 v4 m qs:=
 ⟨h.hall.mono hn,h.rooms,RecAt.mono h.guilds hn,RecAt.mono h.smiths hn,RecAt.mono h.desks hn,RecAt.mono h.paces hn,h.h1,h.h2,h.h3,h.h4,h.a12,h.a13,h.a14,h.a23,h.a24,h.a34⟩
end Go.Proofs.YtnponpamjddpjaaGreat
