/- Part 5 of what the proof rests on. No condition but those that a theorem names. -/
import Derived.Test.YtamgfpdahadnfaaGreatDoorXf01
import Derived.OrdersHeld
import Derived.Deep.RegionHeldLaw
import Derived.Maps.AppendAt
import Derived.RangeFuncNested
import Derived.RangeFuncBound
import Derived.RangeFuncCalls
import Derived.RangeFuncLeaves
import Derived.RangeFuncBox
import Derived.Shelf.Abstract
import Derived.Shelf.RegionOpen
import Derived.OwnWalkIn
import Derived.TacticsInMore
import Derived.LoopNIn
import Derived.LoopIn
import Derived.Deep.QuietTactic
import Derived.BigQuiet
import Derived.Test.YtamgfpdahadnfaaGreatDoorRows
import Derived.Test.YtamgfpdahadnfaaGreatDoorTie
import Derived.SevenTiedAt
import Derived.Laws.OwnMore
set_option maxHeartbeats 8000000
set_option maxRecDepth 100000
namespace Go.Proofs.YtamgfpdahadnfaaGreatDoor
open Go.ChangeShapes Go.WideShapes Go.ChangeAt Go.RowKit
set_option linter.unusedVariables false
theorem TC (s:Int) (w:World):Calls Tryz.prog 194 #[.int .i64 s] w fun e w'=>e= .returned (.bool (inB s 0 255))/\w'=w:=by
 by_cases h1:0<=s
 ·by_cases h2:s<=255
  all_goals
   go_enter Tryz.func194,Tryz.ntmps194
   go_wp2
   go_ret;exact ⟨Z5 (by first | exact (Zp h1 h2).symm | exact (Wy (by omega)).symm),rfl⟩
 ·go_enter Tryz.func194,Tryz.ntmps194
  go_wp2
  go_ret;exact ⟨Z5 (Wy (by omega)).symm,rfl⟩
theorem U4 (i:Int) (w:World):Calls Tryz.prog 195 #[.int .i64 i] w fun e w'=>e= .returned (.bool (inB i 0 7))/\w'=w:=by
 by_cases h1:0<=i
 ·by_cases h2:i<8
  all_goals
   go_enter Tryz.func195,Tryz.ntmps195
   go_wp2
   go_ret;exact ⟨Z5 (by first | exact (Zp h1 (by omega)).symm | exact (Wy (by omega)).symm),rfl⟩
 ·go_enter Tryz.func195,Tryz.ntmps195
  go_wp2
  go_ret;exact ⟨Z5 (Wy (by omega)).symm,rfl⟩
def V0 (s i:Int):Bool:=decide (s / 2 ^ i.toNat%2=1)
def UU (s i:Int):Bool:=inB s 0 255 && inB i 0 7 && V0 s i
theorem Ac (n:Int):bits .and .i64 n 1=n%2:=by
 have h1:(BitVec.ofInt 64 1).toNat=2 ^ 1-1:=by decide
 have key:(BitVec.ofInt 64 n &&& BitVec.ofInt 64 1).toNat=(n%((2 ^ 64:Nat):Int)).toNat%2 ^ 1:=by
  rw [BitVec.toNat_and,BitVec.toNat_ofInt,h1,Nat.and_two_pow_sub_one_eq_mod]
 show IntKind.i64.wrap ((BitVec.ofInt 64 n &&& BitVec.ofInt 64 1).toNat:Nat)=n%2;rw [key,IntKind.wrap_i64];omega
theorem zF (s i:Int):(bits .and .i64 (s / 2 ^ i.toNat) 1 ==1)=V0 s i:=by rw [Ac];unfold V0;rfl
theorem ED {s i:Int} (h:inB s 0 255=false\/inB i 0 7=false):UU s i=false:=by unfold UU;rcases h with h | h<;>simp [h]
theorem As {s i:Int} (hs:inB s 0 255=true) (hi:inB i 0 7=true):UU s i=V0 s i:=by unfold UU;simp [hs,hi]
theorem J4 (s i:Int) (w:World) (hs:0<=s) (hs2:s<=255) (hi:0<=i) (hi2:i<=7):Calls Tryz.prog 60 #[.int .i64 s,.int .i64 i] w fun e w'=>e= .returned (.bool (V0 s i))/\w'=w:=by
 go_enter Tryz.func60,Tryz.ntmps60
 go_wp2
 go_ret;exact ⟨Z5 (zF s i),rfl⟩
theorem Vf (s i:Int) (w:World):Calls Tryz.prog 136 #[.int .i64 s,.int .i64 i] w fun e w'=>e= .returned (.bool (UU s i))/\w'=w:=by
 by_cases hb:inB s 0 255=true
 ·obtain ⟨hs,hs2⟩:=ZJ hb
  by_cases hc:inB i 0 7=true
  ·obtain ⟨hi,hi2⟩:=ZJ hc
   go_enter Tryz.func136,Tryz.ntmps136;go_wp2_with (first | (go_at_call 194;refine (TC _ _).mono ?_;rintro e w' ⟨rfl,rfl⟩) | (go_at_call 195;refine (U4 _ _).mono ?_;rintro e w' ⟨rfl,rfl⟩))
   go_ret;exact ⟨Z5 ((zF s i).trans (As hb hc).symm),rfl⟩
  ·have hc':inB i 0 7=false:=by simpa using hc
   go_enter Tryz.func136,Tryz.ntmps136;go_wp2_with (first | (go_at_call 194;refine (TC _ _).mono ?_;rintro e w' ⟨rfl,rfl⟩) | (go_at_call 195;refine (U4 _ _).mono ?_;rintro e w' ⟨rfl,rfl⟩))
   go_ret;exact ⟨Z5 (ED (.inr hc')).symm,rfl⟩
 ·have hb':inB s 0 255=false:=by simpa using hb
  go_enter Tryz.func136,Tryz.ntmps136;go_wp2_with (first | (go_at_call 194;refine (TC _ _).mono ?_;rintro e w' ⟨rfl,rfl⟩) | (go_at_call 195;refine (U4 _ _).mono ?_;rintro e w' ⟨rfl,rfl⟩))
  go_ret;exact ⟨Z5 (ED (.inl hb')).symm,rfl⟩
section
variable {P : Program} {ops : Array Oper} {z : Oper} {Q : Exit → Act → World → Prop} {md : Region.Mode}
def Kx (P:Program) (full:Array Oper) (Q:Exit->Act->World->Prop) (n:Nat):Exit->Act->World->Prop
 | .normal,a,w=>wpOp P full Q n (fun a' w'=>Q .normal a' w') a w
 | e,a,w=>Q e a w
def Qk (md:Region.Mode) (ops:Array Oper) (z:Oper):Bool:=
 (List.range ops.size).all (fun i=>(ops[i]?).all fun o=>o.guard.isNone && o.after.all fun e=>decide (e.on<i)) && (List.range ops.size).all (fun i=>(z.after.any fun e=>Region.binds md e && decide (e.on=i)) || (List.range ops.size).any fun j=>decide (i<j) && (ops[j]?).any fun o=>o.after.any fun e=>Region.binds md e && decide (e.on=i)) && z.after.all fun e=>decide (e.on<ops.size)
theorem yp {Q':Exit->Act->World->Prop} (hq:∀ e a w,e ≠ .normal->Q' e a w->Q e a w) {o:Oper} {a:Act} {w:World} {K:Act->World->Prop} (h:o.wp P a w K Q'):o.wp P a w K Q:=by
 have hl:LetsOut Q'->LetsOut Q:=fun ⟨a,w,h⟩=>⟨a,w,hq _ _ _ (by simp) h⟩
 unfold Oper.wp at *;generalize (execOp a.eval o).run P w=r at *;cases r with
 | ok n w'=>
  cases n<;>simp only [Oper.upon] at h ⊢ <;>
   first
    | exact h
    | exact Calls.mono h (fun e w'' he=>by cases e<;>first | exact he | exact hq _ _ _ (by simp) he | exact hl he)
 | halt x w'=>
  cases x<;>simp only [Oper.upon] at h ⊢<;>first | exact h | exact hq _ _ _ (by simp) h | exact hl h
theorem OH (l:Array Bool) (d:Bool) (i:Nat):(l.push false).getD i d=if i=l.size then false else l.getD i d:=by
 simp only [Array.getD_eq_getD_getElem?,Array.getElem?_push]
 split<;>rfl
theorem ML (l:Array Bool) (hl:l.size=ops.size):Region.ready md (ops.push z) (l.push false)=Region.ready md ops l++(if (z.after.all fun e=> !Region.binds md e || l.getD e.on false)=true then [ops.size] else []):=by
 have hout:∀ j,(l.push false).getD j false=l.getD j false:=fun j=>by
  rw [OH]
  split
  ·rename_i h;subst h;simp
  ·rfl
 unfold Region.ready;rw [Array.size_push,List.range_succ,List.filter_append]
 congr 1
 ·refine List.filter_congr fun i hi=> ?_
  have hi:=List.mem_range.1 hi;rw [OH,if_neg (by omega),Array.getElem?_push,if_neg (by omega)];simp only [hout]
 ·simp only [List.filter_cons,List.filter_nil]
  rw [OH,if_pos hl.symm,Array.getElem?_push,if_pos rfl];simp only [hout,Bool.not_false,Bool.true_and,Option.map_some,Option.getD_some]
theorem AY (l:Array Bool) {i:Nat} (hi:i<l.size):(l.push false).setIfInBounds i true=(l.setIfInBounds i true).push false:=by
 apply Array.ext_getElem?;intro j;simp only [Array.getElem?_setIfInBounds,Array.getElem?_push,Array.size_push,Array.size_setIfInBounds];by_cases h1:i=j
 ·subst h1
  have h2:¬ i=l.size:=by omega
  have h3:i<l.size+1:=by omega
  simp [h2,h3,hi]
 ·simp [h1]
theorem Pa (h:Qk md ops z=true):(∀ (i:Nat) (o:Oper),ops[i]?=some o->o.guard=none/\ ∀ e ∈ o.after,e.on<i)/\(∀ i,i<ops.size->(∃ e ∈ z.after,Region.binds md e=true/\e.on=i)\/ ∃ (j:Nat) (o:Oper),i<j/\j<ops.size/\ops[j]?=some o/\ ∃ e ∈ o.after,Region.binds md e=true/\e.on=i)/\ ∀ e ∈ z.after,e.on<ops.size:=by
 unfold Qk at h;simp only [ZL,List.all_eq_true,List.mem_range] at h;obtain ⟨⟨h1,h2⟩,h3⟩:=h;refine ⟨fun i o ho=> ?_,fun i hi=> ?_,fun e he=> ?_⟩
 ·have hi:i<ops.size:=by
   rcases Nat.lt_or_ge i ops.size with h | h
   ·exact h
   ·rw [Array.getElem?_eq_none h] at ho;cases ho
  have:=h1 i hi;rw [ho] at this;simp only [Option.all_some,ZL,Option.isNone_iff_eq_none,Array.all_eq_true_iff_forall_mem,YZ] at this;exact this
 ·have:=h2 i hi
  rw [Bool.or_eq_true] at this
  rcases this with this | this
  ·obtain ⟨k,hk,h9⟩:=Array.any_eq_true.1 this
   simp only [ZL,YZ] at h9;exact .inl ⟨_,Array.getElem_mem hk,h9.1,h9.2⟩
  ·obtain ⟨j,hj,hja⟩:=List.any_eq_true.1 this
   have hj:=List.mem_range.1 hj;rw [ZL,YZ] at hja;have ho:ops[j]?=some ops[j]:=Array.getElem?_eq_getElem hj;have h8:=hja.2;rw [ho] at h8;obtain ⟨k,hk,h9⟩:=Array.any_eq_true.1 h8;simp only [ZL,YZ] at h9;exact .inr ⟨j,_,hja.1,hj,ho,_,Array.getElem_mem hk,h9.1,h9.2⟩
 ·simp only [Array.all_eq_true_iff_forall_mem,YZ] at h3
  exact h3 e he
theorem Da {l:Array Bool} {i:Nat} (hi:i<l.size) (h:l.getD i true=true):l.getD i false=true:=by
 simp only [Array.getD_eq_getD_getElem?,Array.getElem?_eq_getElem hi,Option.getD_some] at h ⊢;exact h
theorem Cv (hok:Qk md ops z=true) {l:Array Bool} (hl:l.size=ops.size) (hr:Region.ready md ops l=[]):∀ i,i<ops.size->l.getD i true=true:=by
 obtain ⟨h1,_,_⟩:=Pa hok;intro i
 induction i using Nat.strongRecOn with
 | _ i ih=>
  intro hi;cases hg:l.getD i true
  ·exfalso
   have ho:ops[i]?=some ops[i]:=Array.getElem?_eq_getElem hi;obtain ⟨_,ha⟩:=h1 i _ ho
   have hm:i ∈ Region.ready md ops l:=by
    unfold Region.ready;rw [List.mem_filter];refine ⟨List.mem_range.2 hi,?_⟩;rw [hg,ho];simp only [Bool.not_false,Bool.true_and,Option.map_some,Option.getD_some,Array.all_eq_true_iff_forall_mem];intro e he;have hlt:=ha e he;rw [Da (by omega) (ih e.on hlt (by omega)),Bool.or_true]
   rw [hr] at hm;exact List.not_mem_nil hm
  ·rfl
theorem EV {l:Array Bool} (h:∀ i,i<ops.size->l.getD i true=true):Region.ready md ops l=[]:=by
 unfold Region.ready;rw [List.filter_eq_nil_iff];intro i hi;rw [h i (List.mem_range.1 hi)];simp
theorem CX {l:Array Bool} {a:Act} {w:World} (hr:Region.ready md ops l=[]) (h:Q .normal a w):∀ fuel,wpAny P md ops Q fuel l a w
 | 0=>⟨hr,h⟩
 | _+1=>⟨fun _=>h,by rw [hr];simp⟩
def IK (md:Region.Mode) (ops:Array Oper) (l:Array Bool):Prop:= ∀ (i:Nat) (o:Oper),ops[i]?=some o->l.getD i false=true-> ∀ e ∈ o.after,Region.binds md e=true->l.getD e.on false=true
theorem DM (hok:Qk md ops z=true) {l:Array Bool} (hcl:IK md ops l) (hz:(z.after.all fun e=> !Region.binds md e || l.getD e.on false)=true):∀ d i,i+d+1=ops.size->l.getD i false=true:=by
 obtain ⟨_,k2,_⟩:=Pa hok;rw [Array.all_eq_true_iff_forall_mem] at hz;intro d
 induction d using Nat.strongRecOn with
 | _ d ih=>
  intro i hi
  rcases k2 i (by omega) with ⟨e,he,hb,rfl⟩ | ⟨j,o,hij,hj,ho,e,he,hb,rfl⟩
  ·have:=hz e he
   rw [hb] at this;simpa using this
  ·exact hcl j o ho (ih (ops.size-j-1) (by omega) j (by omega)) e he hb
theorem Bf (hok:Qk md ops z=true):∀ (fuel:Nat) (l:Array Bool) (a:Act) (w:World),l.size=ops.size->IK md ops l->wpAny P md ops (Kx P (ops.push z) Q ops.size) fuel l a w->wpAny P md (ops.push z) Q (fuel+1) (l.push false) a w:=by
 obtain ⟨k1,k2,k3⟩:=Pa hok
 have last:∀ (fuel:Nat) (l:Array Bool) (a:Act) (w:World),l.size=ops.size->Region.ready md ops l=[]->Kx P (ops.push z) Q ops.size .normal a w->wpAny P md (ops.push z) Q (fuel+1) (l.push false) a w:=by
  intro fuel l a w hl hr hq;have hall:=Cv hok hl hr
  have hz:(z.after.all fun e=> !Region.binds md e || l.getD e.on false)=true:=by
   rw [Array.all_eq_true_iff_forall_mem];intro e he;rw [Da (by have:=k3 e he;omega) (hall e.on (k3 e he)),Bool.or_true]
  have hrf:=ML (ops:=ops) (z:=z) (md:=md) l hl;rw [hr,if_pos hz,List.nil_append] at hrf;refine ⟨fun h0=>(by rw [hrf] at h0;cases h0),fun i hi=> ?_⟩;rw [hrf] at hi;obtain rfl:i=ops.size:=by simpa using hi
  refine wpOp_mono (fun a' w' h=>CX (EV fun j hj=> ?_) h fuel) hq;rw [Array.size_push] at hj;simp only [Array.getD_eq_getD_getElem?,Array.getElem?_setIfInBounds,Array.getElem?_push,Array.size_push];by_cases hj2:ops.size=j
  ·subst hj2
   simp [hl]
  ·have h9:=hall j (by omega)
   rw [Array.getD_eq_getD_getElem?] at h9;have h8:¬ j=l.size:=by omega
   simp only [hj2,h8,if_false];exact h9
 intro fuel
 induction fuel with
 | zero=>intro l a w hl hcl h;exact last 0 l a w hl h.1 h.2
 | succ fuel ih=>
  intro l a w hl hcl h;by_cases hr:Region.ready md ops l=[]
  ·exact last (fuel+1) l a w hl hr (h.1 hr)
  ·obtain ⟨j,hj⟩:=List.exists_mem_of_ne_nil _ hr
   have hjm:=hj;unfold Region.ready at hjm;rw [List.mem_filter] at hjm;have hjn:=List.mem_range.1 hjm.1
   have hjl:l.getD j true=false:=by
    have:=hjm.2;simp only [ZL,Bool.not_eq_true'] at this;exact this.1
   have hz:¬ (z.after.all fun e=> !Region.binds md e || l.getD e.on false)=true:=by
    intro hall;have:=DM hok hcl hall (ops.size-j-1) j (by omega);simp only [Array.getD_eq_getD_getElem?,Array.getElem?_eq_getElem (show j<l.size by omega),Option.getD_some] at this hjl;rw [this] at hjl;cases hjl
   have hrf:=ML (ops:=ops) (z:=z) (md:=md) l hl;rw [if_neg hz,List.append_nil] at hrf;refine ⟨fun h0=>(by rw [hrf] at h0;exact absurd h0 hr),fun i hi=> ?_⟩;rw [hrf] at hi
   have hin:i<ops.size:=by
    unfold Region.ready at hi;exact List.mem_range.1 (List.mem_filter.1 hi).1
   have hop:=h.2 i hi;have ho:ops[i]?=some ops[i]:=Array.getElem?_eq_getElem hin;have hof:(ops.push z)[i]?=some ops[i]:=by rw [Array.getElem?_push,if_neg (by omega)];exact ho
   have hg:=(k1 i _ ho).1;have w1:∀ (full:Array Oper),Region.wanted ops[i] (yielded full a.tmps)=true:=fun full=>by simp [Region.wanted,hg]
   have hq:∀ (e:Exit) (a:Act) (w:World),e ≠ .normal->Kx P (ops.push z) Q ops.size e a w->Q e a w:=fun e a w hne h=>by
    cases e<;>first | exact h | exact absurd rfl hne
   unfold wpOp at hop ⊢;simp only [ho,w1,if_true] at hop;simp only [hof,w1,if_true];rw [AY l (by omega)]
   have hcl2:IK md ops (l.setIfInBounds i true):=by
    have hmono:∀ x,l.getD x false=true->(l.setIfInBounds i true).getD x false=true:=fun x hx=>by
     simp only [Array.getD_eq_getD_getElem?,Array.getElem?_setIfInBounds] at hx ⊢;by_cases hxi:i=x
     ·subst hxi;simp [show i<l.size by omega]
     ·rw [if_neg hxi];exact hx
    intro x o' ho' hx e he hb;by_cases hxi:i=x
    ·subst hxi
     apply hmono;have hi9:=hi;unfold Region.ready at hi9;rw [List.mem_filter,ho'] at hi9;have:=hi9.2;simp only [ZL,Option.map_some,Option.getD_some,Array.all_eq_true_iff_forall_mem] at this;have h8:=this.2 e he;rw [hb] at h8;simpa using h8
    ·apply hmono
     refine hcl x o' ho' ?_ e he hb;simp only [Array.getD_eq_getD_getElem?,Array.getElem?_setIfInBounds,if_neg hxi] at hx ⊢;exact hx
   rcases hop with hop | ⟨has,a9,w9,hlo⟩
   ·exact .inl (yp hq (Oper.wp_mono (fun a' w' h9=>ih _ a' w' (by simpa using hl) hcl2 h9) hop))
   ·exact .inr ⟨has,a9,w9,hq _ _ _ (by simp) hlo⟩
theorem Nl {id:Nat} {a:Act} {w:World} {S:World->Prop} (hm:P.follows .mixedOrders=true) (hok:Qk .any ops z=true) (hS:S w.drew)
  (h:S w.drew->wpAnyH P .any ops (Kx P (ops.push z) Q ops.size) S ops.size (Array.replicate ops.size false) a w.drew):(Code.region id (ops.push z) true).wp P Q a w:=by
 refine wp_region_any hm ?_
 have h9:=Bf (Q:=Q) hok ops.size (Array.replicate ops.size false) a w.drew (by simp) (fun i o ho hx=>by
  simp only [Array.getD_eq_getD_getElem?,Array.getElem?_replicate] at hx
  split at hx<;>simp at hx) (wpAny_of_held _ _ _ _ (h hS))
 rw [Array.size_push];have hrep:(Array.replicate ops.size false).push false=Array.replicate (ops.size+1) false:=by simp [Array.replicate_succ]
 rw [hrep] at h9;exact h9
theorem ZK {full:Array Oper} {n:Nat} {o:Oper} {a:Act} {w:World} (ho:full[n]?=some o) (hg:o.guard=none) (h:o.wp P a w (fun a' w'=>Q .normal a' w') Q):Kx P full Q n .normal a w:=by
 show wpOp P full Q n _ a w;unfold wpOp;simp only [ho,show Region.wanted o (yielded full a.tmps)=true by simp [Region.wanted,hg],if_true];exact .inl h
theorem ZS {id:Nat} {full:List Oper} {a:Act} {w:World} {S:World->Prop} (hm:P.follows .mixedOrders=true) (hne:full ≠ []) (hok:Qk .any full.dropLast.toArray (full.getLast hne)=true) (hS:S w.drew)
  (h:S w.drew->wpAnyH P .any full.dropLast.toArray (Kx P full.toArray Q full.dropLast.length) S full.dropLast.length (Array.replicate full.dropLast.length false) a w.drew):(Code.region id full.toArray true).wp P Q a w:=by
 have e:full.toArray=full.dropLast.toArray.push (full.getLast hne):=by rw [List.push_toArray,List.dropLast_concat_getLast]
 rw [e];refine Nl hm hok hS ?_;rw [<-e];simpa using h
end
theorem rd {P:Program} {ops:Array Oper} {Q:Exit->Act->World->Prop} {md:Region.Mode} {S:World->Prop} (i:Nat) {o:Oper} {fuel:Nat} {listed:Array Bool} {a:Act} {w:World} (ho:ops[i]?=some o)
  (h:∀ K':Act->World->Prop,Shut (∀ a w,S w->(S w->wpAnyH P md ops Q S fuel (listed.setIfInBounds i true) a w)->K' a w)->if Region.wanted o (yielded ops a.tmps)=true then Oper.wp P o a w K' Q else K' (a.put o.dst undef) w)
  (hr:Region.ready md ops listed=[i]:=by kernel_rfl):wpAnyH P md ops Q S (fuel+1) listed a w:=wpAnyH_ready hr (by simp) (AllReadyH.cons ho h AllReadyH.nil)
theorem tk {P:Program} {ops:Array Oper} {Q:Exit->Act->World->Prop} {md:Region.Mode} {S:World->Prop} (i:Nat) {oi:Oper} {v:Value} {fuel:Nat} {listed:Array Bool} {a:Act} {w:World} (hi:ops[i]?=some oi) (hS:S w)
  (h:wpAnyH P md ops Q S fuel (listed.setIfInBounds i true) (a.put oi.dst v) w) (hw:Region.wanted oi (yielded ops a.tmps)=true:=by rfl) (hv:∀ w,S w->(execOp a.eval oi).run P w= .ok (.value v) w:=by intro W9 hSw;(try dsimp only at hSw);go_simp;(try with_reducible rfl)) (hs:Region.noSelect ops=true:=by kernel_rfl) (hf:Region.free md ops listed i=true:=by kernel_rfl) (hr:(Region.ready md ops listed).contains i=true:=by kernel_rfl)
  (hQ:∀ c a w,Q (.panic c) (a.put oi.dst v) w->Q (.panic c) a w:=by exact fun _ _ _ h=>h):wpAnyH P md ops Q S (fuel+1) listed a w:=wpAnyH_take hi hs hf hr hQ (Or.inl ⟨hw,hv⟩) hS h
theorem tq {P:Program} {ops:Array Oper} {Q:Exit->Act->World->Prop} {md:Region.Mode} {S:World->Prop} (i:Nat) {oi:Oper} {v:Value} {fuel:Nat} {listed:Array Bool} {a:Act} {w:World} (h:wpAnyH P md ops Q S fuel (listed.setIfInBounds i true) (a.put oi.dst v) w) (hi:ops[i]?=some oi:=by rfl) (hS:S w:=by assumption) (hw:Region.wanted oi (yielded ops a.tmps)=true:=by rfl) (hv:∀ w,S w->(execOp a.eval oi).run P w= .ok (.value v) w:=by intro W9 hSw;(try dsimp only at hSw);go_simp;(try with_reducible rfl)) (hs:Region.noSelect ops=true:=by kernel_rfl) (hf:Region.free md ops listed i=true:=by kernel_rfl) (hr:(Region.ready md ops listed).contains i=true:=by kernel_rfl)
  (hQ:∀ c a w,Q (.panic c) (a.put oi.dst v) w->Q (.panic c) a w:=by exact fun _ _ _ h=>h):wpAnyH P md ops Q S (fuel+1) listed a w:=tk i hi hS h hw hv hs hf hr hQ
theorem tp {P:Program} {ops:Array Oper} {Q:Exit->Act->World->Prop} {md:Region.Mode} {S:World->Prop} (i:Nat) {oi:Oper} {v:Value} {fuel:Nat} {listed:Array Bool} {a a':Act} {w:World} (h:wpAnyH P md ops Q S fuel (listed.setIfInBounds i true) a' w) (hi:ops[i]?=some oi:=by rfl) (hS:S w:=by assumption) (hw:Region.wanted oi (yielded ops a.tmps)=true:=by rfl) (hv:∀ w,S w->(execOp a.eval oi).run P w= .ok (.value v) w:=by intro W9 hSw;(try dsimp only at hSw);go_simp;(try with_reducible rfl)) (ha:a.put oi.dst v=a':=by (try simp only [Act.put,sA,sZ,sS]);rfl) (hs:Region.noSelect ops=true:=by kernel_rfl) (hf:Region.free md ops listed i=true:=by kernel_rfl) (hr:(Region.ready md ops listed).contains i=true:=by kernel_rfl)
  (hQ:∀ c a w,Q (.panic c) (a.put oi.dst v) w->Q (.panic c) a w:=by exact fun _ _ _ h=>h):wpAnyH P md ops Q S (fuel+1) listed a w:=tk i hi hS (ha ▸ h) hw hv hs hf hr hQ
theorem tz {P:Program} {ops:Array Oper} {Q:Exit->Act->World->Prop} {md:Region.Mode} {S:World->Prop} {i:Nat} {oi:Oper} {v:Value} {fuel:Nat} {listed:Array Bool} {a a':Act} {w:World} (h:wpAnyH P md ops Q S fuel (listed.setIfInBounds i true) a' w) (hx:ops.size-(fuel+1)=i:=by simp only [List.size_toArray,Y4,YQ,Nat.zero_add,Nat.reduceAdd,Nat.reduceSub];rfl) (hi:ops[i]?=some oi:=by rfl) (hS:S w:=by assumption) (hw:Region.wanted oi (yielded ops a.tmps)=true:=by rfl) (hv:∀ w,S w->(execOp a.eval oi).run P w= .ok (.value v) w:=by intro W9 hSw;(try dsimp only at hSw);go_simp;(try with_reducible rfl)) (ha:a.put oi.dst v=a':=by (try simp only [Act.put,sA,sZ,sS]);rfl) (hs:Region.noSelect ops=true:=by kernel_rfl) (hf:Region.free md ops listed i=true:=by kernel_rfl) (hr:(Region.ready md ops listed).contains i=true:=by kernel_rfl)
  (hQ:∀ c a w,Q (.panic c) (a.put oi.dst v) w->Q (.panic c) a w:=by exact fun _ _ _ h=>h):wpAnyH P md ops Q S (fuel+1) listed a w:=tk i hi hS (ha ▸ h) hw hv hs hf hr hQ
end Go.Proofs.YtamgfpdahadnfaaGreatDoor
namespace Go.Proofs.YtamgfpdahadnfaaGreatDoor
open Go.ChangeShapes Go.WideShapes Go.ChangeAt Go.RowKit
set_option linter.unusedVariables false
def Yj (a b c:Int):Int:=if inB a 0 1000000000 && inB b 0 1000000000 && inB c 1 1000000000 then a*b / c else -1
def Ps (x:Int):Nat->Int->Int
 | 0,u=>u
 | n+1,u=>Ps x n ((31*u+x) / 32)
def ZD (u x n:Int):Int:=if inB u 0 1024 && inB x 0 1024 && inB n 0 1000 then Ps x n.toNat u else -1
theorem C7 {u x:Int} (h1:0<=u) (h2:u<=1024) (h3:0<=x) (h4:x<=1024):0<=(31*u+x) / 32/\(31*u+x) / 32<=1024:=by omega
theorem F6 (x:Int) (h3:0<=x) (h4:x<=1024):∀ (n:Nat) (u:Int),0<=u->u<=1024->0<=Ps x n u/\Ps x n u<=1024
 | 0,u,h1,h2=>⟨h1,h2⟩
 | n+1,u,h1,h2=>F6 x h3 h4 n _ (C7 h1 h2 h3 h4).1 (C7 h1 h2 h3 h4).2
theorem LW (x:Int):∀ (n:Nat) (u:Int),Ps x (n+1) u=(31*Ps x n u+x) / 32
 | 0,u=>rfl
 | n+1,u=>LW x n _
theorem Ax {a b:Int} (a0:0<=a) (a1:a<=1000000000) (b0:0<=b) (b1:b<=1000000000):0<=a*b/\a*b<=1000000000000000000:=by
 refine ⟨Int.mul_nonneg a0 b0,?_⟩;have h:=Int.mul_le_mul a1 b1 b0 (by omega);omega
theorem Bp {P:Prop} (a b c lo hi l1 h1 l2 h2:Int)
  (k1:inB a lo hi=false->P) (k2:inB a lo hi=true->inB b l1 h1=false->P) (k3:inB a lo hi=true->inB b l1 h1=true->inB c l2 h2=false->P)
  (k4:inB a lo hi=true->inB b l1 h1=true->inB c l2 h2=true->P):P:=by
 cases ha:inB a lo hi
 ·exact k1 ha
 ·cases hb:inB b l1 h1
  ·exact k2 ha hb
  ·cases hc:inB c l2 h2
   ·exact k3 ha hb hc
   ·exact k4 ha hb hc
theorem TO (x:Int) (w:World):Calls Tryz.prog 105 #[.int .i64 x] w fun e w'=>e= .returned (.bool (inB x 0 1024))/\w'=w:=by
 go_enter Tryz.func105,Tryz.ntmps105;go_wp2_with (go_at_call 59;refine (ZU _ _ _ _).mono ?_;rintro e w' ⟨rfl,rfl⟩)
 go_ret;exact ⟨rfl,rfl⟩
theorem M0 (a b c:Int) (w:World):Calls Tryz.prog 302 #[.int .i64 a,.int .i64 b,.int .i64 c] w fun e w'=>e= .returned (.int .i64 (Yj a b c))/\w'=w:=by
 refine Bp a b c 0 1000000000 0 1000000000 1 1000000000 ?_ ?_ ?_ ?_
 ·intro ha
  have hv:Yj a b c= -1:=by simp [Yj,ha]
  rw [hv];clear hv;go_enter Tryz.func302,Tryz.ntmps302;go_wp2_with (first | (go_at_call 309;refine (Te _ _).mono ?_;rintro e w' ⟨rfl,rfl⟩) | (go_at_call 59;refine (ZU _ _ _ _).mono ?_;rintro e w' ⟨rfl,rfl⟩))
  go_ret;exact ⟨rfl,rfl⟩
 ·intro ha hb
  have hv:Yj a b c= -1:=by simp [Yj,hb]
  rw [hv];clear hv;go_enter Tryz.func302,Tryz.ntmps302;go_wp2_with (first | (go_at_call 309;refine (Te _ _).mono ?_;rintro e w' ⟨rfl,rfl⟩) | (go_at_call 59;refine (ZU _ _ _ _).mono ?_;rintro e w' ⟨rfl,rfl⟩))
  go_ret;exact ⟨rfl,rfl⟩
 ·intro ha hb hc
  have hv:Yj a b c= -1:=by simp [Yj,hc]
  rw [hv];clear hv;go_enter Tryz.func302,Tryz.ntmps302;go_wp2_with (first | (go_at_call 309;refine (Te _ _).mono ?_;rintro e w' ⟨rfl,rfl⟩) | (go_at_call 59;refine (ZU _ _ _ _).mono ?_;rintro e w' ⟨rfl,rfl⟩))
  go_ret;exact ⟨rfl,rfl⟩
 ·intro ha hb hc
  have hv:Yj a b c=a*b / c:=by simp [Yj,ha,hb,hc]
  rw [hv];clear hv;obtain ⟨a0,a1⟩:=ZJ ha;obtain ⟨b0,b1⟩:=ZJ hb;obtain ⟨c0,c1⟩:=ZJ hc;obtain ⟨m0,m1⟩:=Ax a0 a1 b0 b1;go_enter Tryz.func302,Tryz.ntmps302;go_wp2_with (first | (go_at_call 309;refine (Te _ _).mono ?_;rintro e w' ⟨rfl,rfl⟩) | (go_at_call 59;refine (ZU _ _ _ _).mono ?_;rintro e w' ⟨rfl,rfl⟩))
  go_ret;exact ⟨rfl,rfl⟩
theorem xu {p:Int->Bool} (a b:Int) : [a,b].all p=(p a && p b):=by simp
theorem xr {p:Int->Bool} (a:Int) : [a].all p=p a:=by simp
theorem xO (W:World) (a b:Int) (bk:Nat) (hb:bk=W.heap.size):∀ k,k < [a,b].length->(W.alloc (.cells #[.int .i64 a,.int .i64 b] 2)).cell? ⟨bk,k,none⟩=some (.int .i64 ([a,b].getD k 0)):=by
 intro k hk;rw [World.cell?_alloc_at _ _ _ _ hb]
 match k,hk with
 | 0,_=>rfl
 | 1,_=>rfl
theorem xN (W:World) (a:Int) (bk:Nat) (hb:bk=W.heap.size):∀ k,k < [a].length->(W.alloc (.cells #[.int .i64 a] 2)).cell? ⟨bk,k,none⟩=some (.int .i64 ([a].getD k 0)):=by
 intro k hk;rw [World.cell?_alloc_at _ _ _ _ hb]
 match k,hk with
 | 0,_=>rfl
theorem UM (a b:Int) (W:World) (bk:Nat) (hb:bk=W.heap.size):Calls Tryz.prog 312 #[.func (Fn.func 313) #[] #[],.slice (some ⟨bk,0,none⟩) 2 2] (W.alloc (.cells #[.int .i64 a,.int .i64 b] 2))
  fun e w'=>e= .returned (.bool (inB a 0 1000000000 && inB b 0 1000000000))/\w'=W.alloc (.cells #[.int .i64 a,.int .i64 b] 2):=by
 have h:=Nu bk 2 [a,b] (W.alloc (.cells #[.int .i64 a,.int .i64 b] 2)) (by simp) (xO W a b bk hb);rw [xu] at h;exact h
theorem Qt (a:Int) (W:World) (bk:Nat) (hb:bk=W.heap.size):Calls Tryz.prog 312 #[.func (Fn.func 314) #[] #[],.slice (some ⟨bk,0,none⟩) 1 1] (W.alloc (.cells #[.int .i64 a] 2))
  fun e w'=>e= .returned (.bool (inB a 1 1000000000))/\w'=W.alloc (.cells #[.int .i64 a] 2):=by
 have h:=Ox bk 1 [a] (W.alloc (.cells #[.int .i64 a] 2)) (by simp) (xN W a bk hb);rw [xr] at h;exact h
theorem Mh (a b c:Int) (w:World):Calls Tryz.prog 310 #[.int .i64 a,.int .i64 b,.int .i64 c] w fun e w'=>e= .returned (.int .i64 (Yj a b c))/\Below w.heap.size w w':=by
 refine Bp a b c 0 1000000000 0 1000000000 1 1000000000 ?_ ?_ ?_ ?_
 ·intro ha
  have hv:Yj a b c= -1:=by simp [Yj,ha]
  rw [hv];clear hv;go_enter Tryz.func310,Tryz.ntmps310;go_wp2_with fail;refine (UM a b _ _ rfl).mono ?_;rintro e w' ⟨rfl,rfl⟩;go_wp2_with fail;go_ret;exact ⟨rfl,(ba _ _)⟩
 ·intro ha hb
  have hv:Yj a b c= -1:=by simp [Yj,hb]
  rw [hv];clear hv;go_enter Tryz.func310,Tryz.ntmps310;go_wp2_with fail;refine (UM a b _ _ rfl).mono ?_;rintro e w' ⟨rfl,rfl⟩;go_wp2_with fail;go_ret;exact ⟨rfl,(ba _ _)⟩
 ·intro ha hb hc
  have hv:Yj a b c= -1:=by simp [Yj,hc]
  rw [hv];clear hv;go_enter Tryz.func310,Tryz.ntmps310;go_wp2_with fail;refine (UM a b _ _ rfl).mono ?_;rintro e w' ⟨rfl,rfl⟩;go_wp2_with fail;refine (Qt c _ _ (by simp)).mono ?_;rintro e w' ⟨rfl,rfl⟩;go_wp2_with fail;go_ret;exact ⟨rfl,((ba _ _)).alloc (by simp) _⟩
 ·intro ha hb hc
  have hv:Yj a b c=a*b / c:=by simp [Yj,ha,hb,hc]
  rw [hv];clear hv;obtain ⟨a0,a1⟩:=ZJ ha;obtain ⟨b0,b1⟩:=ZJ hb;obtain ⟨c0,c1⟩:=ZJ hc;obtain ⟨m0,m1⟩:=Ax a0 a1 b0 b1;go_enter Tryz.func310,Tryz.ntmps310;go_wp2_with fail;refine (UM a b _ _ rfl).mono ?_;rintro e w' ⟨rfl,rfl⟩;go_wp2_with fail;refine (Qt c _ _ (by simp)).mono ?_;rintro e w' ⟨rfl,rfl⟩;go_wp2_with fail;go_ret;exact ⟨rfl,((ba _ _)).alloc (by simp) _⟩
def UN (s:Int):Nat->List Int
 | 0=>[]
 | k+1=>if UU s k=true then UN s k++[(k:Int)] else UN s k
def SA (s:Int):List Int:=UN s 8
def VD (s:Int):Int:=(SA s).headD (-1)
theorem RS {s:Int} {k:Nat} (h:UU s k=true):UN s (k+1)=UN s k++[(k:Int)]:=by simp [UN,h]
theorem Uz {s:Int} {k:Nat} (h:UU s k=false):UN s (k+1)=UN s k:=by simp [UN,h]
theorem Iz (s:Int):∀ k,(UN s k).length<=k
 | 0=>by simp [UN]
 | k+1=>by
  have:=Iz s k;cases h:UU s k
  ·rw [Uz h];omega
  ·rw [RS h];simp;omega
theorem KE {s:Int} (h:inB s 0 255=false):∀ k,UN s k=[]
 | 0=>rfl
 | k+1=>by rw [Uz (ED (.inl h))];exact KE h k
theorem Bk (s:Int):∀ k,k<=8->UN s k <+: SA s:=by
 have step:∀ k,UN s k <+: UN s (k+1):=fun k=>by
  cases h:UU s k
  ·rw [Uz h];exact List.prefix_refl _
  ·rw [RS h];exact List.prefix_append _ _
 have go:∀ d k,UN s k <+: UN s (k+d):=by
  intro d
  induction d with
  | zero=>intro k;exact List.prefix_refl _
  | succ d ih=>intro k;exact (ih k).trans (step (k+d))
 intro k hk;have:=go (8-k) k
 rwa [show k+(8-k)=8 by omega] at this
open Go.ChangeShapes Go.WideShapes Go.ChangeAt Go.RowKit Go.Shelf
attribute [local go_sem] Oper.semAt_some
def KeepsBox (Bn:Nat) (t:TypeId) (W W':World):Prop:= ∀ v,Boxed W Bn t v->Boxed W' Bn t v
theorem KeepsBox.trans {Bn:Nat} {t:TypeId} {A B C:World} (h:KeepsBox Bn t A B) (k:KeepsBox Bn t B C):KeepsBox Bn t A C:=fun v hv=>k v (h v hv)
theorem KeepsBox.putObj {Bn:Nat} {t:TypeId} {n:Nat} (h:Bn<n) (W:World) (l:Nat) (o o':Obj) (hl:n<=l) (_:W.heap[l]?=some o) (_:o.isCells=false) (_:o.isWalk=false):KeepsBox Bn t W (W.putObj l o'):=
 fun v hv=>hv.kept (grownBy_putObj' W l o') (fun e=>by cases e;omega)
theorem GG (n:Nat) (hn:1<=n) (l Bn:Nat) (s:Int) (J Jx:List Int->World->Prop)
  (hY:∀ pre x W,J pre W->pre.length<8->YieldAt Fence.wide (n-1) Tryz.prog l #[.int .i64 x] W fun e W'=>
   (e= .returned (.bool true)/\J (pre++[x]) W'/\KeepsBox Bn 2 W W')\/(e= .returned (.bool false)/\Jx (pre++[x]) W'))
  (W:World) (hBn:Boxed W Bn 2 (.int .i64 s)) (h0:J [] W) :
  CallsIn Fence.wide n Tryz.prog 267 #[.func (.yield l) #[] #[],.pointer (some ⟨Bn,0,none⟩)] W fun e W'=>(∃ v,e= .returned v)/\
   ((∃ ys,ys=SA s/\J ys W')\/(∃ pre,pre <+: SA s/\Jx pre W')):=by
 refine callsIn_of_wp Tryz.func267 rfl trivial ?_ rfl;simp only [Tryz.ntmps267,List.size_toArray,Y4,YQ,Nat.reduceAdd,Nat.reduceSub,Array.replicate_succ,Array.replicate_zero,List.push_toArray,List.append_toArray,List.nil_append,List.cons_append]
 gi_wp2
 gi_loopw [4] (fun i wr=> ∃ k:Nat,k<=8/\i= .int .i64 k/\Boxed wr Bn 2 (.int .i64 s)/\J (UN s k) wr)
  (fun i wr=>8-(intOf i).toNat)
 case atStart=>exact ⟨0,by omega,rfl,hBn,h0⟩
 case round=>
  obtain ⟨k,hk,rfl,hbx,hJ⟩:=hrel;have hul:=Iz s k;have hc:=hbx.cell;have Hb:=Z9 hbx;clear hbx;by_cases hlt:(k:Int)<8
  ·cases hm:UU s k
   ·gi_wp2_with (refine ⟨trivial,?_⟩;gi_at_call 136;refine (callsIn_wide.2 (Vf _ _ _)).mono ?_;rintro e w' ⟨rfl,rfl⟩)
    refine ⟨fun _ h=>(by cases h),?_⟩
    gi_wp2
    go_roundw
    case rel=>exact ⟨k+1,by omega,by go_num,uh Hb,by rw [Uz hm];exact hJ⟩
    case measure=>exact ms
   ·obtain ⟨fn,tmps,assign,body,hy,hR⟩:=hY (UN s k) k wr hJ (by omega)
    gi_wp2_with (refine ⟨trivial,?_⟩;gi_at_call 136;refine (callsIn_wide.2 (Vf _ _ _)).mono ?_;rintro e w' ⟨rfl,rfl⟩)
    refine hR.mono ?_;rintro e W3 (⟨rfl,hJ3,hk3⟩ | ⟨rfl,hJx3⟩)
    ·gi_wp2
     go_roundw
     case rel=>exact ⟨k+1,by omega,by go_num,hk3 _ (uh Hb),by rw [RS hm];exact hJ3⟩
     case measure=>exact ms
    ·gi_wp2
     refine ZQ (results_none rfl _ _ _) rfl ?_;exact ⟨⟨_,rfl⟩,.inr ⟨UN s k++[(k:Int)],by rw [<-RS hm];exact Bk s (k+1) (by omega),hJx3⟩⟩
  ·obtain rfl:k=8:=by omega
   gi_wp2
   go_end0
   exact ⟨⟨_,rfl⟩,.inl hJ⟩
theorem Sz (n:Nat) (s:Int) (w:World) :
  CallsIn Fence.wide n Tryz.prog 238 #[.int .i64 s] w fun e w'=>e= .returned (.func (.func 267) #[] #[.pointer (some ⟨w.heap.size,0,none⟩)])/\w'=w.alloc (.cells #[.int .i64 s] 2):=by
 refine callsIn_of_wp Tryz.func238 rfl trivial ?_ rfl;simp only [Tryz.ntmps238,List.size_toArray,Y4,YQ,Nat.reduceAdd,Nat.reduceSub,Array.replicate_succ,Array.replicate_zero,List.push_toArray,List.append_toArray,List.nil_append,List.cons_append]
 gi_wp2
 go_ret;exact ⟨rfl,rfl⟩
theorem TF (n:Nat) (hn:1<=n) (Bn:Nat) (s:Int) (w:World) (hBn:Boxed w Bn 2 (.int .i64 s)) :
  SeqStopsK Fence.wide n Tryz.prog 267 #[.pointer (some ⟨Bn,0,none⟩)] (fun x:Int=>#[Value.int .i64 x]) (KeepsBox Bn 2) (fun ys=>ys=SA s) (fun pre=>pre <+: SA s) 8 w:=fun l J Jx W hW _ _ hY h0=>
 GG n hn l Bn s J Jx hY W ((hW.block Bn hBn.lt).trans hBn) h0
theorem Md (n:Nat) (hn:3<=n) (s:Int) (w:World) :
  CallsIn Fence.wide n Tryz.prog 193 #[.int .i64 s] w fun e w'=>e= .returned (.int .i64 (VD s))/\Below w.heap.size w w':=by
 have h1:1<=n:=by omega
 refine callsIn_of_wp_marks Tryz.func193 rfl trivial ?_ rfl;simp only [Tryz.ntmps193,List.size_toArray,Y4,YQ,Nat.reduceAdd,Nat.reduceSub,Array.replicate_succ,Array.replicate_zero,List.push_toArray,List.append_toArray,List.nil_append,List.cons_append]
 gi_wp2_with (refine ⟨trivial,?_⟩;gi_at_call 238;refine (Sz (n-1) _ _).mono ?_;rintro e w' ⟨rfl,rfl⟩)
 have bR:=Boxed.new w 2 (.int .i64 0);have bN:=Boxed.new (w.alloc (.cells #[.int .i64 0] 2)) 2 (.int .i64 s);simp only [Y8] at bN;have hB0:Below w.heap.size w ((w.alloc (.cells #[.int .i64 0] 2)).alloc (.cells #[.int .i64 s] 2)):=((Z1 _ w).alloc (Z2 _) _).alloc (by simp) _
 refine wpIn_rangeFunc_ownG rfl h1 (gf:=267) (lb:=#[.pointer (some ⟨w.heap.size+1,0,none⟩)]) rfl trivial (enters_of Tryz.func267 (by kernel_rfl) rfl)
  (TF (n-1) (by omega) (w.heap.size+1) s _ bN) (fun h k=>h.trans k) (KeepsBox.putObj (by simp)) (Z1 _ _) (fun _=>rfl)
  (fun pre W=>(pre=[]/\Boxed W w.heap.size 2 (.int .i64 0))/\Below w.heap.size w W)
  (fun c pre W=>(c= .ret/\ ∃ x,pre=[x]/\Boxed W w.heap.size 2 (.int .i64 x))/\Below w.heap.size w W)
  (OwnFrom.and (Own.from (fun s A B row hs hg hr=>⟨hs.1,hs.2.kept hg (fun e=>by obtain ⟨o,ho,hc⟩:=hr _ e.symm;rw [show A.heap[w.heap.size]?=_ from hs.2] at ho;cases ho;cases hc)⟩) _) (ownFrom_below (Z2 _) (by simp;omega)))
  (fun c=>OwnFrom.and (Own.from (fun s A B row hs hg hr=>by obtain ⟨e1,x,e2,hb⟩:=hs;exact ⟨e1,x,e2,hb.kept hg (fun e=>by obtain ⟨o,ho,hc⟩:=hr _ e.symm;rw [show A.heap[w.heap.size]?=_ from hb] at ho;cases ho;cases hc)⟩) _) (ownFrom_below (Z2 _) (by simp;omega)))
  ⟨⟨rfl,bR.alloc _⟩,hB0⟩
  (fun x=>{ tmps:=#[.int .i64 s,undef,.pointer (some ⟨w.heap.size,0,none⟩),.int .i64 x,.int .i64 s,.func (.func 267) #[] #[.pointer (some ⟨w.heap.size+1,0,none⟩)],.int .i64 x,undef],defers:=[] }) ?assign ?body ?done ?stop
 case assign=>
  intro l x W K hK
  gi_wp2
  exact hK
 case body=>
  rintro l pre x W ⟨⟨rfl,hb⟩,hB⟩ _;have hc:=hb.cell;have hf:=hb.frozen
  gi_wp2
  exact ⟨(KeepsOthers.setCell _ _ _).from _,⟨rfl,x,rfl,hb.set _⟩,hB.setCell (p:=⟨w.heap.size,0,none⟩) (Z2 _) _⟩
 case done=>
  rintro D ys W hD hys ⟨⟨hp,hb⟩,hB⟩ hK;have hc:=hb.cell;have hf:=hb.frozen
  gi_wp2
  have hK':=(KeepsOthers.setCell W ⟨w.heap.size,0,none⟩ (.int .i64 (-1))).same D _ hK rfl;refine ⟨by simp,.inl ⟨_,_,rfl,run_takeDeferred hK',?_⟩⟩;have hc5:=cell_kept (hb.set (.int .i64 (-1))).cell (grownBy_putObj' _ D (.deferred none)) (fun r e=>by cases e;exact ⟨_,hK',rfl⟩);have hm:SA s=[]:=hys.symm.trans hp;refine ⟨.int .i64 (-1),?_,ZA (by unfold VD;rw [hm];rfl),(hB.setCell (p:=⟨w.heap.size,0,none⟩) (Z2 _) _).trans (belowK_b (w:=w) (Z2 _) _ D _ _ (by simp at hD;omega) hK' rfl rfl)⟩;simp [results,Tryz.f193,go_sem,hc5]
 case stop=>
  rintro D c pre W hD hpre ⟨⟨rfl,x,rfl,hb⟩,hB⟩ hK
  gi_wp2
  refine ⟨by simp,.inl ⟨_,_,rfl,run_takeDeferred hK,?_⟩⟩;have hc5:=cell_kept hb.cell (grownBy_putObj' _ D (.deferred none)) (fun r e=>by cases e;exact ⟨_,hK,rfl⟩);have hx:VD s=x:=by obtain ⟨r,hr⟩:=hpre;unfold VD;rw [<-hr];rfl
  refine ⟨.int .i64 x,?_,ZA hx.symm,hB.trans (belowK_b (w:=w) (Z2 _) W D _ _ (by simp at hD;omega) hK rfl rfl)⟩;simp [results,Tryz.f193,go_sem,hc5]
theorem NF (s:Int) (w:World):Calls Tryz.prog 193 #[.int .i64 s] w fun e w'=>e= .returned (.int .i64 (VD s))/\Below w.heap.size w w':=
 callsIn_wide.1 (Md 3 (Z2 _) s w)
end Go.Proofs.YtamgfpdahadnfaaGreatDoor
namespace Go.Proofs.YtamgfpdahadnfaaGreatDoor
open Go.ChangeShapes Go.WideShapes Go.ChangeAt Go.RowKit
set_option linter.unusedVariables false
theorem TV (u x n:Int) (w:World):Calls Tryz.prog 280 #[.int .i64 u,.int .i64 x,.int .i64 n] w fun e w'=>e= .returned (.int .i64 (ZD u x n))/\w'=w:=by
 refine Bp u x n 0 1024 0 1024 0 1000 ?_ ?_ ?_ ?_
 ·intro ha
  have hv:ZD u x n= -1:=by simp [ZD,ha]
  rw [hv];clear hv;go_enter Tryz.func280,Tryz.ntmps280;go_wp2_with (first | (go_at_call 105;refine (TO _ _).mono ?_;rintro e w' ⟨rfl,rfl⟩) | (go_at_call 59;refine (ZU _ _ _ _).mono ?_;rintro e w' ⟨rfl,rfl⟩))
  go_ret;exact ⟨rfl,rfl⟩
 ·intro ha hb
  have hv:ZD u x n= -1:=by simp [ZD,hb]
  rw [hv];clear hv;go_enter Tryz.func280,Tryz.ntmps280;go_wp2_with (first | (go_at_call 105;refine (TO _ _).mono ?_;rintro e w' ⟨rfl,rfl⟩) | (go_at_call 59;refine (ZU _ _ _ _).mono ?_;rintro e w' ⟨rfl,rfl⟩))
  go_ret;exact ⟨rfl,rfl⟩
 ·intro ha hb hc
  have hv:ZD u x n= -1:=by simp [ZD,hc]
  rw [hv];clear hv;go_enter Tryz.func280,Tryz.ntmps280;go_wp2_with (first | (go_at_call 105;refine (TO _ _).mono ?_;rintro e w' ⟨rfl,rfl⟩) | (go_at_call 59;refine (ZU _ _ _ _).mono ?_;rintro e w' ⟨rfl,rfl⟩))
  go_ret;exact ⟨rfl,rfl⟩
 ·intro ha hb hc
  have hv:ZD u x n=Ps x n.toNat u:=by simp [ZD,ha,hb,hc]
  rw [hv];clear hv;obtain ⟨a0,a1⟩:=ZJ ha;obtain ⟨b0,b1⟩:=ZJ hb;obtain ⟨c0,c1⟩:=ZJ hc;obtain ⟨m,rfl⟩:=Int.eq_ofNat_of_zero_le c0;rw [Zy];go_enter Tryz.func280,Tryz.ntmps280;go_wp2_with (first | (go_at_call 105;refine (TO _ _).mono ?_;rintro e w' ⟨rfl,rfl⟩) | (go_at_call 59;refine (ZU _ _ _ _).mono ?_;rintro e w' ⟨rfl,rfl⟩))
  go_loop [0,2] (fun s i=> ∃ k:Nat,k<=m/\i= .int .i64 ((m:Int)-k)/\s= .int .i64 (Ps x k u)) (fun _ i=>(intOf i).toNat)
  case atStart=>exact ⟨0,Zz _,by simp,rfl⟩
  case round=>
   obtain ⟨k,hk,rfl,rfl⟩:=hrel;obtain ⟨f1,f2⟩:=F6 x b0 b1 k u a0 a1;have Hs:=Z9 (LW x k u);generalize hz:Ps x k u=z at *;have Hz:=Z9 hz;clear hz;by_cases hlt:k<m
   ·go_wp2_with fail
    go_round
    case rel=>exact ⟨k+1,by omega,by go_num,by rw [uh Hs]⟩
    case measure=>exact ms
   ·go_wp2_with fail
    go_ret;exact ⟨ZA (by rw [<-uh Hz,show k=m from by omega]),rfl⟩
end Go.Proofs.YtamgfpdahadnfaaGreatDoor
namespace Go.Proofs.YtamgfpdahadnfaaGreatDoor.Draw
open Go.ChangeShapes Go.WideShapes Go.ChangeAt Go.RowKit
set_option linter.unusedVariables false
theorem Z9 {p:Prop} (h:p):Hid p:=h
theorem uh {p:Prop} (h:Hid p):p:=h
theorem ZA {k:IntKind} {a b:Int} (h:a=b):Ending.returned (.int k a)= .returned (.int k b):=by rw [h]
theorem Sn (n:Int):bits .and .i64 n 255=n%256:=by
 have h127:(BitVec.ofInt 64 255).toNat=2 ^ 8-1:=by decide
 have key:(BitVec.ofInt 64 n &&& BitVec.ofInt 64 255).toNat=(n%((2 ^ 64:Nat):Int)).toNat%2 ^ 8:=by
  rw [BitVec.toNat_and,BitVec.toNat_ofInt,h127,Nat.and_two_pow_sub_one_eq_mod]
 show IntKind.i64.wrap ((BitVec.ofInt 64 n &&& BitVec.ofInt 64 255).toNat:Nat)=n%256;rw [key,IntKind.wrap_i64];omega
structure Off (bc:Nat) (w w':World):Prop where
 os:w'.os=w.os
 tape:w'.tape=w.tape
 output:w'.output=w.output
 size:w.heap.size<=w'.heap.size
 block:∀ k,k<w.heap.size->k ≠ bc->w'.heap[k]?=w.heap[k]?
theorem Off.refl (bc:Nat) (w:World):Off bc w w:=⟨rfl,rfl,rfl,Z2 _,fun _ _ _=>rfl⟩
theorem Off.trans {bc:Nat} {a b c:World} (h:Off bc a b) (k:Off bc b c):Off bc a c:=
 ⟨k.os.trans h.os,k.tape.trans h.tape,k.output.trans h.output,XA h.size k.size,fun i hi hn=>(k.block i (Zd hi h.size) hn).trans (h.block i hi hn)⟩
theorem Off.drewN {bc:Nat} {a w:World} (h:Off bc a w) (n:Nat):Off bc a (w.drewN n):=⟨h.os,h.tape,h.output,h.size,h.block⟩
theorem Off.alloc {bc:Nat} {a w:World} (h:Off bc a w) (o:Obj):Off bc a (w.alloc o):=
 h.trans ⟨rfl,rfl,rfl,by simp,fun k hk _=>Below.heap_alloc w o k hk⟩
theorem Off.setCell {bc:Nat} {a w:World} (h:Off bc a w) (o:Nat) (v:Value):Off bc a (w.setCell ⟨bc,o,none⟩ v):=
 h.trans ⟨rfl,rfl,rfl,by simp,fun k hk hn=>Below.heap_setCell w ⟨bc,o,none⟩ v k hn⟩
theorem Off.below {bc:Nat} {a w:World} (h:Off bc a w) {B:Nat} (hB:B<=bc) (hs:B<=a.heap.size):Below B a w:=
 ⟨h.os,h.tape,h.output,h.size,fun k hk=>h.block k (Zd hk hs) (by omega)⟩
theorem Off.cell {bc:Nat} {w w':World} (h:Off bc w w') {p:Addr} (hp:p.block<w.heap.size) (hn:p.block ≠ bc):w'.cell? p=w.cell? p:=
 World.cell?_of_block (w:=w) (h.block p.block hp hn)
theorem N8 (w:World) (o:Nat):w.frozen? ⟨w.heap.size,o,none⟩=false:=by simp [World.frozen?]
def Row (B:Nat) (w:World) (a:Option Addr) (len:Nat):Prop:=
 len<=4096/\(len=0\/ ∃ b off,a=some ⟨b,off,none⟩/\b<B/\ ∀ i,i<len-> ∃ n:Int,0<=n/\n<=255/\w.cell? ⟨b,off+i,none⟩=some (.int .u8 n))
def Cur (a:Option Addr) (len cap bc:Nat) (w:World):Prop:=
 bc<w.heap.size/\ ∃ i h:Int,0<=i/\i<=4096/\w.cell? ⟨bc,0,none⟩=some (.slice a len cap)/\w.cell? ⟨bc,1,none⟩=some (.int .i64 i)/\w.cell? ⟨bc,2,none⟩=some (.int .i64 h)
  /\w.frozen? ⟨bc,1,none⟩=false/\w.frozen? ⟨bc,2,none⟩=false
structure St (a:Option Addr) (len cap bc:Nat) (w:World):Prop where
 cur:Cur a len cap bc w
 row:Row bc w a len
theorem Row.off {bc:Nat} {w w':World} {a:Option Addr} {len:Nat} (h:Row bc w a len) (ho:Off bc w w') (hb:bc<=w.heap.size):Row bc w' a len:=by
 refine ⟨h.1,?_⟩
 rcases h.2 with h0 | ⟨b,off,ha,hlt,hc⟩
 ·exact .inl h0
 ·refine .inr ⟨b,off,ha,hlt,fun i hi=> ?_⟩
  obtain ⟨n,n0,n1,hn⟩:=hc i hi;exact ⟨n,n0,n1,by rw [ho.cell (p:=⟨b,off+i,none⟩) (Nat.lt_of_lt_of_le hlt hb) (Nat.ne_of_lt hlt)];exact hn⟩
theorem St.drewN {a:Option Addr} {len cap bc:Nat} {w:World} (h:St a len cap bc w) (n:Nat):St a len cap bc (w.drewN n):=⟨h.cur,h.row⟩
theorem St.alloc {a:Option Addr} {len cap bc:Nat} {w:World} (h:St a len cap bc w) (o:Obj):St a len cap bc (w.alloc o):=by
 obtain ⟨⟨hb,i,x,h0,h1,c0,c1,c2,f1,f2⟩,hr⟩:=h;have hne:∀ o,(⟨bc,o,none⟩:Addr).block ≠ w.heap.size:=fun _=>UZ hb;refine ⟨⟨by simp;omega,i,x,h0,h1,?_,?_,?_,?_,?_⟩,hr.off ((Off.refl _ _).alloc o) (Nat.le_of_lt hb)⟩
 ·rw [World.cell?_alloc_old _ _ _ (hne 0)];exact c0
 ·rw [World.cell?_alloc_old _ _ _ (hne 1)];exact c1
 ·rw [World.cell?_alloc_old _ _ _ (hne 2)];exact c2
 ·rw [World.frozen?_alloc_old _ _ _ (hne 1)];exact f1
 ·rw [World.frozen?_alloc_old _ _ _ (hne 2)];exact f2
theorem St.setH {a:Option Addr} {len cap bc:Nat} {w:World} (h:St a len cap bc w) (x:Int):St a len cap bc (w.setCell ⟨bc,2,none⟩ (.int .i64 x)):=by
 obtain ⟨⟨hb,i,y,h0,h1,c0,c1,c2,f1,f2⟩,hr⟩:=h;refine ⟨⟨by simpa using hb,i,x,h0,h1,?_,?_,?_,?_,?_⟩,hr.off ((Off.refl _ _).setCell 2 _) (Nat.le_of_lt hb)⟩
 ·rw [World.cell?_setCell_other _ _ _ _ (by simp)];exact c0
 ·rw [World.cell?_setCell_other _ _ _ _ (by simp)];exact c1
 ·exact World.cell?_setCell_same _ _ _ c2
 ·rw [World.frozen?_setCell];exact f1
 ·rw [World.frozen?_setCell];exact f2
theorem St.setI {a:Option Addr} {len cap bc:Nat} {w:World} (h:St a len cap bc w) (x:Int) (x0:0<=x) (x1:x<=4096):St a len cap bc (w.setCell ⟨bc,1,none⟩ (.int .i64 x)):=by
 obtain ⟨⟨hb,i,y,h0,h1,c0,c1,c2,f1,f2⟩,hr⟩:=h;refine ⟨⟨by simpa using hb,x,y,x0,x1,?_,?_,?_,?_,?_⟩,hr.off ((Off.refl _ _).setCell 1 _) (Nat.le_of_lt hb)⟩
 ·rw [World.cell?_setCell_other _ _ _ _ (by simp)];exact c0
 ·exact World.cell?_setCell_same _ _ _ c1
 ·rw [World.cell?_setCell_other _ _ _ _ (by simp)];exact c2
 ·rw [World.frozen?_setCell];exact f1
 ·rw [World.frozen?_setCell];exact f2
theorem Rc (a:Option Addr) (len cap bc:Nat) (w:World) (hs:St a len cap bc w) :
  Calls Tryz.prog 91 #[.pointer (some ⟨bc,0,none⟩)] w fun e w'=> ∃ x:Int,e= .returned (.int .i64 x)/\0<=x/\x<=255/\St a len cap bc w'/\Off bc w w':=by
 have Hs:=Z9 hs;obtain ⟨⟨hb,i,h,h0,h1,c0,c1,c2,f1,f2⟩,hl,hr⟩:=hs;by_cases hge:i<(len:Int)
 ·have Hr:=Z9 hr
  rcases hr with hr | ⟨b,off,rfl,hlt,hc⟩
  ·omega
  obtain ⟨k,rfl⟩:=Int.eq_ofNat_of_zero_le h0;obtain ⟨n,n0,n1,hn⟩:=hc k (by omega);have hneb:b ≠ bc:=UZ hlt;clear hc Hr;go_enter Tryz.func91,Tryz.ntmps91;go_wp2_with fail;go_quiet (fail);go_wp2_with fail;go_quiet (fail);go_wp2_with fail;go_quiet (fail);go_wp2_with fail;go_ret;refine ⟨_,rfl,?_,?_,(((uh Hs).setH _).drewN _).setI _ (by omega) (by omega),(((Off.refl _ _).setCell 2 _).drewN _).setCell 1 _⟩
  ·rw [Sn];omega
  ·rw [Sn];omega
 ·go_enter Tryz.func91,Tryz.ntmps91
  go_wp2_with fail;go_quiet (fail);go_wp2_with fail;go_quiet (fail);go_wp2_with fail;go_ret;refine ⟨_,rfl,?_,?_,(((uh Hs).setH _).drewN _).drewN _,(((Off.refl _ _).setCell 2 _).drewN _).drewN _⟩
  ·rw [Sn];omega
  ·rw [Sn];omega
theorem below_any (a:Option Addr) (len cap bc:Nat) (n:Int) (hn:0<n) (hm:n<=4611686018427387904) (w:World) (hs:St a len cap bc w) :
  Calls Tryz.prog 41 #[.pointer (some ⟨bc,0,none⟩),.int .i64 n] w fun e w'=> ∃ x:Int,e= .returned (.int .i64 x)/\0<=x/\x<n/\St a len cap bc w'/\Off bc w w':=by
 have Hs:=Z9 hs;clear hs;by_cases h256:n<=256
 ·go_enter Tryz.func41,Tryz.ntmps41
  go_wp2_with fail;refine (Rc a len cap bc _ (uh Hs)).mono ?_;rintro e w1 ⟨x,rfl,x0,x1,s1,o1⟩;have Hs1:=Z9 s1;have Ho1:=Z9 o1;clear s1 o1;go_wp2_with fail;go_ret;exact ⟨_,rfl,Int.emod_nonneg _ (by omega),Int.emod_lt_of_pos _ hn,uh Hs1,uh Ho1⟩
 ·go_enter Tryz.func41,Tryz.ntmps41
  go_wp2_with fail;refine (Rc a len cap bc _ (uh Hs)).mono ?_;rintro e w1 ⟨x,rfl,x0,x1,s1,o1⟩;have Hs1:=Z9 s1;have Ho1:=Z9 o1;clear s1 o1;go_wp2_with fail;refine (Rc a len cap bc _ (uh Hs1)).mono ?_;rintro e w2 ⟨y,rfl,y0,y1,s2,o2⟩;have Hs2:=Z9 s2;have Ho2:=Z9 o2;clear s2 o2;go_wp2_with fail;refine (Rc a len cap bc _ (uh Hs2)).mono ?_;rintro e w3 ⟨z,rfl,z0,z1,s3,o3⟩;have Hs3:=Z9 s3;have Ho3:=Z9 o3;clear s3 o3;go_wp2_with fail;refine (Rc a len cap bc _ (uh Hs3)).mono ?_;rintro e w4 ⟨v,rfl,v0,v1,s4,o4⟩;have Hs4:=Z9 s4;have Ho4:=Z9 o4;clear s4 o4;go_wp2_with fail;go_ret;exact ⟨_,rfl,Int.emod_nonneg _ (by omega),Int.emod_lt_of_pos _ hn,uh Hs4,(((uh Ho1).trans (uh Ho2)).trans (uh Ho3)).trans (uh Ho4)⟩
theorem once_any (a:Option Addr) (len cap bc:Nat) (n:Int) (hn:0<n) (hm:n<=4611686018427387904) (w:World) (hs:St a len cap bc w) :
  Calls Tryz.prog 40 #[.pointer (some ⟨bc,0,none⟩),.int .i64 n] w fun e w'=> ∃ b:Bool,e= .returned (.bool b)/\St a len cap bc w'/\Off bc w w':=by
 have Hs:=Z9 hs;clear hs;go_enter Tryz.func40,Tryz.ntmps40;go_wp2_with fail;refine (below_any a len cap bc n hn hm _ (uh Hs)).mono ?_;rintro e w1 ⟨x,rfl,x0,x1,s1,o1⟩;have Hs1:=Z9 s1;have Ho1:=Z9 o1;clear s1 o1;go_wp2_with fail;go_ret;exact ⟨_,rfl,uh Hs1,uh Ho1⟩
theorem from_any (a:Option Addr) (len cap bc:Nat) (lo hi:Int) (h:lo<=hi) (h1 : -1000000000000<=lo) (h2:hi<=1000000000000) (w:World) (hs:St a len cap bc w) :
  Calls Tryz.prog 39 #[.pointer (some ⟨bc,0,none⟩),.int .i64 lo,.int .i64 hi] w fun e w'=> ∃ x:Int,e= .returned (.int .i64 x)/\lo<=x/\x<=hi/\St a len cap bc w'/\Off bc w w':=by
 have Hs:=Z9 hs;clear hs;go_enter Tryz.func39,Tryz.ntmps39;go_wp2_with fail;refine (below_any a len cap bc _ (by omega) (by omega) _ (uh Hs)).mono ?_;rintro e w1 ⟨x,rfl,x0,x1,s1,o1⟩;have Hs1:=Z9 s1;have Ho1:=Z9 o1;clear s1 o1;go_wp2_with fail;go_ret;exact ⟨_,rfl,by omega,by omega,uh Hs1,uh Ho1⟩
theorem yg {a:Option Addr} {len cap:Nat} {w:World} (hr:Row w.heap.size w a len) {t:TypeId} (x:Int):St a len cap w.heap.size (w.alloc (.cells #[.slice a len cap,.int .i64 0,.int .i64 x] t)):=by
 refine ⟨⟨by simp,0,x,by omega,by omega,?_,?_,?_,?_,?_⟩,hr.off ((Off.refl _ _).alloc _) (Z2 _)⟩
 ·simp
 ·simp
 ·simp
 ·rw [frozen?_alloc_cells];exact N8 _ _
 ·rw [frozen?_alloc_cells];exact N8 _ _
theorem new_any (a:Option Addr) (len cap:Nat) (w:World) (hr:Row w.heap.size w a len) :
  Calls Tryz.prog 37 #[.slice a len cap] w fun e w'=>e= .returned (.pointer (some ⟨w.heap.size,0,none⟩))/\St a len cap w.heap.size w'/\Off w.heap.size w w':=by
 have Hr:=Z9 hr;obtain ⟨hl,hr⟩:=hr;have Hc:=Z9 hr;clear hr;go_enter Tryz.func37,Tryz.ntmps37;go_wp2_with fail
 go_loop [3,4] (fun t i=> ∃ k:Nat,k<=len/\i= .int .i64 k/\ ∃ x:Int,t= .int .i64 x) (fun _ i=>len-(intOf i).toNat)
 case atStart=>exact ⟨0,Zz _,rfl,_,rfl⟩
 case round=>
  obtain ⟨k,hk,rfl,x,rfl⟩:=hrel;by_cases hlt:k<len
  ·rcases uh Hc with h0 | ⟨b,off,rfl,hb,hc⟩
   ·omega
   obtain ⟨n,n0,n1,hn⟩:=hc k hlt;clear hc;go_wp2_with fail
   go_round
   case rel=>exact ⟨k+1,by omega,by go_num,_,rfl⟩
   case measure=>simp [intOf];omega
  ·go_wp2_with fail
   go_ret;refine ⟨rfl,yg (uh Hr) _,(Off.refl _ _).alloc _⟩
def IsRow (k:IntKind) (w:World) (a:Option Addr) (len cap:Nat) (zs:List Int):Prop:=
 (a=none/\len=0/\cap=0/\zs=[])\/
 ∃ x,a=some x/\len<=cap/\cap<=maxLen/\zs.length=cap/\(∀ i,i<zs.length->w.cell? (x.add i)=some (.int k (zs.getD i 0)))/\ ∀ n ∈ zs,(Lit.int k n).wf=true
theorem AQ {w:World} {a:Option Addr} {len cap:Nat} {zs:List Int} (h:IsRow .u8 w a len cap zs) (hl:len<=4096):Row w.heap.size w a len:=by
 refine ⟨hl,?_⟩
 rcases h with ⟨_,h0,_,_⟩ | ⟨x,rfl,hlc,hm,hz,hcell,hwz⟩
 ·exact .inl h0
 ·by_cases h0:len=0
  ·exact .inl h0
  ·obtain ⟨b,off,spot⟩:=x
   have hc:=hcell 0 (by omega);have hspot:spot=none:=by simpa [Addr.add] using World.cell?_spot hc
   subst hspot;have hlt:=World.block_lt_of_cell? _ _ hc;refine .inr ⟨b,off,rfl,hlt,fun i hi=> ?_⟩;have hiz:i<zs.length:=by omega
   have hb:=bounds_u8 (hwz zs[i] (List.getElem_mem hiz));have hci:=hcell i hiz;rw [show zs.getD i 0=zs[i] from by simp [List.getD,hiz]] at hci;refine ⟨zs[i],hb.1,hb.2,?_⟩;by_cases hi0:i=0
   ·subst hi0;simpa [Addr.add] using hci
   ·simpa [Addr.add,hi0] using hci
theorem row_below {B:Nat} {w w':World} {a:Option Addr} {len:Nat} (h:Row B w a len) (hb:Below B w w'):Row B w' a len:=by
 refine ⟨h.1,?_⟩
 rcases h.2 with h0 | ⟨b,off,ha,hlt,hc⟩
 ·exact .inl h0
 ·refine .inr ⟨b,off,ha,hlt,fun i hi=> ?_⟩
  obtain ⟨n,n0,n1,hn⟩:=hc i hi;exact ⟨n,n0,n1,by rw [hb.cell (p:=⟨b,off+i,none⟩) hlt];exact hn⟩
theorem yn {B B':Nat} {w:World} {a:Option Addr} {len:Nat} (h:Row B w a len) (hB:B<=B'):Row B' w a len:=by
 refine ⟨h.1,?_⟩
 rcases h.2 with h0 | ⟨b,off,ha,hlt,hc⟩
 ·exact .inl h0
 ·exact .inr ⟨b,off,ha,Zd hlt hB,hc⟩
theorem row_later {w w':World} {a:Option Addr} {len:Nat} (h:Row w.heap.size w a len) (hb:Below w.heap.size w w'):Row w'.heap.size w' a len:=yn (row_below h hb) hb.size
theorem zE (a:Option Addr) (len cap:Nat) (w:World) (hl:len<=4096):Calls Tryz.prog 7 #[.slice a len cap] w fun e w'=>e= .returned (.bool false)/\w'=w:=by
 have h:¬ (4096:Int)<len:=by omega
 go_enter Tryz.func7,Tryz.ntmps7
 go_wp2
 go_ret;exact ⟨rfl,rfl⟩
theorem C0 (a:Option Addr) (len cap:Nat) (w:World) (hl:4096<len):Calls Tryz.prog 7 #[.slice a len cap] w fun e w'=>e= .returned (.bool true)/\w'=w:=by
 have h:(4096:Int)<len:=by omega
 go_enter Tryz.func7,Tryz.ntmps7
 go_wp2
 go_ret;exact ⟨rfl,rfl⟩
def isI64:Value->Bool
 | .int .i64 _=>true
 | _=>false
theorem pick_any (cs:Array Value) (j:Nat) (hj:j<cs.size) (h:cs.toList.all isI64=true):∃ v:Int,cs[j]?=some (.int .i64 v):=by
 rw [Array.all_toList,Array.all_eq_true] at h;have:=h j hj;rw [Array.getElem?_eq_getElem hj];generalize cs[j]=c at *;unfold isI64 at this
 split at this
 ·exact ⟨_,rfl⟩
 ·cases this
theorem xF (p q r:Value) (k:IntKind) (j:Nat) (hj:j<3) (hp:∃ v:Int,p= .int k v) (hq:∃ v:Int,q= .int k v) (hr:∃ v:Int,r= .int k v) :
  ∃ v:Int,(#[p,q,r]:Array Value)[j]?=some (.int k v):=by
 obtain ⟨_,rfl⟩:=hp;obtain ⟨_,rfl⟩:=hq;obtain ⟨_,rfl⟩:=hr
 match j,hj with
 | 0,_=>exact ⟨_,rfl⟩
 | 1,_=>exact ⟨_,rfl⟩
 | 2,_=>exact ⟨_,rfl⟩
theorem drawForce_any (a:Option Addr) (len cap bc:Nat) (w:World) (hs:St a len cap bc w) :
  Calls Tryz.prog 73 #[.pointer (some ⟨bc,0,none⟩)] w fun e w'=> ∃ x:Int,e= .returned (.int .i64 x)/\St a len cap bc w'/\Off bc w w':=by
 have Hs:=Z9 hs;clear hs;go_enter Tryz.func73,Tryz.ntmps73;go_wp2_with fail;refine (once_any a len cap bc 8 (by omega) (by omega) _ (uh Hs)).mono ?_;rintro e w1 ⟨b,rfl,s1,o1⟩;have Hs1:=Z9 s1;have Ho1:=Z9 o1;have hb:=s1.cur.1;clear s1 o1;cases b
 ·go_wp2_with fail
  refine (below_any a len cap bc 1025 (by omega) (by omega) _ (uh Hs1)).mono ?_;rintro e w2 ⟨x,rfl,x0,x1,s2,o2⟩;have Hs2:=Z9 s2;have Ho2:=Z9 o2;clear s2 o2;go_wp2_with fail;go_ret;exact ⟨_,rfl,uh Hs2,(uh Ho1).trans (uh Ho2)⟩
 ·go_wp2_with fail
  refine (below_any a len cap bc 3 (by omega) (by omega) _ ((uh Hs1).alloc _)).mono ?_;rintro e w2 ⟨x,rfl,x0,x1,s2,o2⟩;have hsz:w1.heap.size<w2.heap.size:=by have:=o2.size;simp at this;omega
  obtain ⟨v,hv⟩:=xF (.int .i64 (-1)) (.int .i64 1024) (.int .i64 1025) .i64 x.toNat (by omega) ⟨_,rfl⟩ ⟨_,rfl⟩ ⟨_,rfl⟩
  have hcell:w2.cell? ⟨w1.heap.size,x.toNat,none⟩=some (.int .i64 v):=by
   rw [o2.cell (p:=⟨w1.heap.size,x.toNat,none⟩) (by simp) (by simp;omega),World.cell?_alloc_at _ _ _ _ rfl];exact hv
  clear hv;have Hs2:=Z9 s2;have Ho2:=Z9 o2;clear s2 o2;go_wp2_with fail;go_ret;exact ⟨_,rfl,uh Hs2,(uh Ho1).trans (((Off.refl _ _).alloc _).trans (uh Ho2))⟩
end Go.Proofs.YtamgfpdahadnfaaGreatDoor.Draw
namespace Go.Proofs.YtamgfpdahadnfaaGreatDoor
open Go
theorem xW : Tryz.pinned.checked.prog.mainIs = some (true, "2497011163f39bcfcc7d2aec09398a703f526d3afba5bc583a669a9c70e20489".toList) := by kernel_rfl
theorem yY:true=Tryz.pinned.checked.prog.looks []:=by kernel_rfl
theorem Az:(Tryz.prog.funcs.toList.any Func.goes)=false:=by kernel_rfl
theorem yW (f:FuncId):Tryz.prog.goes f=false:=by
 have h:∀ fn ∈ Tryz.prog.funcs.toList,Func.goes fn=false:=fun fn hf=>by
  have:=List.any_eq_false.1 Az fn hf;simpa using this
 have hg:∀ g:FuncId,(Tryz.prog.funcs[g]?).any Func.goes=false:=fun g=>by
  cases hx:Tryz.prog.funcs[g]? with
  | none=>rfl
  | some fn=>exact h fn (by simpa using Array.mem_of_getElem? hx)
 unfold Program.goes;simp [hg];intro _ i hi;exact h _ (by simp)
theorem xV (c:OpenClaim) (hc:c.start= .entering):false=c.goesBy Tryz.pinned.checked.prog:=by
 show false=c.goesBy Tryz.prog;unfold OpenClaim.goesBy Program.goesAt Program.goesFrom;rw [hc];cases Tryz.prog.funcNamed c.func with
 | none=>rfl
 | some f=>simp [yW]
end Go.Proofs.YtamgfpdahadnfaaGreatDoor
