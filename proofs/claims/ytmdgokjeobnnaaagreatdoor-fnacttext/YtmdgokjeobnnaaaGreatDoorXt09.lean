/- Part 9 of what the proof rests on. No condition but those that a theorem names. -/
import Derived.Test.YtmdgokjeobnnaaaGreatDoorShelf
import Derived.Test.YtmdgokjeobnnaaaGreatDoorXt03
import Derived.Test.YtmdgokjeobnnaaaGreatDoorXt06
import Derived.ChangeKeysEq
import Derived.Laws.StructEq
import Derived.Lib.ItoaNum
import Derived.Lib.ItoaLen
import Derived.Lib.AtoiTie
import Derived.Lib.ParseIntBTie
import Derived.Lib.SplitLaws
import Derived.Lib.Join
import Derived.Deep.DeepMust
import Derived.Laws.BytesArg
import Derived.Lib.AppendIntMem
import Derived.WalkSmall
import Derived.Deep.RegionHeld3
import Derived.Deep.DrawnRows
import Derived.Shelf.Strings.Builder1
import Derived.Shelf.Strings.Builder2
import Derived.Shelf.Strings.OnBuilder
import Derived.Shelf.Strings.BuilderF
import Derived.Shelf.Strings.BuilderK
import Derived.Shelf.Utf8.RuneCount
import Derived.Shelf.Strings.Builder2Cap
import Derived.Shelf.Strconv.Itoa0
import Derived.Shelf.Strconv.Itoa1
import Derived.Shelf.LaysM
import Derived.Shelf.Strconv.Itoa2
import Derived.Shelf.Strconv.Itoa3
import Derived.Shelf.Strconv.Itoa4
import Derived.Shelf.Strconv.ParseIntEmpty
import Derived.Shelf.Strconv.Clone
import Derived.Shelf.Strconv.SyntaxError
import Derived.Shelf.LaysC
import Derived.Shelf.Strconv.ToError
import Derived.Shelf.Strconv.Lower
import Derived.Shelf.Strconv.ParseUint10
import Derived.Shelf.Strconv.ParseUint10Empty
import Derived.Shelf.Strconv.ParseUint10Any
import Derived.Shelf.Strconv.ParseInt10
import Derived.Shelf.Strconv.RangeError
import Derived.Shelf.Strconv.ToErrorRange
import Derived.Shelf.Strconv.ParseUintEmpty
import Derived.Shelf.Strconv.ParseUint10b64
import Derived.Shelf.Strconv.ParseUint10b32
import Derived.Shelf.Strconv.ParseUint10b16
import Derived.Shelf.Strconv.ParseUint10b8
import Derived.Shelf.Strconv.ParseUint10At
import Derived.Shelf.Strconv.ParseInt10At64
import Derived.Shelf.Strconv.ParseInt10At32
import Derived.Shelf.Strconv.ParseInt10At16
import Derived.Shelf.Strconv.ParseInt10At8
import Derived.Shelf.Strconv.ParseInt10All
import Derived.Shelf.Strconv.ParseIntPublic10
import Derived.Shelf.Strconv.ErrVarParseInt
import Derived.Shelf.Strings.Search1
import Derived.Shelf.Strings.Search2
import Derived.Shelf.Strings.Search3
import Derived.Shelf.Strings.Count
import Derived.Shelf.Strings.Shaped
import Derived.Shelf.Strings.Split
import Derived.Shelf.Strings.SplitShaped
import Derived.Shelf.Unicode.Decode
import Derived.Shelf.Strings.RuneCount
import Derived.Shelf.Strings.Explode
import Derived.Shelf.Unicode.DecodeSlow
import Derived.Shelf.Unicode.DecodeAny
import Derived.Shelf.Strings.BuilderCap
set_option maxHeartbeats 8000000
set_option maxRecDepth 100000
namespace Go.Proofs.YtmdgokjeobnnaaaGreatDoor
open Go.ChangeShapes Go.WideShapes Go.ChangeAt Go.RowKit Go.Sort Go.Proofs.Tryz
set_option linter.unusedVariables false
set_option maxRecDepth 100000
theorem MT (x:Int) (w:World):cE 83 #[.int .i64 x] w (.bool (TG x)):=by
 go_enter func83,ntmps83;go_wp2_with (go_at_call 27;refine (Z4 _ _ _ _).mono ?_;rintro e w' ⟨rfl,rfl⟩)
 go_ret;exact ⟨rfl,rfl⟩
theorem YN {x:Int} {r:Bool} (h:TG x=r) (w:World):cE 83 #[.int .i64 x] w (.bool r):=by
 rw [<-h];exact MT x w
theorem Q8 (h m:Int) (w:World):cE 134 #[.int .i64 h,.int .i64 m] w (.int .i64 (Y8 h m)):=by
 cases h2:TG m
 ·have hs:Y8 h m=h:=by unfold Y8;rw [h2];rfl
  have Hs:=Z9 hs;have H2:=Z9 h2;clear hs h2;go_enter func134,ntmps134;go_wp2_with (go_at_call 83;refine (YN (uh H2) _).mono ?_;rintro e w' ⟨rfl,rfl⟩)
  go_ret;exact ⟨Za (uh Hs).symm,rfl⟩
 have hs:Y8 h m=max h (m-20000):=by unfold Y8;rw [h2];rfl
 obtain ⟨b0,b1⟩:=ON h2;have Hs:=Z9 hs;have H2:=Z9 h2;clear hs h2;go_enter func134,ntmps134;go_wp2_with (first | (go_at_call 159;refine (TP _ _ _).mono ?_;rintro e w' ⟨rfl,rfl⟩) | (go_at_call 83;refine (YN (uh H2) _).mono ?_;rintro e w' ⟨rfl,rfl⟩))
 go_ret;exact ⟨Za (uh Hs).symm,rfl⟩
theorem TE (h f t:Int) (w:World):cE 135 #[.int .i64 h,.int .i64 f,.int .i64 t] w (.int .i64 (Zu h f t)):=by
 cases h1:TG h
 ·have hs:Zu h f t=h:=by unfold Zu;rw [h1];rfl
  have Hs:=Z9 hs;have H1:=Z9 h1;clear hs h1;go_enter func135,ntmps135;go_wp2_with (go_at_call 83;refine (YN (uh H1) _).mono ?_;rintro e w' ⟨rfl,rfl⟩)
  go_ret;exact ⟨Za (uh Hs).symm,rfl⟩
 cases h2:TG f
 ·have hs:Zu h f t=h:=by unfold Zu;rw [h1,h2];rfl
  have Hs:=Z9 hs;have H1:=Z9 h1;have H2:=Z9 h2;clear hs h1 h2;go_enter func135,ntmps135;go_wp2_with (go_at_call 83;first | (refine (YN (uh H1) _).mono ?_;rintro e w' ⟨rfl,rfl⟩) | (refine (YN (uh H2) _).mono ?_;rintro e w' ⟨rfl,rfl⟩))
  go_ret;exact ⟨Za (uh Hs).symm,rfl⟩
 cases h3:TG t
 ·have hs:Zu h f t=h:=by unfold Zu;rw [h1,h2,h3];rfl
  have Hs:=Z9 hs;have H1:=Z9 h1;have H2:=Z9 h2;have H3:=Z9 h3;clear hs h1 h2 h3;go_enter func135,ntmps135;go_wp2_with (go_at_call 83;first | (refine (YN (uh H1) _).mono ?_;rintro e w' ⟨rfl,rfl⟩) | (refine (YN (uh H2) _).mono ?_;rintro e w' ⟨rfl,rfl⟩) | (refine (YN (uh H3) _).mono ?_;rintro e w' ⟨rfl,rfl⟩))
  go_ret;exact ⟨Za (uh Hs).symm,rfl⟩
 have hs:Zu h f t=h-f+t:=by unfold Zu;rw [h1,h2,h3];rfl
 obtain ⟨a0,a1⟩:=ON h1;obtain ⟨b0,b1⟩:=ON h2;obtain ⟨c0,c1⟩:=ON h3;have Hs:=Z9 hs;have H1:=Z9 h1;have H2:=Z9 h2;have H3:=Z9 h3;clear hs h1 h2 h3;go_enter func135,ntmps135;go_wp2_with (go_at_call 83;first | (refine (YN (uh H1) _).mono ?_;rintro e w' ⟨rfl,rfl⟩) | (refine (YN (uh H2) _).mono ?_;rintro e w' ⟨rfl,rfl⟩) | (refine (YN (uh H3) _).mono ?_;rintro e w' ⟨rfl,rfl⟩))
 go_ret;exact ⟨Za (uh Hs).symm,rfl⟩
theorem Q2 (m f:Int) (w:World):cE 167 #[.int .i64 m,.int .i64 f] w (.int .i64 (Y4 m f)):=by
 cases h1:TG m
 ·have hs:Y4 m f=m:=by unfold Y4;rw [h1];rfl
  have Hs:=Z9 hs;have H1:=Z9 h1;clear hs h1;go_enter func167,ntmps167;go_wp2_with (go_at_call 83;refine (YN (uh H1) _).mono ?_;rintro e w' ⟨rfl,rfl⟩)
  go_ret;exact ⟨Za (uh Hs).symm,rfl⟩
 cases h2:TG f
 ·have hs:Y4 m f=m:=by unfold Y4;rw [h1,h2];rfl
  have Hs:=Z9 hs;have H1:=Z9 h1;have H2:=Z9 h2;clear hs h1 h2;go_enter func167,ntmps167;go_wp2_with (go_at_call 83;first | (refine (YN (uh H1) _).mono ?_;rintro e w' ⟨rfl,rfl⟩) | (refine (YN (uh H2) _).mono ?_;rintro e w' ⟨rfl,rfl⟩))
  go_ret;exact ⟨Za (uh Hs).symm,rfl⟩
 have hs:Y4 m f=min (max m f) 900000000000:=by unfold Y4;rw [h1,h2];rfl
 have Hs:=Z9 hs;have H1:=Z9 h1;have H2:=Z9 h2;clear hs h1 h2;go_enter func167,ntmps167;go_wp2_with (first | (go_at_call 159;refine (TP _ _ _).mono ?_;rintro e w' ⟨rfl,rfl⟩) | (go_at_call 176;refine (Pl _ _ _).mono ?_;rintro e w' ⟨rfl,rfl⟩) | (go_at_call 83;first | (refine (YN (uh H1) _).mono ?_;rintro e w' ⟨rfl,rfl⟩) | (refine (YN (uh H2) _).mono ?_;rintro e w' ⟨rfl,rfl⟩)))
 go_ret;exact ⟨Za (uh Hs).symm,rfl⟩
open Go.ChangeShapes Go.WideShapes Go.ChangeAt Go.RowKit Go.Sort
def WE (v0 v1 v2 v3 v4:Value) (qs:List (Z5 × Value)) (k:Nat):Prop:=v0.ownBlock=some k\/(∃ q ∈ qs,q.2.ownBlock=some k)\/v1.ownBlock=some k\/v2.ownBlock=some k\/v3.ownBlock=some k\/v4.ownBlock=some k
section
variable {n₀ : Nat} {w w' : World} {v0 v1 v2 v3 v4 : Value} {m : Z7} {qs : List (Z5 × Value)}
theorem FullSmy.own (h:FullSmy n₀ w v0 v1 v2 v3 v4 m qs) {k:Nat} (e:WE v0 v1 v2 v3 v4 qs k):n₀<=k/\k<w.heap.size:=by
 rcases e with e | e | e | e | e | e
 ·exact h.hall.lt (.inl e)
 ·exact h.hall.lt (.inr e)
 ·exact RecAt.lt h.gd e
 ·exact RecAt.lt h.sm e
 ·exact RecAt.lt h.dk e
 ·exact RecAt.lt h.pc e
theorem FullSmy.keep (h:FullSmy n₀ w v0 v1 v2 v3 v4 m qs) (hs:∀ k,WE v0 v1 v2 v3 v4 qs k->w'.heap[k]?=w.heap[k]?):FullSmy n₀ w' v0 v1 v2 v3 v4 m qs:=
 ⟨⟨X8 h.hall.row (fun k e=>hs k (.inl e)),fun q hq=>X8 (h.hall.pc q hq) (fun k e=>hs k (.inr (.inl ⟨q,hq,e⟩))),h.hall.off,h.hall.apart⟩,h.rm,RecAt.same h.gd fun k e=>hs k (.inr (.inr (.inl e))),RecAt.same h.sm fun k e=>hs k (.inr (.inr (.inr (.inl e)))),RecAt.same h.dk fun k e=>hs k (.inr (.inr (.inr (.inr (.inl e))))),RecAt.same h.pc fun k e=>hs k (.inr (.inr (.inr (.inr (.inr e))))),h.h1,h.h2,h.h3,h.h4,h.a12,h.a13,h.a14,h.a23,h.a24,h.a34⟩
end
end Go.Proofs.YtmdgokjeobnnaaaGreatDoor
namespace Go.Proofs.YtmdgokjeobnnaaaGreatDoor
section
open Go.Lib
set_option linter.unusedVariables false
abbrev Txt:=List UInt8
def ZG (c:UInt8) (cur:Txt):Txt->List Txt
 | []=>[cur]
 | x::r=>if x=c then cur::ZG c [] r else ZG c (cur++[x]) r
def ZM (c:UInt8) (l:Txt):List Txt:=ZG c [] l
theorem WT (c:UInt8) (cur r:Txt):ZG c cur (c::r)=cur::ZG c [] r:=by simp [ZG]
theorem XT {c x:UInt8} (h:x ≠ c) (cur r:Txt):ZG c cur (x::r)=ZG c (cur++[x]) r:=by simp [ZG,h]
theorem Uq {c:UInt8} : ∀ (a cur:Txt),c ∉ a->ZG c cur a=[cur++a]
 | [],cur,_=>by simp [ZG]
 | x::a,cur,h=>by
  have hx:x ≠ c:=fun e=>h (by simp [e]);rw [XT hx,Uq a _ (fun e=>h (List.mem_cons_of_mem _ e))];simp
theorem TF {c:UInt8} : ∀ (a cur r:Txt),c ∉ a->ZG c cur (a++c::r)=(cur++a)::ZG c [] r
 | [],cur,r,_=>by simp [ZG]
 | x::a,cur,r,h=>by
  have hx:x ≠ c:=fun e=>h (by simp [e]);rw [List.cons_append,XT hx,TF a _ r (fun e=>h (List.mem_cons_of_mem _ e))];simp
theorem YE (c:UInt8):∀ (l cur:Txt),1<=(ZG c cur l).length/\(ZG c cur l).length<=l.length+1
 | [],cur=>by simp [ZG]
 | x::r,cur=>by
  by_cases h:x=c
  ·subst h;rw [WT];have:=YE x r [];simp;omega
  ·rw [XT h];have:=YE c r (cur++[x]);simp;omega
theorem TW (c:UInt8) (l:Txt):ZM c l ≠ []:=fun h=>by have:=(YE c l []).1;unfold ZM at h;rw [h] at this;simp at this
theorem XF (c:UInt8):∀ (l cur:Txt),∀ p ∈ ZG c cur l,p.length<=cur.length+l.length
 | [],cur,p,hp=>by simp [ZG] at hp;subst hp;simp
 | x::r,cur,p,hp=>by
  by_cases h:x=c
  ·subst h;rw [WT] at hp
   rcases List.mem_cons.1 hp with rfl | hp
   ·simp
   ·have:=XF x r [] p hp;simp at this ⊢;omega
  ·rw [XT h] at hp;have:=XF c r _ p hp;simp at this ⊢;omega
theorem Wo (sep x:Txt) (r:List Txt):joinTail sep (x::r)=sep++x++joinTail sep r:=by simp [joinTail]
theorem Ww (c:UInt8):∀ (l cur:Txt),join (ZG c cur l) [c]=cur++l
 | [],cur=>by simp [ZG,join_one]
 | x::r,cur=>by
  by_cases h:x=c
  ·subst h
   rw [WT,join_cons];have ih:=Ww x r [];cases hs:ZG x [] r with
   | nil=>have:=(YE x r []).1;rw [hs] at this;simp at this
   | cons p q=>rw [hs,join_cons] at ih;rw [Wo];simp at ih ⊢;rw [ih]
  ·rw [XT h,Ww c r];simp
theorem Mu {c:UInt8} : ∀ (x:Txt) (r:List Txt),(∀ p ∈ x::r,c ∉ p)->ZM c (join (x::r) [c])=x::r:=by
 intro x r
 induction r generalizing x with
 | nil=>intro h;rw [join_one];unfold ZM;rw [Uq _ _ (h x (by simp))];simp
 | cons y r ih=>
  intro h;rw [join_cons,Wo];have h2:=ih y (fun p hp=>h p (List.mem_cons_of_mem _ hp));rw [join_cons] at h2;unfold ZM at h2 ⊢;have:x++([c]++y++joinTail [c] r)=x++c::(y++joinTail [c] r):=by simp
  rw [this,TF _ _ _ (h x (by simp)),h2];simp
theorem Ql (c x:UInt8) (r:Txt):index (x::r) [c]=if x=c then 0 else (if index r [c]= -1 then -1 else index r [c]+1):=by
 by_cases h:x=c
 ·subst h;simp [index]
 ·have:¬ c=x:=fun e=>h e.symm
  simp [index,h,this]
theorem Wf (c:UInt8):∀ (l cur:Txt),ZG c cur l=if index l [c]= -1 then [cur++l] else (cur++l.take (index l [c]).toNat)::ZG c [] (l.drop ((index l [c]).toNat+1))
 | [],cur=>by simp [ZG,index]
 | x::r,cur=>by
  rw [Ql];by_cases h:x=c
  ·subst h;rw [WT];simp
  ·rw [XT h,Wf c r,if_neg h]
   have hge:=index_ge r [c];by_cases h1:index r [c]= -1
   ·simp [h1]
   ·rw [if_neg h1,if_neg h1,if_neg (by omega)]
    have:(index r [c]+1).toNat=(index r [c]).toNat+1:=by omega
    rw [this];simp
theorem Rd (c:UInt8):∀ (k:Nat) (l:Txt),count l [c]=k->splitK [c] 0 k l=ZM c l
 | 0,l,h=>by
  unfold ZM;rw [Wf];by_cases h1:index l [c]= -1
  ·simp [h1,splitK]
  ·have hge:=index_ge l [c]
   have:=count_hit (s:=l) (sub:=[c]) (i:=(index l [c]).toNat) (by simp) (by omega);omega
 | k+1,l,h=>by
  unfold ZM;rw [Wf];by_cases h1:index l [c]= -1
  ·have:=count_miss h1;omega
  ·have hge:=index_ge l [c]
   have h2:=count_hit (s:=l) (sub:=[c]) (i:=(index l [c]).toNat) (by simp) (by omega);have ih:=Rd c k (l.drop ((index l [c]).toNat+1)) (by simp at h2;omega);unfold splitK;rw [if_neg h1,if_neg (by simpa using h1)];unfold ZM at ih;simp at ih ⊢;rw [ih]
def Zv (l:Txt):Option Int:=
 match l with
 | []=>none
 | c::r=>if c=45 then (if r=[]\/9<r.length\/r.head?=some 48 then none else (decFrom 0 r).map fun n:Nat=> -(n:Int))
  else if 9<(c::r).length\/(c=48/\r ≠ []) then none else (decFrom 0 (c::r)).map fun n:Nat=>(n:Int)
theorem Xb {d:Nat} (h:d<10):(UInt8.ofNat (48+d)).toNat=48+d:=by simp;omega
theorem Qe {b:UInt8} {d:Nat} (h:digitVal b=some d):d<10/\b=UInt8.ofNat (48+d):=by
 obtain ⟨h1,h2,h3⟩:=digitVal_eq h;refine ⟨by omega,?_⟩;apply UInt8.toNat_inj.1;rw [Xb (by omega)];omega
theorem RP {d:Nat} (h:d<10):digitVal (UInt8.ofNat (48+d))=some d:=by
 unfold digitVal;rw [Xb h,if_pos (by omega)];congr 1;omega
theorem Qd {a d:Nat} (ha:0<a) (hd:d<10):decDigits (a*10+d)=decDigits a++[UInt8.ofNat (48+d)]:=by
 rw [decDigits,dif_neg (by omega),show (a*10+d) / 10=a by omega,show (a*10+d)%10=d by omega]
theorem T0:∀ (r:Txt) (a n:Nat),0<a->decFrom a r=some n->decDigits n=decDigits a++r/\a<=n
 | [],a,n,_,h=>by simp [decFrom] at h;subst h;simp
 | b::r,a,n,ha,h=>by
  unfold decFrom at h;cases hd:digitVal b with
  | none=>rw [hd] at h;cases h
  | some d=>
   rw [hd] at h;obtain ⟨h1,h2⟩:=Qe hd;have ih:=T0 r (a*10+d) n (by omega) h;rw [ih.1,Qd ha h1,h2];simp;omega
theorem Uv {b:UInt8} {r:Txt} {n:Nat} (h:decFrom 0 (b::r)=some n) (hb:b ≠ 48\/r=[]):decDigits n=b::r/\(b ≠ 48->0<n):=by
 unfold decFrom at h;cases hd:digitVal b with
 | none=>rw [hd] at h;cases h
 | some d=>
  rw [hd] at h;obtain ⟨h1,h2⟩:=Qe hd;simp at h;by_cases h0:d=0
  ·subst h0
   have hb48:b=48:=by rw [h2];rfl
   rcases hb with hb | rfl
   ·exact absurd hb48 hb
   ·simp [decFrom] at h;subst h;subst hb48;exact ⟨by rw [decDigits_one (by decide)];rfl,fun h=>absurd rfl h⟩
  ·have:=T0 r d n (by omega) h
   rw [this.1,decDigits_one h1,h2];simp;intro _;omega
theorem WL (n:Nat):decFrom 0 (decDigits n)=some n:=by
 have key:∀ n a r,decFrom a (decDigits n++r)=decFrom (a*10 ^ nDigits n+n) r:=by
  intro n
  induction n using Nat.strongRecOn with
  | _ n ih=>
   intro a r;by_cases h:n<10
   ·rw [decDigits_one h,nDigits_small h]
    simp only [List.cons_append,List.nil_append,decFrom,RP h]
    try simp
   ·rw [decDigits,dif_neg h,List.append_assoc,ih (n / 10) (by omega)]
    simp only [List.cons_append,List.nil_append,decFrom,RP (show n%10<10 by omega)];rw [nDigits_big h,Nat.pow_succ]
    congr 1
    have:(a*10 ^ nDigits (n / 10)+n / 10)*10+n%10=a*10 ^ nDigits (n / 10)*10+(n / 10*10+n%10):=by omega
    rw [this,Nat.mul_assoc];omega
 have:=key n 0 [];simpa [decFrom] using this
theorem Vv {n:Nat} (h:n<1000000000):nDigits n<=9:=by
 by_cases h0:nDigits n<=9
 ·exact h0
 ·exfalso
  have:∀ k u,nDigits u=k+1->k ≠ 0->10 ^ k<=u:=by
   intro k
   induction k with
   | zero=>intro u _ h;exact absurd rfl h
   | succ k ih=>
    intro u hu _;by_cases hs:u<10
    ·rw [nDigits_small hs] at hu;omega
    ·rw [nDigits_big hs] at hu
     by_cases hk:k=0
     ·subst hk;simp;omega
     ·have:=ih (u / 10) (by omega) hk
      rw [Nat.pow_succ];omega
  have h1:=this (nDigits n-1) n (by omega) (by omega);have h2:(10:Nat) ^ 9<=10 ^ (nDigits n-1):=Nat.pow_le_pow_right (by decide) (by omega);have h3:(10:Nat) ^ 9=1000000000:=by decide
  omega
theorem WK (n:Nat):∃ b r,decDigits n=b::r/\48<=b.toNat/\b.toNat<=57/\(b=48->n=0/\r=[]):=by
 induction n using Nat.strongRecOn with
 | _ n ih=>
  by_cases h:n<10
  ·refine ⟨_,_,decDigits_one h,by rw [Xb h];omega,by rw [Xb h];omega,fun e=> ?_⟩
   have:=congrArg UInt8.toNat e;rw [Xb h] at this;simp at this;exact ⟨this,rfl⟩
  ·obtain ⟨b,r,e,h1,h2,h3⟩:=ih (n / 10) (by omega)
   refine ⟨b,r++[UInt8.ofNat (48+n%10)],?_,h1,h2,fun hb=> ?_⟩
   ·rw [decDigits,dif_neg h,e];rfl
   ·have:=(h3 hb).1;omega
theorem US {v:Int} (h0 : -999999999<=v) (h1:v<=999999999):Zv (itoa v)=some v:=by
 unfold itoa;by_cases hn:v<0
 ·rw [if_pos hn]
  obtain ⟨b,r,e,b1,b2,b3⟩:=WK v.natAbs;have hl:=decDigits_length v.natAbs;have h9:=Vv (n:=v.natAbs) (by omega);have hd:=WL v.natAbs;unfold Zv;simp only [if_true]
  rw [if_neg (by
   rw [e] at hl ⊢;simp only [List.head?_cons,Option.some.injEq,not_or]
   exact ⟨by simp,by omega,fun hb=>by have:=(b3 hb).1;omega⟩),hd]
  simp;omega
 ·rw [if_neg hn]
  obtain ⟨b,r,e,b1,b2,b3⟩:=WK v.toNat;have hl:=decDigits_length v.toNat;have h9:=Vv (n:=v.toNat) (by omega);have hd:=WL v.toNat;rw [e] at hl hd ⊢;unfold Zv;have hb45:b ≠ 45:=fun hb=>by subst hb;simp at b1
  simp only [if_neg hb45];rw [if_neg (by rw [not_or];exact ⟨by omega,fun hh=>hh.2 (b3 hh.1).2⟩),hd];simp;omega
theorem XR {l:Txt} {v:Int} (h:Zv l=some v):l=itoa v/\ -999999999<=v/\v<=999999999:=by
 unfold Zv at h
 split at h
 ·cases h
 ·rename_i c r
  split at h
  ·rename_i hc
   split at h
   ·cases h
   ·rename_i hr
    simp only [not_or] at hr;obtain ⟨n,hn,rfl⟩:=Option.map_eq_some_iff.1 h;cases r with
    | nil=>exact absurd rfl hr.1
    | cons b r=>
     have hb:b ≠ 48:=fun e=>hr.2.2 (by simp [e]);have hw:=Uv hn (.inl hb);have hlt:=decFrom_lt _ _ _ hn;have:n<10 ^ 9:=YH (by simpa using hlt) (Nat.pow_le_pow_right (by decide) (by have:=hr.2.1;simp at this ⊢;omega));have h3:(10:Nat) ^ 9=1000000000:=by decide
     have hp:=hw.2 hb;refine ⟨?_,by omega,by omega⟩;unfold itoa;rw [if_pos (by omega),show (-(n:Int)).natAbs=n by omega,hw.1,hc]
  ·rename_i hc
   split at h
   ·cases h
   ·rename_i hr
    simp only [not_or] at hr;obtain ⟨n,hn,rfl⟩:=Option.map_eq_some_iff.1 h
    have hb:c ≠ 48\/r=[]:=by
     by_cases e:c=48
     ·exact .inr (Classical.byContradiction fun hne=>hr.2 ⟨e,hne⟩)
     ·exact .inl e
    have hw:=Uv hn hb;have hlt:=decFrom_lt _ _ _ hn;have:n<10 ^ 9:=YH (by simpa using hlt) (Nat.pow_le_pow_right (by decide) (by have:=hr.1;simp at this ⊢;omega));have h3:(10:Nat) ^ 9=1000000000:=by decide
    refine ⟨?_,by omega,by omega⟩;unfold itoa;rw [if_neg (by omega),show ((n:Int)).toNat=n by omega,hw.1]
theorem L9 {v:Int} (h0 : -999999999<=v) (h1:v<=999999999):parseIntB 64 (itoa v)= .ok v:=by
 have hlen:(itoa v).length<=18:=by
  unfold itoa;by_cases hn:v<0
  ·rw [if_pos hn];have:=decDigits_length v.natAbs;have:=Vv (n:=v.natAbs) (by omega);simp;omega
  ·rw [if_neg hn];have:=decDigits_length v.toNat;have:=Vv (n:=v.toNat) (by omega);omega
 rw [parseIntB_64,atoiAll_short _ hlen]
 have:atoi (itoa v)=some v:=by
  unfold itoa;by_cases hn:v<0
  ·rw [if_pos hn]
   obtain ⟨b,r,e,b1,b2,b3⟩:=WK v.natAbs;have hd:=WL v.natAbs;unfold atoi decNat;simp only [e] at hd ⊢;simp [hd];omega
  ·rw [if_neg hn]
   obtain ⟨b,r,e,b1,b2,b3⟩:=WK v.toNat;have hd:=WL v.toNat;have hb45:b ≠ 45:=fun hb=>by subst hb;simp at b1
   have hb43:b ≠ 43:=fun hb=>by subst hb;simp at b1
   unfold atoi decNat;simp only [e] at hd ⊢;simp [hd,hb45,hb43];omega
 rw [this];rfl
theorem LF (v:Int):∀ b ∈ itoa v,b=45\/(48<=b.toNat/\b.toNat<=57):=by
 have key:∀ n:Nat,∀ b ∈ decDigits n,48<=b.toNat/\b.toNat<=57:=by
  intro n;rw [decDigits_eq];intro b hb;obtain ⟨t,_,rfl⟩:=List.mem_map.1 hb;unfold dg;have:v.natAbs%10<10:=Nat.mod_lt _ (by decide);rw [Xb (Nat.mod_lt _ (by decide))];have:=Nat.mod_lt (n / 10 ^ (nDigits n-1-t)) (show 0<10 by decide);omega
 unfold itoa;intro b hb
 split at hb
 ·rcases List.mem_cons.1 hb with rfl | hb
  ·exact .inl rfl
  ·exact .inr (key _ b hb)
 ·exact .inr (key _ b hb)
theorem JM (v:Int) {c:UInt8} (h:c=58\/c=32\/c=47):c ∉ itoa v:=fun hm=>by
 rcases LF v c hm with e | ⟨h1,h2⟩
 ·subst e;revert h;decide
 ·rcases h with rfl | rfl | rfl<;>simp at h1 h2
def YK (l:Txt):Option Z1:=
 match ZM 58 l with
 | [a,b]=>(Zv a).bind fun f=>(Zv b).bind fun k=>some (f,k)
 | _=>none
def Zb (l:Txt):Option Z5:=
 match ZM 32 l with
 | []=>none
 | a::ws=>(Zv a).bind fun n=>(ws.mapM YK).bind fun ps=>some (n,ps)
def YR (l:Txt):Option (List Z5):=((ZM 47 l).mapM Zb).bind fun rs=>if YB rs=true then some rs else none
def Th (p:Z1):Txt:=itoa p.1++58::itoa p.2
def Ti (r:Z5):Txt:=join (itoa r.1::r.2.map Th) [32]
def N9 (rs:List Z5):Txt:=if YB rs=true then join (rs.map Ti) [47] else []
theorem PV {l:Txt} {p:Z1} (h:YK l=some p):Th p=l:=by
 unfold YK at h
 split at h
 ·rename_i a b hs
  obtain ⟨f,hf,h⟩:=Option.bind_eq_some_iff.1 h;obtain ⟨k,hk,h⟩:=Option.bind_eq_some_iff.1 h;cases h;have hj:=Ww 58 l [];unfold ZM at hs;rw [hs,join_cons,Wo] at hj;unfold Th;rw [<-(XR hf).1,<-(XR hk).1];simpa [joinTail] using hj
 ·cases h
theorem So {α β:Type} {f:α->Option β} {g:β->α} : ∀ (l:List α) (ps:List β),l.mapM f=some ps->(∀ x p,f x=some p->g p=x)->ps.map g=l
 | [],ps,h,_=>by simp at h;subst h;rfl
 | x::l,ps,h,hg=>by
  rw [List.mapM_cons] at h;obtain ⟨p,hp,h⟩:=Option.bind_eq_some_iff.1 h;obtain ⟨q,hq,h⟩:=Option.bind_eq_some_iff.1 h;cases h;simp [hg x p hp,So l q hq hg]
theorem PW {l:Txt} {r:Z5} (h:Zb l=some r):Ti r=l:=by
 unfold Zb at h
 split at h
 ·cases h
 ·rename_i a ws hs
  obtain ⟨n,hn,h⟩:=Option.bind_eq_some_iff.1 h;obtain ⟨ps,hp,h⟩:=Option.bind_eq_some_iff.1 h;cases h;have hj:=Ww 32 l [];unfold ZM at hs;rw [hs] at hj;unfold Ti;rw [<-(XR hn).1,So (g:=Th) _ _ hp (fun x p=>PV)];simpa using hj
theorem PS {l:Txt} {rs:List Z5} (h:YR l=some rs):YB rs=true/\N9 rs=l:=by
 unfold YR at h;obtain ⟨rs',hr,h⟩:=Option.bind_eq_some_iff.1 h
 split at h
 ·rename_i hb
  cases h;refine ⟨hb,?_⟩;unfold N9;rw [if_pos hb,So (g:=Ti) _ _ hr (fun x p=>PW)];have hj:=Ww 47 l [];simpa [ZM] using hj
 ·cases h
end
set_option linter.unusedVariables false
set_option linter.unusedSimpArgs false
open Go.ChangeShapes Go.WideShapes Go.ChangeAt Go.RowKit Go.Sort Go.Proofs.Tryz
open Go.Lib (digitVal decFrom)
def bs (l:Txt):ByteArray:=⟨l.toArray⟩
theorem Y3 (l:Txt):(bs l).data.toList=l:=by simp [bs]
theorem Rn (s:ByteArray):bs s.data.toList=s:=by simp [bs]
theorem WI (l:Txt):(bs l).size=l.length:=by simp [bs,ByteArray.size]
def StrsAt (n₀:Nat) (w:World) (v:Value) (zs:List Txt):Prop:=w.ownsRow n₀ 9 1 v zs.length (zs.map fun z=>Value.string (bs z))
theorem StrsAt.lt {n₀:Nat} {w:World} {v:Value} {zs:List Txt} (h:StrsAt n₀ w v zs) {k:Nat} (hk:v.ownBlock=some k):n₀<=k/\k<w.heap.size:=World.ownsRow.lt h k hk
theorem StrsAt.below {n₀ B:Nat} {w w':World} {v:Value} {zs:List Txt} (h:StrsAt n₀ w v zs) (hb:Below B w w') (hB:∀ k,v.ownBlock=some k->k<B):StrsAt n₀ w' v zs:=by
 refine ⟨h.1,?_⟩
 rcases h.2 with hz | ⟨g,cap,cur,rfl,hb',hg,r⟩
 ·exact .inl hz
 ·exact .inr ⟨g,cap,cur,rfl,hb',(hb.block g (hB g rfl)).trans hg,r⟩
theorem StrsAt.later {n₀:Nat} {w w':World} {v:Value} {zs:List Txt} (h:StrsAt n₀ w v zs) (hb:Below w.heap.size w w'):StrsAt n₀ w' v zs:=h.below hb (fun k e=>(h.lt e).2)
theorem StrsAt.view {n₀:Nat} {w:World} {v:Value} {zs:List Txt} (h:StrsAt n₀ w v zs) :
  ∃ (a:Option Addr) (cap:Nat),v= .slice a zs.length cap/\zs.length<=cap/\cap<=9223372036854775807/\(zs=[]\/ ∃ g,a=some ⟨g,0,none⟩/\n₀<=g/\g<w.heap.size/\
   (∀ k,k<zs.length->w.cell? ⟨g,k,none⟩=some (.string (bs (zs.getD k []))))):=by
 have h':=h
 rcases h.2 with ⟨rfl,hz⟩ | ⟨g,cap,cur,rfl,hb,hg,hnc,hcm,r⟩
 ·exact ⟨none,0,by rw [hz],by omega,by omega,.inl (List.eq_nil_of_length_eq_zero hz)⟩
 ·refine ⟨_,cap,rfl,hnc,by unfold maxLen at hcm;omega,.inr ⟨g,rfl,hb,(Array.getElem?_eq_some_iff.1 hg).1,fun k hk=> ?_⟩⟩
  rw [World.ownsRow.cellAt h' k (by omega)];simp [List.getElem?_eq_getElem hk]
theorem OP:(prog.info? 9).map (fun i=>(i.zero,i.size,i.bytes))=some (some (.string ByteArray.empty),1,16):=by kernel_rfl
theorem KB (l:Txt) (f k:Nat) (hf:f<=k) (h:k<l.length):(l.take (k+1)).drop f=(l.take k).drop f++[l[k]]:=by
 rw [List.take_succ_eq_append_getElem h,List.drop_append_of_le_length (by simp;omega)]
theorem Si (l:Txt) (k:Nat) (h:k<l.length):l.drop k=l[k]::l.drop (k+1):=List.drop_eq_getElem_cons h
theorem Lz (s:ByteArray) (f k:Nat):s.extract f k=bs ((s.data.toList.take k).drop f):=by
 rw [<-Rn (s.extract f k)];congr 1;rw [Go.Lib.extract_data];simp [List.drop_take]
theorem PG {w wr w1:World} {v v':Value} {P:List Txt} {s:ByteArray} {a k:Nat} {o:Obj} (hown:StrsAt w.heap.size wr v P) (hb:Below w.heap.size w wr)
  (hown':w1.ownsRow w.heap.size 9 1 v' (P.length+1) ((P.map fun z=>Value.string (bs z))++[.string (s.extract a k)])) (hg:(wr.alloc o).grownBy w1 v.ownBlock) :
  StrsAt w.heap.size w1 v' (P++[(s.data.toList.take k).drop a])/\Below w.heap.size w w1:=by
 refine ⟨?_,?_⟩
 ·unfold StrsAt;rw [Lz] at hown';simpa using hown'
 ·exact (hb.alloc hb.size o).grown hg (by have:=hb.size;simp;omega) (fun j ej=>(hown.lt ej).1)
theorem Vu (s:ByteArray) (c:UInt8) (w:World) (hs:s.size<=1048576) :
  Calls prog 22 #[.string s,.int .u8 c.toNat] w fun e w'=> ∃ v,e= .returned v/\StrsAt w.heap.size w' v (ZM c s.data.toList)/\Below w.heap.size w w':=by
 obtain ⟨i0,hi,hz0,hz1,hz2⟩:=info_parts OP;go_enter func22,ntmps22;go_wp2_with fail
 go_loopw [5,6,7] (fun v f i wr=> ∃ (P:List Txt) (a k:Nat),f= .int .i64 a/\i= .int .i64 k/\StrsAt w.heap.size wr v P/\P.length<=k/\Below w.heap.size w wr/\((k<=s.size/\a<=k/\P++ZG c ((s.data.toList.take k).drop a) (s.data.toList.drop k)=ZM c s.data.toList)\/(k=s.size+1/\P=ZM c s.data.toList))) (fun _ _ i _=>s.size+1-(intOf i).toNat)
 case atStart=>exact ⟨[],0,0,rfl,rfl,World.ownsRow_lit w #[] 0 (Z3 _) (by simp [maxLen]) rfl,by simp,(ba _ _),.inl ⟨by omega,by omega,by simp [ZM]⟩⟩
 case round=>
  obtain ⟨P,a,k,rfl,rfl,hown,hpl,hb,hcase⟩:=hrel;have Hb:=Z9 hb;have Hown:=Z9 hown;clear hb hown
  rcases hcase with ⟨hk,ha,hsp⟩ | ⟨rfl,hP⟩
  ·have Hsp:=Z9 hsp
   clear hsp;by_cases hend:k=s.size
   ·subst hend
    go_wp2_with (at_builtin;refine wpList_append_own _ rfl _ _ 54 rfl w.heap.size 9 i0 (.string ByteArray.empty) 1 16 underlying54 hi hz0 hz1 hz2 rfl (by decide) _ _ _ rfl (World.ownsRow.alloc (uh Hown) _) ⟨_,0,none⟩ 1 1 [.string (s.extract a s.size)] rfl rfl (cell_one_new _ _ _) (by simp [Value.oneCell']) (by simp only [maxLen];omega) (by omega) (by have:=(uh Hb).size;simp;omega) ?_;intro v' w1 hown' hgrow _;have R:=PG (uh Hown) (uh Hb) hown' hgrow;have HR:=Z9 R;clear hown' hgrow R)
    go_roundw
    case rel=>exact ⟨P++[(s.data.toList.take s.size).drop a],s.size+1,s.size+1,by go_num,by go_num,(uh HR).1,by simp;omega,(uh HR).2,.inr ⟨rfl,by rw [<-uh Hsp,List.drop_eq_nil_of_le (show s.data.toList.length<=s.size by simp)];rfl⟩⟩
    case measure=>simp [intOf]
   ·have hlt:k<s.size:=by omega
    have hll:k<s.data.toList.length:=by simpa using hlt
    have hat:s.data.toList[k]=s[k]:=rfl;by_cases hc:s[k]=c
    ·have Hc:=Z9 hc
     have Hn:Hid (P++[(s.data.toList.take k).drop a]++ZG c ((s.data.toList.take (k+1)).drop (k+1)) (s.data.toList.drop (k+1))=ZM c s.data.toList):=Z9 (by
      have h0:=uh Hsp;rw [Si _ k hll,hat,hc,WT] at h0
      rw [<-h0];simp)
     clear hc hat;have hbeq:((s[k].toNat:Int) ==(c.toNat:Int))=true:=by rw [show s[k]=c from uh Hc];simp
     have hne:((k:Int) ==(s.size:Int))=false:=beq_eq_false_iff_ne.2 (by omega);go_wp2_with (at_builtin;refine wpList_append_own _ rfl _ _ 54 rfl w.heap.size 9 i0 (.string ByteArray.empty) 1 16 underlying54 hi hz0 hz1 hz2 rfl (by decide) _ _ _ rfl (World.ownsRow.alloc (uh Hown) _) ⟨_,0,none⟩ 1 1 [.string (s.extract a k)] rfl rfl (cell_one_new _ _ _) (by simp [Value.oneCell']) (by simp only [maxLen];omega) (by omega) (by have:=(uh Hb).size;simp;omega) ?_;intro v' w1 hown' hgrow _;have R:=PG (uh Hown) (uh Hb) hown' hgrow;have HR:=Z9 R;clear hown' hgrow R)
     go_roundw
     case rel=>exact ⟨P++[(s.data.toList.take k).drop a],k+1,k+1,by go_num,by go_num,(uh HR).1,by simp;omega,(uh HR).2,.inl ⟨by omega,by omega,uh Hn⟩⟩
     case measure=>exact ms
    ·have Hn:Hid (P++ZG c ((s.data.toList.take (k+1)).drop a) (s.data.toList.drop (k+1))=ZM c s.data.toList):=Z9 (by
      have h0:=uh Hsp;rw [Si _ k hll,hat,XT hc] at h0
      rw [<-h0,KB _ a k ha hll,hat])
     have hbeq:((s[k].toNat:Int) ==(c.toNat:Int))=false:=beq_eq_false_iff_ne.2 (fun e=>hc (UInt8.toNat_inj.1 (by omega)));have hne:((k:Int) ==(s.size:Int))=false:=beq_eq_false_iff_ne.2 (by omega);clear hc hat;go_wp2_with fail;go_roundw
     case rel=>exact ⟨P,a,k+1,rfl,by go_num,uh Hown,by omega,uh Hb,.inl ⟨by omega,by omega,uh Hn⟩⟩
     case measure=>exact ms
  ·have HP:=Z9 hP
   clear hP;go_wp2_with fail;go_ret;exact ⟨_,rfl,by rw [<-uh HP];exact uh Hown,uh Hb⟩
theorem V7 {l:Txt} {acc n k:Nat} {b:UInt8} (h1:l[k]?=some b) (h2:digitVal b=none):Go.Lib.decFrom acc l=none:=by
 cases h:Go.Lib.decFrom acc l with
 | none=>rfl
 | some m=>obtain ⟨d,hd⟩:=Go.Lib.digit_of_decFrom l acc m h k b h1;rw [h2] at hd;cases hd
theorem TU {c:UInt8} {r:Txt} (hc:c ≠ 45) (h9:(c::r).length<=9) (h0:¬ (c=48/\r ≠ [])):Zv (c::r)=(Go.Lib.decFrom 0 (c::r)).map fun n:Nat=>(n:Int):=by
 unfold Zv;simp only [if_neg hc];rw [if_neg];rw [not_or];exact ⟨by omega,h0⟩
theorem Vw {c:UInt8} {r:Txt} (hc:c ≠ 45) (h:9<(c::r).length\/(c=48/\r ≠ [])):Zv (c::r)=none:=by
 unfold Zv;simp only [if_neg hc];rw [if_pos h]
theorem Su {r:Txt} (h1:r ≠ []) (h9:r.length<=9) (h0:r.head? ≠ some 48):Zv (45::r)=(Go.Lib.decFrom 0 r).map fun n:Nat=> -(n:Int):=by
 unfold Zv;simp only [if_true];rw [if_neg];rw [not_or,not_or];exact ⟨h1,by omega,h0⟩
theorem Wj {r:Txt} (h:r=[]\/9<r.length\/r.head?=some 48):Zv (45::r)=none:=by
 unfold Zv;simp only [if_true];rw [if_pos h]
def XO (l:Txt):Value:= .tuple #[.int .i64 ((Zv l).getD 0),.bool (Zv l).isSome]
theorem Zh {l:Txt} (h:Zv l=none):XO l= .tuple #[.int .i64 0,.bool false]:=by unfold XO;rw [h];rfl
theorem Wy {l:Txt} {v:Int} (h:Zv l=some v):XO l= .tuple #[.int .i64 v,.bool true]:=by unfold XO;rw [h];rfl
theorem Na {b:UInt8} (h1:48<=b.toNat) (h2:b.toNat<=57):digitVal b=some (b.toNat-48):=by unfold Go.Lib.digitVal;rw [if_pos ⟨h1,h2⟩]
theorem TL {b:UInt8} (h:b.toNat<48\/57<b.toNat):digitVal b=none:=by unfold Go.Lib.digitVal;rw [if_neg (by omega)]
theorem Uu {a b:Value} (h:a=b):Ending.returned a= .returned b:=by rw [h]
theorem UR {s:ByteArray} (h:0<s.size):s.data.toList=s[0]::s.data.toList.drop 1:=Si s.data.toList 0 (by simpa using h)
theorem LA {s:ByteArray} {k:Nat} (h:k<s.size):s.data.toList[k]?=some s[k]:=by
 rw [List.getElem?_eq_getElem (by simpa using h)];rfl
theorem GU {s:ByteArray} {k:Nat} (h:k<s.size) (h1:1<=k):(s.data.toList.drop 1)[k-1]?=some s[k]:=by
 rw [List.getElem?_drop,show 1+(k-1)=k by omega];exact LA h
theorem GD {s:ByteArray} (h:0<s.size):s.toList.isEmpty=false:=by
 rw [ByteArray.toList_eq,UR h];rfl
theorem OE {b c:UInt8} (h:b ≠ c):((b.toNat:Int) ==(c.toNat:Int))=false:=beq_eq_false_iff_ne.2 (fun e=>h (UInt8.toNat_inj.1 (by omega)))
theorem OD {b c:UInt8} (h:b=c):((b.toNat:Int) ==(c.toNat:Int))=true:=by rw [h];simp
theorem LP (s:ByteArray) (w:World) (h0:0<s.size) (hm:s.size<=9223372036854775807) (h45:s[0] ≠ 45) :
  cE 26 #[.string s] w (XO s.data.toList):=by
 have Hl:=Z9 (UR h0);have hemp:=GD h0;have H45:=Z9 h45;have hb45:((s[0].toNat:Int) ==45)=false:=OE (c:=45) h45;have hlen:s.data.toList.length=s.size:=by simp
 have Hlen:=Z9 hlen;clear h45 hlen;by_cases h9:9<s.size
 ·have hd1:decide ((s.size:Int)<1)=false:=Ya (by omega)
  have hd2:decide (9<(s.size:Int))=true:=Wa (by omega);have HN:Hid (XO s.data.toList= .tuple #[.int .i64 0,.bool false]):=Z9 (Zh (by rw [uh Hl];exact Vw (uh H45) (.inl (by rw [<-uh Hl,uh Hlen];omega))));go_enter func26,ntmps26;go_wp2_with fail
  go_ret2
  exact ⟨Uu (uh HN).symm,rfl⟩
 have hd1:decide ((s.size:Int)<1)=false:=Ya (by omega);have hd2:decide (9<(s.size:Int))=false:=Ya (by omega);go_enter func26,ntmps26;go_wp2_with fail
 go_loop [6,7] (fun n i=> ∃ (k m:Nat),0<=k/\k<=s.size/\i= .int .i64 k/\n= .int .i64 m/\decFrom 0 (s.data.toList.take k)=some m) (fun _ i=>s.size-(intOf i).toNat)
 case atStart=>exact ⟨0,0,by omega,by omega,rfl,rfl,by simp [decFrom]⟩
 case round=>
  obtain ⟨k,m,hk1,hk,rfl,rfl,hdec⟩:=hrel
  have hmb:m<1000000000:=by
   have hx:=Go.Lib.decFrom_lt _ _ _ hdec;have hy:(s.data.toList.take k).length<=9:=by rw [List.length_take];omega
   exact YH (by simpa using hx) (XA (Nat.pow_le_pow_right (by decide) hy) (by decide))
  have Hdec:=Z9 hdec;clear hdec;by_cases hlt:k<s.size
  ·have hga:=LA hlt
   have Hga:=Z9 hga;clear hga;have hb8:s[k].toNat<=255:=by have:=s[k].toNat_lt;omega
   by_cases hd:s[k].toNat<48
   ·have HN:Hid (XO s.data.toList= .tuple #[.int .i64 0,.bool false]):=Z9 (Zh (by rw [uh Hl];by_cases hz:s[0]=48/\s.data.toList.drop 1 ≠ [];exact Vw (uh H45) (.inr hz);rw [TU (uh H45) (by rw [<-uh Hl,uh Hlen];omega) hz,<-uh Hl,V7 (n:=0) (uh Hga) (TL (by omega))];rfl))
    have ht:decide ((s[k].toNat:Int)<48)=true:=Wa (by omega);go_wp2_with fail
    go_ret2
    exact ⟨Uu (uh HN).symm,rfl⟩
   by_cases hd':57<s[k].toNat
   ·have HN:Hid (XO s.data.toList= .tuple #[.int .i64 0,.bool false]):=Z9 (Zh (by rw [uh Hl];by_cases hz:s[0]=48/\s.data.toList.drop 1 ≠ [];exact Vw (uh H45) (.inr hz);rw [TU (uh H45) (by rw [<-uh Hl,uh Hlen];omega) hz,<-uh Hl,V7 (n:=0) (uh Hga) (TL (by omega))];rfl))
    have ht:decide ((s[k].toNat:Int)<48)=false:=Ya (by omega);have ht':decide (57<(s[k].toNat:Int))=true:=Wa (by omega);go_wp2_with fail
    go_ret2
    exact ⟨Uu (uh HN).symm,rfl⟩
   ·have ht:decide ((s[k].toNat:Int)<48)=false:=Ya (by omega)
    have ht':decide (57<(s[k].toNat:Int))=false:=Ya (by omega);have Hn:=Z9 (Go.Lib.decFrom_take s.data.toList k 0 m s[k] (s[k].toNat-48) (uh Hdec) (uh Hga) (Na (by omega) (by omega)));have Hx:Hid (((m*10+(s[k].toNat-48):Nat):Int)=(m:Int)*10+((s[k].toNat:Int)-48)):=Z9 (by omega);have g1:48<=(s[k].toNat:Int):=by omega
    have g2:(s[k].toNat:Int)<=57:=by omega
    go_wp2_with fail
    go_round
    case rel=>exact ⟨k+1,m*10+(s[k].toNat-48),by omega,by omega,by go_num,by rw [uh Hx],uh Hn⟩
    case measure=>exact ms
  ·obtain rfl:k=s.size:=by omega
   have Hall:Hid (decFrom 0 s.data.toList=some m):=Z9 (by have hh:=uh Hdec;rwa [List.take_of_length_le (by rw [uh Hlen];omega)] at hh);by_cases hz:s[0]=48
   ·have hb48:((s[0].toNat:Int) ==48)=true:=OD (c:=48) hz
    by_cases h1s:1<s.size
    ·have ht:decide (1<(s.size:Int))=true:=Wa (by omega)
     have HN:Hid (XO s.data.toList= .tuple #[.int .i64 0,.bool false]):=Z9 (Zh (by rw [uh Hl];exact Vw (uh H45) (.inr ⟨hz,fun e=>by have:=congrArg List.length e;rw [List.length_drop,uh Hlen] at this;simp at this;omega⟩)));clear hz;go_wp2_with fail
     go_ret2
     exact ⟨Uu (uh HN).symm,rfl⟩
    ·have ht:decide (1<(s.size:Int))=false:=Ya (by omega)
     have HN:Hid (XO s.data.toList= .tuple #[.int .i64 m,.bool true]):=Z9 (Wy (by rw [uh Hl,TU (uh H45) (by rw [<-uh Hl,uh Hlen];omega) (fun hh=>hh.2 (List.eq_nil_of_length_eq_zero (by rw [List.length_drop,uh Hlen];omega))),<-uh Hl,uh Hall];rfl));clear hz;go_wp2_with fail
     go_ret2
     exact ⟨Uu (uh HN).symm,rfl⟩
   ·have hb48:((s[0].toNat:Int) ==48)=false:=OE (c:=48) hz
    have HN:Hid (XO s.data.toList= .tuple #[.int .i64 m,.bool true]):=Z9 (Wy (by rw [uh Hl,TU (uh H45) (by rw [<-uh Hl,uh Hlen];omega) (fun hh=>hz hh.1),<-uh Hl,uh Hall];rfl));clear hz;go_wp2_with fail
    go_ret2
    exact ⟨Uu (uh HN).symm,rfl⟩
theorem LM (s:ByteArray) (w:World) (h0:0<s.size) (hm:s.size<=9223372036854775807) (h45:s[0]=45) :
  cE 26 #[.string s] w (XO s.data.toList):=by
 have Hl:=Z9 (UR h0);have hemp:=GD h0;have H45:=Z9 h45;have hb45:((s[0].toNat:Int) ==45)=true:=OD (c:=45) h45;have hlen:s.data.toList.length=s.size:=by simp
 have Hlen:=Z9 hlen;clear h45 hlen;by_cases h9:10<s.size
 ·have hd1:decide ((s.size:Int)-1<1)=false:=Ya (by omega)
  have hd2:decide (9<(s.size:Int)-1)=true:=Wa (by omega);have HN:Hid (XO s.data.toList= .tuple #[.int .i64 0,.bool false]):=Z9 (Zh (by rw [uh Hl];rw [uh H45];exact Wj (.inr (.inl (by rw [List.length_drop,uh Hlen];omega)))));go_enter func26,ntmps26;go_wp2_with fail
  go_ret2
  exact ⟨Uu (uh HN).symm,rfl⟩
 by_cases h1s:s.size<2
 ·have hd1:decide ((s.size:Int)-1<1)=true:=Wa (by omega)
  have HN:Hid (XO s.data.toList= .tuple #[.int .i64 0,.bool false]):=Z9 (Zh (by rw [uh Hl,uh H45];exact Wj (.inl (List.eq_nil_of_length_eq_zero (by rw [List.length_drop,uh Hlen];omega)))));go_enter func26,ntmps26;go_wp2_with fail
  go_ret2
  exact ⟨Uu (uh HN).symm,rfl⟩
 have hd1:decide ((s.size:Int)-1<1)=false:=Ya (by omega);have hd2:decide (9<(s.size:Int)-1)=false:=Ya (by omega);go_enter func26,ntmps26;go_wp2_with fail
 go_loop [6,7] (fun n i=> ∃ (k m:Nat),1<=k/\k<=s.size/\i= .int .i64 k/\n= .int .i64 m/\decFrom 0 ((s.data.toList.drop 1).take (k-1))=some m) (fun _ i=>s.size-(intOf i).toNat)
 case atStart=>exact ⟨1,0,by omega,by omega,rfl,rfl,by simp [decFrom]⟩
 case round=>
  obtain ⟨k,m,hk1,hk,rfl,rfl,hdec⟩:=hrel
  have hmb:m<1000000000:=by
   have hx:=Go.Lib.decFrom_lt _ _ _ hdec;have hy:((s.data.toList.drop 1).take (k-1)).length<=9:=by rw [List.length_take];omega
   exact YH (by simpa using hx) (XA (Nat.pow_le_pow_right (by decide) hy) (by decide))
  have Hdec:=Z9 hdec;clear hdec;by_cases hlt:k<s.size
  ·have hga:=GU hlt hk1
   have Hga:=Z9 hga;clear hga;have hb8:s[k].toNat<=255:=by have:=s[k].toNat_lt;omega
   by_cases hd:s[k].toNat<48
   ·have HN:Hid (XO s.data.toList= .tuple #[.int .i64 0,.bool false]):=Z9 (Zh (by rw [uh Hl,uh H45];by_cases hz:(s.data.toList.drop 1).head?=some 48;exact Wj (.inr (.inr hz));rw [Su (fun e=>by have:=congrArg List.length e;rw [List.length_drop,uh Hlen] at this;simp at this;omega) (by rw [List.length_drop,uh Hlen];omega) hz,V7 (n:=0) (uh Hga) (TL (by omega))];rfl))
    have ht:decide ((s[k].toNat:Int)<48)=true:=Wa (by omega);go_wp2_with fail
    go_ret2
    exact ⟨Uu (uh HN).symm,rfl⟩
   by_cases hd':57<s[k].toNat
   ·have HN:Hid (XO s.data.toList= .tuple #[.int .i64 0,.bool false]):=Z9 (Zh (by rw [uh Hl,uh H45];by_cases hz:(s.data.toList.drop 1).head?=some 48;exact Wj (.inr (.inr hz));rw [Su (fun e=>by have:=congrArg List.length e;rw [List.length_drop,uh Hlen] at this;simp at this;omega) (by rw [List.length_drop,uh Hlen];omega) hz,V7 (n:=0) (uh Hga) (TL (by omega))];rfl))
    have ht:decide ((s[k].toNat:Int)<48)=false:=Ya (by omega);have ht':decide (57<(s[k].toNat:Int))=true:=Wa (by omega);go_wp2_with fail
    go_ret2
    exact ⟨Uu (uh HN).symm,rfl⟩
   ·have ht:decide ((s[k].toNat:Int)<48)=false:=Ya (by omega)
    have ht':decide (57<(s[k].toNat:Int))=false:=Ya (by omega);have Hn:=Z9 (Go.Lib.decFrom_take (s.data.toList.drop 1) (k-1) 0 m s[k] (s[k].toNat-48) (uh Hdec) (uh Hga) (Na (by omega) (by omega)));have Hx:Hid (((m*10+(s[k].toNat-48):Nat):Int)=(m:Int)*10+((s[k].toNat:Int)-48)):=Z9 (by omega);have g1:48<=(s[k].toNat:Int):=by omega
    have g2:(s[k].toNat:Int)<=57:=by omega
    go_wp2_with fail
    go_round
    case rel=>exact ⟨k+1,m*10+(s[k].toNat-48),by omega,by omega,by go_num,by rw [uh Hx],by have hh:=uh Hn;rwa [show k-1+1=k+1-1 by omega] at hh⟩
    case measure=>exact ms
  ·obtain rfl:k=s.size:=by omega
   have Hall:Hid (decFrom 0 (s.data.toList.drop 1)=some m):=Z9 (by have hh:=uh Hdec;rwa [List.take_of_length_le (by rw [List.length_drop,uh Hlen];omega)] at hh);have hs1:1<s.size:=by omega
   have Hh:Hid ((s.data.toList.drop 1).head?=some s[1]):=Z9 (by rw [List.head?_drop];exact LA hs1);have Hne:Hid (s.data.toList.drop 1 ≠ []):=Z9 (fun e=>by have:=congrArg List.length e;rw [List.length_drop,uh Hlen] at this;simp at this;omega);by_cases hz:s[1]=48
   ·have hb48:((s[1].toNat:Int) ==48)=true:=OD (c:=48) hz
    have HN:Hid (XO s.data.toList= .tuple #[.int .i64 0,.bool false]):=Z9 (Zh (by rw [uh Hl,uh H45];exact Wj (.inr (.inr (by rw [uh Hh,hz])))));clear hz;go_wp2_with fail
    go_ret2
    exact ⟨Uu (uh HN).symm,rfl⟩
   ·have hb48:((s[1].toNat:Int) ==48)=false:=OE (c:=48) hz
    have HN:Hid (XO s.data.toList= .tuple #[.int .i64 (-(m:Int)),.bool true]):=Z9 (Wy (by rw [uh Hl,uh H45,Su (uh Hne) (by rw [List.length_drop,uh Hlen];omega) (fun e=>hz (by rw [uh Hh] at e;exact Option.some.inj e)),uh Hall];rfl));clear hz;go_wp2_with fail
    go_ret2
    exact ⟨Uu (uh HN).symm,rfl⟩
theorem UO (s:ByteArray) (w:World) (hm:s.size<=9223372036854775807) :
  cE 26 #[.string s] w (XO s.data.toList):=by
 by_cases h0:0<s.size
 ·by_cases h45:s[0]=45
  ·exact LM s w h0 hm h45
  ·exact LP s w h0 hm h45
 ·have hd:s.data.toList=[]:=List.eq_nil_of_length_eq_zero (by rw [show s.data.toList.length=s.size by simp];omega)
  have hemp:s.toList.isEmpty=true:=by rw [ByteArray.toList_eq,hd];rfl
  have HN:Hid (XO s.data.toList= .tuple #[.int .i64 0,.bool false]):=Z9 (Zh (by rw [hd];rfl));have hz:s.size=0:=by omega
  clear hd;go_enter func26,ntmps26;go_wp2_with fail
  go_ret2
  exact ⟨Uu (uh HN).symm,rfl⟩
theorem Vx {c:UInt8} {l p:Txt} (h:p ∈ ZM c l) (hl:l.length<=1048576):p.length<=1048576:=by
 have:=XF c l [] p h;simp at this;omega
theorem Pb {l:Txt} {n:Nat} (h:l.length<=n):(bs l).size<=n:=by rw [WI];exact h
theorem N0 {l:Txt} : -999999999<=(Zv l).getD 0/\(Zv l).getD 0<=999999999:=by
 cases h:Zv l with
 | none=>simp
 | some v=>have:=XR h;simp;omega
theorem LR (l:Txt) (w:World) (hl:l.length<=1048576) :
  Calls prog 101 #[.string (bs l)] w fun e w'=> ∃ (f k:Int) (b:Bool),e= .returned (.tuple #[.agg #[.int .i64 f,.int .i64 k],.bool b])/\(b=true->YK l=some (f,k))/\(b=false->YK l=none)/\Below w.heap.size w w':=by
 have Hb0:Hid (∀ o,Below w.heap.size w (w.alloc o)):=Z9 (fun o=>(ba _ _));go_enter func101,ntmps101;go_wp2_with fail;refine (Vu (bs l) 58 _ (Pb hl)).mono ?_;rw [Y3];rintro e w1 ⟨v,rfl,hst,hb⟩;have hsz:w.heap.size+1<=w1.heap.size:=by have:=hb.size;simpa using this
 obtain ⟨cc,ff⟩:=GB hb;have x0:=cc w.heap.size 0 (by simp);have x1:=cc w.heap.size 1 (by simp);have f0:=ff w.heap.size 0 (by simp);have f1:=ff w.heap.size 1 (by simp);have B1:Hid (Below w.heap.size w w1):=Z9 ((uh Hb0 _).trans (hb.mono (by simp)));obtain ⟨a,cap,rfl,hc,hm,hr⟩:=hst.view;have Hr:=Z9 hr;clear hst hr hb cc ff;by_cases h2:(ZM 58 l).length=2
 ·obtain ⟨p,q,hpq⟩:∃ p q,ZM 58 l=[p,q]:=by
   match hx:ZM 58 l,h2 with
   | [p,q],_=>exact ⟨p,q,rfl⟩
  have Hpq:=Z9 hpq
  rcases uh Hr with h0 | ⟨g,rfl,hg1,hg2,hcl⟩
  ·rw [h0] at h2;simp at h2
  have c0:=hcl 0 (by omega);have c1:=hcl 1 (by omega);have hp1:=Vx (c:=58) (l:=l) (p:=p) (by rw [hpq];simp) hl;have hq1:=Vx (c:=58) (l:=l) (p:=q) (by rw [hpq];simp) hl;rw [hpq] at c0 c1;simp only [List.getD_cons_zero,List.getD_cons_succ] at c0 c1;have Hread:Hid (YK l=(Zv p).bind fun f=>(Zv q).bind fun k=>some (f,k)):=Z9 (by unfold YK;rw [hpq]);have hne:g ≠ w.heap.size:=by simp at hg1;omega
  clear hcl Hr hpq;generalize (ZM 58 l).length=n2 at *;subst h2;go_wp2_with fail;refine (UO (bs p) _ (by have:=Pb hp1;omega)).mono ?_;rw [Y3];rintro e w' ⟨rfl,hw'⟩;subst w';unfold XO;have hbp:=N0 (l:=p);generalize hrp:Zv p=rp at *;have Hrp:=Z9 hrp;clear hrp;go_wp2_with fail;refine (UO (bs q) _ (by have:=Pb hq1;omega)).mono ?_;rw [Y3];rintro e w' ⟨rfl,hw'⟩;subst w';unfold XO;generalize hrq:Zv q=rq at *;have Hrq:=Z9 hrq;clear hrq;cases rp with
  | none=>
   have Hz:Hid (YK l=none):=Z9 (by rw [uh Hread];rfl);simp only [Option.getD_none,Option.isSome_none];go_wp2_with fail;exact Zz (v:= .tuple #[.agg #[.int .i64 0,.int .i64 (rq.getD 0)],.bool false]) (by simp [results,results101,go_sem, *]) rfl ⟨_,_,_,rfl,fun h=>(by cases h),fun _=>uh Hz,((uh B1).setCell (by show _<=w.heap.size;omega) _).setCell (by show _<=w.heap.size;omega) _⟩
  | some f=>
   cases rq with
   | none=>
    have Hz:Hid (YK l=none):=Z9 (by rw [uh Hread];rfl);simp only [Option.getD_none,Option.isSome_none,Option.getD_some,Option.isSome_some];go_wp2_with fail;exact Zz (v:= .tuple #[.agg #[.int .i64 f,.int .i64 0],.bool false]) (by simp [results,results101,go_sem, *]) rfl ⟨_,_,_,rfl,fun h=>(by cases h),fun _=>uh Hz,((uh B1).setCell (by show _<=w.heap.size;omega) _).setCell (by show _<=w.heap.size;omega) _⟩
   | some k=>
    have Hz:Hid (YK l=some (f,k)):=Z9 (by rw [uh Hread];rfl);simp only [Option.getD_some,Option.isSome_some];go_wp2_with fail;exact Zz (v:= .tuple #[.agg #[.int .i64 f,.int .i64 k],.bool true]) (by simp [results,results101,go_sem, *]) rfl ⟨_,_,_,rfl,fun _=>uh Hz,fun h=>(by cases h),((uh B1).setCell (by show _<=w.heap.size;omega) _).setCell (by show _<=w.heap.size;omega) _⟩
 ·have Hz:Hid (YK l=none):=Z9 (by
   unfold YK
   split
   ·rename_i a b hx;rw [hx] at h2;simp at h2
   ·rfl)
  have hne:(((ZM 58 l).length:Int) !=2)=true:=by rw [bne_iff_ne];omega
  have hcc:((ZM 58 l).length:Int)<=9223372036854775807:=by omega
  generalize (ZM 58 l).length=n2 at *;go_wp2_with fail;exact Zz (v:= .tuple #[.agg #[.int .i64 0,.int .i64 0],.bool false]) (by simp [results,results101,go_sem, *]) rfl ⟨_,_,_,rfl,fun h=>(by cases h),fun _=>uh Hz,((uh B1).setCell (by show _<=w.heap.size;omega) _).setCell (by show _<=w.heap.size;omega) _⟩
open Go.ChangeShapes Go.WideShapes Go.ChangeAt Go.RowKit Go.Sort
theorem Po {α β:Type} {f:α->Option β} {l:List α} {k:Nat} {xs:List β} {y:β} (hk:k<l.length) (h:(l.take k).mapM f=some xs) (hy:f l[k]=some y):(l.take (k+1)).mapM f=some (xs++[y]):=by
 rw [List.take_succ_eq_append_getElem hk,List.mapM_append,h];simp [hy]
theorem Sp {α β:Type} {f:α->Option β} : ∀ {l:List α} {k:Nat} (hk:k<l.length),f l[k]=none->l.mapM f=none
 | x::l,0,_,h=>by simp at h;simp [List.mapM_cons,h]
 | x::l,k+1,hk,h=>by
  have ih:=Sp (f:=f) (l:=l) (k:=k) (by simpa using hk) (by simpa using h);rw [List.mapM_cons,ih];cases f x<;>rfl
theorem N1 {l a:Txt} {ws:List Txt} (h:ZM 32 l=a::ws):Zb l=(Zv a).bind fun n=>(ws.mapM YK).bind fun ps=>some (n,ps):=by unfold Zb;rw [h]
theorem PT {l:Txt} (h:(ZM 47 l).mapM Zb=none):YR l=none:=by unfold YR;rw [h];rfl
theorem PU {l:Txt} {rs:List Z5} (h:(ZM 47 l).mapM Zb=some rs) (hb:YB rs=true):YR l=some rs:=by unfold YR;rw [h];simp [hb]
theorem OX {l:Txt} {rs:List Z5} (h:(ZM 47 l).mapM Zb=some rs) (hb:YB rs=false):YR l=none:=by unfold YR;rw [h];simp [hb]
theorem OF (w:World) (u u':Value) (t:TypeId):∀ (j:Nat) (x:Value),([u,u']:List Value)[j]?=some x->(w.alloc (.cells #[u,u'] t)).cell? ((⟨w.heap.size,0,none⟩:Addr).add j)=some x:=by
 intro j x h
 match j with
 | 0=>simp at h;subst h;simp [Addr.add]
 | 1=>simp at h;subst h;simp [Addr.add]
 | j+2=>simp at h
theorem TZ (w:World) (u u':Value) (t:TypeId) (b:Nat) (hb:b=w.heap.size):∀ (j:Nat) (x:Value),([u,u']:List Value)[j]?=some x->(w.alloc (.cells #[u,u'] t)).cell? ((⟨b,0,none⟩:Addr).add j)=some x:=by
 subst hb;exact OF w u u' t
theorem PacesAt.push {B:Nat} {w w1:World} {v v':Value} {ps:List Z1} {f k:Int} {o:Obj} (h:PacesAt B w v ps) (hB:B<=w.heap.size)
  (hown:w1.ownsRow B 145 2 v' (ps.length+1) (XD ps++[.int .i64 f,.int .i64 k])) (hg:(w.alloc o).grownBy w1 v.ownBlock) :
  PacesAt B w1 v' (ps++[(f,k)])/\Below B w w1:=by
 refine ⟨?_,((Z2 B w).alloc hB o).grown hg (by simp;omega) (fun j e=>(h.lt e).1)⟩;unfold PacesAt;simpa [XD] using hown
theorem NZ {b:Nat} {w w6:World} {v v':Value} {ps:List Z1} {n f kk:Int} {o:Obj} (hp:PacesAt (b+1) w v ps) (hsz:b+1<=w.heap.size)
  (hown:w6.ownsRow (b+1) 145 2 v' (ps.length+1) (XD ps++[.int .i64 f,.int .i64 kk])) (hg:(w.alloc o).grownBy w6 v.ownBlock)
  (c0:w.cell? ⟨b,0,none⟩=some (.int .i64 n)) (c1:w.cell? ⟨b,1,none⟩=some v) (c2:w.frozen? ⟨b,1,none⟩=false) :
  ∃ a cap,v'= .slice a (ps.length+1) cap/\w6.cell? ⟨b,1,none⟩=some v/\w6.frozen? ⟨b,1,none⟩=false/\
   Hid ((w6.setCell ⟨b,1,none⟩ v').cell? ⟨b,0,none⟩=some (.int .i64 n)/\(w6.setCell ⟨b,1,none⟩ v').cell? ⟨b,1,none⟩=some v'/\(w6.setCell ⟨b,1,none⟩ v').frozen? ⟨b,1,none⟩=false/\
    PacesAt (b+1) (w6.setCell ⟨b,1,none⟩ v') v' (ps++[(f,kk)])/\Below b w (w6.setCell ⟨b,1,none⟩ v')/\b+1<=(w6.setCell ⟨b,1,none⟩ v').heap.size):=by
 obtain ⟨hpa,hbl⟩:=hp.push hsz hown hg;obtain ⟨a,cap,hsh⟩:=hpa.shape;have d0:=(hbl.cell (p:=⟨b,0,none⟩) (by show b<b+1;omega)).trans c0;have d1:=(hbl.cell (p:=⟨b,1,none⟩) (by show b<b+1;omega)).trans c1;have d2:=(hbl.frozen (p:=⟨b,1,none⟩) (by show b<b+1;omega)).trans c2;refine ⟨a,cap,by simpa using hsh,d1,d2,?_⟩;refine ⟨?_,?_,?_,?_,?_,?_⟩
 ·rw [World.cell?_setCell_other _ _ _ _ (by simp)];exact d0
 ·exact World.cell?_setCell_same _ _ _ d1
 ·rw [World.frozen?_setCell];exact d2
 ·exact X8 hpa (fun q e=>Below.heap_setCell w6 ⟨b,1,none⟩ v' q (by have:=(hpa.lt e).1;show q ≠ b;omega))
 ·have hb0:Below b w w6:=hbl.mono (Nat.le_succ b)
  exact hb0.setCell (Z3 b) v'
 ·have:=hbl.size;simp;omega
theorem I3 {b n₀:Nat} {w w6:World} {v v' pv:Value} {qs:List (Z5 × Value)} {ps:List Z1} {n:Int} {o:Obj} (h:OwnHall n₀ w v qs) (hp:PacesAt n₀ w pv ps)
  (hoff:∀ b,pv.ownBlock=some b->v.ownBlock ≠ some b) (hap:∀ q ∈ qs,∀ b,q.2.ownBlock=some b->pv.ownBlock ≠ some b)
  (hown:w6.ownsRow n₀ 112 2 v' (qs.length+1) (QN qs++[.int .i64 n,pv])) (hg:(w.alloc o).grownBy w6 v.ownBlock) (hat:v'.ownBlock=v.ownBlock\/v'.ownBlock=some (w.alloc o).heap.size)
  (hb:b<n₀) (hsz:n₀<=w.heap.size) (c1:w.cell? ⟨b,0,none⟩=some v) (c2:w.frozen? ⟨b,0,none⟩=false) :
  ∃ a cap,v'= .slice a (qs.length+1) cap/\w6.cell? ⟨b,0,none⟩=some v/\w6.frozen? ⟨b,0,none⟩=false/\
   Hid ((w6.setCell ⟨b,0,none⟩ v').cell? ⟨b,0,none⟩=some v'/\(w6.setCell ⟨b,0,none⟩ v').frozen? ⟨b,0,none⟩=false/\
    OwnHall n₀ (w6.setCell ⟨b,0,none⟩ v') v' (qs++[((n,ps),pv)])/\Below n₀ w w6):=by
 have hpush:=h.push hp hoff hap hown hg hat;have hbl:Below n₀ w w6:=((Z2 n₀ w).alloc hsz o).grown hg (by simp;omega) (fun j e=>(h.lt (.inl e)).1);obtain ⟨a,cap,hsh⟩:=hpush.shape;have d1:=(hbl.cell (p:=⟨b,0,none⟩) hb).trans c1;have d2:=(hbl.frozen (p:=⟨b,0,none⟩) hb).trans c2;refine ⟨a,cap,by simpa using hsh,d1,d2,?_,?_,?_,hbl⟩
 ·exact World.cell?_setCell_same _ _ _ d1
 ·rw [World.frozen?_setCell];exact d2
 ·exact hpush.same (fun k h0 hk=>Below.heap_setCell w6 ⟨b,0,none⟩ v' k (by show k ≠ b;omega))
def GM (l:Txt) (n₀:Nat) (e:Ending) (w':World):Prop:=
 (∃ v qs,e= .returned (.tuple #[.agg #[v],.bool true])/\YR l=some (qs.map (·.1))/\OwnHall n₀ w' v qs)\/(e= .returned (.tuple #[.agg #[.slice none 0 0],.bool false])/\YR l=none)
theorem SC (l:Txt) (w:World) (hl:l.length<=1048576) :
  Calls prog 76 #[.string (bs l)] w fun e w'=>GM l w.heap.size e w'/\Below w.heap.size w w':=by
 obtain ⟨i1,hi1,hp0,hp1,hp2⟩:=info_parts JK;obtain ⟨i2,hi2,hr0,hr1,hr2⟩:=info_parts Pj;go_enter func76,ntmps76;go_wp2_with fail;refine (Vu (bs l) 47 _ (Pb hl)).mono ?_;rw [Y3];rintro e w2 ⟨rv,rfl,hst,hb⟩;have hsz:w.heap.size+2<=w2.heap.size:=by have:=hb.size;simp at this;omega
 obtain ⟨cc,ff⟩:=GB hb;have x0:=cc w.heap.size 0 (by simp;omega);have x1:=cc (w.heap.size+1) 0 (by simp);have f0:=ff w.heap.size 0 (by simp;omega);have f1:=ff (w.heap.size+1) 0 (by simp);simp at x0 x1;have g0:w2.frozen? ⟨w.heap.size,0,none⟩=false:=by rw [f0,frozen?_alloc_cells,frozen?_alloc_cells];exact UI (Z3 _)
 have g1:w2.frozen? ⟨w.heap.size+1,0,none⟩=false:=by rw [f1,frozen?_alloc_cells,frozen?_alloc_cells];exact UI (by omega)
 have B2:Hid (Below w.heap.size w w2):=Z9 ((((ba _ _)).alloc (by simp) _).trans (hb.mono (by simp;omega)));have hpl:=YE 47 l [];have Hsm:Hid (∀ p ∈ ZM 47 l,p.length<=1048576):=Z9 (fun p hp=>Vx hp hl);obtain ⟨ra,rcap,rfl,hrc,hrm,hrr⟩:=hst.view
 rcases hrr with h0 | ⟨g,rfl,hg1,hg2,hcl⟩
 ·exact absurd h0 (TW _ _)
 have hg1':w.heap.size+2<=g:=by simp at hg1;omega
 have Hcl:=Z9 hcl;have hpl':(ZM 47 l).length<=1048577:=by unfold ZM;omega
 clear hst hb cc ff hcl hg1 f0 f1 hpl;have HN:Hid (YR l=((ZM 47 l).mapM Zb).bind fun rs=>if YB rs=true then some rs else none):=Z9 rfl;have Hnone:Hid ((ZM 47 l).mapM Zb=none->YR l=none):=Z9 PT;have Hsome:Hid (∀ rs,(ZM 47 l).mapM Zb=some rs->YB rs=true->YR l=some rs):=Z9 (fun rs=>PU);have Hbad:Hid (∀ rs,(ZM 47 l).mapM Zb=some rs->YB rs=false->YR l=none):=Z9 (fun rs=>OX);generalize ZM 47 l=pc at *;go_wp2_with fail
 go_loopw [6] (fun i wr=> ∃ (k:Nat) (v:Value) (qs:List (Z5 × Value)),k<=pc.length/\i= .int .i64 k/\wr.cell? ⟨w.heap.size+1,0,none⟩=some v/\wr.frozen? ⟨w.heap.size+1,0,none⟩=false/\OwnHall w2.heap.size wr v qs/\qs.length=k/\(pc.take k).mapM Zb=some (qs.map (·.1))/\But (w.heap.size+1) w2 wr) (fun i _=>pc.length-(intOf i).toNat)
 case atStart=>exact ⟨0,_,[],Zi _,rfl,x1,g1,OwnHall.nil _ _,rfl,rfl,But.refl _ _⟩
 case round=>
  obtain ⟨wo,rfl⟩:∃ wo,wo=wr:=⟨wr,rfl⟩
  obtain ⟨k,v,qs,hk,rfl,hv,hfv,hoh,hql,hmap,hbut⟩:=hrel;have Hoh:=Z9 hoh;have Hmap:=Z9 hmap;have Hbut:=Z9 hbut;have hz2:=hbut.size;have Hql:=Z9 hql;have Hv:=Z9 hv;have Hfv:=Z9 hfv;have y0:wo.cell? ⟨w.heap.size,0,none⟩=some (.slice none 0 0):=(hbut.cell (p:=⟨w.heap.size,0,none⟩) (by show w.heap.size<_;omega) (by show w.heap.size ≠ _;omega)).trans x0;have Hy0:=Z9 y0;obtain ⟨va,vcap,rfl⟩:=hoh.shape;by_cases hlt:k<pc.length
  ·have hck:=(hbut.cell (p:=⟨g,k,none⟩) hg2 (by show g ≠ _;omega)).trans (uh Hcl k hlt)
   have hget:pc.getD k []=pc[k]:=by simp [List.getD,hlt]
   rw [hget] at hck;have hpk:=uh Hsm pc[k] (List.getElem_mem hlt);have HX:Hid (Zb pc[k]=none->pc.mapM Zb=none):=Z9 (fun h=>Sp hlt h);have HY:Hid (∀ y,Zb pc[k]=some y->(pc.take (k+1)).mapM Zb=some (qs.map (·.1)++[y])):=Z9 (fun y h=>Po hlt (uh Hmap) h);generalize pc[k]=pk at *;clear hoh hmap hbut hql y0 hget;go_wp2_with fail;refine (Vu (bs pk) 32 _ (Pb hpk)).mono ?_;rw [Y3];rintro e w3 ⟨wv,rfl,hst3,hb3⟩;have hz3:=hb3.size;have Hb3:=Z9 hb3;have hwl:=YE 32 pk []
   obtain ⟨wd,ws,hww⟩:∃ wd ws,ZM 32 pk=wd::ws:=by
    cases hx:ZM 32 pk with
    | nil=>exact absurd hx (TW _ _)
    | cons a b=>exact ⟨a,b,rfl⟩
   have Hsm2:Hid (∀ p ∈ wd::ws,p.length<=1048576):=Z9 (fun p hp=>Vx (c:=32) (by rw [hww];exact hp) hpk);have hwl':ws.length<=1048576:=by have h9:=hwl.2;unfold ZM at hww;rw [hww] at h9;simp at h9;omega
   have HRR:=Z9 (N1 hww);rw [hww] at hst3;obtain ⟨wa,wcap,rfl,hwc,hwm,hwr⟩:=hst3.view
   rcases hwr with h0 | ⟨g3,rfl,hg31,hg32,hcl3⟩
   ·cases h0
   have Hcl3:=Z9 hcl3;have hc30:=hcl3 0 (by simp);simp only [List.getD_cons_zero] at hc30;have hlen3:(wd::ws).length=ws.length+1:=rfl;have hwdl:=uh Hsm2 wd (by simp);clear hst3 hcl3 hb3 hwl hww hpk;rw [hlen3] at *;go_wp2_with fail;refine (UO (bs wd) _ (by have:=Pb hwdl;omega)).mono ?_;rw [Y3];rintro e w' ⟨rfl,hw'⟩;subst w';unfold XO;have hnb:=N0 (l:=wd);have HisT:Hid ((Zv wd).isSome=true->Zv wd=some ((Zv wd).getD 0)):=Z9 (fun h=>by cases hx:Zv wd with | none=>rw [hx] at h;cases h | some y=>rfl);have HisF:Hid ((Zv wd).isSome=false->Zb pk=none):=Z9 (fun h=>by rw [uh HRR];cases hx:Zv wd with | none=>rfl | some y=>rw [hx] at h;cases h);generalize (Zv wd).getD 0=n at *;generalize hib:(Zv wd).isSome=ib at *;have Hib:=Z9 hib;clear hib;go_wp2_with fail;have hRB:(w3.alloc (.cells #[.int .i64 n,.slice none 0 0] 112)).frozen? ⟨w3.heap.size,1,none⟩=false:=by rw [frozen?_alloc_cells];exact UI (Z3 _)
   go_loopw [9,11] (fun q i wi=> ∃ (m:Nat) (b:Bool) (pv:Value) (ps:List Z1),m<=ws.length/\i= .int .i64 (m+1)/\q= .bool b/\wi.cell? ⟨w3.heap.size,0,none⟩=some (.int .i64 n)/\wi.cell? ⟨w3.heap.size,1,none⟩=some pv/\wi.frozen? ⟨w3.heap.size,1,none⟩=false/\PacesAt (w3.heap.size+1) wi pv ps/\ps.length=m/\Below w3.heap.size w3 wi/\w3.heap.size+1<=wi.heap.size/\(b=true->ib=true/\(ws.take m).mapM YK=some ps)/\(b=false->Zb pk=none)) (fun _ i _=>ws.length+1-(intOf i).toNat)
   case atStart=>exact ⟨0,ib,_,[],Zi _,rfl,rfl,by simp,by simp,hRB,World.ownsRow_nil _ _ _ _,rfl,(ba _ _),by simp,fun h=>⟨h,rfl⟩,fun h=>uh HisF h⟩
   case round=>
    obtain ⟨wi,rfl⟩:∃ wi,wi=wr:=⟨wr,rfl⟩
    obtain ⟨m,b,pv,ps,hm1,rfl,rfl,z0,z1,z2,hpa,hpl1,hbi,hzi,hbt,hbf⟩:=hrel;have Hpa:=Z9 hpa;have Hpl1:=Z9 hpl1;have Hbi:=Z9 hbi;have Hbt:=Z9 hbt;have Hbf:=Z9 hbf;have Hz1:=Z9 z1;have Hz0:=Z9 z0;have Hz2:=Z9 z2;obtain ⟨pva,pvcap,rfl⟩:=hpa.shape;by_cases hlt2:m<ws.length
    ·have hck2:=(hbi.cell (p:=⟨g3,m+1,none⟩) hg32).trans (uh Hcl3 (m+1) (by first | omega | (simp;omega)))
     have hget2:(wd::ws).getD (m+1) []=ws[m]:=by simp [List.getD,hlt2]
     rw [hget2] at hck2;have hpm:=uh Hsm2 ws[m] (List.mem_cons_of_mem _ (List.getElem_mem hlt2));have HXm:Hid (YK ws[m]=none->Zb pk=none):=Z9 (fun h=>by rw [uh HRR,Sp hlt2 h];cases Zv wd<;>rfl);have HYm:Hid (∀ y,YK ws[m]=some y->(ws.take m).mapM YK=some ps->(ws.take (m+1)).mapM YK=some (ps++[y])):=Z9 (fun y h h'=>Po hlt2 h' h);generalize ws[m]=pm at *;clear hpa hpl1 hbi hbt hbf hget2;go_wp2_with fail;refine (LR pm _ hpm).mono ?_;rintro e w5 ⟨f,kk,fb,rfl,hft,hff,hb5⟩;have hz5:=hb5.size;have Hft:=Z9 hft;have Hff:=Z9 hff;have Hb5:=Z9 hb5;have c50:=(hb5.cell (p:=⟨w3.heap.size,0,none⟩) (by show w3.heap.size<_;omega)).trans (uh Hz0);have c51:=(hb5.cell (p:=⟨w3.heap.size,1,none⟩) (by show w3.heap.size<_;omega)).trans (uh Hz1);have c52:=(hb5.frozen (p:=⟨w3.heap.size,1,none⟩) (by show w3.heap.size<_;omega)).trans (uh Hz2);have Hp5:Hid (PacesAt (w3.heap.size+1) w5 (.slice pva ps.length pvcap) ps):=Z9 (X8 (uh Hpa) (fun q e=>hb5.block q ((uh Hpa).lt e).2));clear hft hff hb5 z0 z1 z2;have hne5:w3.heap.size ≠ w5.heap.size:=by omega
     have q51:(w5.alloc (.cells #[.int .i64 f,.int .i64 kk] 145)).cell? ⟨w3.heap.size,1,none⟩=some (.slice pva ps.length pvcap):=by rw [World.cell?_alloc_old _ _ _ hne5];exact c51
     have Hp6:Hid (PacesAt (w3.heap.size+1) (w5.alloc (.cells #[.int .i64 f,.int .i64 kk] 145)) (.slice pva ps.length pvcap) ps):=Z9 (X8 (uh Hp5) (fun q e=>Below.heap_alloc w5 _ q ((uh Hp5).lt e).2));have q50:(w5.alloc (.cells #[.int .i64 f,.int .i64 kk] 145)).cell? ⟨w3.heap.size,0,none⟩=some (.int .i64 n):=by rw [World.cell?_alloc_old _ _ _ hne5];exact c50
     have q52:(w5.alloc (.cells #[.int .i64 f,.int .i64 kk] 145)).frozen? ⟨w3.heap.size,1,none⟩=false:=by rw [frozen?_alloc_cells];exact c52
     have hpsm:ps.length<=1048576:=by rw [uh Hpl1];omega
     have HB5:Hid (Below w3.heap.size w3 (w5.alloc (.cells #[.int .i64 f,.int .i64 kk] 145))):=Z9 (((uh Hbi).trans ((uh Hb5).mono (by omega))).alloc (by omega) _);clear c50 c51 c52;cases b
     ·go_wp2_with (at_builtin;go_must (refine wpList_append_own_at _ rfl _ _ 110 rfl (w3.heap.size+1) 145 i1 (.agg #[.int .i64 0,.int .i64 0]) 2 16 underlying110 hi1 hp0 hp1 hp2 rfl (by decide) _ _ _ rfl (World.ownsRow.alloc (uh Hp6) _) ⟨_,0,none⟩ 1 1 [.int .i64 f,.int .i64 kk] rfl rfl (TZ _ _ _ _ _ (by simp)) (by simp [Value.oneCell']) (by simp only [maxLen];omega) (by omega) (by simp;omega) ?_);go_must (intro v' w6 hown' hgrow _ _);go_must (obtain ⟨a6,cap6,rfl,e1,e2,HE⟩:=NZ (uh Hp6) (by simp;omega) hown' hgrow q50 q51 q52);clear hown' hgrow)
      go_roundw
      case rel=>exact ⟨m+1,false,_,ps++[(f,kk)],by omega,by go_num,rfl,(uh HE).1,(uh HE).2.1,(uh HE).2.2.1,(uh HE).2.2.2.1,by simp [uh Hpl1],(uh HB5).trans (uh HE).2.2.2.2.1,(uh HE).2.2.2.2.2,fun h=>(by cases h),fun _=>uh Hbf (by simp)⟩
      case measure=>exact ms
     ·go_wp2_with (at_builtin;go_must (refine wpList_append_own_at _ rfl _ _ 110 rfl (w3.heap.size+1) 145 i1 (.agg #[.int .i64 0,.int .i64 0]) 2 16 underlying110 hi1 hp0 hp1 hp2 rfl (by decide) _ _ _ rfl (World.ownsRow.alloc (uh Hp6) _) ⟨_,0,none⟩ 1 1 [.int .i64 f,.int .i64 kk] rfl rfl (TZ _ _ _ _ _ (by simp)) (by simp [Value.oneCell']) (by simp only [maxLen];omega) (by omega) (by simp;omega) ?_);go_must (intro v' w6 hown' hgrow _ _);go_must (obtain ⟨a6,cap6,rfl,e1,e2,HE⟩:=NZ (uh Hp6) (by simp;omega) hown' hgrow q50 q51 q52);clear hown' hgrow)
      go_roundw
      case rel=>exact ⟨m+1,fb,_,ps++[(f,kk)],by omega,by go_num,rfl,(uh HE).1,(uh HE).2.1,(uh HE).2.2.1,(uh HE).2.2.2.1,by simp [uh Hpl1],(uh HB5).trans (uh HE).2.2.2.2.1,(uh HE).2.2.2.2.2,fun h=>⟨(uh Hbt (by simp)).1,uh HYm _ (uh Hft h) (uh Hbt (by simp)).2⟩,fun h=>uh HXm (uh Hff h)⟩
      case measure=>exact ms
    ·obtain rfl:m=ws.length:=by omega
     have HBi:Hid (Below wo.heap.size wo wi):=Z9 ((uh Hb3).trans (hbi.mono hz3));have HbutI:Hid (But (w.heap.size+1) w2 wi):=Z9 ((uh Hbut).later (uh HBi));have HB2:Hid (Below (w.heap.size+1) w2 wi):=Z9 ((uh HbutI).below (Z3 _) (by omega));have d0:wi.cell? ⟨w.heap.size,0,none⟩=some (.slice none 0 0):=((uh HB2).cell (p:=⟨w.heap.size,0,none⟩) (by show w.heap.size<_;omega)).trans x0;have df0:wi.frozen? ⟨w.heap.size,0,none⟩=false:=((uh HB2).frozen (p:=⟨w.heap.size,0,none⟩) (by show w.heap.size<_;omega)).trans g0;have d1:wi.cell? ⟨w.heap.size+1,0,none⟩=some (.slice va qs.length vcap):=((uh HBi).cell (p:=⟨w.heap.size+1,0,none⟩) (by show w.heap.size+1<_;omega)).trans (uh Hv);have df1:wi.frozen? ⟨w.heap.size+1,0,none⟩=false:=((uh HBi).frozen (p:=⟨w.heap.size+1,0,none⟩) (by show w.heap.size+1<_;omega)).trans (uh Hfv);have HohI:Hid (OwnHall w2.heap.size wi (.slice va qs.length vcap) qs):=Z9 ((uh Hoh).later (uh HBi));have hzwi:=(uh HBi).size;clear hpa hpl1 hbi hbt hbf;cases b
     ·have HZ:Hid (YR l=none):=Z9 (uh Hnone (uh HX (uh Hbf (by simp))))
      go_wp2_with fail;exact Zz (v:= .tuple #[.agg #[.slice none 0 0],.bool false]) (by simp [results,results76,go_sem, *]) rfl ⟨.inr ⟨rfl,uh HZ⟩,(((uh B2).trans ((uh HB2).mono (by omega))).setCell (Z3 w.heap.size) _)⟩
     ·have HRm:Hid (Zb pk=some (n,ps)):=Z9 (by
       obtain ⟨h1,h2⟩:=uh Hbt (by simp);rw [List.take_length] at h2
       rw [uh HRR,uh HisT h1,h2];rfl)
      have hqsm:qs.length<=1048577:=by rw [uh Hql];omega
      have HpI:Hid (PacesAt w2.heap.size wi (.slice pva ps.length pvcap) ps):=Z9 (Va (uh Hpa) (by omega));have Hoff:Hid (∀ b,(Value.slice pva ps.length pvcap).ownBlock=some b->(Value.slice va qs.length vcap).ownBlock ≠ some b):=Z9 (fun b e e'=>by have h1:=((uh Hpa).lt e).1;have h2:=((uh Hoh).lt (.inl e')).2;omega);have Hap:Hid (∀ q ∈ qs,∀ b,q.2.ownBlock=some b->(Value.slice pva ps.length pvcap).ownBlock ≠ some b):=Z9 (fun q hq b e e'=>by have h1:=((uh Hpa).lt e').1;have h2:=((uh Hoh).lt (.inr ⟨q,hq,e⟩)).2;omega);go_wp2_with (at_builtin;go_must (refine wpList_append_own_at _ rfl _ _ 32 rfl w2.heap.size 112 i2 (.agg #[.int .i64 0,.slice none 0 0]) 2 32 underlying32 hi2 hr0 hr1 hr2 rfl (by decide) _ _ _ rfl (World.ownsRow.alloc (uh HohI).row _) ⟨_,0,none⟩ 1 1 [.int .i64 n,.slice pva ps.length pvcap] rfl rfl (TZ _ _ _ _ _ (by simp)) (by simp [Value.oneCell']) (by simp only [maxLen];omega) (by omega) (by simp;omega) ?_);go_must (intro v' w6 hown' hgrow _ hat);go_must (obtain ⟨a6,cap6,rfl,e1,e2,HE⟩:=I3 (b:=w.heap.size+1) (uh HohI) (uh HpI) (uh Hoff) (uh Hap) hown' hgrow hat (by omega) (by omega) d1 df1);clear hown' hgrow hat)
      go_roundw
      case rel=>exact ⟨k+1,_,qs++[((n,ps),.slice pva ps.length pvcap)],by omega,by go_num,(uh HE).1,(uh HE).2.1,(uh HE).2.2.1,by simp [uh Hql],by rw [List.map_append];exact uh HY _ (uh HRm),((uh HbutI).within (uh HE).2.2.2).setCell 0 _⟩
      case measure=>exact ms
  ·obtain rfl:k=pc.length:=by omega
   have HB2:Hid (Below (w.heap.size+1) w2 wo):=Z9 (hbut.below (Z3 _) (by omega));have df0:wo.frozen? ⟨w.heap.size,0,none⟩=false:=((uh HB2).frozen (p:=⟨w.heap.size,0,none⟩) (by show w.heap.size<_;omega)).trans g0;rw [List.take_length] at hmap;have Hmap2:=Z9 hmap;have HBo:Hid (Below w.heap.size w wo):=Z9 ((uh B2).trans ((uh HB2).mono (by omega)));clear hoh hmap hbut hql;go_wp2_with fail;refine ck (V0 (uh Hoh).rm) fun w7 hb7=> ?_;have c70:=(hb7.cell (p:=⟨w.heap.size,0,none⟩) (by show w.heap.size<_;omega)).trans y0;have c71:=(hb7.cell (p:=⟨w.heap.size+1,0,none⟩) (by show w.heap.size+1<_;omega)).trans hv;have c72:=(hb7.frozen (p:=⟨w.heap.size,0,none⟩) (by show w.heap.size<_;omega)).trans df0;have Hb7:=Z9 hb7;have hz7:=hb7.size;clear hb7 y0 hv hfv;cases hh:YB (qs.map (·.1))
   ·have HZ:Hid (YR l=none):=Z9 (uh Hbad _ (uh Hmap2) hh)
    clear hh;go_wp2_with fail;exact Zz (v:= .tuple #[.agg #[.slice none 0 0],.bool false]) (by simp [results,results76,go_sem, *]) rfl ⟨.inr ⟨rfl,uh HZ⟩,((uh HBo).trans ((uh Hb7).mono (by omega))).setCell (Z3 w.heap.size) _⟩
   ·have HZ:Hid (YR l=some (qs.map (·.1))):=Z9 (uh Hsome _ (uh Hmap2) hh)
    clear hh;go_wp2_with fail;exact Zz (v:= .tuple #[.agg #[.slice va qs.length vcap],.bool true]) (by simp [results,results76,go_sem, *]) rfl ⟨.inl ⟨_,qs,rfl,uh HZ,(((uh Hoh).later (uh Hb7)).but ((But.refl w.heap.size w7).setCell 0 _) (.inl (by omega))).mono (by omega)⟩,((uh HBo).trans ((uh Hb7).mono (by omega))).setCell (Z3 w.heap.size) _⟩
open Go.Lib (decDigits itoa join joinTail)
set_option linter.unusedSimpArgs false
def Zt:List Txt:=[[99,111,109,101],[114,101,115,116],[119,97,107,101],[108,101,97,118,101],[114,97,110,107],[97,108,108,111,119],[108,105,109,105,116],[99,108,111,115,101],[111,112,101,110],[116,105,99,107],[103,114,97,110,116],[97,115,107],[108,101,118,101,108],[106,111,105,110]]
def Y0:List (List Nat):=[[1,2],[0],[0],[0],[0,1],[0,1],[0,1,2],[1],[1],[1],[1,2],[],[],[0,1]]
def Xw (a:Yp) (i:Nat):Int:=if i=0 then a.2.1 else if i=1 then a.2.2.1 else a.2.2.2
def VG (a:Yp) (i:Nat) (n:Int):Yp:=if i=0 then (a.1,n,a.2.2.1,a.2.2.2) else if i=1 then (a.1,a.2.1,n,a.2.2.2) else (a.1,a.2.1,a.2.2.1,n)
def Zw (w:Txt) (t:List Nat) (a:Yp):List Txt:=w::t.map fun i=>itoa (Xw a i)
def TD (k:Nat) (a:Yp):Txt:=join (Zw (Zt.getD k []) (Y0.getD k []) a) [32]
def Zk (a:Yp):Txt:=if 1<=a.1/\a.1<=14 then TD (a.1.toNat-1) a else []
def ZK:List Txt->List Nat->Yp->Option Yp
 | [],[],a=>some a
 | x::r,i::t,a=>(Zv x).bind fun n=>ZK r t (VG a i n)
 | [],_::_,_=>none
 | _::_,[],_=>none
def Ze (w:Txt):List Txt->Nat->Option Nat
 | [],_=>none
 | x::r,k=>if x=w then some k else Ze w r (k+1)
def Pv:List Txt->Option Yp
 | []=>none
 | w::r=>(Ze w Zt 0).bind fun k=>ZK r (Y0.getD k []) ((k:Int)+1,0,0,0)
def Yj (l:Txt):Option Yp:=Pv (ZM 32 l)
theorem V6 {a:Yp} {k:Nat} (h:a.1=(k:Int)+1) (hk:k<14):Zk a=TD k a:=by
 unfold Zk;rw [if_pos (by omega),show a.1.toNat-1=k by omega]
theorem UW {a:Yp} (h:a.1<1\/14<a.1):Zk a=[]:=by unfold Zk;rw [if_neg (by omega)]
theorem Jz:∀ k,k<14->Zt.getD k [] ≠ []:=by decide
theorem MM:∀ k,k<14->(32:UInt8) ∉ Zt.getD k []:=by decide
theorem Mh {k:Nat} (hk:k<14) (a:Yp):∀ p ∈ Zw (Zt.getD k []) (Y0.getD k []) a,(32:UInt8) ∉ p:=by
 intro p hp;unfold Zw at hp
 rcases List.mem_cons.1 hp with rfl | hp
 ·exact MM k hk
 ·obtain ⟨i,_,rfl⟩:=List.mem_map.1 hp
  exact JM _ (.inr (.inl rfl))
theorem Je {k:Nat} (hk:k<14) (a:Yp):TD k a ≠ []:=by
 unfold TD Zw;rw [Go.Lib.join_cons];intro e;exact Jz k hk (List.append_eq_nil_iff.1 e).1
theorem N8 {a:Yp} : Zk a=[] ↔ (a.1<1\/14<a.1):=by
 constructor
 ·intro h
  by_cases hk:1<=a.1/\a.1<=14
  ·rw [V6 (k:=a.1.toNat-1) (by omega) (by omega)] at h
   exact absurd h (Je (by omega) a)
  ·omega
 ·exact UW
theorem Oc {k:Nat} (hk:k<14) (a:Yp):ZM 32 (TD k a)=Zw (Zt.getD k []) (Y0.getD k []) a:=by
 unfold TD;exact Mu _ _ (Mh hk a)
theorem Ib:∀ k,k<14->Ze (Zt.getD k []) Zt 0=some k:=by decide
theorem VE {w:Txt} : ∀ (r:List Txt) (k j:Nat),Ze w r k=some j->k<=j/\j<k+r.length/\r.getD (j-k) []=w
 | [],k,j,h=>by cases h
 | x::r,k,j,h=>by
  unfold Ze at h;by_cases e:x=w
  ·rw [if_pos e] at h;cases h;simp [e]
  ·rw [if_neg e] at h
   obtain ⟨h1,h2,h3⟩:=VE r (k+1) j h;refine ⟨by omega,by simp only [Zn];omega,?_⟩;rw [show j-k=(j-(k+1))+1 by omega];simpa using h3
theorem Ju:∀ k,k<14->Y0.getD k []=[1,2]\/Y0.getD k []=[0]\/Y0.getD k []=[0,1]\/Y0.getD k []=[0,1,2]\/Y0.getD k []=[1]\/Y0.getD k []=[]:=by decide
theorem I4 {x:Txt} {n:Int} (h:Zv x=some n):x=itoa n:=(XR h).1
theorem I2 {a:Yp} {i:Nat} (n:Int) (hi:i<=2):Xw (VG a i n) i=n:=by
 rcases (show i=0\/i=1\/i=2 by omega) with rfl | rfl | rfl<;>rfl
theorem Kj {a:Yp} {i j:Nat} (n:Int) (hi:i<=2) (hj:j<=2) (h:j ≠ i):Xw (VG a i n) j=Xw a j:=by
 rcases (show i=0\/i=1\/i=2 by omega) with rfl | rfl | rfl<;>rcases (show j=0\/j=1\/j=2 by omega) with rfl | rfl | rfl<;>first | rfl | exact absurd rfl h
theorem I1 (a:Yp) (i:Nat) (n:Int):(VG a i n).1=a.1:=by unfold VG;split;rfl;split<;>rfl
theorem Pp:∀ (t:List Nat) (r:List Txt) (a x:Yp),(∀ i ∈ t,i<=2)->t.Nodup->ZK r t a=some x->r=t.map (fun i=>itoa (Xw x i))/\x.1=a.1/\ ∀ j,j<=2->j ∉ t->Xw x j=Xw a j
 | [],[],a,x,_,_,h=>by cases h;exact ⟨rfl,rfl,fun _ _ _=>rfl⟩
 | [],_::_,a,x,_,_,h=>by cases h
 | _::_,[],a,x,_,_,h=>by cases h
 | i::t,y::r,a,x,h2,hn,h=>by
  simp only [ZK] at h;cases hy:Zv y with
  | none=>rw [hy] at h;cases h
  | some n=>
   rw [hy] at h;obtain ⟨hni,hnt⟩:=List.nodup_cons.1 hn;have hi2:=h2 i (by simp);obtain ⟨e1,e2,e3⟩:=Pp t r (VG a i n) x (fun j hj=>h2 j (by simp [hj])) hnt h;have ei:Xw x i=n:=(e3 i hi2 hni).trans (I2 n hi2);refine ⟨?_,e2.trans (I1 a i n),fun j hj hjt=> ?_⟩
   ·rw [List.map_cons,ei,<-e1,I4 hy]
   ·simp only [List.mem_cons,not_or] at hjt
    exact (e3 j hj hjt.2).trans (Kj n hi2 hj hjt.1)
theorem Vg:∀ k,k<14->(∀ i ∈ Y0.getD k [],i<=2)/\(Y0.getD k []).Nodup:=by decide
theorem Un {l:List Txt} {x:Yp} (h:Pv l=some x):∃ k r,k<14/\l=Zt.getD k []::r/\ZK r (Y0.getD k []) ((k:Int)+1,0,0,0)=some x:=by
 match l,h with
 | w::r,h=>
  have h':(Ze w Zt 0).bind (fun k=>ZK r (Y0.getD k []) ((k:Int)+1,0,0,0))=some x:=h;clear h;cases hw:Ze w Zt 0 with
  | none=>rw [hw] at h';cases h'
  | some k=>
   rw [hw] at h';obtain ⟨_,h2,h3⟩:=VE _ _ _ hw;refine ⟨k,r,?_,?_,h'⟩
   ·rw [show Zt.length=14 from rfl] at h2;omega
   ·rw [Nat.sub_zero] at h3;rw [h3]
theorem Tg {l:Txt} {x:Yp} (h:Yj l=some x):Zk x=l:=by
 obtain ⟨k,r,hk,hl,hr⟩:=Un h;obtain ⟨t1,t2⟩:=Vg k hk;obtain ⟨h1,h2,-⟩:=Pp _ _ _ _ t1 t2 hr;rw [V6 h2 hk];unfold TD Zw;rw [<-h1,<-hl];have:=Ww 32 l [];exact this
theorem J9 {t:List Nat} {k:Int} {a:Yp} (ht:t=[1,2]\/t=[0]\/t=[0,1]\/t=[0,1,2]\/t=[1]\/t=[]) (h0 : -999999999<=a.2.1/\a.2.1<=999999999) (h1 : -999999999<=a.2.2.1/\a.2.2.1<=999999999) (h2 : -999999999<=a.2.2.2/\a.2.2.2<=999999999):∃ y,ZK (t.map (fun i=>itoa (Xw a i))) t (k,0,0,0)=some y/\y.1=k/\ ∀ i ∈ t,Xw y i=Xw a i:=by
 obtain ⟨a0,a1,a2,a3⟩:=a;simp only at h0 h1 h2;have r0:=US h0.1 h0.2;have r1:=US h1.1 h1.2;have r2:=US h2.1 h2.2
 rcases ht with rfl | rfl | rfl | rfl | rfl | rfl
 ·exact ⟨(k,0,a2,a3),by simp [ZK,Xw,VG,r1,r2],rfl,by simp [Xw]⟩
 ·exact ⟨(k,a1,0,0),by simp [ZK,Xw,VG,r0],rfl,by simp [Xw]⟩
 ·exact ⟨(k,a1,a2,0),by simp [ZK,Xw,VG,r0,r1],rfl,by simp [Xw]⟩
 ·exact ⟨(k,a1,a2,a3),by simp [ZK,Xw,VG,r0,r1,r2],rfl,by simp [Xw]⟩
 ·exact ⟨(k,0,a2,0),by simp [ZK,Xw,VG,r1],rfl,by simp [Xw]⟩
 ·exact ⟨(k,0,0,0),by simp [ZK],rfl,by simp⟩
theorem OW {a:Yp} (hk:1<=a.1/\a.1<=14) (h0 : -999999999<=a.2.1/\a.2.1<=999999999) (h1 : -999999999<=a.2.2.1/\a.2.2.1<=999999999) (h2 : -999999999<=a.2.2.2/\a.2.2.2<=999999999):∃ y,Yj (Zk a)=some y/\y.1=a.1/\Zk y=Zk a:=by
 obtain ⟨k,hk1,hk2⟩:∃ k:Nat,k<14/\a.1=(k:Int)+1:=⟨a.1.toNat-1,by omega,by omega⟩
 obtain ⟨y,hy,hy1,hy2⟩:=J9 (k:=(k:Int)+1) (Ju k hk1) h0 h1 h2
 have hr:Yj (Zk a)=some y:=by
  unfold Yj;rw [V6 hk2 hk1,Oc hk1];show (Ze (Zt.getD k []) Zt 0).bind _=some y;rw [Ib k hk1];exact hy
 exact ⟨y,hr,by rw [hy1,hk2],Tg hr⟩
theorem Yy (w:Txt) (t:List Nat) (a:Yp):(Zw w t a).length=t.length+1:=by unfold Zw;simp
theorem Mj {w:Txt} {t:List Nat} {a:Yp} {k:Nat} (hk:k<t.length):(Zw w t a).take (k+2)=(Zw w t a).take (k+1)++[itoa (Xw a (t.getD k 0))]:=by
 have hl:k+1<(Zw w t a).length:=by rw [Yy];omega
 rw [List.take_succ_eq_append_getElem hl]
 have e:(Zw w t a)[k+1]=itoa (Xw a (t.getD k 0)):=by
  show (w::t.map (fun i=>itoa (Xw a i)))[k+1]=_;refine (List.getElem_cons_succ _ _ _ (by simpa using hk)).trans ?_;rw [List.getElem_map];simp [List.getD,hk]
 rw [e]
open Go.Lib (digitVal decFrom decDigits itoa join joinTail)
def Rf (m:Nat):Txt:=if m=0 then [] else decDigits m
theorem XY (m:Nat):decDigits m=Rf (m / 10)++[UInt8.ofNat (48+m%10)]:=by
 by_cases h:m<10
 ·rw [decDigits,dif_pos h,Rf,if_pos (by omega),show m%10=m by omega];rfl
 ·rw [decDigits,dif_neg h,Rf,if_neg (by omega)]
def Sj:Value->Nat
 | .string b=>if b.size=0 then 1 else 0
 | _=>0
theorem Sn {b:ByteArray} {x:UInt8} {t:Txt} (h:b.data.toList=x::t):b.toList.isEmpty=false:=by rw [ByteArray.toList_eq,h];rfl
theorem Ku {b:ByteArray} {x:UInt8} {t:Txt} (h:b.data.toList=x::t):¬ b.size=0:=fun e=>by
 have:b.data.toList.length=b.size:=by simp
 rw [h,e] at this;simp at this
theorem Ip (w:World) (x:Int):(convert 22 9 (.slice (some ⟨w.heap.size,0,none⟩) 1 1)).run prog (w.alloc (.cells #[.int .u8 x] 5))= .ok (.string (strOfNums [x])) (w.alloc (.cells #[.int .u8 x] 5)):=
 run_convert_bytes_arg _ _ _ underlying22 underlying5 _ 0 1 1 [x] rfl (fun i hi=>by obtain rfl:i=0:=Nat.lt_one_iff.1 hi;simp) _ underlying9
theorem WJ (a b:ByteArray):(a++b).data.toList=a.data.toList++b.data.toList:=by simp
theorem U9 (m:Nat):(strOfNums [48+(m:Int)%10]).data.toList=[UInt8.ofNat (48+m%10)]:=by
 rw [strOfNums_data];simp only [List.map_cons,List.map_nil];congr 2
theorem Ye {b:ByteArray} {x:UInt8} {t:Txt} (h:b.data.toList=x::t):Sj (.string b)=0:=by show (if b.size=0 then 1 else 0)=0;rw [if_neg (Ku h)]
theorem Il {b:ByteArray} {l:Txt} (h:b.data.toList=l):b=bs l:=by rw [<-h,Rn]
theorem Lk {a b:ByteArray} (h:a=b):Ending.returned (.string a)= .returned (.string b):=by rw [h]
theorem Ly {N:Nat} (h1:N<=9223372036854775807):(decDigits N).length<=20:=by rw [Go.Lib.decDigits_length];exact Go.Lib.nDigits_le20 N (by omega)
theorem JV (N:Nat) (h1:N<=9223372036854775807) (w:World) :
  cB 28 #[.int .i64 N] w (.string (bs (decDigits N))):=by
 have hneg:¬ (N:Int)<0:=by omega
 have HL:=Z9 (Ly h1);go_enter func28,ntmps28;go_wp2_with fail
 go_loopw [0,3] (fun v s wr=> ∃ (m:Nat) (b:ByteArray),v= .int .i64 m/\s= .string b/\m<=N/\((b=⟨#[]⟩/\m=N)\/(∃ x t,b.data.toList=x::t/\decDigits N=Rf m++x::t))/\Below w.heap.size w wr) (fun v s _=>(intOf v).toNat+Sj s)
 case atStart=>exact ⟨N,⟨#[]⟩,rfl,rfl,Z3 _,.inl ⟨rfl,rfl⟩,Z2 _ _⟩
 case round=>
  obtain ⟨m,b,rfl,rfl,hm,hcase,hb⟩:=hrel;have Hb:=Z9 hb;have Hs:=Z9 hb.size;clear hb;have hmod:¬ ((m:Int)%10)<0:=by omega
  have hcv:=Ip wr (48+(m:Int)%10);have hs1:=strOfNums_size [48+(m:Int)%10];simp only [Zn,Y2,Nat.zero_add] at hs1;have Hs1:=Z9 hs1;clear hs1
  rcases hcase with ⟨rfl,rfl⟩ | ⟨x,t,hbt,hdec⟩
  ·have Hd:Hid ((strOfNums [48+(m:Int)%10]++⟨#[]⟩).data.toList=UInt8.ofNat (48+m%10)::[]):=Z9 (by rw [WJ,U9];rfl)
   have hsz:(strOfNums [48+(m:Int)%10]).size+(⟨#[]⟩:ByteArray).size<=9223372036854775807:=by rw [uh Hs1];decide
   go_wp2_with fail;go_roundw
   case rel=>exact ⟨m / 10,_,by go_num,rfl,by omega,.inr ⟨_,[],uh Hd,XY m⟩,(uh Hb).alloc (uh Hs) _⟩
   case measure=>rw [Ye (uh Hd)];simp [intOf,Sj,ByteArray.size];omega
  ·have he:=Sn hbt
   have hbs:b.size<=20:=by
    have h2:b.data.toList.length=b.size:=by simp
    have h3:=uh HL;rw [hdec,List.length_append,<-hbt,h2] at h3;omega
   have Hbt:=Z9 hbt;have Hdec:=Z9 hdec;clear hbt hdec;by_cases hz:m=0
   ·subst hz
    go_wp2_with fail;go_ret;exact ⟨Lk (Il (by rw [uh Hbt,uh Hdec];rfl)),uh Hb⟩
   ·have Hd:Hid ((strOfNums [48+(m:Int)%10]++b).data.toList=UInt8.ofNat (48+m%10)::x::t):=Z9 (by rw [WJ,U9,uh Hbt];rfl)
    have hsz:(strOfNums [48+(m:Int)%10]).size+b.size<=9223372036854775807:=by rw [uh Hs1];omega
    have Hn:Hid (decDigits N=Rf (m / 10)++UInt8.ofNat (48+m%10)::x::t):=Z9 (by rw [uh Hdec,Rf,if_neg hz,XY m];simp);go_wp2_with fail;go_roundw
    case rel=>exact ⟨m / 10,_,by go_num,rfl,by omega,.inr ⟨_,_,uh Hd,uh Hn⟩,(uh Hb).alloc (uh Hs) _⟩
    case measure=>rw [Ye (uh Hd),Ye (uh Hbt)];simp [intOf];omega
theorem JU (n:Int) (h0:0<=n) (h1:n<=9223372036854775807) (w:World) :
  cB 28 #[.int .i64 n] w (.string (bs (itoa n))):=by
 obtain ⟨N,rfl⟩:=Int.eq_ofNat_of_zero_le h0;have hi:itoa (N:Int)=decDigits N:=by unfold itoa;rw [if_neg (by omega)];rfl
 rw [hi];exact JV N (by omega) w
theorem JN (sep y:Txt):∀ (x:Txt) (r:List Txt),join (x::(r++[y])) sep=join (x::r) sep++(sep++y):=by
 intro x r;rw [Go.Lib.join_cons,Go.Lib.join_cons];simp [joinTail]
theorem JO (sep:Txt) {zs:List Txt} {k:Nat} (h0:0<k) (hk:k<zs.length):join (zs.take (k+1)) sep=(join (zs.take k) sep++sep)++zs.getD k []:=by
 have e:zs.take (k+1)=zs.take k++[zs.getD k []]:=by rw [List.take_succ_eq_append_getElem hk];simp [List.getD,hk]
 rw [e]
 match hz:zs.take k with
 | []=>have:=congrArg List.length hz;simp only [List.length_take,Y2] at this;omega
 | x::r=>rw [List.cons_append,JN];simp
theorem S7 (sep:Txt) (M:Nat):∀ (zs:List Txt),(∀ z ∈ zs,z.length<=M)->(join zs sep).length<=zs.length*(M+sep.length)
 | [],_=>by simp [join]
 | z::r,h=>by
  have hz:=h z (by simp)
  have hr:(joinTail sep r).length<=r.length*(M+sep.length):=by
   have:∀ r:List Txt,(∀ z ∈ r,z.length<=M)->(joinTail sep r).length<=r.length*(M+sep.length):=fun r=>by
    induction r with
    | nil=>intro _;simp [joinTail]
    | cons y r ih=>
     intro hh;have hy:=hh y (by simp);have:=ih (fun z hz=>hh z (by simp [hz]));rw [Wo];simp only [List.length_append,Zn,Nat.add_mul,Nat.one_mul];simp only [Nat.mul_add] at this ⊢;omega
   exact this r (fun z hz=>h z (by simp [hz]))
  rw [Go.Lib.join_cons];simp only [List.length_append,Zn,Nat.add_mul,Nat.one_mul];simp only [Nat.mul_add] at hr ⊢;omega
open Go.Lib (decDigits itoa join joinTail IsBuilder BuilderAt byteCells strCells)
attribute [local go_sem ↓] Go.wp_at_zero Go.wp_at_succ
def Tab (w : World) : Prop := Go.Lib.TabIs prog w "internal/strconv.uint64pow10" .u64 Go.Lib.pow10Tab
theorem Gp : prog.globalNamed "internal/strconv.uint64pow10" = some 1 := by kernel_rfl
theorem Tab.lt {w:World} (h:Tab w):1<w.heap.size:=World.block_lt_of_cell? _ _ (Go.Lib.TabIs.cell h Gp 0 (by decide))
theorem Tab.below {w w':World} (h:Tab w) (hb:Below w.heap.size w w'):Tab w':=var?_below hb Gp h.lt h
theorem VY (n:Int) (h0 : -9223372036854775808<=n) (h1:n<=9223372036854775807) (w:World) (ht:Tab w) :
  cB 32 #[.int .i64 n] w (.string (bs (itoa n))):=by
 have Ht:=Z9 ht;clear ht;go_enter func32,ntmps32;go_wp2_with fail;refine (Tryz.strconv_FormatInt_10 n h0 h1 _ (uh Ht)).mono ?_;rintro e w1 ⟨rfl,k,os,rfl⟩;go_wp2_with fail;go_ret;exact ⟨rfl,Go.Lib.below_grow _ _ (Z3 _) _ _⟩
end Go.Proofs.YtmdgokjeobnnaaaGreatDoor
