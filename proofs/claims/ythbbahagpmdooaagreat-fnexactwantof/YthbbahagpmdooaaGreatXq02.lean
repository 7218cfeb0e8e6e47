/- Part 2 of what the proof rests on. No condition but those that a theorem names. -/
import Derived.Test.YthbbahagpmdooaaGreatXq01
import Derived.Lib.SmallJoins
import Derived.Deep.RegionWith
import Derived.Deep.Fields
import Derived.Deep.Slices
set_option maxHeartbeats 8000000
set_option maxRecDepth 100000
namespace Go.Proofs.YthbbahagpmdooaaGreat
open Go.ChangeShapes Go.WideShapes Go.ChangeAt Go.RowKit Go.Sort
set_option linter.unusedVariables false
def V3 (rs:List Z0):Int:=if Zb rs=true then ZZ rs else -1
theorem SA {rs:List Z0} (h:Zb rs=true):V3 rs=ZZ rs:=by unfold V3;rw [if_pos h]
theorem O6 {rs:List Z0} (h:Zb rs=false):V3 rs= -1:=by unfold V3;rw [h];rfl
theorem Rk {rs:List Z0} (h:Zb rs=true):Fe rs:=M6 (Zf h).2.2.1 (Zf h).2.1
theorem R7 {w:World} {v:Value} {rs:List Z0} (h:IsRooms w v rs) :
  Calls Tryz.prog 128 #[.agg #[v]] w fun e w'=>e= .returned (.int .i64 (V3 rs))/\Below w.heap.size w w':=by
 have Hv:=Z9 h
 obtain ⟨a,cap,rfl,hc,hm,hr⟩:=h
 clear hr
 cases h1:Zb rs
 ·have H1:=Z9 h1
  clear h1
  go_enter Tryz.func128,Tryz.ntmps128
  go_wp2_with fail
  refine (Vo ((uh Hv).alloc _)).mono ?_
  rw [uh H1]
  rintro e w1 ⟨rfl,hb⟩
  go_wp2_with fail
  go_ret
  exact ⟨Zx (O6 (uh H1)).symm,((Below.refl _ _).alloc (Nat.le_refl _) _).trans (hb.mono (by simp))⟩
 ·have H1:=Z9 h1
  clear h1
  go_enter Tryz.func128,Tryz.ntmps128
  go_wp2_with fail
  refine (Vo ((uh Hv).alloc _)).mono ?_
  rw [uh H1]
  rintro e w1 ⟨rfl,hb⟩
  have hz:w.heap.size+1<=w1.heap.size:=by have:=hb.size;simpa using this
  have hbox:w1.cell? ⟨w.heap.size,0,none⟩=some (.slice a rs.length cap):=by rw [hb.cell (p:=⟨w.heap.size,0,none⟩) (by simp)];simp
  have hw1:=Z9 (((uh Hv).alloc _).below hb)
  have Hb:=Z9 hb
  clear hb
  go_wp2_with fail
  refine (SQ (uh hw1) (Rk (uh H1))).mono ?_
  rintro e w2 ⟨rfl,hb2⟩
  have Hb2:=Z9 hb2
  clear hb2
  go_wp2_with fail
  go_ret
  exact ⟨Zx (SA (uh H1)).symm,((Below.refl _ _).alloc (Nat.le_refl _) _).trans (((uh Hb).trans ((uh Hb2).mono (uh Hb).size)).mono (by simp))⟩
theorem TG {w:World} {v:Value} {rs:List Z0} (h:IsRooms w v rs) (ha:Fe rs) :
  Calls Tryz.prog 87 #[.agg #[v]] w fun e w'=>e= .returned (.int .i64 (ZZ rs))/\Below w.heap.size w w':=by
 obtain ⟨a,cap,rfl,hc,hm,hr⟩:=h
 have Hr:=Z9 hr
 have Ha:=Z9 ha
 clear hr ha
 go_enter Tryz.func87,Tryz.ntmps87
 go_wp2_with fail
 go_loop [3,4] (fun s i=> ∃ k:Nat,k<=rs.length/\i= .int .i64 k/\s= .int .i64 (ZZ (rs.take k))) (fun _ i=>rs.length-(intOf i).toNat)
 case atStart=>exact ⟨0,Nat.zero_le _,rfl,rfl⟩
 case round=>
  obtain ⟨k,hk,rfl,rfl⟩:=hrel
  by_cases hlt:k<rs.length
  ·rcases uh Hr with h0 | ⟨b,off,rfl,hbw,hcl⟩
   ·rw [h0] at hlt;simp at hlt
   obtain ⟨c0,pv,c1,hip⟩:=hcl k hlt
   have hne:b ≠ w.heap.size:=Nat.ne_of_lt hbw
   have hs0:=uh Ha k hk
   have hs1:=uh Ha (k+1) hlt
   have Hs:=Z9 (X8 rs hlt)
   rw [X8 rs hlt] at hs1
   generalize ZZ (rs.take k)=s at *
   generalize (ZS rs k).1=rb at *
   obtain ⟨s0,s1⟩:=hs0
   obtain ⟨s2,s3⟩:=hs1
   clear hcl hip
   go_wp2_with fail
   go_round
   case rel=>exact ⟨k+1,by omega,by go_num,by rw [uh Hs]⟩
   case measure=>simp [intOf];omega
  ·obtain rfl:k=rs.length:=by omega
   go_wp2_with fail
   go_ret
   exact ⟨Zx (by first | rfl | rw [Uf]),(Below.refl _ _).alloc (Nat.le_refl _) _⟩
theorem Vz {w:World} {v:Value} {rs:List Z0} (h:IsRooms w v rs) :
  Calls Tryz.prog 85 #[.agg #[v]] w fun e w'=>e= .returned (.bool (Zb rs))/\Below w.heap.size w w':=by
 have Hv:=Z9 h
 obtain ⟨a,cap,rfl,hc,hm,hr⟩:=h
 have Hr:=Z9 hr
 clear hr
 have hl:(rs.length:Int)<=9223372036854775807:=by omega
 go_enter Tryz.func85,Tryz.ntmps85
 go_wp2_with fail
 go_loopw [3] (fun i wr=> ∃ k:Nat,k<=rs.length/\i= .int .i64 k/\(∀ j,j<k->Zp (ZS rs j)=true)/\Below (w.heap.size+1) (w.alloc (.cells #[.slice a rs.length cap] 26)) wr) (fun i _=>rs.length-(intOf i).toNat)
 case atStart=>exact ⟨0,Nat.zero_le _,rfl,fun j hj=>by omega,Below.refl _ _⟩
 case round=>
  obtain ⟨k,hk,rfl,hst,hb⟩:=hrel
  have Hst:=Z9 hst
  have Hb:=Z9 hb
  have hsz:w.heap.size+1<=wr.heap.size:=by have:=hb.size;simpa using this
  have hbox:wr.cell? ⟨w.heap.size,0,none⟩=some (.slice a rs.length cap):=by rw [hb.cell (p:=⟨w.heap.size,0,none⟩) (by simp)];simp
  have hbB:Below w.heap.size w wr:=((Below.refl _ _).alloc (Nat.le_refl _) _).trans (hb.mono (by omega))
  clear hst
  by_cases hlt:k<rs.length
  ·rcases uh Hr with h0 | ⟨b,off,rfl,hbw,hcl⟩
   ·rw [h0] at hlt;simp at hlt
   obtain ⟨c0,pv,c1,hip⟩:=hcl k hlt
   rw [<-hbB.cell (p:=⟨b,off+k*2,none⟩) hbw] at c0
   rw [<-hbB.cell (p:=⟨b,off+k*2+1,none⟩) hbw] at c1
   have Hip:=Z9 (hip.below hbB)
   obtain ⟨pa,pcap,rfl,_⟩:=hip
   generalize hp:ZS rs k=p at *
   obtain ⟨rb,ps⟩:=p
   simp only at c0 c1
   have Hp:=Z9 hp
   have HbB:=Z9 hbB
   clear hp hcl hb hbB
   cases hrb:Zp (rb,ps)
   ·go_wp2_with fail
    refine (YX rb (uh Hip)).mono ?_
    rintro e w1 ⟨rfl,hb1⟩
    have Hb1:=Z9 hb1
    clear hb1
    go_wp2_with fail
    go_ret
    exact ⟨Z6 (IZ (O3 hlt (by rw [uh Hp];exact hrb))).symm,(uh HbB).trans ((uh Hb1).mono (uh HbB).size)⟩
   ·go_wp2_with fail
    refine (YX rb (uh Hip)).mono ?_
    rintro e w1 ⟨rfl,hb1⟩
    have Hb1:=Z9 hb1
    clear hb1
    go_wp2_with fail
    go_roundw
    case rel=>exact ⟨k+1,by omega,by go_num,YM (uh Hst) (by rw [uh Hp];exact hrb),(uh Hb).trans ((uh Hb1).mono hsz)⟩
    case measure=>simp [intOf];omega
  ·obtain rfl:k=rs.length:=by omega
   have h2:=O4 (uh Hst)
   have HbB:=Z9 hbB
   have hw1:=Z9 ((uh Hv).below hbB)
   clear hb hbB
   cases h1:inB rs.length 1 3
   ·have H2:=Z9 (IY h1)
    clear h2
    go_wp2_with fail
    refine (Z1 _ _ _ _).mono ?_
    rintro e w' ⟨rfl,rfl⟩
    go_wp2_with fail
    go_ret
    exact ⟨Z6 (uh H2).symm,uh HbB⟩
   ·have H3:=Z9 (I0 h1 h2)
    have Ha:=Z9 (M6 h2 (by have:=ZU h1;omega))
    clear h2
    go_wp2_with fail
    refine (Z1 _ _ _ _).mono ?_
    rintro e w' ⟨rfl,rfl⟩
    go_wp2_with fail
    refine (TG (uh hw1) (uh Ha)).mono ?_
    rintro e w2 ⟨rfl,hb2⟩
    have Hb2:=Z9 hb2
    clear hb2
    go_wp2_with fail
    go_ret
    exact ⟨Z6 (by rw [uh H3]),(uh HbB).trans ((uh Hb2).mono (uh HbB).size)⟩
theorem IsRooms.shape {w:World} {v:Value} {rs:List Z0} (h:IsRooms w v rs):∃ a cap,v= .slice a rs.length cap/\rs.length<=cap/\cap<=9223372036854775807:=by
 obtain ⟨a,cap,rfl,hc,hm,_⟩:=h;exact ⟨a,cap,rfl,hc,hm⟩
section
variable {α : Type} {t k : Nat} {enc : α → List Value}
def Vn (enc:α->List Value) (xs:List α):List Value:=xs.flatMap enc
theorem WC (hk:∀ x,(enc x).length=k):∀ xs:List α,(Vn enc xs).length=xs.length*k
 | []=>by simp [Vn]
 | x::xs=>by
  have ih:=WC hk xs
  unfold Vn at ih ⊢
  rw [List.flatMap_cons,List.length_append,ih,hk,List.length_cons,Nat.add_mul];omega
theorem Lu (xs ys:List α):Vn enc (xs++ys)=Vn enc xs++Vn enc ys:=by unfold Vn;rw [List.flatMap_append]
def MC (L:List Value) (o:Nat):List Value->List Value
 | []=>L
 | u::us=>MC (L.set o u) (o+1) us
def NF (w:World) (g o:Nat):List Value->World
 | []=>w
 | u::us=>NF (w.setCell ⟨g,o,none⟩ u) g (o+1) us
theorem ME:∀ (us L:List Value) (o:Nat),(MC L o us).length=L.length
 | [],L,o=>rfl
 | u::us,L,o=>by unfold MC;rw [ME us];simp
theorem MD:∀ (us L:List Value) (o m:Nat),o+us.length<=L.length->(MC L o us)[m]?=if o<=m/\m<o+us.length then us[m-o]? else L[m]?
 | [],L,o,m,h=>by unfold MC;rw [if_neg (by simp)]
 | u::us,L,o,m,h=>by
  unfold MC
  have ih:=MD us (L.set o u) (o+1) m (by simp at h ⊢;omega)
  rw [ih]
  simp only [List.length_cons] at h ⊢
  by_cases h1:o+1<=m/\m<o+1+us.length
  ·rw [if_pos h1,if_pos (by omega),show m-o=(m-(o+1))+1 by omega];rfl
  ·rw [if_neg h1]
   by_cases h2:m=o
   ·subst h2;rw [if_pos (by omega),List.getElem?_set_self (by omega)];simp
   ·rw [if_neg (by omega),List.getElem?_set_ne (by omega)]
theorem Mg {B t n cap g sz:Nat} : ∀ (us:List Value) {w:World} {xs:List Value} (o:Nat),w.ownsRow B t sz (.slice (some ⟨g,0,none⟩) n cap) n xs->
  (NF w g o us).ownsRow B t sz (.slice (some ⟨g,0,none⟩) n cap) n (MC xs o us)/\w.grownBy (NF w g o us) (some g)
 | [],w,xs,o,h=>⟨h,SE _ _⟩
 | u::us,w,xs,o,h=>by
  obtain ⟨h1,h2⟩:=World.ownsRow.stored h o u
  obtain ⟨h3,h4⟩:=Mg us (o+1) h1
  exact ⟨h3,Tt h2 h4⟩
def RecAt (t k:Nat) (enc:α->List Value) (n₀:Nat) (w:World) (v:Value) (xs:List α):Prop:=w.ownsRow n₀ t k v xs.length (Vn enc xs)
theorem RecAt.lt {n₀:Nat} {w:World} {v:Value} {xs:List α} (h:RecAt t k enc n₀ w v xs) {i:Nat} (hi:v.ownBlock=some i):n₀<=i/\i<w.heap.size:=World.ownsRow.lt h i hi
theorem RecAt.mono {n₀ n₁:Nat} {w:World} {v:Value} {xs:List α} (h:RecAt t k enc n₀ w v xs) (hn:n₁<=n₀):RecAt t k enc n₁ w v xs:=UK h hn
theorem RecAt.same {n₀:Nat} {w w':World} {v:Value} {xs:List α} (h:RecAt t k enc n₀ w v xs) (hs:∀ i,v.ownBlock=some i->w'.heap[i]?=w.heap[i]?):RecAt t k enc n₀ w' v xs:=XX h hs
theorem RecAt.later {n₀:Nat} {w w':World} {v:Value} {xs:List α} (h:RecAt t k enc n₀ w v xs) (hb:Below w.heap.size w w'):RecAt t k enc n₀ w' v xs:=h.same fun i hi=>hb.block i (h.lt hi).2
theorem RecAt.shape {n₀:Nat} {w:World} {v:Value} {xs:List α} (h:RecAt t k enc n₀ w v xs):∃ a cap,v= .slice a xs.length cap:=by
 rcases h.2 with ⟨rfl,hz⟩ | ⟨g,cap,cur,rfl,_⟩
 ·exact ⟨none,0,by rw [hz]⟩
 ·exact ⟨_,cap,rfl⟩
end
section
variable {α : Type} [Inhabited α] {t k : Nat} {enc : α → List Value}
def Z8 (xs:List α) (j:Nat):α:=xs.getD j default
theorem Og {xs:List α} {j:Nat} (h:j<xs.length):Z8 xs j=xs[j]:=by unfold Z8;simp [List.getD,h]
theorem UR {xs:List α} {j:Nat} (h:j<xs.length):Z8 xs j ∈ xs:=by rw [Og h];exact List.getElem_mem h
theorem ZC {xs:List α} {i:Nat} {x:α} (h:i<xs.length) (j:Nat):Z8 (xs.set i x) j=if j=i then x else Z8 xs j:=by
 unfold Z8
 by_cases e:j=i
 ·subst e;simp [List.getD,h]
 ·rw [if_neg e];simp [List.getD,Ne.symm e]
theorem WB (hk:∀ x,(enc x).length=k):∀ (xs:List α) (j:Nat),j<xs.length-> ∀ i,i<k->(Vn enc xs)[j*k+i]?=(enc (Z8 xs j))[i]?
 | x::xs,0,_,i,hi=>by
  unfold Vn Z8
  rw [List.flatMap_cons,Nat.zero_mul,Nat.zero_add,List.getElem?_append_left (by rw [hk];exact hi)];rfl
 | x::xs,j+1,h,i,hi=>by
  have ih:=WB hk xs j (by simpa using h) i hi
  unfold Vn Z8 at ih ⊢
  rw [List.flatMap_cons,List.getElem?_append_right (by rw [hk,Nat.add_mul];omega),hk,show (j+1)*k+i-k=j*k+i by rw [Nat.add_mul];omega,ih]
  rfl
theorem Fw (hk:∀ x,(enc x).length=k) (h0:0<k) (xs:List α) (j:Nat) (hj:j<xs.length) (x:α):MC (Vn enc xs) (j*k) (enc x)=Vn enc (xs.set j x):=by
 have hl:=WC hk xs
 have hjk:j*k+k<=xs.length*k:=by rw [<-Nat.succ_mul];exact Nat.mul_le_mul_right k hj
 apply List.ext_getElem?
 intro m
 by_cases hm:m<xs.length*k
 ·have hd:m / k<xs.length:=(Nat.div_lt_iff_lt_mul h0).2 hm
  have hr:m%k<k:=Nat.mod_lt _ h0
  have he:m=m / k*k+m%k:=by rw [Nat.mul_comm];exact (Nat.div_add_mod m k).symm
  have hg:=WB hk (xs.set j x) (m / k) (by simpa using hd) (m%k) hr
  have hg0:=WB hk xs (m / k) hd (m%k) hr
  rw [<-he] at hg hg0
  rw [MD _ _ _ _ (by rw [hl,hk];exact hjk),hg,hk,ZC hj,hg0]
  by_cases e:m / k=j
  ·rw [if_pos e,if_pos (by rw [<-e];omega),show m-j*k=m%k by rw [<-e];omega]
  ·rw [if_neg e,if_neg]
   intro ⟨h1,h2⟩
   apply e
   exact Nat.div_eq_of_lt_le h1 (by rw [Nat.succ_mul];exact h2)
 ·rw [List.getElem?_eq_none (by rw [ME,hl];omega),List.getElem?_eq_none (by rw [WC hk];simp;omega)]
def IsRec (k:Nat) (enc:α->List Value) (w:World) (v:Value) (xs:List α):Prop:=
 ∃ (a:Option Addr) (cap:Nat),v= .slice a xs.length cap/\xs.length<=cap/\cap<=9223372036854775807/\(xs=[]\/ ∃ b off,a=some ⟨b,off,none⟩/\b<w.heap.size/\
  ∀ j,j<xs.length-> ∀ i u,(enc (Z8 xs j))[i]?=some u->w.cell? ⟨b,off+j*k+i,none⟩=some u)
theorem IsRec.below {w w':World} {v:Value} {xs:List α} (h:IsRec k enc w v xs) (hb:Below w.heap.size w w'):IsRec k enc w' v xs:=by
 obtain ⟨a,cap,rfl,hc,hm,hr⟩:=h
 refine ⟨a,cap,rfl,hc,hm,?_⟩
 rcases hr with hr | ⟨b,off,rfl,hlt,hcl⟩
 ·exact .inl hr
 ·exact .inr ⟨b,off,rfl,Nat.lt_of_lt_of_le hlt hb.size,fun j hj i u hu=>(hb.cell (p:=⟨b,off+j*k+i,none⟩) hlt).trans (hcl j hj i u hu)⟩
theorem IsRec.shape {w:World} {v:Value} {xs:List α} (h:IsRec k enc w v xs):∃ a cap,v= .slice a xs.length cap/\xs.length<=cap/\cap<=9223372036854775807:=by
 obtain ⟨a,cap,rfl,hc,hm,_⟩:=h;exact ⟨a,cap,rfl,hc,hm⟩
theorem RecAt.recs (hk:∀ x,(enc x).length=k) (h0:0<k) {n₀:Nat} {w:World} {v:Value} {xs:List α} (h:RecAt t k enc n₀ w v xs):IsRec k enc w v xs:=by
 have h':=h
 rcases h.2 with ⟨rfl,hz⟩ | ⟨g,cap,cur,rfl,hb,hg,hnc,hcm,r⟩
 ·exact ⟨none,0,by rw [hz],by omega,by omega,.inl (List.eq_nil_of_length_eq_zero hz)⟩
 ·refine ⟨_,cap,rfl,hnc,by unfold maxLen at hcm;omega,.inr ⟨g,0,rfl,(Array.getElem?_eq_some_iff.1 hg).1,fun j hj i u hu=> ?_⟩⟩
  have hi:i<k:=by
   rcases Nat.lt_or_ge i k with h | h
   ·exact h
   ·rw [List.getElem?_eq_none (by rw [hk];exact h)] at hu;cases hu
  have hjk:j*k+k<=xs.length*k:=by rw [<-Nat.succ_mul];exact Nat.mul_le_mul_right k hj
  rw [Nat.zero_add,World.ownsRow.cellAt h' (j*k+i) (by omega),WB hk xs j hj i hi]
  exact hu
theorem RecAt.view (hk:∀ x,(enc x).length=k) (h0:0<k) {n₀ n cap:Nat} {w:World} {a:Option Addr} {xs:List α} (h:RecAt t k enc n₀ w (.slice a n cap) xs) (hn:n=xs.length) (hl:0<xs.length):∃ g,a=some ⟨g,0,none⟩/\n₀<=g/\g<w.heap.size/\
  (∀ j,j<xs.length-> ∀ i u,(enc (Z8 xs j))[i]?=some u->w.cell? ⟨g,j*k+i,none⟩=some u)/\(∀ o,w.frozen? ⟨g,o,none⟩=false):=by
 subst hn
 have h':=h
 rcases h.2 with ⟨hv,hz⟩ | ⟨g,cap',cur,hv,hb,hg,hnc,hcm,r⟩
 ·omega
 ·cases hv
  refine ⟨g,rfl,hb,(Array.getElem?_eq_some_iff.1 hg).1,fun j hj i u hu=> ?_,fun o=>World.ownsRow.frozenAt h' o⟩
  have hi:i<k:=by
   rcases Nat.lt_or_ge i k with h | h
   ·exact h
   ·rw [List.getElem?_eq_none (by rw [hk];exact h)] at hu;cases hu
  have hjk:j*k+k<=xs.length*k:=by rw [<-Nat.succ_mul];exact Nat.mul_le_mul_right k hj
  rw [World.ownsRow.cellAt h' (j*k+i) (by omega),WB hk xs j hj i hi]
  exact hu
theorem RecAt.put (hk:∀ x,(enc x).length=k) (h0:0<k) {n₀ n cap g:Nat} {w:World} {xs:List α} (h:RecAt t k enc n₀ w (.slice (some ⟨g,0,none⟩) n cap) xs) (hn:n=xs.length) {j:Nat} (hj:j<xs.length) (x:α) :
  RecAt t k enc n₀ (NF w g (j*k) (enc x)) (.slice (some ⟨g,0,none⟩) n cap) (xs.set j x)/\w.grownBy (NF w g (j*k) (enc x)) (some g):=by
 subst hn
 obtain ⟨h1,h2⟩:=Mg (enc x) (j*k) h
 rw [Fw hk h0 xs j hj x] at h1
 refine ⟨?_,h2⟩
 unfold RecAt
 rw [List.length_set]
 exact h1
end
end Go.Proofs.YthbbahagpmdooaaGreat
namespace Go.Proofs.YthbbahagpmdooaaGreat
open Go.ChangeShapes Go.WideShapes Go.ChangeAt Go.RowKit Go.Sort
set_option linter.unusedVariables false
section
variable {α : Type} {t k : Nat} {enc : α → List Value}
theorem Hj [Inhabited α] (hk:∀ x,(enc x).length=k) (h0:0<k) (z:α) (zs:Array Value) (hz:zs.toList=enc z) (n:Nat):(madeCells zs (n*k)).toList=Vn enc (List.replicate n z):=by
 have hs:zs.size=k:=by rw [<-Array.length_toList,hz,hk]
 apply List.ext_getElem?
 intro m
 by_cases hm:m<n*k
 ·have hd:m / k<n:=(Nat.div_lt_iff_lt_mul h0).2 hm
  have hr:m%k<k:=Nat.mod_lt _ h0
  have he:m=m / k*k+m%k:=by rw [Nat.mul_comm];exact (Nat.div_add_mod m k).symm
  have hg:=WB hk (List.replicate n z) (m / k) (by simpa using hd) (m%k) hr
  rw [<-he] at hg
  have hrec:Z8 (List.replicate n z) (m / k)=z:=by unfold Z8;simp [List.getD,hd]
  rw [hg,hrec,<-hz]
  simp [madeCells,hm,hs,hr]
 ·rw [List.getElem?_eq_none (by simp [madeCells];omega),List.getElem?_eq_none (by rw [WC hk];simp;omega)]
end
end Go.Proofs.YthbbahagpmdooaaGreat
namespace Go.Proofs.YthbbahagpmdooaaGreat
open Go.ChangeShapes Go.WideShapes Go.ChangeAt Go.RowKit Go.Sort
set_option linter.unusedVariables false
abbrev ZK:=Int × Int × Int
def Xy (p:ZK):List Value:=[.int .i64 p.1,.int .i64 p.2.1,.int .i64 p.2.2]
theorem Yb (p:ZK):(Xy p).length=3:=rfl
abbrev Yw (w:World) (v:Value) (ps:List ZK):Prop:=IsRec 3 Xy w v ps
abbrev GuildsAt (n₀:Nat) (w:World) (v:Value) (ps:List ZK):Prop:=RecAt 121 3 Xy n₀ w v ps
theorem GX:(Tryz.prog.info? 121).map (fun i=>(i.zero,i.size,i.bytes))=some (some (.agg #[.int .i64 0,.int .i64 0,.int .i64 0]),3,24):=by kernel_rfl
theorem GuildsAt.list {n₀:Nat} {w:World} {v:Value} {ps:List ZK} (h:GuildsAt n₀ w v ps):Yw w v ps:=RecAt.recs Yb (by omega) h
theorem Va {w:World} {b off:Nat} {ps:List ZK} (h:∀ j,j<ps.length-> ∀ i u,(Xy (Z8 ps j))[i]?=some u->w.cell? ⟨b,off+j*3+i,none⟩=some u) {j:Nat} (hj:j<ps.length) :
  w.cell? ⟨b,off+j*3,none⟩=some (.int .i64 (Z8 ps j).1)/\w.cell? ⟨b,off+j*3+1,none⟩=some (.int .i64 (Z8 ps j).2.1)/\w.cell? ⟨b,off+j*3+2,none⟩=some (.int .i64 (Z8 ps j).2.2):=
 ⟨h j hj 0 _ rfl,h j hj 1 _ rfl,h j hj 2 _ rfl⟩
abbrev Z3:=Int × Int × Int × Int × Int × Int × Int × Int × Int × Int × Int
def ZT (p:Z3):List Value:=[.int .i64 p.1,.int .i64 p.2.1,.int .i64 p.2.2.1,.int .i64 p.2.2.2.1,.int .i64 p.2.2.2.2.1,.int .i64 p.2.2.2.2.2.1,.int .i64 p.2.2.2.2.2.2.1,.int .i64 p.2.2.2.2.2.2.2.1,.int .i64 p.2.2.2.2.2.2.2.2.1,.int .i64 p.2.2.2.2.2.2.2.2.2.1,.int .i64 p.2.2.2.2.2.2.2.2.2.2]
theorem ZQ (p:Z3):(ZT p).length=11:=rfl
abbrev V2 (w:World) (v:Value) (ps:List Z3):Prop:=IsRec 11 ZT w v ps
abbrev SmithsAt (n₀:Nat) (w:World) (v:Value) (ps:List Z3):Prop:=RecAt 41 11 ZT n₀ w v ps
theorem SmithsAt.list {n₀:Nat} {w:World} {v:Value} {ps:List Z3} (h:SmithsAt n₀ w v ps):V2 w v ps:=RecAt.recs ZQ (by omega) h
theorem ZI {w:World} {b off:Nat} {ps:List Z3} (h:∀ j,j<ps.length-> ∀ i u,(ZT (Z8 ps j))[i]?=some u->w.cell? ⟨b,off+j*11+i,none⟩=some u) {j:Nat} (hj:j<ps.length) :
  w.cell? ⟨b,off+j*11,none⟩=some (.int .i64 (Z8 ps j).1)/\w.cell? ⟨b,off+j*11+1,none⟩=some (.int .i64 (Z8 ps j).2.1)/\w.cell? ⟨b,off+j*11+2,none⟩=some (.int .i64 (Z8 ps j).2.2.1)/\w.cell? ⟨b,off+j*11+3,none⟩=some (.int .i64 (Z8 ps j).2.2.2.1)/\w.cell? ⟨b,off+j*11+4,none⟩=some (.int .i64 (Z8 ps j).2.2.2.2.1)/\w.cell? ⟨b,off+j*11+5,none⟩=some (.int .i64 (Z8 ps j).2.2.2.2.2.1)/\w.cell? ⟨b,off+j*11+6,none⟩=some (.int .i64 (Z8 ps j).2.2.2.2.2.2.1)/\w.cell? ⟨b,off+j*11+7,none⟩=some (.int .i64 (Z8 ps j).2.2.2.2.2.2.2.1)/\w.cell? ⟨b,off+j*11+8,none⟩=some (.int .i64 (Z8 ps j).2.2.2.2.2.2.2.2.1)/\w.cell? ⟨b,off+j*11+9,none⟩=some (.int .i64 (Z8 ps j).2.2.2.2.2.2.2.2.2.1)/\w.cell? ⟨b,off+j*11+10,none⟩=some (.int .i64 (Z8 ps j).2.2.2.2.2.2.2.2.2.2):=
 ⟨h j hj 0 _ rfl,h j hj 1 _ rfl,h j hj 2 _ rfl,h j hj 3 _ rfl,h j hj 4 _ rfl,h j hj 5 _ rfl,h j hj 6 _ rfl,h j hj 7 _ rfl,h j hj 8 _ rfl,h j hj 9 _ rfl,h j hj 10 _ rfl⟩
abbrev Yl:=Bool × Int × Int
def XE (p:Yl):List Value:=[.bool p.1,.int .i64 p.2.1,.int .i64 p.2.2]
theorem Zu (p:Yl):(XE p).length=3:=rfl
abbrev U8 (w:World) (v:Value) (ps:List Yl):Prop:=IsRec 3 XE w v ps
abbrev DesksAt (n₀:Nat) (w:World) (v:Value) (ps:List Yl):Prop:=RecAt 68 3 XE n₀ w v ps
theorem DesksAt.list {n₀:Nat} {w:World} {v:Value} {ps:List Yl} (h:DesksAt n₀ w v ps):U8 w v ps:=RecAt.recs Zu (by omega) h
theorem Zd {w:World} {b off:Nat} {ps:List Yl} (h:∀ j,j<ps.length-> ∀ i u,(XE (Z8 ps j))[i]?=some u->w.cell? ⟨b,off+j*3+i,none⟩=some u) {j:Nat} (hj:j<ps.length) :
  w.cell? ⟨b,off+j*3,none⟩=some (.bool (Z8 ps j).1)/\w.cell? ⟨b,off+j*3+1,none⟩=some (.int .i64 (Z8 ps j).2.1)/\w.cell? ⟨b,off+j*3+2,none⟩=some (.int .i64 (Z8 ps j).2.2):=
 ⟨h j hj 0 _ rfl,h j hj 1 _ rfl,h j hj 2 _ rfl⟩
open Go.ChangeShapes Go.WideShapes Go.ChangeAt Go.RowKit Go.Sort Go.Deep
def Ug (z:Int):List Value:=[.int .i64 z]
theorem YT (z:Int):(Ug z).length=1:=rfl
abbrev Js (w:World) (v:Value) (zs:List Int):Prop:=IsRec 1 Ug w v zs
abbrev NumsAt (n₀:Nat) (w:World) (v:Value) (zs:List Int):Prop:=RecAt 2 1 Ug n₀ w v zs
theorem NumsAt.list {n₀:Nat} {w:World} {v:Value} {zs:List Int} (h:NumsAt n₀ w v zs):Js w v zs:=RecAt.recs YT (by omega) h
theorem FR {w:World} {b off:Nat} {zs:List Int} (h:∀ j,j<zs.length-> ∀ i u,(Ug (Z8 zs j))[i]?=some u->w.cell? ⟨b,off+j*1+i,none⟩=some u) {j:Nat} (hj:j<zs.length) :
  w.cell? ⟨b,off+j,none⟩=some (.int .i64 (Z8 zs j)):=by
 have:=h j hj 0 _ rfl
 simpa using this
def Blk (w:World) (R:Nat) (t:TypeId) (cs:Array Value):Prop:=w.heap[R]?=some (.cells cs t (0,0))
section
variable {w w' : World} {R B : Nat} {t : TypeId} {cs : Array Value}
theorem Blk.lt (h:Blk w R t cs):R<w.heap.size:=(Array.getElem?_eq_some_iff.1 h).1
theorem Blk.cell (h:Blk w R t cs) {i:Nat} {v:Value} (hi:cs[i]?=some v):w.cell? ⟨R,i,none⟩=some v:=by simp [World.cell?,show w.heap[R]?=_ from h,hi]
theorem Blk.free (h:Blk w R t cs) (i:Nat):w.frozen? ⟨R,i,none⟩=false:=frozen_of_row w R i cs t h
theorem Blk.new (w:World) (t:TypeId) (cs:Array Value):Blk (w.alloc (.cells cs t)) w.heap.size t cs:=by show (w.heap.push _)[w.heap.size]?=_;simp
theorem Blk.same (h:Blk w R t cs) (hs:w'.heap[R]?=w.heap[R]?):Blk w' R t cs:=hs.trans h
theorem Blk.below (h:Blk w R t cs) (hb:Below B w w') (hR:R<B):Blk w' R t cs:=h.same (hb.block R hR)
theorem Blk.alloc (h:Blk w R t cs) (o:Obj):Blk (w.alloc o) R t cs:=h.below ((Below.refl w.heap.size w).alloc (Nat.le_refl _) o) h.lt
theorem Blk.set (h:Blk w R t cs) (i:Nat) (v:Value):Blk (w.setCell ⟨R,i,none⟩ v) R t (cs.setIfInBounds i v):=heap_setCell_same w R i cs t v h
theorem Blk.other (h:Blk w R t cs) {a:Addr} (ha:R ≠ a.block) (v:Value):Blk (w.setCell a v) R t cs:=h.same (heap_setCell_other w a R v ha)
theorem Blk.drewN (h:Blk w R t cs) (n:Nat):Blk (w.drewN n) R t cs:=h
end
theorem Z2 (w:World) {t:TypeId} {cs:Array Value} {i:Nat} {v:Value} (hi:cs[i]?=some v):(w.alloc (.cells cs t)).cell? ⟨w.heap.size,i,none⟩=some v:=(Blk.new w t cs).cell hi
theorem Blk.c2 {w:World} {R:Nat} {t:TypeId} {v0 v1:Value} (h:Blk w R t #[v0,v1]):w.cell? ⟨R,0,none⟩=some v0/\w.cell? ⟨R,1,none⟩=some v1:=⟨h.cell rfl,h.cell rfl⟩
theorem Blk.c3 {w:World} {R:Nat} {t:TypeId} {v0 v1 v2:Value} (h:Blk w R t #[v0,v1,v2]):w.cell? ⟨R,0,none⟩=some v0/\w.cell? ⟨R,1,none⟩=some v1/\w.cell? ⟨R,2,none⟩=some v2:=⟨h.cell rfl,h.cell rfl,h.cell rfl⟩
theorem Blk.c4 {w:World} {R:Nat} {t:TypeId} {v0 v1 v2 v3:Value} (h:Blk w R t #[v0,v1,v2,v3]):w.cell? ⟨R,0,none⟩=some v0/\w.cell? ⟨R,1,none⟩=some v1/\w.cell? ⟨R,2,none⟩=some v2/\w.cell? ⟨R,3,none⟩=some v3:=⟨h.cell rfl,h.cell rfl,h.cell rfl,h.cell rfl⟩
theorem Blk.c6 {w:World} {R:Nat} {t:TypeId} {v0 v1 v2 v3 v4 v5:Value} (h:Blk w R t #[v0,v1,v2,v3,v4,v5]):w.cell? ⟨R,0,none⟩=some v0/\w.cell? ⟨R,1,none⟩=some v1/\w.cell? ⟨R,2,none⟩=some v2/\w.cell? ⟨R,3,none⟩=some v3/\w.cell? ⟨R,4,none⟩=some v4/\w.cell? ⟨R,5,none⟩=some v5:=⟨h.cell rfl,h.cell rfl,h.cell rfl,h.cell rfl,h.cell rfl,h.cell rfl⟩
theorem Blk.c11 {w:World} {R:Nat} {t:TypeId} {v0 v1 v2 v3 v4 v5 v6 v7 v8 v9 v10:Value} (h:Blk w R t #[v0,v1,v2,v3,v4,v5,v6,v7,v8,v9,v10]):w.cell? ⟨R,0,none⟩=some v0/\w.cell? ⟨R,1,none⟩=some v1/\w.cell? ⟨R,2,none⟩=some v2/\w.cell? ⟨R,3,none⟩=some v3/\w.cell? ⟨R,4,none⟩=some v4/\w.cell? ⟨R,5,none⟩=some v5/\w.cell? ⟨R,6,none⟩=some v6/\w.cell? ⟨R,7,none⟩=some v7/\w.cell? ⟨R,8,none⟩=some v8/\w.cell? ⟨R,9,none⟩=some v9/\w.cell? ⟨R,10,none⟩=some v10:=⟨h.cell rfl,h.cell rfl,h.cell rfl,h.cell rfl,h.cell rfl,h.cell rfl,h.cell rfl,h.cell rfl,h.cell rfl,h.cell rfl,h.cell rfl⟩
theorem bl {w w':World} {R:Nat} {t:TypeId} {cs:Array Value} (h:Hid (Blk w R t cs)) (hb:Below w.heap.size w w'):Hid (Blk w' R t cs):=Z9 ((uh h).below hb (uh h).lt)
theorem bt {w a b:World} (h:Hid (Below w.heap.size w a)) (hb:Below a.heap.size a b):Hid (Below w.heap.size w b):=Z9 ((uh h).trans (hb.mono (uh h).size))
theorem Blk.f3 {w:World} {R:Nat} {t:TypeId} {cs:Array Value} (h:Blk w R t cs):w.frozen? ⟨R,0,none⟩=false/\w.frozen? ⟨R,1,none⟩=false/\w.frozen? ⟨R,2,none⟩=false:=⟨h.free 0,h.free 1,h.free 2⟩
theorem Blk.f4 {w:World} {R:Nat} {t:TypeId} {cs:Array Value} (h:Blk w R t cs):w.frozen? ⟨R,0,none⟩=false/\w.frozen? ⟨R,1,none⟩=false/\w.frozen? ⟨R,2,none⟩=false/\w.frozen? ⟨R,3,none⟩=false:=⟨h.free 0,h.free 1,h.free 2,h.free 3⟩
theorem Blk.f6 {w:World} {R:Nat} {t:TypeId} {cs:Array Value} (h:Blk w R t cs):w.frozen? ⟨R,0,none⟩=false/\w.frozen? ⟨R,1,none⟩=false/\w.frozen? ⟨R,2,none⟩=false/\w.frozen? ⟨R,3,none⟩=false/\w.frozen? ⟨R,4,none⟩=false/\w.frozen? ⟨R,5,none⟩=false:=⟨h.free 0,h.free 1,h.free 2,h.free 3,h.free 4,h.free 5⟩
theorem Blk.f11 {w:World} {R:Nat} {t:TypeId} {cs:Array Value} (h:Blk w R t cs):w.frozen? ⟨R,0,none⟩=false/\w.frozen? ⟨R,1,none⟩=false/\w.frozen? ⟨R,2,none⟩=false/\w.frozen? ⟨R,3,none⟩=false/\w.frozen? ⟨R,4,none⟩=false/\w.frozen? ⟨R,5,none⟩=false/\w.frozen? ⟨R,6,none⟩=false/\w.frozen? ⟨R,7,none⟩=false/\w.frozen? ⟨R,8,none⟩=false/\w.frozen? ⟨R,9,none⟩=false/\w.frozen? ⟨R,10,none⟩=false:=⟨h.free 0,h.free 1,h.free 2,h.free 3,h.free 4,h.free 5,h.free 6,h.free 7,h.free 8,h.free 9,h.free 10⟩
theorem Yt (w:World) (t:TypeId) (cs:Array Value) (u:TypeId) (ds:Array Value):∃ W,(w.alloc (.cells cs t)).alloc (.cells ds u)=W/\Hid (Blk W w.heap.size t cs)/\Hid (Blk W (w.heap.size+1) u ds)/\Hid (Below w.heap.size w W):=by
 refine ⟨_,rfl,Z9 ((Blk.new w _ _).alloc _),Z9 ?_,Z9 (((Below.refl _ _).alloc (Nat.le_refl _) _).alloc (by simp) _)⟩
 have k:=Blk.new (w.alloc (.cells cs t)) u ds
 rw [World.size_alloc] at k
 exact k
theorem Zq (w:World) (t:TypeId) (cs:Array Value) (u:TypeId) (ds:Array Value) (v:TypeId) (es:Array Value):∃ W,((w.alloc (.cells cs t)).alloc (.cells ds u)).alloc (.cells es v)=W/\Hid (Blk W w.heap.size t cs)/\Hid (Blk W (w.heap.size+1) u ds)/\Hid (Blk W (w.heap.size+1+1) v es)/\Hid (Below w.heap.size w W):=by
 refine ⟨_,rfl,Z9 (((Blk.new w _ _).alloc _).alloc _),Z9 ?_,Z9 ?_,Z9 ((((Below.refl _ _).alloc (Nat.le_refl _) _).alloc (by simp) _).alloc (by simp;omega) _)⟩
 ·have k:=(Blk.new (w.alloc (.cells cs t)) u ds).alloc (.cells es v)
  rw [World.size_alloc] at k
  exact k
 ·have k:=Blk.new ((w.alloc (.cells cs t)).alloc (.cells ds u)) v es
  rw [World.size_alloc,World.size_alloc] at k
  exact k
theorem Me (w:World) (t:TypeId) (cs:Array Value):∃ W,w.alloc (.cells cs t)=W/\Hid (Below w.heap.size w W)/\Hid (Blk W w.heap.size t cs):=⟨_,rfl,Z9 ((Below.refl _ _).alloc (Nat.le_refl _) _),Z9 (Blk.new _ _ _)⟩
theorem Xj (w:World) (t:TypeId) (cs:Array Value):Hid (Below w.heap.size w (w.alloc (.cells cs t)))/\Hid (Blk (w.alloc (.cells cs t)) w.heap.size t cs):=⟨Z9 ((Below.refl _ _).alloc (Nat.le_refl _) _),Z9 (Blk.new _ _ _)⟩
theorem ZD (w:World) (t:TypeId) (cs:Array Value):∃ W,w.alloc (.cells cs t)=W/\Below w.heap.size w W/\Hid (Blk W w.heap.size t cs):=⟨_,rfl,(Below.refl _ _).alloc (Nat.le_refl _) _,Z9 (Blk.new _ _ _)⟩
end Go.Proofs.YthbbahagpmdooaaGreat
namespace Go.Proofs.YthbbahagpmdooaaGreat
open Go.ChangeShapes Go.WideShapes Go.ChangeAt Go.RowKit Go.Sort
set_option linter.unusedVariables false
structure Z4 where
 rooms:List Z0
 guilds:List ZK
 smiths:List Z3
 desks:List Yl
 paces:List Int
 now:Int
structure Smy (w:World) (v0 v1 v2 v3 v4:Value) (m:Z4):Prop where
 rooms:IsRooms w v0 m.rooms
 guilds:Yw w v1 m.guilds
 smiths:V2 w v2 m.smiths
 desks:U8 w v3 m.desks
 paces:Js w v4 m.paces
theorem Smy.below {w w':World} {v0 v1 v2 v3 v4:Value} {m:Z4} (h:Smy w v0 v1 v2 v3 v4 m) (hb:Below w.heap.size w w'):Smy w' v0 v1 v2 v3 v4 m:=
 ⟨h.rooms.below hb,h.guilds.below hb,h.smiths.below hb,h.desks.below hb,h.paces.below hb⟩
theorem Smy.alloc {w:World} {v0 v1 v2 v3 v4:Value} {m:Z4} (h:Smy w v0 v1 v2 v3 v4 m) (o:Obj):Smy (w.alloc o) v0 v1 v2 v3 v4 m:=h.below ((Below.refl _ _).alloc (Nat.le_refl _) _)
theorem RecAt.set_old {α:Type} {t k:Nat} {enc:α->List Value} {n₀:Nat} {w:World} {v:Value} {xs:List α} (h:RecAt t k enc n₀ w v xs) (g o:Nat) (u:Value) (hg:g<n₀):RecAt t k enc n₀ (w.setCell ⟨g,o,none⟩ u) v xs:=
 h.same fun i hi=>heap_setCell_other w _ i u (by have:=(h.lt hi).1;show i ≠ g;omega)
abbrev E6:Array Value:=#[.slice none 0 0,.slice none 0 0,.slice none 0 0,.slice none 0 0,.slice none 0 0,.int .i64 0]
abbrev S6 (a0:Option Addr) (p0:Nat) (a1:Option Addr) (p1:Nat) (a2:Option Addr) (p2:Nat) (a3:Option Addr) (p3:Nat) (a4:Option Addr) (p4:Nat) (m:Z4):Array Value:=#[.slice a0 m.rooms.length p0,.slice a1 m.guilds.length p1,.slice a2 m.smiths.length p2,.slice a3 m.desks.length p3,.slice a4 m.paces.length p4,.int .i64 m.now]
theorem Smy.five {w:World} {v0 v1 v2 v3 v4:Value} {m:Z4} (h:Smy w v0 v1 v2 v3 v4 m):∃ a0 p0 a1 p1 a2 p2 a3 p3 a4 p4,v0= .slice a0 m.rooms.length p0/\v1= .slice a1 m.guilds.length p1/\v2= .slice a2 m.smiths.length p2/\v3= .slice a3 m.desks.length p3/\v4= .slice a4 m.paces.length p4/\m.rooms.length<=p0/\p0<=9223372036854775807/\m.guilds.length<=p1/\p1<=9223372036854775807/\m.smiths.length<=p2/\p2<=9223372036854775807/\m.desks.length<=p3/\p3<=9223372036854775807/\m.paces.length<=p4/\p4<=9223372036854775807:=by
 obtain ⟨a0,p0,e0,x0,y0,_⟩:=h.rooms
 obtain ⟨a1,p1,e1,x1,y1,_⟩:=h.guilds
 obtain ⟨a2,p2,e2,x2,y2,_⟩:=h.smiths
 obtain ⟨a3,p3,e3,x3,y3,_⟩:=h.desks
 obtain ⟨a4,p4,e4,x4,y4,_⟩:=h.paces
 exact ⟨a0,p0,a1,p1,a2,p2,a3,p3,a4,p4,e0,e1,e2,e3,e4,x0,y0,x1,y1,x2,y2,x3,y3,x4,y4⟩
open Go.ChangeShapes Go.WideShapes Go.ChangeAt Go.RowKit
def Wv (k:Nat):Int:=[1024,819,655,524,419,335].getD k 0
def VV (k:Nat):Int:=[1024,1280,1600,2000,2500,3125].getD k 0
def Zt (r:Int):Int:=if inB r (-5) 5 then (if 0<=r then Wv r.toNat else VV (-r).toNat) else 0
theorem J2:∀ k:Fin 5,Wv (k.val+1)=Wv k.val*4 / 5/\0<=Wv k.val/\Wv k.val<=1024:=by decide
theorem JM:∀ k:Fin 5,VV (k.val+1)=VV k.val*5 / 4/\0<=VV k.val/\VV k.val<=3125:=by decide
theorem L1 {k:Nat} (h:k<5):Wv (k+1)=Wv k*4 / 5/\0<=Wv k/\Wv k<=1024:=J2 ⟨k,h⟩
theorem LJ {k:Nat} (h:k<5):VV (k+1)=VV k*5 / 4/\0<=VV k/\VV k<=3125:=JM ⟨k,h⟩
theorem F4 {r:Int} (h:inB r (-5) 5=true):r= -5\/r= -4\/r= -3\/r= -2\/r= -1\/r=0\/r=1\/r=2\/r=3\/r=4\/r=5:=by
 have:=ZU h
 omega
theorem WR {r:Int} (h:inB r (-5) 5=false):Zt r=0:=by unfold Zt;simp [h]
theorem KW {r:Int} (h:inB r (-5) 5=true) (h0:0<=r):Zt r=Wv r.toNat:=by unfold Zt;simp [h,h0]
theorem NP {r:Int} (h:inB r (-5) 5=true) (h0:¬ 0<=r):Zt r=VV (-r).toNat:=by unfold Zt;simp [h,h0]
theorem Ze (x:Int) (w:World):Calls Tryz.prog 137 #[.int .i64 x] w fun e w'=>e= .returned (.bool (inB x (-5) 5))/\w'=w:=by
 go_enter Tryz.func137,Tryz.ntmps137
 go_wp2_with (go_at_call 77;refine (Z1 _ _ _ _).mono ?_;rintro e w' ⟨rfl,rfl⟩)
 go_ret
 exact ⟨rfl,rfl⟩
theorem RJ (r:Int) (w:World):Calls Tryz.prog 138 #[.int .i64 r] w fun e w'=>e= .returned (.int .i64 (Zt r))/\w'=w:=by
 cases hb:inB r (-5) 5
 ·rw [WR hb]
  go_enter Tryz.func138,Tryz.ntmps138
  go_wp2_with (go_at_call 137;refine (Ze _ _).mono ?_;rintro e w' ⟨rfl,rfl⟩)
  go_ret
  exact ⟨rfl,rfl⟩
 ·obtain ⟨r0,r1⟩:=ZU hb
  by_cases h0:0<=r
  ·rw [KW hb h0]
   obtain ⟨n,rfl⟩:=Int.eq_ofNat_of_zero_le h0
   rw [Int.toNat_natCast]
   go_enter Tryz.func138,Tryz.ntmps138
   go_wp2_with (go_at_call 137;refine (Ze _ _).mono ?_;rintro e w' ⟨rfl,rfl⟩)
   go_loop [0,3] (fun i s=> ∃ k:Nat,k<=n/\i= .int .i64 ((n:Int)-k)/\s= .int .i64 (Wv k)) (fun i _=>(intOf i).toNat)
   case atStart=>exact ⟨0,Nat.zero_le _,by simp,rfl⟩
   case round=>
    obtain ⟨k,hk,rfl,rfl⟩:=hrel
    by_cases hlt:k<n
    ·obtain ⟨hs,f1,f2⟩:=L1 (k:=k) (by omega)
     have Hs:=Z9 hs
     clear hs
     generalize Wv k=z at *
     go_wp2_with fail
     go_round
     case rel=>exact ⟨k+1,by omega,by go_num,by rw [uh Hs]⟩
     case measure=>simp [intOf];omega
    ·obtain rfl:k=n:=by omega
     go_wp2_with fail
     go_loop [0,3] (fun i s=>i= .int .i64 0/\s= .int .i64 (Wv k)) (fun _ _=>0)
     case atStart=>exact ⟨by simp,rfl⟩
     case round=>
      obtain ⟨rfl,rfl⟩:=hrel
      go_wp2_with fail
      go_ret
      exact ⟨rfl,rfl⟩
  ·rw [NP hb h0]
   obtain ⟨n,hn⟩:=Int.eq_ofNat_of_zero_le (show 0<= -r by omega)
   obtain rfl:r= -(n:Int):=by omega
   rw [show (-(-(n:Int))).toNat=n by omega]
   clear hn
   go_enter Tryz.func138,Tryz.ntmps138
   go_wp2_with (go_at_call 137;refine (Ze _ _).mono ?_;rintro e w' ⟨rfl,rfl⟩)
   go_loop [0,3] (fun i s=>i= .int .i64 (-(n:Int))/\s= .int .i64 1024) (fun _ _=>0)
   case atStart=>exact ⟨rfl,rfl⟩
   case round=>
    obtain ⟨rfl,rfl⟩:=hrel
    go_wp2_with fail
    go_loop [0,3] (fun i s=> ∃ k:Nat,k<=n/\i= .int .i64 ((k:Int)-n)/\s= .int .i64 (VV k)) (fun i _=>(-(intOf i)).toNat)
    case atStart=>exact ⟨0,Nat.zero_le _,by simp,rfl⟩
    case round=>
     obtain ⟨k,hk,rfl,rfl⟩:=hrel
     by_cases hlt:k<n
     ·obtain ⟨hs,f1,f2⟩:=LJ (k:=k) (by omega)
      have Hs:=Z9 hs
      clear hs
      generalize VV k=z at *
      go_wp2_with fail
      go_round
      case rel=>exact ⟨k+1,by omega,by go_num,by rw [uh Hs]⟩
      case measure=>simp [intOf];omega
     ·obtain rfl:k=n:=by omega
      go_wp2_with fail
      go_ret
      exact ⟨rfl,rfl⟩
theorem LI {x y:Int} (h0:0<=x) (h1:x<=100000) (h:x*5 / 4=y) (w:World):Calls Tryz.prog 247 #[.int .i64 x] w fun e w'=>e= .returned (.int .i64 y)/\w'=w:=by
 subst h
 go_enter Tryz.func247,Tryz.ntmps247
 go_wp2
 go_ret
 exact ⟨rfl,rfl⟩
theorem L3 {x y:Int} (h0:0<=x) (h1:x<=100000) (h:x*4 / 5=y) (w:World):Calls Tryz.prog 248 #[.int .i64 x] w fun e w'=>e= .returned (.int .i64 y)/\w'=w:=by
 subst h
 go_enter Tryz.func248,Tryz.ntmps248
 go_wp2
 go_ret
 exact ⟨rfl,rfl⟩
theorem Rw (r:Int) (w:World):Calls Tryz.prog 244 #[.int .i64 r] w fun e w'=>e= .returned (.int .i64 (Zt r))/\w'=w:=by
 cases hb:inB r (-5) 5
 ·rw [WR hb]
  have hr:r < -5\/5<r:=by
   by_cases h1 : -5<=r
   ·by_cases h2:r<=5
    ·rw [Zs h1 h2] at hb;cases hb
    ·omega
   ·omega
  have e1:¬ r= -5:=by omega
  have e2:¬ r= -4:=by omega
  have e3:¬ r= -3:=by omega
  have e4:¬ r= -2:=by omega
  have e5:¬ r= -1:=by omega
  have e6:¬ r=0:=by omega
  have e7:¬ r=5:=by omega
  have e8:¬ r=4:=by omega
  have e9:¬ r=3:=by omega
  have e10:¬ r=2:=by omega
  have e11:¬ r=1:=by omega
  clear hb hr
  go_enter Tryz.func244,Tryz.ntmps244
  go_wp2_with fail
  go_ret
  exact ⟨rfl,rfl⟩
 ·rcases F4 hb with rfl | rfl | rfl | rfl | rfl | rfl | rfl | rfl | rfl | rfl | rfl
  all_goals
   clear hb
   go_enter Tryz.func244,Tryz.ntmps244
   go_wp2_with (first
    | (go_at_call 247;refine (LI (by decide) (by decide) rfl _).mono ?_;rintro e w' ⟨rfl,rfl⟩)
    | (go_at_call 248;refine (L3 (by decide) (by decide) rfl _).mono ?_;rintro e w' ⟨rfl,rfl⟩))
   go_ret
   exact ⟨rfl,rfl⟩
def Xs (work weight carry:Int):Bool:=inB work 0 1000000000 && (inB weight 1 100000 && inB carry 0 (weight-1))
def Uy (work weight carry:Int):Int:=if Xs work weight carry then (1024*work+carry) / weight else -1
def Ux (work weight carry:Int):Int:=if Xs work weight carry then (1024*work+carry)%weight else 0
theorem Ii {a b c:Int} (ha:inB a 0 1000000000=true) (hb:inB b 1 100000=true) (hc:inB c 0 (b-1)=true):Xs a b c=true:=by unfold Xs;simp [ha,hb,hc]
theorem Kd {a b c:Int} (h:Xs a b c=true):0<=a/\a<=1000000000/\1<=b/\b<=100000/\0<=c/\c<b:=by
 unfold Xs at h
 simp only [Bool.and_eq_true] at h
 obtain ⟨h1,h2,h3⟩:=h
 have:=ZU h1
 have:=ZU h2
 have:=ZU h3
 omega
theorem Kc {a b c:Int} (a0:0<=a) (a1:a<=1000000000) (b0:1<=b) (b1:b<=100000) (c0:0<=c) (c1:c<b):Xs a b c=true:=Ii (Zs a0 a1) (Zs b0 b1) (Zs c0 (by omega))
theorem Om {a b c:Int} (h:Xs a b c=true):Uy a b c=(1024*a+c) / b/\Ux a b c=(1024*a+c)%b:=by unfold Uy Ux;simp [h]
end Go.Proofs.YthbbahagpmdooaaGreat
