/- Part 3 of what the proof rests on. No condition but those that a theorem names. -/
import Derived.Test.YtjhijildaceadaaGreatDoorXa01
import Derived.Lib.SmallJoins
set_option maxHeartbeats 8000000
set_option maxRecDepth 100000
namespace Go.Proofs.YtjhijildaceadaaGreatDoor
open Go.ChangeShapes Go.WideShapes Go.ChangeAt Go.RowKit Go.Sort
set_option linter.unusedVariables false
section
variable {α : Type} {t k : Nat} {enc : α → List Value}
def Vr (enc:α->List Value) (xs:List α):List Value:=xs.flatMap enc
theorem Wg (hk:∀ x,(enc x).length=k):∀ xs:List α,(Vr enc xs).length=xs.length*k
 | []=>by simp [Vr]
 | x::xs=>by
  have ih:=Wg hk xs
  unfold Vr at ih ⊢
  rw [List.flatMap_cons,List.length_append,ih,hk,List.length_cons,Nat.add_mul];omega
theorem Px (xs ys:List α):Vr enc (xs++ys)=Vr enc xs++Vr enc ys:=by unfold Vr;rw [List.flatMap_append]
def JU (L:List Value) (o:Nat):List Value->List Value
 | []=>L
 | u::us=>JU (L.set o u) (o+1) us
def Re (w:World) (g o:Nat):List Value->World
 | []=>w
 | u::us=>Re (w.setCell ⟨g,o,none⟩ u) g (o+1) us
theorem JW:∀ (us L:List Value) (o:Nat),(JU L o us).length=L.length
 | [],L,o=>rfl
 | u::us,L,o=>by unfold JU;rw [JW us];simp
theorem JV:∀ (us L:List Value) (o m:Nat),o+us.length<=L.length->(JU L o us)[m]?=if o<=m/\m<o+us.length then us[m-o]? else L[m]?
 | [],L,o,m,h=>by unfold JU;rw [if_neg (by simp)]
 | u::us,L,o,m,h=>by
  unfold JU
  have ih:=JV us (L.set o u) (o+1) m (by simp at h ⊢;omega)
  rw [ih]
  simp only [List.length_cons] at h ⊢
  by_cases h1:o+1<=m/\m<o+1+us.length
  ·rw [if_pos h1,if_pos (by omega),show m-o=(m-(o+1))+1 by omega];rfl
  ·rw [if_neg h1]
   by_cases h2:m=o
   ·subst h2;rw [if_pos (by omega),List.getElem?_set_self (by omega)];simp
   ·rw [if_neg (by omega),List.getElem?_set_ne (by omega)]
theorem JB {B t n cap g sz:Nat} : ∀ (us:List Value) {w:World} {xs:List Value} (o:Nat),w.ownsRow B t sz (.slice (some ⟨g,0,none⟩) n cap) n xs->
  (Re w g o us).ownsRow B t sz (.slice (some ⟨g,0,none⟩) n cap) n (JU xs o us)/\w.grownBy (Re w g o us) (some g)
 | [],w,xs,o,h=>⟨h,Xh _ _⟩
 | u::us,w,xs,o,h=>by
  obtain ⟨h1,h2⟩:=World.ownsRow.stored h o u
  obtain ⟨h3,h4⟩:=JB us (o+1) h1
  exact ⟨h3,XK h2 h4⟩
def RecAt (t k:Nat) (enc:α->List Value) (n₀:Nat) (w:World) (v:Value) (xs:List α):Prop:=w.ownsRow n₀ t k v xs.length (Vr enc xs)
theorem RecAt.lt {n₀:Nat} {w:World} {v:Value} {xs:List α} (h:RecAt t k enc n₀ w v xs) {i:Nat} (hi:v.ownBlock=some i):n₀<=i/\i<w.heap.size:=World.ownsRow.lt h i hi
theorem RecAt.mono {n₀ n₁:Nat} {w:World} {v:Value} {xs:List α} (h:RecAt t k enc n₀ w v xs) (hn:n₁<=n₀):RecAt t k enc n₁ w v xs:=S0 h hn
theorem RecAt.same {n₀:Nat} {w w':World} {v:Value} {xs:List α} (h:RecAt t k enc n₀ w v xs) (hs:∀ i,v.ownBlock=some i->w'.heap[i]?=w.heap[i]?):RecAt t k enc n₀ w' v xs:=YM h hs
theorem RecAt.later {n₀:Nat} {w w':World} {v:Value} {xs:List α} (h:RecAt t k enc n₀ w v xs) (hb:Below w.heap.size w w'):RecAt t k enc n₀ w' v xs:=h.same fun i hi=>hb.block i (h.lt hi).2
theorem RecAt.grown {n₀:Nat} {w w':World} {v:Value} {xs:List α} {r:Option Nat} (h:RecAt t k enc n₀ w v xs) (hg:w.grownBy w' r) (hr:∀ i,v.ownBlock=some i->r ≠ some i):RecAt t k enc n₀ w' v xs:=h.same fun i hi=>hg.block i (h.lt hi).2 (fun e=>hr i hi e.symm)
theorem RecAt.shape {n₀:Nat} {w:World} {v:Value} {xs:List α} (h:RecAt t k enc n₀ w v xs):∃ a cap,v= .slice a xs.length cap:=by
 rcases h.2 with ⟨rfl,hz⟩ | ⟨g,cap,cur,rfl,_⟩
 ·exact ⟨none,0,by rw [hz]⟩
 ·exact ⟨_,cap,rfl⟩
end
section
variable {α : Type} [Inhabited α] {t k : Nat} {enc : α → List Value}
def Z8 (xs:List α) (j:Nat):α:=xs.getD j default
theorem Uq {xs:List α} {j:Nat} (h:j<xs.length):Z8 xs j=xs[j]:=by unfold Z8;simp [List.getD,h]
theorem U9 {xs:List α} {j:Nat} (h:j<xs.length):Z8 xs j ∈ xs:=by rw [Uq h];exact List.getElem_mem h
theorem ZV {xs:List α} {i:Nat} {x:α} (h:i<xs.length) (j:Nat):Z8 (xs.set i x) j=if j=i then x else Z8 xs j:=by
 unfold Z8
 by_cases e:j=i
 ·subst e;simp [List.getD,h]
 ·rw [if_neg e];simp [List.getD,Ne.symm e]
theorem Wf (hk:∀ x,(enc x).length=k):∀ (xs:List α) (j:Nat),j<xs.length-> ∀ i,i<k->(Vr enc xs)[j*k+i]?=(enc (Z8 xs j))[i]?
 | x::xs,0,_,i,hi=>by
  unfold Vr Z8
  rw [List.flatMap_cons,Nat.zero_mul,Nat.zero_add,List.getElem?_append_left (by rw [hk];exact hi)];rfl
 | x::xs,j+1,h,i,hi=>by
  have ih:=Wf hk xs j (by simpa using h) i hi
  unfold Vr Z8 at ih ⊢
  rw [List.flatMap_cons,List.getElem?_append_right (by rw [hk,Nat.add_mul];omega),hk,show (j+1)*k+i-k=j*k+i by rw [Nat.add_mul];omega,ih]
  rfl
theorem CR (hk:∀ x,(enc x).length=k) (h0:0<k) (xs:List α) (j:Nat) (hj:j<xs.length) (x:α):JU (Vr enc xs) (j*k) (enc x)=Vr enc (xs.set j x):=by
 have hl:=Wg hk xs
 have hjk:j*k+k<=xs.length*k:=by rw [<-Nat.succ_mul];exact Nat.mul_le_mul_right k hj
 apply List.ext_getElem?
 intro m
 by_cases hm:m<xs.length*k
 ·have hd:m / k<xs.length:=(Nat.div_lt_iff_lt_mul h0).2 hm
  have hr:m%k<k:=Nat.mod_lt _ h0
  have he:m=m / k*k+m%k:=by rw [Nat.mul_comm];exact (Nat.div_add_mod m k).symm
  have hg:=Wf hk (xs.set j x) (m / k) (by simpa using hd) (m%k) hr
  have hg0:=Wf hk xs (m / k) hd (m%k) hr
  rw [<-he] at hg hg0
  rw [JV _ _ _ _ (by rw [hl,hk];exact hjk),hg,hk,ZV hj,hg0]
  by_cases e:m / k=j
  ·rw [if_pos e,if_pos (by rw [<-e];omega),show m-j*k=m%k by rw [<-e];omega]
  ·rw [if_neg e,if_neg]
   intro ⟨h1,h2⟩
   apply e
   exact Nat.div_eq_of_lt_le h1 (by rw [Nat.succ_mul];exact h2)
 ·rw [List.getElem?_eq_none (by rw [JW,hl];omega),List.getElem?_eq_none (by rw [Wg hk];simp;omega)]
def IsRec (k:Nat) (enc:α->List Value) (w:World) (v:Value) (xs:List α):Prop:=
 ∃ (a:Option Addr) (cap:Nat),v= .slice a xs.length cap/\xs.length<=cap/\cap<=9223372036854775807/\(xs=[]\/ ∃ b off,a=some ⟨b,off,none⟩/\b<w.heap.size/\
  ∀ j,j<xs.length-> ∀ i u,(enc (Z8 xs j))[i]?=some u->w.cell? ⟨b,off+j*k+i,none⟩=some u)
theorem IsRec.below {w w':World} {v:Value} {xs:List α} (h:IsRec k enc w v xs) (hb:Below w.heap.size w w'):IsRec k enc w' v xs:=by
 obtain ⟨a,cap,rfl,hc,hm,hr⟩:=h
 refine ⟨a,cap,rfl,hc,hm,?_⟩
 rcases hr with hr | ⟨b,off,rfl,hlt,hcl⟩
 ·exact .inl hr
 ·exact .inr ⟨b,off,rfl,Nat.lt_of_lt_of_le hlt hb.size,fun j hj i u hu=>(hb.cell (p:=⟨b,off+j*k+i,none⟩) hlt).trans (hcl j hj i u hu)⟩
theorem IsRec.shape {w:World} {v:Value} {xs:List α} (h:IsRec k enc w v xs):∃ a cap,v= .slice a xs.length cap/\xs.length<=cap/\cap<=9223372036854775807:=by
 obtain ⟨a,cap,rfl,hc,hm,_⟩:=h;exact ⟨a,cap,rfl,hc,hm⟩
theorem RecAt.recs (hk:∀ x,(enc x).length=k) (h0:0<k) {n₀:Nat} {w:World} {v:Value} {xs:List α} (h:RecAt t k enc n₀ w v xs):IsRec k enc w v xs:=by
 have h':=h
 rcases h.2 with ⟨rfl,hz⟩ | ⟨g,cap,cur,rfl,hb,hg,hnc,hcm,r⟩
 ·exact ⟨none,0,by rw [hz],by omega,by omega,.inl (List.eq_nil_of_length_eq_zero hz)⟩
 ·refine ⟨_,cap,rfl,hnc,by unfold maxLen at hcm;omega,.inr ⟨g,0,rfl,(Array.getElem?_eq_some_iff.1 hg).1,fun j hj i u hu=> ?_⟩⟩
  have hi:i<k:=by
   rcases Nat.lt_or_ge i k with h | h
   ·exact h
   ·rw [List.getElem?_eq_none (by rw [hk];exact h)] at hu;cases hu
  have hjk:j*k+k<=xs.length*k:=by rw [<-Nat.succ_mul];exact Nat.mul_le_mul_right k hj
  rw [Nat.zero_add,World.ownsRow.cellAt h' (j*k+i) (by omega),Wf hk xs j hj i hi]
  exact hu
theorem RecAt.view (hk:∀ x,(enc x).length=k) (h0:0<k) {n₀ n cap:Nat} {w:World} {a:Option Addr} {xs:List α} (h:RecAt t k enc n₀ w (.slice a n cap) xs) (hn:n=xs.length) (hl:0<xs.length):∃ g,a=some ⟨g,0,none⟩/\n₀<=g/\g<w.heap.size/\
  (∀ j,j<xs.length-> ∀ i u,(enc (Z8 xs j))[i]?=some u->w.cell? ⟨g,j*k+i,none⟩=some u)/\(∀ o,w.frozen? ⟨g,o,none⟩=false):=by
 subst hn
 have h':=h
 rcases h.2 with ⟨hv,hz⟩ | ⟨g,cap',cur,hv,hb,hg,hnc,hcm,r⟩
 ·omega
 ·cases hv
  refine ⟨g,rfl,hb,(Array.getElem?_eq_some_iff.1 hg).1,fun j hj i u hu=> ?_,fun o=>World.ownsRow.frozenAt h' o⟩
  have hi:i<k:=by
   rcases Nat.lt_or_ge i k with h | h
   ·exact h
   ·rw [List.getElem?_eq_none (by rw [hk];exact h)] at hu;cases hu
  have hjk:j*k+k<=xs.length*k:=by rw [<-Nat.succ_mul];exact Nat.mul_le_mul_right k hj
  rw [World.ownsRow.cellAt h' (j*k+i) (by omega),Wf hk xs j hj i hi]
  exact hu
theorem RecAt.put (hk:∀ x,(enc x).length=k) (h0:0<k) {n₀ n cap g:Nat} {w:World} {xs:List α} (h:RecAt t k enc n₀ w (.slice (some ⟨g,0,none⟩) n cap) xs) (hn:n=xs.length) {j:Nat} (hj:j<xs.length) (x:α) :
  RecAt t k enc n₀ (Re w g (j*k) (enc x)) (.slice (some ⟨g,0,none⟩) n cap) (xs.set j x)/\w.grownBy (Re w g (j*k) (enc x)) (some g):=by
 subst hn
 obtain ⟨h1,h2⟩:=JB (enc x) (j*k) h
 rw [CR hk h0 xs j hj x] at h1
 refine ⟨?_,h2⟩
 unfold RecAt
 rw [List.length_set]
 exact h1
end
end Go.Proofs.YtjhijildaceadaaGreatDoor
namespace Go.Proofs.YtjhijildaceadaaGreatDoor
open Go.ChangeShapes Go.WideShapes Go.ChangeAt Go.RowKit Go.Sort
set_option linter.unusedVariables false
section
variable {α : Type} {t k : Nat} {enc : α → List Value}
def Ws (xs:List α) (z:α) (j:Nat):List α:=xs.take j++List.replicate (xs.length-j) z
theorem Sj {xs:List α} {z:α} {j:Nat} (h:j<=xs.length):(Ws xs z j).length=xs.length:=by unfold Ws;simp;omega
theorem TI (xs:List α) (z:α):Ws xs z 0=List.replicate xs.length z:=by unfold Ws;simp
theorem Si (xs:List α) (z:α):Ws xs z xs.length=xs:=by unfold Ws;simp
theorem Sk [Inhabited α] {xs:List α} {z:α} {j:Nat} (h:j<xs.length):(Ws xs z j).set j (Z8 xs j)=Ws xs z (j+1):=by
 unfold Ws
 have hl:(xs.take j).length=j:=by simp;omega
 rw [List.set_append_right _ _ (by rw [hl];exact Nat.le_refl _),hl,Nat.sub_self,Uq h,List.take_succ_eq_append_getElem h,List.append_assoc]
 congr 1
 obtain ⟨m,hm⟩:∃ m,xs.length-j=m+1:=⟨xs.length-j-1,by omega⟩
 rw [hm,List.replicate_succ,List.set_cons_zero,show xs.length-(j+1)=m by omega]
 rfl
def Wv (mk:Int->α) (d:Nat) (c:Int) (n:Nat):List α:=(List.range n).map fun i:Nat=>mk (c+(d:Int)*(i:Int))
theorem Yh (mk:Int->α) (d:Nat) (c:Int) (n:Nat):(Wv mk d c n).length=n:=by simp [Wv]
theorem Oa [Inhabited α] (mk:Int->α) (d:Nat) (c:Int) {n i:Nat} (h:i<n):Z8 (Wv mk d c n) i=mk (c+(d:Int)*(i:Int)):=by unfold Z8 Wv;simp [List.getD,h]
def XD (mk:Int->α) (d:Nat) (c:Int) (xs:List α) (j:Nat):List α:=Wv mk d c j++xs.drop j
theorem SV {mk:Int->α} {d:Nat} {c:Int} {xs:List α} {j:Nat} (h:j<=xs.length):(XD mk d c xs j).length=xs.length:=by unfold XD;simp [Yh];omega
theorem TP (mk:Int->α) (d:Nat) (c:Int) (xs:List α):XD mk d c xs 0=xs:=by unfold XD Wv;simp
theorem SU (mk:Int->α) (d:Nat) (c:Int) (xs:List α):XD mk d c xs xs.length=Wv mk d c xs.length:=by unfold XD;simp
theorem SW {mk:Int->α} {d:Nat} {c:Int} {xs:List α} {j:Nat} (h:j<xs.length):(XD mk d c xs j).set j (mk (c+(d:Int)*(j:Int)))=XD mk d c xs (j+1):=by
 unfold XD
 rw [List.set_append_right _ _ (by rw [Yh];exact Nat.le_refl _),Yh,Nat.sub_self,List.drop_eq_getElem_cons h,List.set_cons_zero]
 simp [Wv,List.range_succ]
theorem Sq [Inhabited α] (hk:∀ x,(enc x).length=k) (h0:0<k) (z:α) (zs:Array Value) (hz:zs.toList=enc z) (n:Nat):(madeCells zs (n*k)).toList=Vr enc (List.replicate n z):=by
 have hs:zs.size=k:=by rw [<-Array.length_toList,hz,hk]
 apply List.ext_getElem?
 intro m
 by_cases hm:m<n*k
 ·have hd:m / k<n:=(Nat.div_lt_iff_lt_mul h0).2 hm
  have hr:m%k<k:=Nat.mod_lt _ h0
  have he:m=m / k*k+m%k:=by rw [Nat.mul_comm];exact (Nat.div_add_mod m k).symm
  have hg:=Wf hk (List.replicate n z) (m / k) (by simpa using hd) (m%k) hr
  rw [<-he] at hg
  have hrec:Z8 (List.replicate n z) (m / k)=z:=by unfold Z8;simp [List.getD,hd]
  rw [hg,hrec,<-hz]
  simp [madeCells,hm,hs,hr]
 ·rw [List.getElem?_eq_none (by simp [madeCells];omega),List.getElem?_eq_none (by rw [Wg hk];simp;omega)]
end
end Go.Proofs.YtjhijildaceadaaGreatDoor
namespace Go.Proofs.YtjhijildaceadaaGreatDoor
open Go.ChangeShapes Go.WideShapes Go.ChangeAt Go.RowKit Go.Sort
set_option linter.unusedVariables false
abbrev ZH:=Int × Int × Int
def UQ (p:ZH):List Value:=[.int .i64 p.1,.int .i64 p.2.1,.int .i64 p.2.2]
theorem Xy (p:ZH):(UQ p).length=3:=rfl
abbrev Y5 (w:World) (v:Value) (ps:List ZH):Prop:=IsRec 3 UQ w v ps
abbrev GuildsAt (n₀:Nat) (w:World) (v:Value) (ps:List ZH):Prop:=RecAt 90 3 UQ n₀ w v ps
theorem Eo:(Tryz.prog.info? 90).map (fun i=>(i.zero,i.size,i.bytes))=some (some (.agg #[.int .i64 0,.int .i64 0,.int .i64 0]),3,24):=by kernel_rfl
theorem GuildsAt.list {n₀:Nat} {w:World} {v:Value} {ps:List ZH} (h:GuildsAt n₀ w v ps):Y5 w v ps:=RecAt.recs Xy (by omega) h
theorem Xi {w:World} {b off:Nat} {ps:List ZH} (h:∀ j,j<ps.length-> ∀ i u,(UQ (Z8 ps j))[i]?=some u->w.cell? ⟨b,off+j*3+i,none⟩=some u) {j:Nat} (hj:j<ps.length) :
  w.cell? ⟨b,off+j*3,none⟩=some (.int .i64 (Z8 ps j).1)/\w.cell? ⟨b,off+j*3+1,none⟩=some (.int .i64 (Z8 ps j).2.1)/\w.cell? ⟨b,off+j*3+2,none⟩=some (.int .i64 (Z8 ps j).2.2):=
 ⟨h j hj 0 _ rfl,h j hj 1 _ rfl,h j hj 2 _ rfl⟩
theorem LC (a:Option Addr) (n cap:Nat) (left:Int) (hn:n<=9223372036854775807) (h0:0<=left) (h1:left<=1048576) (w:World) :
  Calls Tryz.prog 111 #[.slice a n cap,.int .i64 left] w fun e w'=>e= .returned (.int .i64 (szV n left))/\w'=w:=by
 by_cases h:left-n<0
 all_goals
  go_enter Tryz.func111,Tryz.ntmps111
  go_wp2
  go_ret
  exact ⟨ZS (by first | exact (TA (by omega)).symm | exact (TB (by omega)).symm),rfl⟩
theorem IT (x0:Int) (x1:Int) (x2:Int) (w:World) :
  Calls Tryz.prog 200 #[.agg #[.int .i64 x0,.int .i64 x1,.int .i64 x2],.agg #[.int .i64 x0,.int .i64 x1,.int .i64 x2]] w fun e w'=>e= .returned (.bool true)/\Below w.heap.size w w':=by
 go_enter Tryz.func200,Tryz.ntmps200
 go_wp2_with fail
 go_ret
 exact ⟨rfl,((Below.refl _ _).alloc (Nat.le_refl _) _).alloc (by simp) _⟩
theorem KU {w:World} {v u:Value} {ps:List ZH} (hv:Y5 w v ps) (hu:Y5 w u ps) :
  Calls Tryz.prog 121 #[v,u] w fun e w'=>e= .returned (.bool true)/\Below w.heap.size w w':=by
 obtain ⟨a,cap,rfl,hc,hm,hr⟩:=hv
 obtain ⟨a',cap',rfl,hc',hm',hr'⟩:=hu
 have Hr:=Z9 hr
 have Hr':=Z9 hr'
 clear hr hr'
 go_enter Tryz.func121,Tryz.ntmps121
 go_wp2_with fail
 go_loopw [5] (fun i wr=> ∃ k:Nat,k<=ps.length/\i= .int .i64 k/\Below w.heap.size w wr) (fun i _=>ps.length-(intOf i).toNat)
 case atStart=>exact ⟨0,Nat.zero_le _,rfl,Below.refl _ _⟩
 case round=>
  obtain ⟨k,hk,rfl,hb⟩:=hrel
  have Hb:=Z9 hb
  by_cases hlt:k<ps.length
  ·rcases uh Hr with h0 | ⟨b,off,rfl,hbw,hcl⟩
   ·rw [h0] at hlt;simp at hlt
   rcases uh Hr' with h0 | ⟨b',off',rfl,hbw',hcl'⟩
   ·rw [h0] at hlt;simp at hlt
   obtain ⟨c0,c1,c2⟩:=Xi hcl hlt
   obtain ⟨d0,d1,d2⟩:=Xi hcl' hlt
   generalize Z8 ps k=p at *
   obtain ⟨x0,x1,x2⟩:=p
   simp only at c0 c1 c2 d0 d1 d2
   have k0:=cell_regrown ((hb.cell (p:=⟨b,off+k*3,none⟩) hbw).trans c0)
   have m0:=cell_regrown ((hb.cell (p:=⟨b',off'+k*3,none⟩) hbw').trans d0)
   have k1:=cell_regrown ((hb.cell (p:=⟨b,off+k*3+1,none⟩) hbw).trans c1)
   have m1:=cell_regrown ((hb.cell (p:=⟨b',off'+k*3+1,none⟩) hbw').trans d1)
   have k2:=cell_regrown ((hb.cell (p:=⟨b,off+k*3+2,none⟩) hbw).trans c2)
   have m2:=cell_regrown ((hb.cell (p:=⟨b',off'+k*3+2,none⟩) hbw').trans d2)
   clear hcl hcl' hb c0 c1 c2 d0 d1 d2
   go_wp2_with fail
   refine wp_region_quiet_below (by kernel_rfl) (by kernel_rfl) ?_
   repeat (go_big_quiet_step (exact Calls.regrown_of (IT _ _ _ _)))
   refine wpQuiet_nil ?_
   intro _ hw'
   obtain ⟨⟨dq,osq⟩,hw''⟩:=hw'
   subst hw''
   go_wp2_with fail
   go_roundw
   case rel=>exact ⟨k+1,by omega,by go_num,(uh Hb).trans ((below_regrown _ _ _).mono (uh Hb).size)⟩
   case measure=>simp [intOf];omega
  ·go_wp2_with fail
   go_ret
   exact ⟨rfl,hb⟩
theorem J8 (x0:Int) (x1:Int) (x2:Int) (w:World) :
  Calls Tryz.prog 196 #[.agg #[.int .i64 x0,.int .i64 x1,.int .i64 x2]] w fun e w'=>e= .returned (.agg #[.int .i64 x0,.int .i64 x1,.int .i64 x2])/\Below w.heap.size w w':=by
 go_enter Tryz.func196,Tryz.ntmps196
 go_wp2_with fail
 exact bodyPost_ret (v:= .agg #[.int .i64 x0,.int .i64 x1,.int .i64 x2]) (by simp [results,Tryz.results196,go_sem]) rfl ⟨rfl,(((Below.refl _ _).alloc (Nat.le_refl _) _).alloc (by simp) _).alloc (by simp;omega) _⟩
theorem Rk {w:World} {v:Value} {ps:List ZH} (h:Y5 w v ps) (hs:ps.length<=1048576) :
  Calls Tryz.prog 116 #[v] w fun e w'=> ∃ v',e= .returned v'/\GuildsAt w.heap.size w' v' ps/\Below w.heap.size w w':=by
 obtain ⟨a,cap,rfl,hc,hm,hr⟩:=h
 have Hr:=Z9 hr
 clear hr
 obtain ⟨i0,hi,hz0,hz1,hz2⟩:=info_parts Eo
 go_enter Tryz.func116,Tryz.ntmps116
 go_wp2_with (at_make;refine wpList_make_full _ rfl _ _ 27 rfl w.heap.size 90 i0 (.agg #[.int .i64 0,.int .i64 0,.int .i64 0]) 3 Tryz.underlying27 hi hz0 hz1 _ _ _ _ ps.length rfl rfl rfl rfl (by rw [hz2];omega) (by unfold maxLen;omega) (Nat.le_refl _) ?_;intro w0 hown hgrow)
 have Hown:Hid (GuildsAt w.heap.size w0 (.slice (some ⟨w.heap.size,0,none⟩) ps.length ps.length) (Ws ps (0,0,0) 0)):=Z9 (by
  rw [Sq Xy (by omega) (0,0,0) (Value.agg #[.int .i64 0,.int .i64 0,.int .i64 0]).cells rfl ps.length] at hown
  rw [TI]
  show w0.ownsRow _ _ _ _ (List.replicate ps.length _).length _
  rw [List.length_replicate]
  exact hown)
 have Hgr:=Z9 hgrow
 clear hown hgrow
 go_loopw [4] (fun i wr=> ∃ k:Nat,k<=ps.length/\i= .int .i64 k/\GuildsAt w.heap.size wr (.slice (some ⟨w.heap.size,0,none⟩) ps.length ps.length) (Ws ps (0,0,0) k)/\Below w.heap.size w wr) (fun i _=>ps.length-(intOf i).toNat)
 case atStart=>exact ⟨0,Nat.zero_le _,rfl,uh Hown,(Below.refl _ _).grown (uh Hgr) (Nat.le_refl _) (fun k e=>by cases e)⟩
 case round=>
  obtain ⟨k,hk,rfl,hown,hb⟩:=hrel
  have Hb:=Z9 hb
  by_cases hlt:k<ps.length
  ·rcases uh Hr with h0 | ⟨b,off,rfl,hbw,hcl⟩
   ·rw [h0] at hlt;simp at hlt
   obtain ⟨c0,c1,c2⟩:=Xi hcl hlt
   rw [<-hb.cell (p:=⟨b,off+k*3,none⟩) hbw] at c0
   rw [<-hb.cell (p:=⟨b,off+k*3+1,none⟩) hbw] at c1
   rw [<-hb.cell (p:=⟨b,off+k*3+2,none⟩) hbw] at c2
   have Ho:=Z9 hown
   have HS:=Z9 (Sk (z:=((0,0,0):ZH)) hlt)
   generalize hp:Z8 ps k=p at *
   obtain ⟨x0,x1,x2⟩:=p
   simp only at c0 c1 c2
   clear hcl hb hown hp
   go_wp2_with fail
   refine (J8 _ _ _ _).mono ?_
   rintro e w1 ⟨rfl,hb1⟩
   have ho1:=RecAt.later (uh Ho) hb1
   have hfl:=Sj (z:=((0,0,0):ZH)) hk
   obtain ⟨g,hg,_,_,hcells,hfz⟩:=RecAt.view Xy (by omega) ho1 hfl.symm (by omega)
   cases hg
   have hq:=fun i u hu=>hcells k (by omega) i u hu
   generalize Z8 (Ws ps (0,0,0) k) k=old at hq
   have o0:=hq 0 _ rfl
   have f0:=hfz (k*3)
   have o1:=hq 1 _ rfl
   have f1:=hfz (k*3+1)
   have o2:=hq 2 _ rfl
   have f2:=hfz (k*3+2)
   simp only [Nat.add_zero] at o0
   have Hp2:=Z9 (RecAt.put Xy (by omega) ho1 hfl.symm (j:=k) (by omega) (x0,x1,x2))
   have Hb1:=Z9 hb1
   have hsz:=hb1.size
   have hsz0:=(uh Hb).size
   clear ho1 hb1 hcells hq hfz hfl
   go_wp2_with fail
   go_roundw
   case rel=>exact ⟨k+1,by omega,by go_num,by have h9:=(uh Hp2).1;rw [uh HS] at h9;exact h9,((uh Hb).trans ((uh Hb1).mono hsz0)).trans (XJ (uh Hp2).2 (Nat.le_refl _) (by omega))⟩
   case measure=>simp [intOf];omega
  ·obtain rfl:k=ps.length:=by omega
   rw [Si] at hown
   go_wp2_with fail
   go_ret
   exact ⟨_,rfl,hown,hb⟩
abbrev Z2:=Int × Int × Int × Int × Int × Int × Int × Int × Int × Int × Int
def ZR (p:Z2):List Value:=[.int .i64 p.1,.int .i64 p.2.1,.int .i64 p.2.2.1,.int .i64 p.2.2.2.1,.int .i64 p.2.2.2.2.1,.int .i64 p.2.2.2.2.2.1,.int .i64 p.2.2.2.2.2.2.1,.int .i64 p.2.2.2.2.2.2.2.1,.int .i64 p.2.2.2.2.2.2.2.2.1,.int .i64 p.2.2.2.2.2.2.2.2.2.1,.int .i64 p.2.2.2.2.2.2.2.2.2.2]
theorem Z1 (p:Z2):(ZR p).length=11:=rfl
abbrev Ym (w:World) (v:Value) (ps:List Z2):Prop:=IsRec 11 ZR w v ps
abbrev SmithsAt (n₀:Nat) (w:World) (v:Value) (ps:List Z2):Prop:=RecAt 43 11 ZR n₀ w v ps
theorem Er:(Tryz.prog.info? 43).map (fun i=>(i.zero,i.size,i.bytes))=some (some (.agg #[.int .i64 0,.int .i64 0,.int .i64 0,.int .i64 0,.int .i64 0,.int .i64 0,.int .i64 0,.int .i64 0,.int .i64 0,.int .i64 0,.int .i64 0]),11,88):=by kernel_rfl
theorem SmithsAt.list {n₀:Nat} {w:World} {v:Value} {ps:List Z2} (h:SmithsAt n₀ w v ps):Ym w v ps:=RecAt.recs Z1 (by omega) h
theorem ZI {w:World} {b off:Nat} {ps:List Z2} (h:∀ j,j<ps.length-> ∀ i u,(ZR (Z8 ps j))[i]?=some u->w.cell? ⟨b,off+j*11+i,none⟩=some u) {j:Nat} (hj:j<ps.length) :
  w.cell? ⟨b,off+j*11,none⟩=some (.int .i64 (Z8 ps j).1)/\w.cell? ⟨b,off+j*11+1,none⟩=some (.int .i64 (Z8 ps j).2.1)/\w.cell? ⟨b,off+j*11+2,none⟩=some (.int .i64 (Z8 ps j).2.2.1)/\w.cell? ⟨b,off+j*11+3,none⟩=some (.int .i64 (Z8 ps j).2.2.2.1)/\w.cell? ⟨b,off+j*11+4,none⟩=some (.int .i64 (Z8 ps j).2.2.2.2.1)/\w.cell? ⟨b,off+j*11+5,none⟩=some (.int .i64 (Z8 ps j).2.2.2.2.2.1)/\w.cell? ⟨b,off+j*11+6,none⟩=some (.int .i64 (Z8 ps j).2.2.2.2.2.2.1)/\w.cell? ⟨b,off+j*11+7,none⟩=some (.int .i64 (Z8 ps j).2.2.2.2.2.2.2.1)/\w.cell? ⟨b,off+j*11+8,none⟩=some (.int .i64 (Z8 ps j).2.2.2.2.2.2.2.2.1)/\w.cell? ⟨b,off+j*11+9,none⟩=some (.int .i64 (Z8 ps j).2.2.2.2.2.2.2.2.2.1)/\w.cell? ⟨b,off+j*11+10,none⟩=some (.int .i64 (Z8 ps j).2.2.2.2.2.2.2.2.2.2):=
 ⟨h j hj 0 _ rfl,h j hj 1 _ rfl,h j hj 2 _ rfl,h j hj 3 _ rfl,h j hj 4 _ rfl,h j hj 5 _ rfl,h j hj 6 _ rfl,h j hj 7 _ rfl,h j hj 8 _ rfl,h j hj 9 _ rfl,h j hj 10 _ rfl⟩
theorem LF (a:Option Addr) (n cap:Nat) (left:Int) (hn:n<=9223372036854775807) (h0:0<=left) (h1:left<=1048576) (w:World) :
  Calls Tryz.prog 112 #[.slice a n cap,.int .i64 left] w fun e w'=>e= .returned (.int .i64 (szV n left))/\w'=w:=by
 by_cases h:left-n<0
 all_goals
  go_enter Tryz.func112,Tryz.ntmps112
  go_wp2
  go_ret
  exact ⟨ZS (by first | exact (TA (by omega)).symm | exact (TB (by omega)).symm),rfl⟩
theorem IW (x0:Int) (x1:Int) (x2:Int) (x3:Int) (x4:Int) (x5:Int) (x6:Int) (x7:Int) (x8:Int) (x9:Int) (x10:Int) (w:World) :
  Calls Tryz.prog 201 #[.agg #[.int .i64 x0,.int .i64 x1,.int .i64 x2,.int .i64 x3,.int .i64 x4,.int .i64 x5,.int .i64 x6,.int .i64 x7,.int .i64 x8,.int .i64 x9,.int .i64 x10],.agg #[.int .i64 x0,.int .i64 x1,.int .i64 x2,.int .i64 x3,.int .i64 x4,.int .i64 x5,.int .i64 x6,.int .i64 x7,.int .i64 x8,.int .i64 x9,.int .i64 x10]] w fun e w'=>e= .returned (.bool true)/\Below w.heap.size w w':=by
 go_enter Tryz.func201,Tryz.ntmps201
 go_wp2_with fail
 go_ret
 exact ⟨rfl,((Below.refl _ _).alloc (Nat.le_refl _) _).alloc (by simp) _⟩
theorem KV {w:World} {v u:Value} {ps:List Z2} (hv:Ym w v ps) (hu:Ym w u ps) :
  Calls Tryz.prog 122 #[v,u] w fun e w'=>e= .returned (.bool true)/\Below w.heap.size w w':=by
 obtain ⟨a,cap,rfl,hc,hm,hr⟩:=hv
 obtain ⟨a',cap',rfl,hc',hm',hr'⟩:=hu
 have Hr:=Z9 hr
 have Hr':=Z9 hr'
 clear hr hr'
 go_enter Tryz.func122,Tryz.ntmps122
 go_wp2_with fail
 go_loopw [5] (fun i wr=> ∃ k:Nat,k<=ps.length/\i= .int .i64 k/\Below w.heap.size w wr) (fun i _=>ps.length-(intOf i).toNat)
 case atStart=>exact ⟨0,Nat.zero_le _,rfl,Below.refl _ _⟩
 case round=>
  obtain ⟨k,hk,rfl,hb⟩:=hrel
  have Hb:=Z9 hb
  by_cases hlt:k<ps.length
  ·rcases uh Hr with h0 | ⟨b,off,rfl,hbw,hcl⟩
   ·rw [h0] at hlt;simp at hlt
   rcases uh Hr' with h0 | ⟨b',off',rfl,hbw',hcl'⟩
   ·rw [h0] at hlt;simp at hlt
   obtain ⟨c0,c1,c2,c3,c4,c5,c6,c7,c8,c9,c10⟩:=ZI hcl hlt
   obtain ⟨d0,d1,d2,d3,d4,d5,d6,d7,d8,d9,d10⟩:=ZI hcl' hlt
   generalize Z8 ps k=p at *
   obtain ⟨x0,x1,x2,x3,x4,x5,x6,x7,x8,x9,x10⟩:=p
   simp only at c0 c1 c2 c3 c4 c5 c6 c7 c8 c9 c10 d0 d1 d2 d3 d4 d5 d6 d7 d8 d9 d10
   have k0:=cell_regrown ((hb.cell (p:=⟨b,off+k*11,none⟩) hbw).trans c0)
   have m0:=cell_regrown ((hb.cell (p:=⟨b',off'+k*11,none⟩) hbw').trans d0)
   have k1:=cell_regrown ((hb.cell (p:=⟨b,off+k*11+1,none⟩) hbw).trans c1)
   have m1:=cell_regrown ((hb.cell (p:=⟨b',off'+k*11+1,none⟩) hbw').trans d1)
   have k2:=cell_regrown ((hb.cell (p:=⟨b,off+k*11+2,none⟩) hbw).trans c2)
   have m2:=cell_regrown ((hb.cell (p:=⟨b',off'+k*11+2,none⟩) hbw').trans d2)
   have k3:=cell_regrown ((hb.cell (p:=⟨b,off+k*11+3,none⟩) hbw).trans c3)
   have m3:=cell_regrown ((hb.cell (p:=⟨b',off'+k*11+3,none⟩) hbw').trans d3)
   have k4:=cell_regrown ((hb.cell (p:=⟨b,off+k*11+4,none⟩) hbw).trans c4)
   have m4:=cell_regrown ((hb.cell (p:=⟨b',off'+k*11+4,none⟩) hbw').trans d4)
   have k5:=cell_regrown ((hb.cell (p:=⟨b,off+k*11+5,none⟩) hbw).trans c5)
   have m5:=cell_regrown ((hb.cell (p:=⟨b',off'+k*11+5,none⟩) hbw').trans d5)
   have k6:=cell_regrown ((hb.cell (p:=⟨b,off+k*11+6,none⟩) hbw).trans c6)
   have m6:=cell_regrown ((hb.cell (p:=⟨b',off'+k*11+6,none⟩) hbw').trans d6)
   have k7:=cell_regrown ((hb.cell (p:=⟨b,off+k*11+7,none⟩) hbw).trans c7)
   have m7:=cell_regrown ((hb.cell (p:=⟨b',off'+k*11+7,none⟩) hbw').trans d7)
   have k8:=cell_regrown ((hb.cell (p:=⟨b,off+k*11+8,none⟩) hbw).trans c8)
   have m8:=cell_regrown ((hb.cell (p:=⟨b',off'+k*11+8,none⟩) hbw').trans d8)
   have k9:=cell_regrown ((hb.cell (p:=⟨b,off+k*11+9,none⟩) hbw).trans c9)
   have m9:=cell_regrown ((hb.cell (p:=⟨b',off'+k*11+9,none⟩) hbw').trans d9)
   have k10:=cell_regrown ((hb.cell (p:=⟨b,off+k*11+10,none⟩) hbw).trans c10)
   have m10:=cell_regrown ((hb.cell (p:=⟨b',off'+k*11+10,none⟩) hbw').trans d10)
   clear hcl hcl' hb c0 c1 c2 c3 c4 c5 c6 c7 c8 c9 c10 d0 d1 d2 d3 d4 d5 d6 d7 d8 d9 d10
   go_wp2_with fail
   refine wp_region_quiet_below (by kernel_rfl) (by kernel_rfl) ?_
   repeat (go_big_quiet_step (exact Calls.regrown_of (IW _ _ _ _ _ _ _ _ _ _ _ _)))
   refine wpQuiet_nil ?_
   intro _ hw'
   obtain ⟨⟨dq,osq⟩,hw''⟩:=hw'
   subst hw''
   go_wp2_with fail
   go_roundw
   case rel=>exact ⟨k+1,by omega,by go_num,(uh Hb).trans ((below_regrown _ _ _).mono (uh Hb).size)⟩
   case measure=>simp [intOf];omega
  ·go_wp2_with fail
   go_ret
   exact ⟨rfl,hb⟩
theorem Kg (x0:Int) (x1:Int) (x2:Int) (x3:Int) (x4:Int) (x5:Int) (x6:Int) (x7:Int) (x8:Int) (x9:Int) (x10:Int) (w:World) :
  Calls Tryz.prog 197 #[.agg #[.int .i64 x0,.int .i64 x1,.int .i64 x2,.int .i64 x3,.int .i64 x4,.int .i64 x5,.int .i64 x6,.int .i64 x7,.int .i64 x8,.int .i64 x9,.int .i64 x10]] w fun e w'=>e= .returned (.agg #[.int .i64 x0,.int .i64 x1,.int .i64 x2,.int .i64 x3,.int .i64 x4,.int .i64 x5,.int .i64 x6,.int .i64 x7,.int .i64 x8,.int .i64 x9,.int .i64 x10])/\Below w.heap.size w w':=by
 go_enter Tryz.func197,Tryz.ntmps197
 go_wp2_with fail
 exact bodyPost_ret (v:= .agg #[.int .i64 x0,.int .i64 x1,.int .i64 x2,.int .i64 x3,.int .i64 x4,.int .i64 x5,.int .i64 x6,.int .i64 x7,.int .i64 x8,.int .i64 x9,.int .i64 x10]) (by simp [results,Tryz.results197,go_sem]) rfl ⟨rfl,(((Below.refl _ _).alloc (Nat.le_refl _) _).alloc (by simp) _).alloc (by simp;omega) _⟩
theorem Rm {w:World} {v:Value} {ps:List Z2} (h:Ym w v ps) (hs:ps.length<=1048576) :
  Calls Tryz.prog 117 #[v] w fun e w'=> ∃ v',e= .returned v'/\SmithsAt w.heap.size w' v' ps/\Below w.heap.size w w':=by
 obtain ⟨a,cap,rfl,hc,hm,hr⟩:=h
 have Hr:=Z9 hr
 clear hr
 obtain ⟨i0,hi,hz0,hz1,hz2⟩:=info_parts Er
 go_enter Tryz.func117,Tryz.ntmps117
 go_wp2_with (at_make;refine wpList_make_full _ rfl _ _ 28 rfl w.heap.size 43 i0 (.agg #[.int .i64 0,.int .i64 0,.int .i64 0,.int .i64 0,.int .i64 0,.int .i64 0,.int .i64 0,.int .i64 0,.int .i64 0,.int .i64 0,.int .i64 0]) 11 Tryz.underlying28 hi hz0 hz1 _ _ _ _ ps.length rfl rfl rfl rfl (by rw [hz2];omega) (by unfold maxLen;omega) (Nat.le_refl _) ?_;intro w0 hown hgrow)
 have Hown:Hid (SmithsAt w.heap.size w0 (.slice (some ⟨w.heap.size,0,none⟩) ps.length ps.length) (Ws ps (0,0,0,0,0,0,0,0,0,0,0) 0)):=Z9 (by
  rw [Sq Z1 (by omega) (0,0,0,0,0,0,0,0,0,0,0) (Value.agg #[.int .i64 0,.int .i64 0,.int .i64 0,.int .i64 0,.int .i64 0,.int .i64 0,.int .i64 0,.int .i64 0,.int .i64 0,.int .i64 0,.int .i64 0]).cells rfl ps.length] at hown
  rw [TI]
  show w0.ownsRow _ _ _ _ (List.replicate ps.length _).length _
  rw [List.length_replicate]
  exact hown)
 have Hgr:=Z9 hgrow
 clear hown hgrow
 go_loopw [4] (fun i wr=> ∃ k:Nat,k<=ps.length/\i= .int .i64 k/\SmithsAt w.heap.size wr (.slice (some ⟨w.heap.size,0,none⟩) ps.length ps.length) (Ws ps (0,0,0,0,0,0,0,0,0,0,0) k)/\Below w.heap.size w wr) (fun i _=>ps.length-(intOf i).toNat)
 case atStart=>exact ⟨0,Nat.zero_le _,rfl,uh Hown,(Below.refl _ _).grown (uh Hgr) (Nat.le_refl _) (fun k e=>by cases e)⟩
 case round=>
  obtain ⟨k,hk,rfl,hown,hb⟩:=hrel
  have Hb:=Z9 hb
  by_cases hlt:k<ps.length
  ·rcases uh Hr with h0 | ⟨b,off,rfl,hbw,hcl⟩
   ·rw [h0] at hlt;simp at hlt
   obtain ⟨c0,c1,c2,c3,c4,c5,c6,c7,c8,c9,c10⟩:=ZI hcl hlt
   rw [<-hb.cell (p:=⟨b,off+k*11,none⟩) hbw] at c0
   rw [<-hb.cell (p:=⟨b,off+k*11+1,none⟩) hbw] at c1
   rw [<-hb.cell (p:=⟨b,off+k*11+2,none⟩) hbw] at c2
   rw [<-hb.cell (p:=⟨b,off+k*11+3,none⟩) hbw] at c3
   rw [<-hb.cell (p:=⟨b,off+k*11+4,none⟩) hbw] at c4
   rw [<-hb.cell (p:=⟨b,off+k*11+5,none⟩) hbw] at c5
   rw [<-hb.cell (p:=⟨b,off+k*11+6,none⟩) hbw] at c6
   rw [<-hb.cell (p:=⟨b,off+k*11+7,none⟩) hbw] at c7
   rw [<-hb.cell (p:=⟨b,off+k*11+8,none⟩) hbw] at c8
   rw [<-hb.cell (p:=⟨b,off+k*11+9,none⟩) hbw] at c9
   rw [<-hb.cell (p:=⟨b,off+k*11+10,none⟩) hbw] at c10
   have Ho:=Z9 hown
   have HS:=Z9 (Sk (z:=((0,0,0,0,0,0,0,0,0,0,0):Z2)) hlt)
   generalize hp:Z8 ps k=p at *
   obtain ⟨x0,x1,x2,x3,x4,x5,x6,x7,x8,x9,x10⟩:=p
   simp only at c0 c1 c2 c3 c4 c5 c6 c7 c8 c9 c10
   clear hcl hb hown hp
   go_wp2_with fail
   refine (Kg _ _ _ _ _ _ _ _ _ _ _ _).mono ?_
   rintro e w1 ⟨rfl,hb1⟩
   have ho1:=RecAt.later (uh Ho) hb1
   have hfl:=Sj (z:=((0,0,0,0,0,0,0,0,0,0,0):Z2)) hk
   obtain ⟨g,hg,_,_,hcells,hfz⟩:=RecAt.view Z1 (by omega) ho1 hfl.symm (by omega)
   cases hg
   have hq:=fun i u hu=>hcells k (by omega) i u hu
   generalize Z8 (Ws ps (0,0,0,0,0,0,0,0,0,0,0) k) k=old at hq
   have o0:=hq 0 _ rfl
   have f0:=hfz (k*11)
   have o1:=hq 1 _ rfl
   have f1:=hfz (k*11+1)
   have o2:=hq 2 _ rfl
   have f2:=hfz (k*11+2)
   have o3:=hq 3 _ rfl
   have f3:=hfz (k*11+3)
   have o4:=hq 4 _ rfl
   have f4:=hfz (k*11+4)
   have o5:=hq 5 _ rfl
   have f5:=hfz (k*11+5)
   have o6:=hq 6 _ rfl
   have f6:=hfz (k*11+6)
   have o7:=hq 7 _ rfl
   have f7:=hfz (k*11+7)
   have o8:=hq 8 _ rfl
   have f8:=hfz (k*11+8)
   have o9:=hq 9 _ rfl
   have f9:=hfz (k*11+9)
   have o10:=hq 10 _ rfl
   have f10:=hfz (k*11+10)
   simp only [Nat.add_zero] at o0
   have Hp2:=Z9 (RecAt.put Z1 (by omega) ho1 hfl.symm (j:=k) (by omega) (x0,x1,x2,x3,x4,x5,x6,x7,x8,x9,x10))
   have Hb1:=Z9 hb1
   have hsz:=hb1.size
   have hsz0:=(uh Hb).size
   clear ho1 hb1 hcells hq hfz hfl
   go_wp2_with fail
   go_roundw
   case rel=>exact ⟨k+1,by omega,by go_num,by have h9:=(uh Hp2).1;rw [uh HS] at h9;exact h9,((uh Hb).trans ((uh Hb1).mono hsz0)).trans (XJ (uh Hp2).2 (Nat.le_refl _) (by omega))⟩
   case measure=>simp [intOf];omega
  ·obtain rfl:k=ps.length:=by omega
   rw [Si] at hown
   go_wp2_with fail
   go_ret
   exact ⟨_,rfl,hown,hb⟩
abbrev YG:=Bool × Int × Int
def YB (p:YG):List Value:=[.bool p.1,.int .i64 p.2.1,.int .i64 p.2.2]
theorem ZT (p:YG):(YB p).length=3:=rfl
abbrev Xx (w:World) (v:Value) (ps:List YG):Prop:=IsRec 3 YB w v ps
abbrev DesksAt (n₀:Nat) (w:World) (v:Value) (ps:List YG):Prop:=RecAt 49 3 YB n₀ w v ps
theorem CX:(Tryz.prog.info? 49).map (fun i=>(i.zero,i.size,i.bytes))=some (some (.agg #[.bool false,.int .i64 0,.int .i64 0]),3,24):=by kernel_rfl
theorem DesksAt.list {n₀:Nat} {w:World} {v:Value} {ps:List YG} (h:DesksAt n₀ w v ps):Xx w v ps:=RecAt.recs ZT (by omega) h
theorem Zh {w:World} {b off:Nat} {ps:List YG} (h:∀ j,j<ps.length-> ∀ i u,(YB (Z8 ps j))[i]?=some u->w.cell? ⟨b,off+j*3+i,none⟩=some u) {j:Nat} (hj:j<ps.length) :
  w.cell? ⟨b,off+j*3,none⟩=some (.bool (Z8 ps j).1)/\w.cell? ⟨b,off+j*3+1,none⟩=some (.int .i64 (Z8 ps j).2.1)/\w.cell? ⟨b,off+j*3+2,none⟩=some (.int .i64 (Z8 ps j).2.2):=
 ⟨h j hj 0 _ rfl,h j hj 1 _ rfl,h j hj 2 _ rfl⟩
theorem J5 (a:Option Addr) (n cap:Nat) (left:Int) (hn:n<=9223372036854775807) (h0:0<=left) (h1:left<=1048576) (w:World) :
  Calls Tryz.prog 113 #[.slice a n cap,.int .i64 left] w fun e w'=>e= .returned (.int .i64 (szV n left))/\w'=w:=by
 by_cases h:left-n<0
 all_goals
  go_enter Tryz.func113,Tryz.ntmps113
  go_wp2
  go_ret
  exact ⟨ZS (by first | exact (TA (by omega)).symm | exact (TB (by omega)).symm),rfl⟩
theorem F9 (x0:Bool) (x1:Int) (x2:Int) (w:World) :
  Calls Tryz.prog 202 #[.agg #[.bool x0,.int .i64 x1,.int .i64 x2],.agg #[.bool x0,.int .i64 x1,.int .i64 x2]] w fun e w'=>e= .returned (.bool true)/\Below w.heap.size w w':=by
 go_enter Tryz.func202,Tryz.ntmps202
 go_wp2_with fail
 go_ret
 exact ⟨rfl,((Below.refl _ _).alloc (Nat.le_refl _) _).alloc (by simp) _⟩
theorem IS {w:World} {v u:Value} {ps:List YG} (hv:Xx w v ps) (hu:Xx w u ps) :
  Calls Tryz.prog 123 #[v,u] w fun e w'=>e= .returned (.bool true)/\Below w.heap.size w w':=by
 obtain ⟨a,cap,rfl,hc,hm,hr⟩:=hv
 obtain ⟨a',cap',rfl,hc',hm',hr'⟩:=hu
 have Hr:=Z9 hr
 have Hr':=Z9 hr'
 clear hr hr'
 go_enter Tryz.func123,Tryz.ntmps123
 go_wp2_with fail
 go_loopw [5] (fun i wr=> ∃ k:Nat,k<=ps.length/\i= .int .i64 k/\Below w.heap.size w wr) (fun i _=>ps.length-(intOf i).toNat)
 case atStart=>exact ⟨0,Nat.zero_le _,rfl,Below.refl _ _⟩
 case round=>
  obtain ⟨k,hk,rfl,hb⟩:=hrel
  have Hb:=Z9 hb
  by_cases hlt:k<ps.length
  ·rcases uh Hr with h0 | ⟨b,off,rfl,hbw,hcl⟩
   ·rw [h0] at hlt;simp at hlt
   rcases uh Hr' with h0 | ⟨b',off',rfl,hbw',hcl'⟩
   ·rw [h0] at hlt;simp at hlt
   obtain ⟨c0,c1,c2⟩:=Zh hcl hlt
   obtain ⟨d0,d1,d2⟩:=Zh hcl' hlt
   generalize Z8 ps k=p at *
   obtain ⟨x0,x1,x2⟩:=p
   simp only at c0 c1 c2 d0 d1 d2
   have k0:=cell_regrown ((hb.cell (p:=⟨b,off+k*3,none⟩) hbw).trans c0)
   have m0:=cell_regrown ((hb.cell (p:=⟨b',off'+k*3,none⟩) hbw').trans d0)
   have k1:=cell_regrown ((hb.cell (p:=⟨b,off+k*3+1,none⟩) hbw).trans c1)
   have m1:=cell_regrown ((hb.cell (p:=⟨b',off'+k*3+1,none⟩) hbw').trans d1)
   have k2:=cell_regrown ((hb.cell (p:=⟨b,off+k*3+2,none⟩) hbw).trans c2)
   have m2:=cell_regrown ((hb.cell (p:=⟨b',off'+k*3+2,none⟩) hbw').trans d2)
   clear hcl hcl' hb c0 c1 c2 d0 d1 d2
   go_wp2_with fail
   refine wp_region_quiet_below (by kernel_rfl) (by kernel_rfl) ?_
   repeat (go_big_quiet_step (exact Calls.regrown_of (F9 _ _ _ _)))
   refine wpQuiet_nil ?_
   intro _ hw'
   obtain ⟨⟨dq,osq⟩,hw''⟩:=hw'
   subst hw''
   go_wp2_with fail
   go_roundw
   case rel=>exact ⟨k+1,by omega,by go_num,(uh Hb).trans ((below_regrown _ _ _).mono (uh Hb).size)⟩
   case measure=>simp [intOf];omega
  ·go_wp2_with fail
   go_ret
   exact ⟨rfl,hb⟩
theorem Hj (x0:Bool) (x1:Int) (x2:Int) (w:World) :
  Calls Tryz.prog 198 #[.agg #[.bool x0,.int .i64 x1,.int .i64 x2]] w fun e w'=>e= .returned (.agg #[.bool x0,.int .i64 x1,.int .i64 x2])/\Below w.heap.size w w':=by
 go_enter Tryz.func198,Tryz.ntmps198
 go_wp2_with fail
 exact bodyPost_ret (v:= .agg #[.bool x0,.int .i64 x1,.int .i64 x2]) (by simp [results,Tryz.results198,go_sem]) rfl ⟨rfl,(((Below.refl _ _).alloc (Nat.le_refl _) _).alloc (by simp) _).alloc (by simp;omega) _⟩
theorem PM {w:World} {v:Value} {ps:List YG} (h:Xx w v ps) (hs:ps.length<=1048576) :
  Calls Tryz.prog 118 #[v] w fun e w'=> ∃ v',e= .returned v'/\DesksAt w.heap.size w' v' ps/\Below w.heap.size w w':=by
 obtain ⟨a,cap,rfl,hc,hm,hr⟩:=h
 have Hr:=Z9 hr
 clear hr
 obtain ⟨i0,hi,hz0,hz1,hz2⟩:=info_parts CX
 go_enter Tryz.func118,Tryz.ntmps118
 go_wp2_with (at_make;refine wpList_make_full _ rfl _ _ 29 rfl w.heap.size 49 i0 (.agg #[.bool false,.int .i64 0,.int .i64 0]) 3 Tryz.underlying29 hi hz0 hz1 _ _ _ _ ps.length rfl rfl rfl rfl (by rw [hz2];omega) (by unfold maxLen;omega) (Nat.le_refl _) ?_;intro w0 hown hgrow)
 have Hown:Hid (DesksAt w.heap.size w0 (.slice (some ⟨w.heap.size,0,none⟩) ps.length ps.length) (Ws ps (false,0,0) 0)):=Z9 (by
  rw [Sq ZT (by omega) (false,0,0) (Value.agg #[.bool false,.int .i64 0,.int .i64 0]).cells rfl ps.length] at hown
  rw [TI]
  show w0.ownsRow _ _ _ _ (List.replicate ps.length _).length _
  rw [List.length_replicate]
  exact hown)
 have Hgr:=Z9 hgrow
 clear hown hgrow
 go_loopw [4] (fun i wr=> ∃ k:Nat,k<=ps.length/\i= .int .i64 k/\DesksAt w.heap.size wr (.slice (some ⟨w.heap.size,0,none⟩) ps.length ps.length) (Ws ps (false,0,0) k)/\Below w.heap.size w wr) (fun i _=>ps.length-(intOf i).toNat)
 case atStart=>exact ⟨0,Nat.zero_le _,rfl,uh Hown,(Below.refl _ _).grown (uh Hgr) (Nat.le_refl _) (fun k e=>by cases e)⟩
 case round=>
  obtain ⟨k,hk,rfl,hown,hb⟩:=hrel
  have Hb:=Z9 hb
  by_cases hlt:k<ps.length
  ·rcases uh Hr with h0 | ⟨b,off,rfl,hbw,hcl⟩
   ·rw [h0] at hlt;simp at hlt
   obtain ⟨c0,c1,c2⟩:=Zh hcl hlt
   rw [<-hb.cell (p:=⟨b,off+k*3,none⟩) hbw] at c0
   rw [<-hb.cell (p:=⟨b,off+k*3+1,none⟩) hbw] at c1
   rw [<-hb.cell (p:=⟨b,off+k*3+2,none⟩) hbw] at c2
   have Ho:=Z9 hown
   have HS:=Z9 (Sk (z:=((false,0,0):YG)) hlt)
   generalize hp:Z8 ps k=p at *
   obtain ⟨x0,x1,x2⟩:=p
   simp only at c0 c1 c2
   clear hcl hb hown hp
   go_wp2_with fail
   refine (Hj _ _ _ _).mono ?_
   rintro e w1 ⟨rfl,hb1⟩
   have ho1:=RecAt.later (uh Ho) hb1
   have hfl:=Sj (z:=((false,0,0):YG)) hk
   obtain ⟨g,hg,_,_,hcells,hfz⟩:=RecAt.view ZT (by omega) ho1 hfl.symm (by omega)
   cases hg
   have hq:=fun i u hu=>hcells k (by omega) i u hu
   generalize Z8 (Ws ps (false,0,0) k) k=old at hq
   have o0:=hq 0 _ rfl
   have f0:=hfz (k*3)
   have o1:=hq 1 _ rfl
   have f1:=hfz (k*3+1)
   have o2:=hq 2 _ rfl
   have f2:=hfz (k*3+2)
   simp only [Nat.add_zero] at o0
   have Hp2:=Z9 (RecAt.put ZT (by omega) ho1 hfl.symm (j:=k) (by omega) (x0,x1,x2))
   have Hb1:=Z9 hb1
   have hsz:=hb1.size
   have hsz0:=(uh Hb).size
   clear ho1 hb1 hcells hq hfz hfl
   go_wp2_with fail
   go_roundw
   case rel=>exact ⟨k+1,by omega,by go_num,by have h9:=(uh Hp2).1;rw [uh HS] at h9;exact h9,((uh Hb).trans ((uh Hb1).mono hsz0)).trans (XJ (uh Hp2).2 (Nat.le_refl _) (by omega))⟩
   case measure=>simp [intOf];omega
  ·obtain rfl:k=ps.length:=by omega
   rw [Si] at hown
   go_wp2_with fail
   go_ret
   exact ⟨_,rfl,hown,hb⟩
end Go.Proofs.YtjhijildaceadaaGreatDoor
