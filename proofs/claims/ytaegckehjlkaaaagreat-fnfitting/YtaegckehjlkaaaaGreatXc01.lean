/- Part 1 of what the proof rests on. No condition but those that a theorem names. -/
import Derived.Test.YtaegckehjlkaaaaGreatRows
import Derived.WalkKit
import Derived.ProofKit
import Derived.OpenShut
import Derived.Outline
import Derived.Deep.QuietTactic
import Derived.BigQuiet
import Derived.Laws.OwnMore
import Derived.OwnWalk
import Derived.Lib.QuietBelow
import Derived.Maps.AppendAt
import Derived.Lib.SmallJoins
set_option maxHeartbeats 8000000
set_option maxRecDepth 100000
namespace Go.Proofs.YtaegckehjlkaaaaGreat
open Go.ChangeShapes Go.WideShapes Go.ChangeAt Go.RowKit
set_option linter.unusedVariables false
theorem ZJ {k:IntKind} {a b:Int} (h:a=b):Ending.returned (.int k a)= .returned (.int k b):=by rw [h]
theorem Z7 {a b:Bool} (h:a=b):Ending.returned (.bool a)= .returned (.bool b):=by rw [h]
def inB (x lo hi:Int):Bool:=decide (lo<=x/\x<=hi)
theorem Zq {x lo hi:Int} (h1:lo<=x) (h2:x<=hi):inB x lo hi=true:=by unfold inB;exact decide_eq_true ⟨h1,h2⟩
theorem W7 {x lo hi:Int} (h:x<lo\/hi<x):inB x lo hi=false:=by unfold inB;exact decide_eq_false (by omega)
theorem ZV {x lo hi:Int} (h:inB x lo hi=true):lo<=x/\x<=hi:=by unfold inB at h;exact of_decide_eq_true h
theorem Z9 {p:Prop} (h:p):Hid p:=h
theorem uh {p:Prop} (h:Hid p):p:=h
theorem M0 (a b:Int) (w:World):Calls Tryz.prog 178 #[.int .i64 a,.int .i64 b] w fun e w'=>e= .returned (.int .i64 (min a b))/\w'=w:=by
 by_cases h:a<b
 all_goals
  go_enter Tryz.func178,Tryz.ntmps178
  go_wp2
  go_ret
  exact ⟨ZJ (by omega),rfl⟩
theorem Ua (a b:Int) (w:World):Calls Tryz.prog 118 #[.int .i64 a,.int .i64 b] w fun e w'=>e= .returned (.int .i64 (max a b))/\w'=w:=by
 by_cases h:b<a
 all_goals
  go_enter Tryz.func118,Tryz.ntmps118
  go_wp2
  go_ret
  exact ⟨ZJ (by omega),rfl⟩
theorem Tj (x l h:Int) (w:World):Calls Tryz.prog 125 #[.int .i64 x,.int .i64 l,.int .i64 h] w fun e w'=>e= .returned (.int .i64 (min (max x l) h))/\w'=w:=by
 go_enter Tryz.func125,Tryz.ntmps125
 go_wp2_with (first | (go_at_call 178;refine (M0 _ _ _).mono ?_;rintro e w' ⟨rfl,rfl⟩) | (go_at_call 118;refine (Ua _ _ _).mono ?_;rintro e w' ⟨rfl,rfl⟩))
 go_ret
 exact ⟨rfl,rfl⟩
theorem Td (x l h:Int) (w:World):Calls Tryz.prog 122 #[.int .i64 x,.int .i64 l,.int .i64 h] w fun e w'=>e= .returned (.int .i64 (min (max x l) h))/\w'=w:=by
 by_cases c1:x<l
 ·by_cases c2:h<l
  all_goals
   go_enter Tryz.func122,Tryz.ntmps122
   go_wp2
   all_goals (go_ret;exact ⟨ZJ (by omega),rfl⟩)
 ·by_cases c2:h<x
  all_goals
   go_enter Tryz.func122,Tryz.ntmps122
   go_wp2
   all_goals (go_ret;exact ⟨ZJ (by omega),rfl⟩)
theorem Z0 (x lo hi:Int) (w:World):Calls Tryz.prog 123 #[.int .i64 x,.int .i64 lo,.int .i64 hi] w fun e w'=>e= .returned (.bool (inB x lo hi))/\w'=w:=by
 by_cases h1:lo<=x
 ·by_cases h2:x<=hi
  all_goals
   go_enter Tryz.func123,Tryz.ntmps123
   go_wp2
   go_ret
   exact ⟨Z7 (by first | exact (Zq h1 h2).symm | exact (W7 (by omega)).symm),rfl⟩
 ·go_enter Tryz.func123,Tryz.ntmps123
  go_wp2
  go_ret
  exact ⟨Z7 (W7 (by omega)).symm,rfl⟩
theorem T6 (x:Int) (w:World):Calls Tryz.prog 309 #[.int .i64 x] w fun e w'=>e= .returned (.bool (inB x 0 1000000000))/\w'=w:=by
 go_enter Tryz.func309,Tryz.ntmps309
 go_wp2_with (go_at_call 123;refine (Z0 _ _ _ _).mono ?_;rintro e w' ⟨rfl,rfl⟩)
 go_ret
 exact ⟨rfl,rfl⟩
theorem Mi (x:Int) (w:World):Calls Tryz.prog 306 #[.int .i64 x] w fun e w'=>e= .returned (.bool (inB x 0 1000000000))/\w'=w:=by
 by_cases h1:0<=x
 ·by_cases h2:x<=1000000000
  all_goals
   go_enter Tryz.func306,Tryz.ntmps306
   go_wp2
   go_ret
   exact ⟨Z7 (by first | exact (Zq h1 h2).symm | exact (W7 (by omega)).symm),rfl⟩
 ·go_enter Tryz.func306,Tryz.ntmps306
  go_wp2
  go_ret
  exact ⟨Z7 (W7 (by omega)).symm,rfl⟩
theorem NG (x:Int) (w:World):Calls Tryz.prog 307 #[.int .i64 x] w fun e w'=>e= .returned (.bool (inB x 1 1000000000))/\w'=w:=by
 by_cases h1:1<=x
 ·by_cases h2:x<=1000000000
  all_goals
   go_enter Tryz.func307,Tryz.ntmps307
   go_wp2
   go_ret
   exact ⟨Z7 (by first | exact (Zq h1 h2).symm | exact (W7 (by omega)).symm),rfl⟩
 ·go_enter Tryz.func307,Tryz.ntmps307
  go_wp2
  go_ret
  exact ⟨Z7 (W7 (by omega)).symm,rfl⟩
theorem Y3 (x:Int) (w:World):Calls Tryz.prog 304 #[.int .i64 x] w fun e w'=>e= .returned (.bool (inB x 0 1024))/\w'=w:=by
 by_cases h1:0<=x
 ·by_cases h2:x<=1024
  all_goals
   go_enter Tryz.func304,Tryz.ntmps304
   go_wp2
   go_ret
   exact ⟨Z7 (by first | exact (Zq h1 h2).symm | exact (W7 (by omega)).symm),rfl⟩
 ·go_enter Tryz.func304,Tryz.ntmps304
  go_wp2
  go_ret
  exact ⟨Z7 (W7 (by omega)).symm,rfl⟩
theorem Q9 {p:Int->Bool} {zs:List Int} {k:Nat} {z:Int} (hlt:k<zs.length) (hz:zs.getD k 0=z) (ha:(zs.take k).all p=true) (hp:p z=true):(zs.take (k+1)).all p=true:=by
 rw [List.take_succ_eq_append_getElem hlt,List.all_append,ha]
 have:zs[k]=z:=by rw [<-hz];simp [List.getD,hlt]
 simp [this,hp]
theorem Tq {p:Int->Bool} {zs:List Int} {k:Nat} {z:Int} (hlt:k<zs.length) (hz:zs.getD k 0=z) (hp:p z=false):zs.all p=false:=by
 have:zs[k]=z:=by rw [<-hz];simp [List.getD,hlt]
 rw [List.all_eq_false]
 exact ⟨zs[k],List.getElem_mem hlt,by rw [this,hp];simp⟩
theorem Pz (b cap:Nat) (zs:List Int) (w:World) (hl:zs.length<=1000) (hc:∀ k,k<zs.length->w.cell? ⟨b,k,none⟩=some (.int .i64 (zs.getD k 0))) :
  Calls Tryz.prog 305 #[.func (Fn.func 306) #[] #[],.slice (some ⟨b,0,none⟩) zs.length cap] w fun e w'=>e= .returned (.bool (zs.all fun z=>inB z 0 1000000000))/\w'=w:=by
 go_enter Tryz.func305,Tryz.ntmps305
 go_wp2_with fail
 go_loop [9] (fun i=> ∃ k:Nat,k<=zs.length/\i= .int .i64 k/\((zs.take k).all fun z=>inB z 0 1000000000)=true) (fun i=>zs.length-(intOf i).toNat)
 case atStart=>exact ⟨0,Nat.zero_le _,rfl,by simp⟩
 case round=>
  obtain ⟨k,hk,rfl,hall⟩:=hrel
  by_cases hlt:k<zs.length
  ·have hcell:=hc k hlt
   have Ha:=Z9 hall
   clear hall hc
   generalize hz:zs.getD k 0=z at *
   have Hz:=Z9 hz
   clear hz
   go_wp2_with fail
   refine (Mi _ _).mono ?_
   rintro e w' ⟨rfl,rfl⟩
   cases hp:inB z 0 1000000000
   ·go_wp2_with fail
    go_ret
    exact ⟨Z7 (Tq hlt (uh Hz) hp).symm,rfl⟩
   ·go_wp2_with fail
    go_round
    case rel=>exact ⟨k+1,by omega,by go_num,Q9 hlt (uh Hz) (uh Ha) hp⟩
    case measure=>simp [intOf];omega
  ·go_wp2_with fail
   go_ret
   exact ⟨Z7 (by rw [<-hall,List.take_of_length_le (by omega)]),rfl⟩
theorem Ql (b cap:Nat) (zs:List Int) (w:World) (hl:zs.length<=1000) (hc:∀ k,k<zs.length->w.cell? ⟨b,k,none⟩=some (.int .i64 (zs.getD k 0))) :
  Calls Tryz.prog 305 #[.func (Fn.func 307) #[] #[],.slice (some ⟨b,0,none⟩) zs.length cap] w fun e w'=>e= .returned (.bool (zs.all fun z=>inB z 1 1000000000))/\w'=w:=by
 go_enter Tryz.func305,Tryz.ntmps305
 go_wp2_with fail
 go_loop [9] (fun i=> ∃ k:Nat,k<=zs.length/\i= .int .i64 k/\((zs.take k).all fun z=>inB z 1 1000000000)=true) (fun i=>zs.length-(intOf i).toNat)
 case atStart=>exact ⟨0,Nat.zero_le _,rfl,by simp⟩
 case round=>
  obtain ⟨k,hk,rfl,hall⟩:=hrel
  by_cases hlt:k<zs.length
  ·have hcell:=hc k hlt
   have Ha:=Z9 hall
   clear hall hc
   generalize hz:zs.getD k 0=z at *
   have Hz:=Z9 hz
   clear hz
   go_wp2_with fail
   refine (NG _ _).mono ?_
   rintro e w' ⟨rfl,rfl⟩
   cases hp:inB z 1 1000000000
   ·go_wp2_with fail
    go_ret
    exact ⟨Z7 (Tq hlt (uh Hz) hp).symm,rfl⟩
   ·go_wp2_with fail
    go_round
    case rel=>exact ⟨k+1,by omega,by go_num,Q9 hlt (uh Hz) (uh Ha) hp⟩
    case measure=>simp [intOf];omega
  ·go_wp2_with fail
   go_ret
   exact ⟨Z7 (by rw [<-hall,List.take_of_length_le (by omega)]),rfl⟩
theorem sA {α:Type} (l:List α) (i:Nat) (a:α):l.toArray.setIfInBounds i a=(l.set i a).toArray:=by simp
theorem sZ {α:Type} (x:α) (l:List α) (a:α):(x::l).set 0 a=a::l:=rfl
theorem sS {α:Type} (x:α) (l:List α) (n:Nat) (a:α):(x::l).set (n+1) a=x::l.set n a:=rfl
abbrev Z1:=Int × Int
abbrev Z3:=Int × List Z1
def ZY (ps:List Z1) (k:Nat):Z1:=ps.getD k (0,0)
def ZU (rs:List Z3) (k:Nat):Z3:=rs.getD k (0,[])
def IsPaces (w:World) (v:Value) (ps:List Z1):Prop:=
 ∃ (a:Option Addr) (cap:Nat),v= .slice a ps.length cap/\ps.length<=cap/\cap<=9223372036854775807/\(ps=[]\/ ∃ b off,a=some ⟨b,off,none⟩/\b<w.heap.size/\
  ∀ k,k<ps.length->w.cell? ⟨b,off+k*2,none⟩=some (.int .i64 (ZY ps k).1)/\w.cell? ⟨b,off+k*2+1,none⟩=some (.int .i64 (ZY ps k).2))
def IsRooms (w:World) (v:Value) (rs:List Z3):Prop:=
 ∃ (a:Option Addr) (cap:Nat),v= .slice a rs.length cap/\rs.length<=cap/\cap<=9223372036854775807/\(rs=[]\/ ∃ b off,a=some ⟨b,off,none⟩/\b<w.heap.size/\
  ∀ k,k<rs.length->w.cell? ⟨b,off+k*2,none⟩=some (.int .i64 (ZU rs k).1)/\ ∃ pv,w.cell? ⟨b,off+k*2+1,none⟩=some pv/\IsPaces w pv (ZU rs k).2)
theorem IsPaces.below {w w':World} {v:Value} {ps:List Z1} (h:IsPaces w v ps) (hb:Below w.heap.size w w'):IsPaces w' v ps:=by
 obtain ⟨a,cap,rfl,hc,hm,hr⟩:=h
 refine ⟨a,cap,rfl,hc,hm,?_⟩
 rcases hr with hr | ⟨b,off,rfl,hlt,hcl⟩
 ·exact .inl hr
 ·refine .inr ⟨b,off,rfl,Nat.lt_of_lt_of_le hlt hb.size,fun k hk=> ?_⟩
  obtain ⟨h1,h2⟩:=hcl k hk
  exact ⟨by rw [hb.cell (p:=⟨b,off+k*2,none⟩) hlt];exact h1,by rw [hb.cell (p:=⟨b,off+k*2+1,none⟩) hlt];exact h2⟩
theorem IsRooms.below {w w':World} {v:Value} {rs:List Z3} (h:IsRooms w v rs) (hb:Below w.heap.size w w'):IsRooms w' v rs:=by
 obtain ⟨a,cap,rfl,hc,hm,hr⟩:=h
 refine ⟨a,cap,rfl,hc,hm,?_⟩
 rcases hr with hr | ⟨b,off,rfl,hlt,hcl⟩
 ·exact .inl hr
 ·refine .inr ⟨b,off,rfl,Nat.lt_of_lt_of_le hlt hb.size,fun k hk=> ?_⟩
  obtain ⟨h1,pv,h2,h3⟩:=hcl k hk
  exact ⟨by rw [hb.cell (p:=⟨b,off+k*2,none⟩) hlt];exact h1,pv,by rw [hb.cell (p:=⟨b,off+k*2+1,none⟩) hlt];exact h2,h3.below hb⟩
theorem Lh {rs:List Z3} {n k:Nat} (h:k<n):ZU (rs.take n) k=ZU rs k:=by
 unfold ZU;simp [List.getD,h]
theorem IsRooms.taken {w:World} {a:Option Addr} {len cap:Nat} {rs:List Z3} (h:IsRooms w (.slice a len cap) rs) {n:Nat} (hn:n<=len):IsRooms w (.slice a n cap) (rs.take n):=by
 obtain ⟨a',cap',he,hc,hm,hr⟩:=h
 cases he
 have hl:(rs.take n).length=n:=by simp;omega
 refine ⟨a,cap,by rw [hl],by omega,hm,?_⟩
 rcases hr with hr | ⟨b,off,rfl,hlt,hcl⟩
 ·exact .inl (by rw [hr];simp)
 ·refine .inr ⟨b,off,rfl,hlt,fun k hk=> ?_⟩
  rw [Lh (by omega)]
  exact hcl k (by omega)
def UG (p:Z1):Bool:=inB p.1 1 1024 && inB p.2 1 1024
def RL (p q:Z1):Bool:=decide (q.1<p.1) && decide (q.2<p.2)
def Xf (ps:List Z1) (k:Nat):Bool:=UG (ZY ps k) && (k ==0 || RL (ZY ps k) (ZY ps (k-1)))
def TJ (ps:List Z1):Bool:=(List.range ps.length).all (Xf ps)
def Zj (r:Z3):Bool:=inB r.1 1 4 && (inB r.2.length 1 4 && TJ r.2)
def Z4 (rs:List Z3):Int:=(rs.map (·.1)).sum
def Ze (rs:List Z3):Bool:=inB rs.length 1 3 && (rs.all Zj && decide (Z4 rs<=8))
theorem K7 {ps:List Z1} (h:∀ j,j<ps.length->Xf ps j=true):TJ ps=true:=by
 unfold TJ;rw [List.all_eq_true];intro j hj;exact h j (List.mem_range.1 hj)
theorem Ug {ps:List Z1} {j:Nat} (hj:j<ps.length) (h:Xf ps j=false):TJ ps=false:=by
 unfold TJ;rw [List.all_eq_false];exact ⟨j,List.mem_range.2 hj,by simp [h]⟩
theorem Na {ps:List Z1} (h:TJ ps=true) {j:Nat} (hj:j<ps.length):Xf ps j=true:=by
 unfold TJ at h;rw [List.all_eq_true] at h;exact h j (List.mem_range.2 hj)
theorem O0 {rs:List Z3} {k:Nat} (h:k<rs.length):ZU rs k ∈ rs:=by
 unfold ZU;simp [List.getD,h]
theorem N5 {rs:List Z3} (h:∀ j,j<rs.length->Zj (ZU rs j)=true):rs.all Zj=true:=by
 rw [List.all_eq_true];intro r hr
 obtain ⟨j,hj,rfl⟩:=List.getElem_of_mem hr
 have:=h j hj
 unfold ZU at this;simpa [List.getD,hj] using this
theorem N4 {rs:List Z3} {j:Nat} (hj:j<rs.length) (h:Zj (ZU rs j)=false):rs.all Zj=false:=by
 rw [List.all_eq_false];exact ⟨_,O0 hj,by simp [h]⟩
theorem Sx {rs:List Z3} (h:rs.all Zj=true) {j:Nat} (hj:j<rs.length):Zj (ZU rs j)=true:=by
 rw [List.all_eq_true] at h;exact h _ (O0 hj)
theorem Rz {r:Z3} (h:Zj r=true):1<=r.1/\r.1<=4/\1<=r.2.length/\r.2.length<=4:=by
 unfold Zj at h;simp only [Bool.and_eq_true] at h
 have h1:=ZV h.1;have h2:=ZV h.2.1
 omega
theorem Yd (rs:List Z3) {k:Nat} (h:k<rs.length):Z4 (rs.take (k+1))=Z4 (rs.take k)+(ZU rs k).1:=by
 unfold Z4 ZU
 rw [List.take_succ_eq_append_getElem h,List.map_append,List.sum_append];simp [List.getD,h]
theorem Sy {rs:List Z3} (h:rs.all Zj=true):∀ k,k<=rs.length->(k:Int)<=Z4 (rs.take k)/\Z4 (rs.take k)<=4*k
 | 0,_=>by simp [Z4]
 | k+1,hk=>by
  have ih:=Sy h k (by omega)
  have hb:=Rz (Sx h (j:=k) (by omega))
  rw [Yd rs (by omega)];omega
theorem Vi (rs:List Z3):Z4 (rs.take rs.length)=Z4 rs:=by rw [List.take_length]
theorem Zs {rs:List Z3} (h:Ze rs=true):1<=rs.length/\rs.length<=3/\rs.all Zj=true/\Z4 rs<=8:=by
 unfold Ze at h;simp only [Bool.and_eq_true,decide_eq_true_eq] at h
 have h1:=ZV h.1
 exact ⟨by omega,by omega,h.2.1,h.2.2⟩
open Go.ChangeShapes Go.WideShapes Go.ChangeAt Go.RowKit Go.Sort
theorem Dr {W w1:World} {B:Nat} (hb:Below B W w1):(∀ b o,b<B->w1.cell? ⟨b,o,none⟩=W.cell? ⟨b,o,none⟩)/\(∀ b o,b<B->w1.frozen? ⟨b,o,none⟩=W.frozen? ⟨b,o,none⟩):=
 ⟨fun b o h=>hb.cell (p:=⟨b,o,none⟩) h,fun b o h=>hb.frozen (p:=⟨b,o,none⟩) h⟩
theorem ZW (lo n hi:Int) (w:World):Calls Tryz.prog 184 #[.int .i64 lo,.int .i64 n,.int .i64 hi] w fun e w'=>e= .returned (.bool (inB n lo hi))/\w'=w:=by
 by_cases h1:lo<=n
 ·by_cases h2:n<=hi
  all_goals
   go_enter Tryz.func184,Tryz.ntmps184
   go_wp2
   go_ret
   exact ⟨Z7 (by unfold inB;simp [h1,h2]),rfl⟩
 ·go_enter Tryz.func184,Tryz.ntmps184
  go_wp2
  go_ret
  exact ⟨Z7 (by unfold inB;simp;omega),rfl⟩
theorem X8 {P:Nat->Prop} {k:Nat} (h:∀ j,j<k->P j) (hk:P k):∀ j,j<k+1->P j:=fun j hj=>by
 by_cases e:j<k
 ·exact h j e
 ·obtain rfl:j=k:=by omega
  exact hk
structure But (bc:Nat) (w w':World):Prop where
 os:w'.os=w.os
 tape:w'.tape=w.tape
 output:w'.output=w.output
 size:w.heap.size<=w'.heap.size
 block:∀ k,k<w.heap.size->k ≠ bc->w'.heap[k]?=w.heap[k]?
theorem But.refl (bc:Nat) (w:World):But bc w w:=⟨rfl,rfl,rfl,Nat.le_refl _,fun _ _ _=>rfl⟩
theorem But.trans {bc:Nat} {a b c:World} (h:But bc a b) (k:But bc b c):But bc a c:=
 ⟨k.os.trans h.os,k.tape.trans h.tape,k.output.trans h.output,Nat.le_trans h.size k.size,fun i hi hn=>(k.block i (Nat.lt_of_lt_of_le hi h.size) hn).trans (h.block i hi hn)⟩
theorem But.below {bc B:Nat} {a w:World} (h:But bc a w) (hB:B<=bc) (hs:B<=a.heap.size):Below B a w:=
 ⟨h.os,h.tape,h.output,h.size,fun k hk=>h.block k (Nat.lt_of_lt_of_le hk hs) (by omega)⟩
theorem But.later {bc:Nat} {a b c:World} (h:But bc a b) (k:Below b.heap.size b c):But bc a c:=
 h.trans ⟨k.os,k.tape,k.output,k.size,fun i hi _=>k.block i hi⟩
theorem But.within {bc:Nat} {a b c:World} (h:But bc a b) (k:Below a.heap.size b c):But bc a c:=
 ⟨k.os.trans h.os,k.tape.trans h.tape,k.output.trans h.output,Nat.le_trans h.size k.size,fun i hi hn=>(k.block i hi).trans (h.block i hi hn)⟩
theorem But.setCell {bc:Nat} {a w:World} (h:But bc a w) (o:Nat) (v:Value):But bc a (w.setCell ⟨bc,o,none⟩ v):=
 h.trans ⟨rfl,rfl,rfl,by simp,fun k hk hn=>Below.heap_setCell w ⟨bc,o,none⟩ v k hn⟩
theorem But.cell {bc:Nat} {w w':World} (h:But bc w w') {p:Addr} (hp:p.block<w.heap.size) (hn:p.block ≠ bc):w'.cell? p=w.cell? p:=
 World.cell?_of_block (w:=w) (h.block p.block hp hn)
theorem XH {w w':World} {B t size n:Nat} {v:Value} {xs:List Value} (h:w.ownsRow B t size v n xs) (hs:∀ k,v.ownBlock=some k->w'.heap[k]?=w.heap[k]?):w'.ownsRow B t size v n xs:=by
 refine ⟨h.1,?_⟩
 rcases h.2 with hz | ⟨g,cap,cur,rfl,hb,hg,r⟩
 ·exact .inl hz
 ·exact .inr ⟨g,cap,cur,rfl,hb,(hs g rfl).trans hg,r⟩
theorem Uf {w:World} {B B' t size n:Nat} {v:Value} {xs:List Value} (h:w.ownsRow B t size v n xs) (hb:B'<=B):w.ownsRow B' t size v n xs:=by
 refine ⟨h.1,?_⟩
 rcases h.2 with hz | ⟨g,cap,cur,rfl,hb',r⟩
 ·exact .inl hz
 ·exact .inr ⟨g,cap,cur,rfl,by omega,r⟩
def Xa (ps:List Z1):List Value:=ps.flatMap fun p=>[.int .i64 p.1,.int .i64 p.2]
def OW (qs:List (Z3 × Value)):List Value:=qs.flatMap fun q=>[.int .i64 q.1.1,q.2]
theorem Nb {α:Type} {f g:α->Value} : ∀ l:List α,(l.flatMap fun p=>[f p,g p]).length=l.length*2
 | []=>rfl
 | p::l=>by rw [List.flatMap_cons,List.length_append,Nb l];simp;omega
theorem Ui {α:Type} {f g:α->Value} : ∀ (l:List α) (k:Nat) (h:k<l.length),(l.flatMap fun p=>[f p,g p])[k*2]?=some (f l[k])/\(l.flatMap fun p=>[f p,g p])[k*2+1]?=some (g l[k])
 | p::l,0,_=>by simp
 | p::l,k+1,h=>by
  have ih:=Ui (f:=f) (g:=g) l k (by simpa using h)
  rw [List.flatMap_cons,show (k+1)*2=k*2+2 by omega,show k*2+2+1=(k*2+1)+2 by omega]
  simpa using ih
theorem Kf {a b c:World} {row:Option Nat} (h:a.grownBy b row) (k:b.grownBy c row):a.grownBy c row:=
 ⟨k.os.trans h.os,k.tape.trans h.tape,k.output.trans h.output,Nat.le_trans h.size k.size,fun i hi hn=>(k.block i (Nat.lt_of_lt_of_le hi h.size) hn).trans (h.block i hi hn)⟩
theorem Tv (w:World) (r:Option Nat):w.grownBy w r:=⟨rfl,rfl,rfl,Nat.le_refl _,fun _ _ _=>rfl⟩
theorem Tu {w:World} {b o:Nat} (h:w.heap.size<=b):w.frozen? ⟨b,o,none⟩=false:=by
 unfold World.frozen?
 rw [Array.getElem?_eq_none h]
section
variable {α : Type} {t k : Nat} {enc : α → List Value}
def VF (enc:α->List Value) (xs:List α):List Value:=xs.flatMap enc
theorem WJ (hk:∀ x,(enc x).length=k):∀ xs:List α,(VF enc xs).length=xs.length*k
 | []=>by simp [VF]
 | x::xs=>by
  have ih:=WJ hk xs
  unfold VF at ih ⊢
  rw [List.flatMap_cons,List.length_append,ih,hk,List.length_cons,Nat.add_mul];omega
theorem P2 (xs ys:List α):VF enc (xs++ys)=VF enc xs++VF enc ys:=by unfold VF;rw [List.flatMap_append]
def Lj (L:List Value) (o:Nat):List Value->List Value
 | []=>L
 | u::us=>Lj (L.set o u) (o+1) us
def Mt (w:World) (g o:Nat):List Value->World
 | []=>w
 | u::us=>Mt (w.setCell ⟨g,o,none⟩ u) g (o+1) us
theorem Ll:∀ (us L:List Value) (o:Nat),(Lj L o us).length=L.length
 | [],L,o=>rfl
 | u::us,L,o=>by unfold Lj;rw [Ll us];simp
theorem Lk:∀ (us L:List Value) (o m:Nat),o+us.length<=L.length->(Lj L o us)[m]?=if o<=m/\m<o+us.length then us[m-o]? else L[m]?
 | [],L,o,m,h=>by unfold Lj;rw [if_neg (by simp)]
 | u::us,L,o,m,h=>by
  unfold Lj
  have ih:=Lk us (L.set o u) (o+1) m (by simp at h ⊢;omega)
  rw [ih]
  simp only [List.length_cons] at h ⊢
  by_cases h1:o+1<=m/\m<o+1+us.length
  ·rw [if_pos h1,if_pos (by omega),show m-o=(m-(o+1))+1 by omega];rfl
  ·rw [if_neg h1]
   by_cases h2:m=o
   ·subst h2;rw [if_pos (by omega),List.getElem?_set_self (by omega)];simp
   ·rw [if_neg (by omega),List.getElem?_set_ne (by omega)]
theorem KV {B t n cap g sz:Nat} : ∀ (us:List Value) {w:World} {xs:List Value} (o:Nat),w.ownsRow B t sz (.slice (some ⟨g,0,none⟩) n cap) n xs->
  (Mt w g o us).ownsRow B t sz (.slice (some ⟨g,0,none⟩) n cap) n (Lj xs o us)/\w.grownBy (Mt w g o us) (some g)
 | [],w,xs,o,h=>⟨h,Tv _ _⟩
 | u::us,w,xs,o,h=>by
  obtain ⟨h1,h2⟩:=World.ownsRow.stored h o u
  obtain ⟨h3,h4⟩:=KV us (o+1) h1
  exact ⟨h3,Kf h2 h4⟩
def RecAt (t k:Nat) (enc:α->List Value) (n₀:Nat) (w:World) (v:Value) (xs:List α):Prop:=w.ownsRow n₀ t k v xs.length (VF enc xs)
theorem RecAt.lt {n₀:Nat} {w:World} {v:Value} {xs:List α} (h:RecAt t k enc n₀ w v xs) {i:Nat} (hi:v.ownBlock=some i):n₀<=i/\i<w.heap.size:=World.ownsRow.lt h i hi
theorem RecAt.mono {n₀ n₁:Nat} {w:World} {v:Value} {xs:List α} (h:RecAt t k enc n₀ w v xs) (hn:n₁<=n₀):RecAt t k enc n₁ w v xs:=Uf h hn
theorem RecAt.same {n₀:Nat} {w w':World} {v:Value} {xs:List α} (h:RecAt t k enc n₀ w v xs) (hs:∀ i,v.ownBlock=some i->w'.heap[i]?=w.heap[i]?):RecAt t k enc n₀ w' v xs:=XH h hs
theorem RecAt.later {n₀:Nat} {w w':World} {v:Value} {xs:List α} (h:RecAt t k enc n₀ w v xs) (hb:Below w.heap.size w w'):RecAt t k enc n₀ w' v xs:=h.same fun i hi=>hb.block i (h.lt hi).2
theorem RecAt.grown {n₀:Nat} {w w':World} {v:Value} {xs:List α} {r:Option Nat} (h:RecAt t k enc n₀ w v xs) (hg:w.grownBy w' r) (hr:∀ i,v.ownBlock=some i->r ≠ some i):RecAt t k enc n₀ w' v xs:=h.same fun i hi=>hg.block i (h.lt hi).2 (fun e=>hr i hi e.symm)
theorem RecAt.shape {n₀:Nat} {w:World} {v:Value} {xs:List α} (h:RecAt t k enc n₀ w v xs):∃ a cap,v= .slice a xs.length cap:=by
 rcases h.2 with ⟨rfl,hz⟩ | ⟨g,cap,cur,rfl,_⟩
 ·exact ⟨none,0,by rw [hz]⟩
 ·exact ⟨_,cap,rfl⟩
end
section
variable {α : Type} [Inhabited α] {t k : Nat} {enc : α → List Value}
def Z8 (xs:List α) (j:Nat):α:=xs.getD j default
theorem Sw {xs:List α} {j:Nat} (h:j<xs.length):Z8 xs j=xs[j]:=by unfold Z8;simp [List.getD,h]
theorem Xn {xs:List α} {j:Nat} (h:j<xs.length):Z8 xs j ∈ xs:=by rw [Sw h];exact List.getElem_mem h
theorem ZF {xs:List α} {i:Nat} {x:α} (h:i<xs.length) (j:Nat):Z8 (xs.set i x) j=if j=i then x else Z8 xs j:=by
 unfold Z8
 by_cases e:j=i
 ·subst e;simp [List.getD,h]
 ·rw [if_neg e];simp [List.getD,Ne.symm e]
theorem Wd (hk:∀ x,(enc x).length=k):∀ (xs:List α) (j:Nat),j<xs.length-> ∀ i,i<k->(VF enc xs)[j*k+i]?=(enc (Z8 xs j))[i]?
 | x::xs,0,_,i,hi=>by
  unfold VF Z8
  rw [List.flatMap_cons,Nat.zero_mul,Nat.zero_add,List.getElem?_append_left (by rw [hk];exact hi)];rfl
 | x::xs,j+1,h,i,hi=>by
  have ih:=Wd hk xs j (by simpa using h) i hi
  unfold VF Z8 at ih ⊢
  rw [List.flatMap_cons,List.getElem?_append_right (by rw [hk,Nat.add_mul];omega),hk,show (j+1)*k+i-k=j*k+i by rw [Nat.add_mul];omega,ih]
  rfl
theorem DG (hk:∀ x,(enc x).length=k) (h0:0<k) (xs:List α) (j:Nat) (hj:j<xs.length) (x:α):Lj (VF enc xs) (j*k) (enc x)=VF enc (xs.set j x):=by
 have hl:=WJ hk xs
 have hjk:j*k+k<=xs.length*k:=by rw [<-Nat.succ_mul];exact Nat.mul_le_mul_right k hj
 apply List.ext_getElem?
 intro m
 by_cases hm:m<xs.length*k
 ·have hd:m / k<xs.length:=(Nat.div_lt_iff_lt_mul h0).2 hm
  have hr:m%k<k:=Nat.mod_lt _ h0
  have he:m=m / k*k+m%k:=by rw [Nat.mul_comm];exact (Nat.div_add_mod m k).symm
  have hg:=Wd hk (xs.set j x) (m / k) (by simpa using hd) (m%k) hr
  have hg0:=Wd hk xs (m / k) hd (m%k) hr
  rw [<-he] at hg hg0
  rw [Lk _ _ _ _ (by rw [hl,hk];exact hjk),hg,hk,ZF hj,hg0]
  by_cases e:m / k=j
  ·rw [if_pos e,if_pos (by rw [<-e];omega),show m-j*k=m%k by rw [<-e];omega]
  ·rw [if_neg e,if_neg]
   intro ⟨h1,h2⟩
   apply e
   exact Nat.div_eq_of_lt_le h1 (by rw [Nat.succ_mul];exact h2)
 ·rw [List.getElem?_eq_none (by rw [Ll,hl];omega),List.getElem?_eq_none (by rw [WJ hk];simp;omega)]
def IsRec (k:Nat) (enc:α->List Value) (w:World) (v:Value) (xs:List α):Prop:=
 ∃ (a:Option Addr) (cap:Nat),v= .slice a xs.length cap/\xs.length<=cap/\cap<=9223372036854775807/\(xs=[]\/ ∃ b off,a=some ⟨b,off,none⟩/\b<w.heap.size/\
  ∀ j,j<xs.length-> ∀ i u,(enc (Z8 xs j))[i]?=some u->w.cell? ⟨b,off+j*k+i,none⟩=some u)
theorem IsRec.below {w w':World} {v:Value} {xs:List α} (h:IsRec k enc w v xs) (hb:Below w.heap.size w w'):IsRec k enc w' v xs:=by
 obtain ⟨a,cap,rfl,hc,hm,hr⟩:=h
 refine ⟨a,cap,rfl,hc,hm,?_⟩
 rcases hr with hr | ⟨b,off,rfl,hlt,hcl⟩
 ·exact .inl hr
 ·exact .inr ⟨b,off,rfl,Nat.lt_of_lt_of_le hlt hb.size,fun j hj i u hu=>(hb.cell (p:=⟨b,off+j*k+i,none⟩) hlt).trans (hcl j hj i u hu)⟩
theorem IsRec.shape {w:World} {v:Value} {xs:List α} (h:IsRec k enc w v xs):∃ a cap,v= .slice a xs.length cap/\xs.length<=cap/\cap<=9223372036854775807:=by
 obtain ⟨a,cap,rfl,hc,hm,_⟩:=h;exact ⟨a,cap,rfl,hc,hm⟩
theorem RecAt.recs (hk:∀ x,(enc x).length=k) (h0:0<k) {n₀:Nat} {w:World} {v:Value} {xs:List α} (h:RecAt t k enc n₀ w v xs):IsRec k enc w v xs:=by
 have h':=h
 rcases h.2 with ⟨rfl,hz⟩ | ⟨g,cap,cur,rfl,hb,hg,hnc,hcm,r⟩
 ·exact ⟨none,0,by rw [hz],by omega,by omega,.inl (List.eq_nil_of_length_eq_zero hz)⟩
 ·refine ⟨_,cap,rfl,hnc,by unfold maxLen at hcm;omega,.inr ⟨g,0,rfl,(Array.getElem?_eq_some_iff.1 hg).1,fun j hj i u hu=> ?_⟩⟩
  have hi:i<k:=by
   rcases Nat.lt_or_ge i k with h | h
   ·exact h
   ·rw [List.getElem?_eq_none (by rw [hk];exact h)] at hu;cases hu
  have hjk:j*k+k<=xs.length*k:=by rw [<-Nat.succ_mul];exact Nat.mul_le_mul_right k hj
  rw [Nat.zero_add,World.ownsRow.cellAt h' (j*k+i) (by omega),Wd hk xs j hj i hi]
  exact hu
theorem RecAt.view (hk:∀ x,(enc x).length=k) (h0:0<k) {n₀ n cap:Nat} {w:World} {a:Option Addr} {xs:List α} (h:RecAt t k enc n₀ w (.slice a n cap) xs) (hn:n=xs.length) (hl:0<xs.length):∃ g,a=some ⟨g,0,none⟩/\n₀<=g/\g<w.heap.size/\
  (∀ j,j<xs.length-> ∀ i u,(enc (Z8 xs j))[i]?=some u->w.cell? ⟨g,j*k+i,none⟩=some u)/\(∀ o,w.frozen? ⟨g,o,none⟩=false):=by
 subst hn
 have h':=h
 rcases h.2 with ⟨hv,hz⟩ | ⟨g,cap',cur,hv,hb,hg,hnc,hcm,r⟩
 ·omega
 ·cases hv
  refine ⟨g,rfl,hb,(Array.getElem?_eq_some_iff.1 hg).1,fun j hj i u hu=> ?_,fun o=>World.ownsRow.frozenAt h' o⟩
  have hi:i<k:=by
   rcases Nat.lt_or_ge i k with h | h
   ·exact h
   ·rw [List.getElem?_eq_none (by rw [hk];exact h)] at hu;cases hu
  have hjk:j*k+k<=xs.length*k:=by rw [<-Nat.succ_mul];exact Nat.mul_le_mul_right k hj
  rw [World.ownsRow.cellAt h' (j*k+i) (by omega),Wd hk xs j hj i hi]
  exact hu
theorem RecAt.put (hk:∀ x,(enc x).length=k) (h0:0<k) {n₀ n cap g:Nat} {w:World} {xs:List α} (h:RecAt t k enc n₀ w (.slice (some ⟨g,0,none⟩) n cap) xs) (hn:n=xs.length) {j:Nat} (hj:j<xs.length) (x:α) :
  RecAt t k enc n₀ (Mt w g (j*k) (enc x)) (.slice (some ⟨g,0,none⟩) n cap) (xs.set j x)/\w.grownBy (Mt w g (j*k) (enc x)) (some g):=by
 subst hn
 obtain ⟨h1,h2⟩:=KV (enc x) (j*k) h
 rw [DG hk h0 xs j hj x] at h1
 refine ⟨?_,h2⟩
 unfold RecAt
 rw [List.length_set]
 exact h1
end
end Go.Proofs.YtaegckehjlkaaaaGreat
namespace Go.Proofs.YtaegckehjlkaaaaGreat
open Go.ChangeShapes Go.WideShapes Go.ChangeAt Go.RowKit Go.Sort
set_option linter.unusedVariables false
section
variable {α : Type} {t k : Nat} {enc : α → List Value}
theorem FF [Inhabited α] (hk:∀ x,(enc x).length=k) (h0:0<k) (z:α) (zs:Array Value) (hz:zs.toList=enc z) (n:Nat):(madeCells zs (n*k)).toList=VF enc (List.replicate n z):=by
 have hs:zs.size=k:=by rw [<-Array.length_toList,hz,hk]
 apply List.ext_getElem?
 intro m
 by_cases hm:m<n*k
 ·have hd:m / k<n:=(Nat.div_lt_iff_lt_mul h0).2 hm
  have hr:m%k<k:=Nat.mod_lt _ h0
  have he:m=m / k*k+m%k:=by rw [Nat.mul_comm];exact (Nat.div_add_mod m k).symm
  have hg:=Wd hk (List.replicate n z) (m / k) (by simpa using hd) (m%k) hr
  rw [<-he] at hg
  have hrec:Z8 (List.replicate n z) (m / k)=z:=by unfold Z8;simp [List.getD,hd]
  rw [hg,hrec,<-hz]
  simp [madeCells,hm,hs,hr]
 ·rw [List.getElem?_eq_none (by simp [madeCells];omega),List.getElem?_eq_none (by rw [WJ hk];simp;omega)]
end
end Go.Proofs.YtaegckehjlkaaaaGreat
namespace Go.Proofs.YtaegckehjlkaaaaGreat
open Go.ChangeShapes Go.WideShapes Go.ChangeAt Go.RowKit Go.Sort
set_option linter.unusedVariables false
theorem LP (g o i:Nat):(⟨g,o,none⟩:Addr).add i=⟨g,o+i,none⟩:=by unfold Addr.add;split<;>simp_all
theorem Rv {e k bytes:Nat} {z:Value} (h:(Tryz.prog.info? e).map (fun i=>(i.zero,i.size,i.bytes))=some (some z,k,bytes)):∃ i,Tryz.prog.info? e=some i/\i.zero=some z/\i.size=k/\i.bytes=bytes:=by
 cases hi:Tryz.prog.info? e with
 | none=>rw [hi] at h;cases h
 | some i=>
  rw [hi] at h
  simp only [Option.map_some,Option.some.injEq,Prod.mk.injEq] at h
  exact ⟨i,rfl,h.1,h.2.1,h.2.2⟩
theorem Ti {w:World} {base t ty e size n:Nat} {i:TypeInfo} (ht:Tryz.prog.underlying t=some (.slice e)) (hi:Tryz.prog.info? e=some i) {v:Value} {xs:List Value} (hown:w.ownsRow base e size v n xs) (a:Option Addr) (c:Nat) :
  (Builtin.append_ #[t,t] ty #[v,.slice a 0 c]).run Tryz.prog w= .ok v w:=by
 rcases hown.2 with ⟨rfl,rfl⟩ | ⟨g,cap,cur,rfl,_,_,hnc,_⟩
 ·cases a<;>simp [Builtin.append_,run_underlying ht,sizeOf,typeInfo,hi,Builtin.lenOf,Builtin.firstCells,loadCells,loadCellsFrom]
 ·cases a<;>simp [Builtin.append_,run_underlying ht,sizeOf,typeInfo,hi,Builtin.lenOf,Builtin.firstCells,hnc,storeCells,loadCells,loadCellsFrom]
structure PX {α:Type} (e k:Nat) (z:Value) (enc:α->List Value):Prop where
 info:(Tryz.prog.info? e).map (fun i=>(i.zero,i.size,i.bytes))=some (some z,k,8*k)
 zero:z.cells.size=k
 len:∀ x,(enc x).length=k
 pos:0<k
 few:k<=100
 one:∀ x,∀ u ∈ enc x,u.oneCell'=true
section
variable {α : Type} {e k : Nat} {enc : α → List Value}
theorem J9 (hone:∀ x:α,∀ u ∈ enc x,u.oneCell'=true) (qs:List α):∀ u ∈ VF enc qs,u.oneCell'=true:=fun u hu=>by
 unfold VF at hu
 obtain ⟨p,_,hp⟩:=List.mem_flatMap.1 hu
 exact hone p u hp
theorem YZ {B g:Nat} {w:World} (hg:g=w.heap.size) (hB:B<=g):RecAt e k enc B (w.alloc (.cells #[] e)) (.slice (some ⟨g,0,none⟩) 0 0) []:=by
 subst hg
 exact ⟨by simp [VF],.inr ⟨_,0,#[],rfl,hB,heap_alloc_new w _,Nat.le_refl _,Nat.zero_le _,by simp,by simp [VF]⟩⟩
end
section
variable {α : Type} [Inhabited α] {e k : Nat} {enc : α → List Value} {z : Value}
theorem Nf (hk:∀ x,(enc x).length=k) (h0:0<k) {w:World} {b off:Nat} {qs:List α} (h:∀ j,j<qs.length-> ∀ i u,(enc (Z8 qs j))[i]?=some u->w.cell? ⟨b,off+j*k+i,none⟩=some u) :
  ∀ (j:Nat) (u:Value),(VF enc qs)[j]?=some u->w.cell? ((⟨b,off,none⟩:Addr).add j)=some u:=fun j u hj=>by
 have hlt:j<qs.length*k:=by
  rcases Nat.lt_or_ge j (qs.length*k) with h | h
  ·exact h
  ·rw [List.getElem?_eq_none (by rw [WJ hk];exact h)] at hj;cases hj
 have hd:j / k<qs.length:=(Nat.div_lt_iff_lt_mul h0).2 hlt
 have hr:j%k<k:=Nat.mod_lt _ h0
 have he:j=j / k*k+j%k:=by rw [Nat.mul_comm];exact (Nat.div_add_mod j k).symm
 rw [LP]
 rw [he,Wd hk qs (j / k) hd (j%k) hr] at hj
 have:=h (j / k) hd (j%k) u hj
 rw [Nat.add_assoc,<-he] at this
 exact this
theorem WG (T:PX e k z enc) {w:World} {base t ty:Nat} (ht:Tryz.prog.underlying t=some (.slice e)) {v x:Value} {ps qs:List α} (hown:RecAt e k enc base w v ps) (hx:IsRec k enc w x qs) (hb:ps.length+qs.length<=4000) (hbase:base<=w.heap.size) :
  ∃ v' w',(Builtin.append_ #[t,t] ty #[v,x]).run Tryz.prog w= .ok v' w'/\RecAt e k enc base w' v' (ps++qs)/\w.grownBy w' v.ownBlock/\(v'.ownBlock=v.ownBlock\/v'.ownBlock=some w.heap.size):=by
 obtain ⟨i0,hi,hz0,hz1,hz2⟩:=Rv T.info
 obtain ⟨a,c,rfl,hc,hm,hr⟩:=hx
 by_cases h0:qs=[]
 ·subst h0
  refine ⟨v,w,Ti ht hi hown a c,by simpa using hown,Tv _ _,.inl rfl⟩
 ·rcases hr with hr | ⟨b,off,rfl,hlt,hcl⟩
  ·exact absurd hr h0
  ·have hk:=T.few
   have hmul:(ps.length+qs.length)*(8*k)<=4000*800:=Nat.mul_le_mul hb (by omega)
   obtain ⟨v',w',hr,h2,h3,_,h5⟩:=run_append_own_at (P:=Tryz.prog) w base t ty e i0 z k (8*k) ht hi hz0 hz1 hz2 T.zero T.pos v ps.length _ hown ⟨b,off,none⟩ qs.length c (VF enc qs) (WJ T.len qs)
    (Nf T.len T.pos hcl) (J9 T.one qs) (by simp only [maxLen];omega) (by omega) hbase
   refine ⟨v',w',hr,?_,h3,h5⟩
   unfold RecAt
   rw [P2,List.length_append]
   exact h2
theorem ZH (T:PX e k z enc) {w:World} {ops:Array Oper} {rest:List Oper} {o:Oper} {a:Act} {Q:Exit->Act->World->Prop} (hgd:o.guard=none) (s x:Operand) (t:TypeId) (ht:Tryz.prog.underlying t=some (.slice e))
  (ho:o.op= .call { callee:= .builtin .append,args:=#[s,x],argTypes:=#[t,t] }) (base:Nat) (v u:Value) (ps qs:List α) (hs:a.eval s=v) (hx:a.eval x=u) (hown:RecAt e k enc base w v ps) (hr:IsRec k enc w u qs)
  (hb:ps.length+qs.length<=4000) (hbase:base<=w.heap.size)
  (h:∀ v' w',RecAt e k enc base w' v' (ps++qs)->w.grownBy w' v.ownBlock->(v'.ownBlock=v.ownBlock\/v'.ownBlock=some w.heap.size)->wpList Tryz.prog ops Q rest (a.put o.dst v') w') :
  wpList Tryz.prog ops Q (o::rest) a w:=by
 refine wpList_plain hgd fun K hK=> ?_
 obtain ⟨v',w',hrun,h2,h3,h5⟩:=WG T (ty:=o.type) ht hown hr hb hbase
 unfold Oper.wp execOp
 simp only [ho,resolve,invoke,builtin,Sem.run_bind,Sem.run_pure,Result.andThen_ok,List.map_toArray,List.map_cons,List.map_nil,hs,hx,hrun]
 exact hK _ _ (h v' w' h2 h3 h5)
theorem Xd {w:World} (x:α) {g c:Nat} (hg:g=w.heap.size) (hc:1<=c) (hc2:c<=4000):IsRec k enc (w.alloc (.cells (enc x).toArray e)) (.slice (some ⟨g,0,none⟩) 1 c) [x]:=by
 subst hg
 refine ⟨_,c,rfl,hc,by omega,.inr ⟨_,0,rfl,by simp,fun j hj i u hu=> ?_⟩⟩
 obtain rfl:j=0:=by simpa using hj
 rw [Nat.zero_mul,Nat.zero_add,World.cell?_alloc_at _ _ _ _ rfl]
 have hr:Z8 [x] 0=x:=rfl
 rw [hr] at hu
 simpa using hu
theorem Fj (hk:∀ x,(enc x).length=k) (h0:0<k) (xs:List α) {j i:Nat} (hj:j<xs.length) (hi:i<k) (u:Value) (x:α) (hx:enc x=(enc (Z8 xs j)).set i u):(VF enc xs).set (j*k+i) u=VF enc (xs.set j x):=by
 have hl:=WJ hk xs
 have hjk:j*k+k<=xs.length*k:=by rw [<-Nat.succ_mul];exact Nat.mul_le_mul_right k hj
 apply List.ext_getElem?
 intro m
 by_cases hm:m<xs.length*k
 ·have hd:m / k<xs.length:=(Nat.div_lt_iff_lt_mul h0).2 hm
  have hr:m%k<k:=Nat.mod_lt _ h0
  have he:m=m / k*k+m%k:=by rw [Nat.mul_comm];exact (Nat.div_add_mod m k).symm
  have hg:=Wd hk (xs.set j x) (m / k) (by simpa using hd) (m%k) hr
  have hg0:=Wd hk xs (m / k) hd (m%k) hr
  rw [<-he] at hg hg0
  rw [hg,ZF hj]
  by_cases e:m / k=j
  ·rw [if_pos e,hx]
   by_cases ei:m%k=i
   ·have hmi:m=j*k+i:=by rw [<-e,<-ei];exact he
    rw [ei,hmi,List.getElem?_set_self (by rw [hl];omega),List.getElem?_set_self (by rw [hk];exact hi)]
   ·have hmi:j*k+i ≠ m:=by rw [<-e];omega
    rw [List.getElem?_set_ne hmi,List.getElem?_set_ne (Ne.symm ei),hg0,e]
  ·rw [if_neg e,List.getElem?_set_ne,hg0]
   intro h
   apply e
   rw [<-h]
   exact Nat.div_eq_of_lt_le (Nat.le_add_right _ _) (by rw [Nat.succ_mul];omega)
 ·rw [List.getElem?_eq_none (by simp;omega),List.getElem?_eq_none (by rw [WJ hk];simp;omega)]
theorem RecAt.put1 (hk:∀ x,(enc x).length=k) (h0:0<k) {t n₀ n cap g:Nat} {w:World} {xs:List α} (h:RecAt t k enc n₀ w (.slice (some ⟨g,0,none⟩) n cap) xs) (hn:n=xs.length) {j i:Nat} (hj:j<xs.length) (hi:i<k) (u:Value) (x:α) (hx:enc x=(enc (Z8 xs j)).set i u) :
  RecAt t k enc n₀ (w.setCell ⟨g,j*k+i,none⟩ u) (.slice (some ⟨g,0,none⟩) n cap) (xs.set j x)/\w.grownBy (w.setCell ⟨g,j*k+i,none⟩ u) (some g):=by
 subst hn
 obtain ⟨h1,h2⟩:=World.ownsRow.stored h (j*k+i) u
 rw [Fj hk h0 xs hj hi u x hx] at h1
 refine ⟨?_,h2⟩
 unfold RecAt
 rw [List.length_set]
 exact h1
end
end Go.Proofs.YtaegckehjlkaaaaGreat
