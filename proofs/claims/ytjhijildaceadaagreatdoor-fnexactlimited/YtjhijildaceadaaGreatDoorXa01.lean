/- Part 1 of what the proof rests on. No condition but those that a theorem names. -/
import Derived.Test.YtjhijildaceadaaGreatDoorRows
import Derived.Test.YtjhijildaceadaaGreatDoorTie
import Derived.KernelRfl
import Derived.SevenTiedAt
import Derived.Test.YtjhijildaceadaaGreatDoorChecked
import GoSem.Claim
import GoSem.ClaimJoined
import GoSem.ClaimMapViews
import Derived.JoinedTies
import Derived.RowKit
import Derived.WalkKit
import Derived.ProofKit
import Derived.OpenShut
import Derived.Outline
import Derived.Deep.QuietTactic
import Derived.BigQuiet
import Derived.Laws.OwnMore
import Derived.OwnWalk
import Derived.Lib.QuietBelow
import Derived.Maps.AppendAt
set_option maxHeartbeats 8000000
set_option maxRecDepth 100000
namespace Go.Proofs.YtjhijildaceadaaGreatDoor
open Go
variable {w w' w0 w1 w2 w3 w₀ wr W W' X A B C : World} {v v0 v1 v2 v3 v4 u u0 u1 u2 u3 u4 : Value}
theorem NT : Tryz.pinned.checked.prog.mainIs = some (true, "6c59155b349db4fd0d9fe46676c8be769105e54703f96798ca42980aeccc2aff".toList) := by kernel_rfl
theorem QX:true=Tryz.pinned.checked.prog.looks []:=by kernel_rfl
theorem Dk:(Tryz.prog.funcs.toList.any Func.goes)=false:=by kernel_rfl
theorem BZ (f:FuncId):Tryz.prog.goes f=false:=by
 have h:∀ fn ∈ Tryz.prog.funcs.toList,Func.goes fn=false:=fun fn hf=>by
  have:=List.any_eq_false.1 Dk fn hf
  simpa using this
 have hg:∀ g:FuncId,(Tryz.prog.funcs[g]?).any Func.goes=false:=fun g=>by
  cases hx:Tryz.prog.funcs[g]? with
  | none=>rfl
  | some fn=>exact h fn (by simpa using Array.mem_of_getElem? hx)
 unfold Program.goes
 simp [hg]
 intro _ i hi
 exact h _ (by simp)
theorem NS (c:OpenClaim) (hc:c.start= .entering):false=c.goesBy Tryz.pinned.checked.prog:=by
 show false=c.goesBy Tryz.prog
 unfold OpenClaim.goesBy Program.goesAt Program.goesFrom
 rw [hc]
 cases Tryz.prog.funcNamed c.func with
 | none=>rfl
 | some f=>simp [BZ]
open Go.ChangeShapes Go.WideShapes Go.ChangeAt Go.RowKit
set_option linter.unusedVariables false
theorem ZS {k:IntKind} {a b:Int} (h:a=b):Ending.returned (.int k a)= .returned (.int k b):=by rw [h]
theorem Z5 {a b:Bool} (h:a=b):Ending.returned (.bool a)= .returned (.bool b):=by rw [h]
def inB (x lo hi:Int):Bool:=decide (lo<=x/\x<=hi)
theorem Zj {x lo hi:Int} (h1:lo<=x) (h2:x<=hi):inB x lo hi=true:=by unfold inB;exact decide_eq_true ⟨h1,h2⟩
theorem Xj {x lo hi:Int} (h:x<lo\/hi<x):inB x lo hi=false:=by unfold inB;exact decide_eq_false (by omega)
theorem ZP {x lo hi:Int} (h:inB x lo hi=true):lo<=x/\x<=hi:=by unfold inB at h;exact of_decide_eq_true h
theorem Z9 {p:Prop} (h:p):Hid p:=h
theorem uh {p:Prop} (h:Hid p):p:=h
theorem Ma (a b:Int) (w:World):Calls Tryz.prog 279 #[.int .i64 a,.int .i64 b] w fun e w'=>e= .returned (.int .i64 (min a b))/\w'=w:=by
 by_cases h:a<b
 all_goals
  go_enter Tryz.func279,Tryz.ntmps279
  go_wp2
  go_ret
  exact ⟨ZS (by omega),rfl⟩
theorem Qb (a b:Int) (w:World):Calls Tryz.prog 138 #[.int .i64 a,.int .i64 b] w fun e w'=>e= .returned (.int .i64 (max a b))/\w'=w:=by
 by_cases h:b<a
 all_goals
  go_enter Tryz.func138,Tryz.ntmps138
  go_wp2
  go_ret
  exact ⟨ZS (by omega),rfl⟩
theorem Tz (x l h:Int) (w:World):Calls Tryz.prog 281 #[.int .i64 x,.int .i64 l,.int .i64 h] w fun e w'=>e= .returned (.int .i64 (min (max x l) h))/\w'=w:=by
 go_enter Tryz.func281,Tryz.ntmps281
 go_wp2_with (first | (go_at_call 279;refine (Ma _ _ _).mono ?_;rintro e w' ⟨rfl,rfl⟩) | (go_at_call 138;refine (Qb _ _ _).mono ?_;rintro e w' ⟨rfl,rfl⟩))
 go_ret
 exact ⟨rfl,rfl⟩
theorem Vt (x l h:Int) (w:World):Calls Tryz.prog 325 #[.int .i64 x,.int .i64 l,.int .i64 h] w fun e w'=>e= .returned (.int .i64 (min (max x l) h))/\w'=w:=by
 by_cases c1:x<l
 ·by_cases c2:h<l
  all_goals
   go_enter Tryz.func325,Tryz.ntmps325
   go_wp2
   all_goals (go_ret;exact ⟨ZS (by omega),rfl⟩)
 ·by_cases c2:h<x
  all_goals
   go_enter Tryz.func325,Tryz.ntmps325
   go_wp2
   all_goals (go_ret;exact ⟨ZS (by omega),rfl⟩)
theorem ZX (x lo hi:Int) (w:World):Calls Tryz.prog 76 #[.int .i64 x,.int .i64 lo,.int .i64 hi] w fun e w'=>e= .returned (.bool (inB x lo hi))/\w'=w:=by
 by_cases h1:lo<=x
 ·by_cases h2:x<=hi
  all_goals
   go_enter Tryz.func76,Tryz.ntmps76
   go_wp2
   go_ret
   exact ⟨Z5 (by first | exact (Zj h1 h2).symm | exact (Xj (by omega)).symm),rfl⟩
 ·go_enter Tryz.func76,Tryz.ntmps76
  go_wp2
  go_ret
  exact ⟨Z5 (Xj (by omega)).symm,rfl⟩
theorem Sm (x:Int) (w:World):Calls Tryz.prog 375 #[.int .i64 x] w fun e w'=>e= .returned (.bool (inB x 0 1000000000))/\w'=w:=by
 go_enter Tryz.func375,Tryz.ntmps375
 go_wp2_with (go_at_call 76;refine (ZX _ _ _ _).mono ?_;rintro e w' ⟨rfl,rfl⟩)
 go_ret
 exact ⟨rfl,rfl⟩
theorem Le (x:Int) (w:World):Calls Tryz.prog 379 #[.int .i64 x] w fun e w'=>e= .returned (.bool (inB x 0 1000000000))/\w'=w:=by
 by_cases h1:0<=x
 ·by_cases h2:x<=1000000000
  all_goals
   go_enter Tryz.func379,Tryz.ntmps379
   go_wp2
   go_ret
   exact ⟨Z5 (by first | exact (Zj h1 h2).symm | exact (Xj (by omega)).symm),rfl⟩
 ·go_enter Tryz.func379,Tryz.ntmps379
  go_wp2
  go_ret
  exact ⟨Z5 (Xj (by omega)).symm,rfl⟩
theorem MO (x:Int) (w:World):Calls Tryz.prog 380 #[.int .i64 x] w fun e w'=>e= .returned (.bool (inB x 1 1000000000))/\w'=w:=by
 by_cases h1:1<=x
 ·by_cases h2:x<=1000000000
  all_goals
   go_enter Tryz.func380,Tryz.ntmps380
   go_wp2
   go_ret
   exact ⟨Z5 (by first | exact (Zj h1 h2).symm | exact (Xj (by omega)).symm),rfl⟩
 ·go_enter Tryz.func380,Tryz.ntmps380
  go_wp2
  go_ret
  exact ⟨Z5 (Xj (by omega)).symm,rfl⟩
theorem NQ (x:Int) (w:World):Calls Tryz.prog 342 #[.int .i64 x] w fun e w'=>e= .returned (.bool (inB x 0 1024))/\w'=w:=by
 by_cases h1:0<=x
 ·by_cases h2:x<=1024
  all_goals
   go_enter Tryz.func342,Tryz.ntmps342
   go_wp2
   go_ret
   exact ⟨Z5 (by first | exact (Zj h1 h2).symm | exact (Xj (by omega)).symm),rfl⟩
 ·go_enter Tryz.func342,Tryz.ntmps342
  go_wp2
  go_ret
  exact ⟨Z5 (Xj (by omega)).symm,rfl⟩
theorem QF {p:Int->Bool} {zs:List Int} {k:Nat} {z:Int} (hlt:k<zs.length) (hz:zs.getD k 0=z) (ha:(zs.take k).all p=true) (hp:p z=true):(zs.take (k+1)).all p=true:=by
 rw [List.take_succ_eq_append_getElem hlt,List.all_append,ha]
 have:zs[k]=z:=by rw [<-hz];simp [List.getD,hlt]
 simp [this,hp]
theorem TC {p:Int->Bool} {zs:List Int} {k:Nat} {z:Int} (hlt:k<zs.length) (hz:zs.getD k 0=z) (hp:p z=false):zs.all p=false:=by
 have:zs[k]=z:=by rw [<-hz];simp [List.getD,hlt]
 rw [List.all_eq_false]
 exact ⟨zs[k],List.getElem_mem hlt,by rw [this,hp];simp⟩
theorem O2 (b cap:Nat) (zs:List Int) (w:World) (hl:zs.length<=1000) (hc:∀ k,k<zs.length->w.cell? ⟨b,k,none⟩=some (.int .i64 (zs.getD k 0))) :
  Calls Tryz.prog 378 #[.func (Fn.func 379) #[] #[],.slice (some ⟨b,0,none⟩) zs.length cap] w fun e w'=>e= .returned (.bool (zs.all fun z=>inB z 0 1000000000))/\w'=w:=by
 go_enter Tryz.func378,Tryz.ntmps378
 go_wp2_with fail
 go_loop [9] (fun i=> ∃ k:Nat,k<=zs.length/\i= .int .i64 k/\((zs.take k).all fun z=>inB z 0 1000000000)=true) (fun i=>zs.length-(intOf i).toNat)
 case atStart=>exact ⟨0,Nat.zero_le _,rfl,by simp⟩
 case round=>
  obtain ⟨k,hk,rfl,hall⟩:=hrel
  by_cases hlt:k<zs.length
  ·have hcell:=hc k hlt
   have Ha:=Z9 hall
   clear hall hc
   generalize hz:zs.getD k 0=z at *
   have Hz:=Z9 hz
   clear hz
   go_wp2_with fail
   refine (Le _ _).mono ?_
   rintro e w' ⟨rfl,rfl⟩
   cases hp:inB z 0 1000000000
   ·go_wp2_with fail
    go_ret
    exact ⟨Z5 (TC hlt (uh Hz) hp).symm,rfl⟩
   ·go_wp2_with fail
    go_round
    case rel=>exact ⟨k+1,by omega,by go_num,QF hlt (uh Hz) (uh Ha) hp⟩
    case measure=>simp [intOf];omega
  ·go_wp2_with fail
   go_ret
   exact ⟨Z5 (by rw [<-hall,List.take_of_length_le (by omega)]),rfl⟩
theorem PU (b cap:Nat) (zs:List Int) (w:World) (hl:zs.length<=1000) (hc:∀ k,k<zs.length->w.cell? ⟨b,k,none⟩=some (.int .i64 (zs.getD k 0))) :
  Calls Tryz.prog 378 #[.func (Fn.func 380) #[] #[],.slice (some ⟨b,0,none⟩) zs.length cap] w fun e w'=>e= .returned (.bool (zs.all fun z=>inB z 1 1000000000))/\w'=w:=by
 go_enter Tryz.func378,Tryz.ntmps378
 go_wp2_with fail
 go_loop [9] (fun i=> ∃ k:Nat,k<=zs.length/\i= .int .i64 k/\((zs.take k).all fun z=>inB z 1 1000000000)=true) (fun i=>zs.length-(intOf i).toNat)
 case atStart=>exact ⟨0,Nat.zero_le _,rfl,by simp⟩
 case round=>
  obtain ⟨k,hk,rfl,hall⟩:=hrel
  by_cases hlt:k<zs.length
  ·have hcell:=hc k hlt
   have Ha:=Z9 hall
   clear hall hc
   generalize hz:zs.getD k 0=z at *
   have Hz:=Z9 hz
   clear hz
   go_wp2_with fail
   refine (MO _ _).mono ?_
   rintro e w' ⟨rfl,rfl⟩
   cases hp:inB z 1 1000000000
   ·go_wp2_with fail
    go_ret
    exact ⟨Z5 (TC hlt (uh Hz) hp).symm,rfl⟩
   ·go_wp2_with fail
    go_round
    case rel=>exact ⟨k+1,by omega,by go_num,QF hlt (uh Hz) (uh Ha) hp⟩
    case measure=>simp [intOf];omega
  ·go_wp2_with fail
   go_ret
   exact ⟨Z5 (by rw [<-hall,List.take_of_length_le (by omega)]),rfl⟩
theorem sA {α:Type} (l:List α) (i:Nat) (a:α):l.toArray.setIfInBounds i a=(l.set i a).toArray:=by simp
theorem sZ {α:Type} (x:α) (l:List α) (a:α):(x::l).set 0 a=a::l:=rfl
theorem sS {α:Type} (x:α) (l:List α) (n:Nat) (a:α):(x::l).set (n+1) a=x::l.set n a:=rfl
abbrev Z6:=Int × Int
abbrev Z3:=Int × List Z6
def Z7 (ps:List Z6) (k:Nat):Z6:=ps.getD k (0,0)
def ZY (rs:List Z3) (k:Nat):Z3:=rs.getD k (0,[])
def IsPaces (w:World) (v:Value) (ps:List Z6):Prop:=
 ∃ (a:Option Addr) (cap:Nat),v= .slice a ps.length cap/\ps.length<=cap/\cap<=9223372036854775807/\(ps=[]\/ ∃ b off,a=some ⟨b,off,none⟩/\b<w.heap.size/\
  ∀ k,k<ps.length->w.cell? ⟨b,off+k*2,none⟩=some (.int .i64 (Z7 ps k).1)/\w.cell? ⟨b,off+k*2+1,none⟩=some (.int .i64 (Z7 ps k).2))
def IsRooms (w:World) (v:Value) (rs:List Z3):Prop:=
 ∃ (a:Option Addr) (cap:Nat),v= .slice a rs.length cap/\rs.length<=cap/\cap<=9223372036854775807/\(rs=[]\/ ∃ b off,a=some ⟨b,off,none⟩/\b<w.heap.size/\
  ∀ k,k<rs.length->w.cell? ⟨b,off+k*2,none⟩=some (.int .i64 (ZY rs k).1)/\ ∃ pv,w.cell? ⟨b,off+k*2+1,none⟩=some pv/\IsPaces w pv (ZY rs k).2)
theorem IsPaces.below  {ps:List Z6} (h:IsPaces w v ps) (hb:Below w.heap.size w w'):IsPaces w' v ps:=by
 obtain ⟨a,cap,rfl,hc,hm,hr⟩:=h
 refine ⟨a,cap,rfl,hc,hm,?_⟩
 rcases hr with hr | ⟨b,off,rfl,hlt,hcl⟩
 ·exact .inl hr
 ·refine .inr ⟨b,off,rfl,Nat.lt_of_lt_of_le hlt hb.size,fun k hk=> ?_⟩
  obtain ⟨h1,h2⟩:=hcl k hk
  exact ⟨by rw [hb.cell (p:=⟨b,off+k*2,none⟩) hlt];exact h1,by rw [hb.cell (p:=⟨b,off+k*2+1,none⟩) hlt];exact h2⟩
theorem IsRooms.below  {rs:List Z3} (h:IsRooms w v rs) (hb:Below w.heap.size w w'):IsRooms w' v rs:=by
 obtain ⟨a,cap,rfl,hc,hm,hr⟩:=h
 refine ⟨a,cap,rfl,hc,hm,?_⟩
 rcases hr with hr | ⟨b,off,rfl,hlt,hcl⟩
 ·exact .inl hr
 ·refine .inr ⟨b,off,rfl,Nat.lt_of_lt_of_le hlt hb.size,fun k hk=> ?_⟩
  obtain ⟨h1,pv,h2,h3⟩:=hcl k hk
  exact ⟨by rw [hb.cell (p:=⟨b,off+k*2,none⟩) hlt];exact h1,pv,by rw [hb.cell (p:=⟨b,off+k*2+1,none⟩) hlt];exact h2,h3.below hb⟩
theorem JR {rs:List Z3} {n k:Nat} (h:k<n):ZY (rs.take n) k=ZY rs k:=by
 unfold ZY;simp [List.getD,h]
theorem IsRooms.taken {a:Option Addr} {len cap:Nat} {rs:List Z3} (h:IsRooms w (.slice a len cap) rs) {n:Nat} (hn:n<=len):IsRooms w (.slice a n cap) (rs.take n):=by
 obtain ⟨a',cap',he,hc,hm,hr⟩:=h
 cases he
 have hl:(rs.take n).length=n:=by simp;omega
 refine ⟨a,cap,by rw [hl],by omega,hm,?_⟩
 rcases hr with hr | ⟨b,off,rfl,hlt,hcl⟩
 ·exact .inl (by rw [hr];simp)
 ·refine .inr ⟨b,off,rfl,hlt,fun k hk=> ?_⟩
  rw [JR (by omega)]
  exact hcl k (by omega)
def Un (p:Z6):Bool:=inB p.1 1 1024 && inB p.2 1 1024
def Rv (p q:Z6):Bool:=decide (q.1<p.1) && decide (q.2<p.2)
def WU (ps:List Z6) (k:Nat):Bool:=Un (Z7 ps k) && (k ==0 || Rv (Z7 ps k) (Z7 ps (k-1)))
def TW (ps:List Z6):Bool:=(List.range ps.length).all (WU ps)
def Zm (r:Z3):Bool:=inB r.1 1 4 && (inB r.2.length 1 4 && TW r.2)
def Z0 (rs:List Z3):Int:=(rs.map (·.1)).sum
def YN (rs:List Z3):Bool:=inB rs.length 1 3 && (rs.all Zm && decide (Z0 rs<=8))
theorem JF {ps:List Z6} (h:∀ j,j<ps.length->WU ps j=true):TW ps=true:=by
 unfold TW;rw [List.all_eq_true];intro j hj;exact h j (List.mem_range.1 hj)
theorem Uo {ps:List Z6} {j:Nat} (hj:j<ps.length) (h:WU ps j=false):TW ps=false:=by
 unfold TW;rw [List.all_eq_false];exact ⟨j,List.mem_range.2 hj,by simp [h]⟩
theorem ED {ps:List Z6} (h:TW ps=true) {j:Nat} (hj:j<ps.length):WU ps j=true:=by
 unfold TW at h;rw [List.all_eq_true] at h;exact h j (List.mem_range.2 hj)
theorem RM {rs:List Z3} {k:Nat} (h:k<rs.length):ZY rs k ∈ rs:=by
 unfold ZY;simp [List.getD,h]
theorem Nc {rs:List Z3} (h:∀ j,j<rs.length->Zm (ZY rs j)=true):rs.all Zm=true:=by
 rw [List.all_eq_true];intro r hr
 obtain ⟨j,hj,rfl⟩:=List.getElem_of_mem hr
 have:=h j hj
 unfold ZY at this;simpa [List.getD,hj] using this
theorem Nb {rs:List Z3} {j:Nat} (hj:j<rs.length) (h:Zm (ZY rs j)=false):rs.all Zm=false:=by
 rw [List.all_eq_false];exact ⟨_,RM hj,by simp [h]⟩
theorem SA {rs:List Z3} (h:rs.all Zm=true) {j:Nat} (hj:j<rs.length):Zm (ZY rs j)=true:=by
 rw [List.all_eq_true] at h;exact h _ (RM hj)
theorem Rd {r:Z3} (h:Zm r=true):1<=r.1/\r.1<=4/\1<=r.2.length/\r.2.length<=4:=by
 unfold Zm at h;simp only [Bool.and_eq_true] at h
 have h1:=ZP h.1;have h2:=ZP h.2.1
 omega
theorem Yy (rs:List Z3) {k:Nat} (h:k<rs.length):Z0 (rs.take (k+1))=Z0 (rs.take k)+(ZY rs k).1:=by
 unfold Z0 ZY
 rw [List.take_succ_eq_append_getElem h,List.map_append,List.sum_append];simp [List.getD,h]
theorem SC {rs:List Z3} (h:rs.all Zm=true):∀ k,k<=rs.length->(k:Int)<=Z0 (rs.take k)/\Z0 (rs.take k)<=4*k
 | 0,_=>by simp [Z0]
 | k+1,hk=>by
  have ih:=SC h k (by omega)
  have hb:=Rd (SA h (j:=k) (by omega))
  rw [Yy rs (by omega)];omega
theorem Wa (rs:List Z3):Z0 (rs.take rs.length)=Z0 rs:=by rw [List.take_length]
theorem Zi {rs:List Z3} (h:YN rs=true):1<=rs.length/\rs.length<=3/\rs.all Zm=true/\Z0 rs<=8:=by
 unfold YN at h;simp only [Bool.and_eq_true,decide_eq_true_eq] at h
 have h1:=ZP h.1
 exact ⟨by omega,by omega,h.2.1,h.2.2⟩
open Go.ChangeShapes Go.WideShapes Go.ChangeAt Go.RowKit Go.Sort
theorem QM {B:Nat} (hb:Below B W w1):(∀ b o,b<B->w1.cell? ⟨b,o,none⟩=W.cell? ⟨b,o,none⟩)/\(∀ b o,b<B->w1.frozen? ⟨b,o,none⟩=W.frozen? ⟨b,o,none⟩):=
 ⟨fun b o h=>hb.cell (p:=⟨b,o,none⟩) h,fun b o h=>hb.frozen (p:=⟨b,o,none⟩) h⟩
theorem ZN (lo n hi:Int) (w:World):Calls Tryz.prog 234 #[.int .i64 lo,.int .i64 n,.int .i64 hi] w fun e w'=>e= .returned (.bool (inB n lo hi))/\w'=w:=by
 by_cases h1:lo<=n
 ·by_cases h2:n<=hi
  all_goals
   go_enter Tryz.func234,Tryz.ntmps234
   go_wp2
   go_ret
   exact ⟨Z5 (by unfold inB;simp [h1,h2]),rfl⟩
 ·go_enter Tryz.func234,Tryz.ntmps234
  go_wp2
  go_ret
  exact ⟨Z5 (by unfold inB;simp;omega),rfl⟩
theorem Y2 {P:Nat->Prop} {k:Nat} (h:∀ j,j<k->P j) (hk:P k):∀ j,j<k+1->P j:=fun j hj=>by
 by_cases e:j<k
 ·exact h j e
 ·obtain rfl:j=k:=by omega
  exact hk
theorem YM {B t size n:Nat} {xs:List Value} (h:w.ownsRow B t size v n xs) (hs:∀ k,v.ownBlock=some k->w'.heap[k]?=w.heap[k]?):w'.ownsRow B t size v n xs:=by
 refine ⟨h.1,?_⟩
 rcases h.2 with hz | ⟨g,cap,cur,rfl,hb,hg,r⟩
 ·exact .inl hz
 ·exact .inr ⟨g,cap,cur,rfl,hb,(hs g rfl).trans hg,r⟩
theorem S0 {B B' t size n:Nat} {xs:List Value} (h:w.ownsRow B t size v n xs) (hb:B'<=B):w.ownsRow B' t size v n xs:=by
 refine ⟨h.1,?_⟩
 rcases h.2 with hz | ⟨g,cap,cur,rfl,hb',r⟩
 ·exact .inl hz
 ·exact .inr ⟨g,cap,cur,rfl,by omega,r⟩
def Zs (ps:List Z6):List Value:=ps.flatMap fun p=>[.int .i64 p.1,.int .i64 p.2]
def WR (qs:List (Z3 × Value)):List Value:=qs.flatMap fun q=>[.int .i64 q.1.1,q.2]
theorem St {α:Type} {f g:α->Value} : ∀ l:List α,(l.flatMap fun p=>[f p,g p]).length=l.length*2
 | []=>rfl
 | p::l=>by rw [List.flatMap_cons,List.length_append,St l];simp;omega
theorem Wy {α:Type} {f g:α->Value} : ∀ (l:List α) (k:Nat) (h:k<l.length),(l.flatMap fun p=>[f p,g p])[k*2]?=some (f l[k])/\(l.flatMap fun p=>[f p,g p])[k*2+1]?=some (g l[k])
 | p::l,0,_=>by simp
 | p::l,k+1,h=>by
  have ih:=Wy (f:=f) (g:=g) l k (by simpa using h)
  rw [List.flatMap_cons,show (k+1)*2=k*2+2 by omega,show k*2+2+1=(k*2+1)+2 by omega]
  simpa using ih
def szV (n:Nat) (left:Int):Int:=if left-n<0 then -1 else left-n
theorem TA {n:Nat} {left:Int} (h:left-n<0):szV n left= -1:=by unfold szV;rw [if_pos h]
theorem TB {n:Nat} {left:Int} (h:¬ left-n<0):szV n left=left-n:=by unfold szV;rw [if_neg h]
def Pairs (xs:List Value) (P:Nat->Value->Value->Prop) (k:Nat):Prop:= ∀ j,j<k-> ∃ u u',xs[j*2]?=some u/\xs[j*2+1]?=some u'/\P j u u'
theorem Pairs.next {xs:List Value} {P:Nat->Value->Value->Prop} {k:Nat} {u u':Value} (h:Pairs xs P k) (hl:k*2+1<xs.length) (hp:P k u u'):Pairs ((xs.set (k*2) u).set (k*2+1) u') P (k+1):=fun j hj=>by
 by_cases e:j<k
 ·obtain ⟨a,a',h1,h2,h3⟩:=h j e
  refine ⟨a,a',?_,?_,h3⟩
  ·rw [List.getElem?_set_ne (by omega),List.getElem?_set_ne (by omega)];exact h1
  ·rw [List.getElem?_set_ne (by omega),List.getElem?_set_ne (by omega)];exact h2
 ·obtain rfl:j=k:=by omega
  refine ⟨u,u',?_,?_,hp⟩
  ·rw [List.getElem?_set_ne (by omega),List.getElem?_set_self (by omega)]
  ·rw [List.getElem?_set_self (by simp;omega)]
theorem Pairs.mono {xs:List Value} {P Q:Nat->Value->Value->Prop} {k:Nat} (h:Pairs xs P k) (hpq:∀ j u u',P j u u'->Q j u u'):Pairs xs Q k:=fun j hj=>by
 obtain ⟨a,a',h1,h2,h3⟩:=h j hj
 exact ⟨a,a',h1,h2,hpq _ _ _ h3⟩
def QU (ps:List Z6) (j:Nat) (u u':Value):Prop:=u= .int .i64 (Z7 ps j).1/\u'= .int .i64 (Z7 ps j).2
theorem IsPaces.of_row {B g n cap t:Nat} {ps:List Z6} {xs:List Value} (h:w.ownsRow B t 2 (.slice (some ⟨g,0,none⟩) n cap) n xs) (hp:Pairs xs (QU ps) ps.length) (hn:n=ps.length):IsPaces w (.slice (some ⟨g,0,none⟩) n cap) ps:=by
 subst hn
 have h':=h
 rcases h.2 with ⟨hh,_⟩ | ⟨g',cap',cur,hh,hb,hg,hnc,hcm,r⟩
 ·simp at hh
 ·simp only [Value.slice.injEq,Option.some.injEq,Addr.mk.injEq,and_true,true_and] at hh
  obtain ⟨rfl,rfl⟩:=hh
  refine ⟨_,cap,rfl,hnc,by unfold maxLen at hcm;omega,.inr ⟨g,0,rfl,(Array.getElem?_eq_some_iff.1 hg).1,fun k hk=> ?_⟩⟩
  obtain ⟨u,u',h1,h2,rfl,rfl⟩:=hp k hk
  refine ⟨?_,?_⟩
  ·rw [Nat.zero_add,World.ownsRow.cellAt h' _ (by omega)];exact h1
  ·rw [Nat.zero_add,World.ownsRow.cellAt h' _ (by omega)];exact h2
theorem VF {B g n cap t:Nat} {xs:List Value} (h:w.ownsRow B t 2 (.slice (some ⟨g,0,none⟩) n cap) n xs) {j:Nat} (hj:j<n*2):(∃ c,w.cell? ⟨g,j,none⟩=some c)/\w.frozen? ⟨g,j,none⟩=false:=by
 refine ⟨?_,World.ownsRow.frozenAt h j⟩
 rw [World.ownsRow.cellAt h j hj]
 exact ⟨xs[j]'(by rw [h.1];exact hj),List.getElem?_eq_getElem _⟩
theorem XJ {B g:Nat} (hg:w.grownBy w' (some g)) (hB:B<=g) (hs:B<=w.heap.size):Below B w w':=(Below.refl B w).grown hg hs (fun k e=>by cases e;exact hB)
theorem XK {a b c:World} {row:Option Nat} (h:a.grownBy b row) (k:b.grownBy c row):a.grownBy c row:=
 ⟨k.os.trans h.os,k.tape.trans h.tape,k.output.trans h.output,Nat.le_trans h.size k.size,fun i hi hn=>(k.block i (Nat.lt_of_lt_of_le hi h.size) hn).trans (h.block i hi hn)⟩
theorem Um {B g n cap t:Nat} {xs:List Value} (h:w.ownsRow B t 2 (.slice (some ⟨g,0,none⟩) n cap) n xs) (j:Nat) (u u':Value) :
  ((w.setCell ⟨g,j,none⟩ u).setCell ⟨g,j+1,none⟩ u').ownsRow B t 2 (.slice (some ⟨g,0,none⟩) n cap) n ((xs.set j u).set (j+1) u')/\w.grownBy ((w.setCell ⟨g,j,none⟩ u).setCell ⟨g,j+1,none⟩ u') (some g):=by
 have h1:=World.ownsRow.stored h j u
 have h2:=World.ownsRow.stored h1.1 (j+1) u'
 exact ⟨h2.1,XK h1.2 h2.2⟩
theorem Ss {B g n cap t:Nat} {xs:List Value} (h:w.ownsRow B t 2 (.slice (some ⟨g,0,none⟩) n cap) n xs) (hb:Below w.heap.size w w'):w'.ownsRow B t 2 (.slice (some ⟨g,0,none⟩) n cap) n xs:=by
 have hlt:=(World.ownsRow.lt h g rfl).2
 refine ⟨h.1,?_⟩
 rcases h.2 with hz | ⟨g',cap',cur,hh,hb',hg,r⟩
 ·exact .inl hz
 ·simp only [Value.slice.injEq,Option.some.injEq,Addr.mk.injEq,and_true,true_and] at hh
  obtain ⟨rfl,rfl⟩:=hh
  exact .inr ⟨g,cap,cur,rfl,hb',(hb.block g hlt).trans hg,r⟩
theorem Cg (f c:Int):∀ (ps:List Z6) (j:Nat),j<ps.length->((Zs ps).set (j*2) (.int .i64 f)).set (j*2+1) (.int .i64 c)=Zs (ps.set j (f,c))
 | p::ps,0,_=>by simp [Zs]
 | p::ps,j+1,h=>by
  have ih:=Cg f c ps j (by simpa using h)
  unfold Zs at ih ⊢
  rw [List.flatMap_cons,show (j+1)*2=j*2+2 by omega,show j*2+2+1=(j*2+1)+2 by omega]
  simpa using ih
def mps (k:Int) (n:Nat):List Z6:=(List.range n).map fun i:Nat=>(k+2*(i:Int),k+2*(i:Int)+1)
theorem Sr (k:Int) (n:Nat):(mps k n).length=n:=by simp [mps]
theorem Bs (k:Int) (n i:Nat) (h:i<n):Z7 (mps k n) i=(k+2*(i:Int),k+2*(i:Int)+1):=by unfold Z7 mps;simp [List.getD,h]
def mpd (ps:List Z6) (k:Int) (j:Nat):List Z6:=mps k j++ps.drop j
theorem OZ {ps:List Z6} {k:Int} {j:Nat} (h:j<=ps.length):(mpd ps k j).length=ps.length:=by simp [mpd,Sr];omega
theorem Dg {ps:List Z6} {k:Int} {j:Nat} (h:j<ps.length):(mpd ps k j).set j (k+2*(j:Int),k+2*(j:Int)+1)=mpd ps k (j+1):=by
 unfold mpd
 rw [List.set_append_right _ _ (by simp [Sr]),Sr,Nat.sub_self,List.drop_eq_getElem_cons h,List.set_cons_zero]
 simp [mps,List.range_succ]
theorem Cb (ps:List Z6) (k:Int):mpd ps k ps.length=mps k ps.length:=by simp [mpd]
theorem Xh (w:World) (r:Option Nat):w.grownBy w r:=⟨rfl,rfl,rfl,Nat.le_refl _,fun _ _ _=>rfl⟩
theorem RF (f c:Int) (w:World):Calls Tryz.prog 373 #[.agg #[.int .i64 f,.int .i64 c]] w fun e w'=>e= .returned (.bool (Un (f,c)))/\Below w.heap.size w w':=by
 cases h1:inB f 1 1024
 ·go_enter Tryz.func373,Tryz.ntmps373
  go_wp2_with fail
  refine (ZN _ _ _ _).mono ?_
  rintro e w' ⟨rfl,rfl⟩
  go_wp2_with fail
  go_ret
  exact ⟨Z5 (by unfold Un;simp [h1]),(Below.refl _ _).alloc (Nat.le_refl _) _⟩
 ·go_enter Tryz.func373,Tryz.ntmps373
  go_wp2_with fail
  refine (ZN _ _ _ _).mono ?_
  rintro e w' ⟨rfl,rfl⟩
  go_wp2_with fail
  refine (ZN _ _ _ _).mono ?_
  rintro e w' ⟨rfl,rfl⟩
  go_wp2_with fail
  go_ret
  exact ⟨Z5 (by unfold Un;simp [h1]),(Below.refl _ _).alloc (Nat.le_refl _) _⟩
theorem SN (f c f' c':Int) (w:World):Calls Tryz.prog 374 #[.agg #[.int .i64 f,.int .i64 c],.agg #[.int .i64 f',.int .i64 c']] w fun e w'=>e= .returned (.bool (Rv (f,c) (f',c')))/\Below w.heap.size w w':=by
 by_cases h1:f'<f
 ·go_enter Tryz.func374,Tryz.ntmps374
  go_wp2_with fail
  all_goals
   go_ret
   exact ⟨Z5 (by unfold Rv;simp [h1]),((Below.refl _ _).alloc (Nat.le_refl _) _).alloc (by simp) _⟩
 ·go_enter Tryz.func374,Tryz.ntmps374
  go_wp2_with fail
  all_goals
   go_ret
   exact ⟨Z5 (by unfold Rv;simp;omega),((Below.refl _ _).alloc (Nat.le_refl _) _).alloc (by simp) _⟩
theorem Cl {ps:List Z6} {k:Nat} {p:Z6} (hp:Z7 ps k=p) (h:Un p=false):WU ps k=false:=by unfold WU;rw [hp];simp [h]
theorem Cj {ps:List Z6} {p:Z6} (hp:Z7 ps 0=p) (h:Un p=true):WU ps 0=true:=by unfold WU;rw [hp];simp [h]
theorem FF {ps:List Z6} {k:Nat} {p q:Z6} (hp:Z7 ps (k+1)=p) (hq:Z7 ps k=q) (h:Un p=true):WU ps (k+1)=Rv p q:=by unfold WU;simp [hp,hq,h]
theorem JG  {ps:List Z6} (h:IsPaces w v ps) :
  Calls Tryz.prog 363 #[v] w fun e w'=>e= .returned (.bool (TW ps))/\Below w.heap.size w w':=by
 obtain ⟨a,cap,rfl,hc,hm,hr⟩:=h
 have Hr:=Z9 hr
 clear hr
 go_enter Tryz.func363,Tryz.ntmps363
 go_wp2_with fail
 go_loopw [7] (fun i wr=> ∃ k:Nat,k<=ps.length/\i= .int .i64 k/\(∀ j,j<k->WU ps j=true)/\Below w.heap.size w wr) (fun i _=>ps.length-(intOf i).toNat)
 case atStart=>exact ⟨0,Nat.zero_le _,rfl,fun j hj=>by omega,Below.refl _ _⟩
 case round=>
  obtain ⟨k,hk,rfl,hst,hb⟩:=hrel
  have Hst:=Z9 hst
  have Hb:=Z9 hb
  clear hst
  by_cases hlt:k<ps.length
  ·rcases uh Hr with h0 | ⟨b,off,rfl,hbw,hcl⟩
   ·rw [h0] at hlt;simp at hlt
   have hbr:b<wr.heap.size:=Nat.lt_of_lt_of_le hbw hb.size
   have hne:b ≠ wr.heap.size:=Nat.ne_of_lt hbr
   obtain ⟨c0,c1⟩:=hcl k hlt
   rw [<-hb.cell (p:=⟨b,off+k*2,none⟩) hbw] at c0
   rw [<-hb.cell (p:=⟨b,off+k*2+1,none⟩) hbw] at c1
   generalize hp:Z7 ps k=p at c0 c1
   have Hp:=Z9 hp
   clear hp
   obtain ⟨f,c⟩:=p
   simp only at c0 c1
   have d0:(wr.alloc (.cells #[.int .i64 f,.int .i64 c] 139)).cell? ⟨wr.heap.size,0,none⟩=some (.int .i64 f):=by simp
   have d1:(wr.alloc (.cells #[.int .i64 f,.int .i64 c] 139)).cell? ⟨wr.heap.size,1,none⟩=some (.int .i64 c):=by simp
   have k0:=cell_regrown d0
   have k1:=cell_regrown d1
   clear d0 d1
   cases hpb:Un (f,c)
   ·clear hcl
    go_wp2_with fail
    refine wp_region_quiet_below (by kernel_rfl) (by kernel_rfl) ?_
    repeat (go_big_quiet_step (first | exact Calls.regrown_of (RF _ _ _) | exact Calls.regrown_of (SN _ _ _ _ _)))
    refine wpQuiet_nil ?_
    intro _ hw'
    obtain ⟨⟨dq,osq⟩,hw''⟩:=hw'
    subst hw''
    go_wp2_with fail
    go_ret
    exact ⟨Z5 (Uo hlt (Cl (uh Hp) hpb)).symm,(uh Hb).trans (((Below.refl _ _).alloc (uh Hb).size _).trans ((below_regrown _ _ _).mono (by simp;have:=(uh Hb).size;omega)))⟩
   ·by_cases hz:0<k
    ·have hd:decide (0<k)=true:=decide_eq_true hz
     obtain ⟨e0,e1⟩:=hcl (k-1) (by omega)
     rw [<-hb.cell (p:=⟨b,off+(k-1)*2,none⟩) hbw] at e0
     rw [<-hb.cell (p:=⟨b,off+(k-1)*2+1,none⟩) hbw] at e1
     generalize hq:Z7 ps (k-1)=q at e0 e1
     have Hq:=Z9 hq
     clear hq
     obtain ⟨f',c'⟩:=q
     simp only at e0 e1
     have m0:=cell_regrown (w:=wr.alloc (.cells #[.int .i64 f,.int .i64 c] 139)) (a:=⟨b,off+(k-1)*2,none⟩) (v:= .int .i64 f') (by rw [World.cell?_alloc_old _ _ _ hne];exact e0)
     have m1:=cell_regrown (w:=wr.alloc (.cells #[.int .i64 f,.int .i64 c] 139)) (a:=⟨b,off+(k-1)*2+1,none⟩) (v:= .int .i64 c') (by rw [World.cell?_alloc_old _ _ _ hne];exact e1)
     clear hcl e0 e1
     cases hab:Rv (f,c) (f',c')
     all_goals
      go_wp2_with fail
      refine wp_region_quiet_below (by kernel_rfl) (by kernel_rfl) ?_
      repeat (go_big_quiet_step (first | exact Calls.regrown_of (RF _ _ _) | exact Calls.regrown_of (SN _ _ _ _ _)))
      refine wpQuiet_nil ?_
      intro _ hw'
      obtain ⟨⟨dq,osq⟩,hw''⟩:=hw'
      subst hw''
      go_wp2_with fail
     ·go_ret
      exact ⟨Z5 (Uo hlt (by obtain ⟨m,rfl⟩:∃ m,k=m+1:=⟨k-1,by omega⟩;rw [FF (uh Hp) (uh Hq) hpb];exact hab)).symm,(uh Hb).trans (((Below.refl _ _).alloc (uh Hb).size _).trans ((below_regrown _ _ _).mono (by simp;have:=(uh Hb).size;omega)))⟩
     ·have hs:WU ps k=true:=by obtain ⟨m,rfl⟩:∃ m,k=m+1:=⟨k-1,by omega⟩;rw [FF (uh Hp) (uh Hq) hpb];exact hab
      go_roundw
      case rel=>exact ⟨k+1,by omega,by go_num,Y2 (uh Hst) hs,(uh Hb).trans (((Below.refl _ _).alloc (uh Hb).size _).trans ((below_regrown _ _ _).mono (by simp;have:=(uh Hb).size;omega)))⟩
      case measure=>simp [intOf];omega
    ·obtain rfl:k=0:=by omega
     simp only [Nat.zero_mul,Nat.add_zero] at c0 c1
     clear hcl hz
     go_wp2_with fail
     refine wp_region_quiet_below (by kernel_rfl) (by kernel_rfl) ?_
     repeat (go_big_quiet_step (first | exact Calls.regrown_of (RF _ _ _) | exact Calls.regrown_of (SN _ _ _ _ _)))
     refine wpQuiet_nil ?_
     intro _ hw'
     obtain ⟨⟨dq,osq⟩,hw''⟩:=hw'
     subst hw''
     go_wp2_with fail
     go_roundw
     case rel=>exact ⟨1,by omega,by go_num,Y2 (uh Hst) (Cj (uh Hp) hpb),(uh Hb).trans (((Below.refl _ _).alloc (uh Hb).size _).trans ((below_regrown _ _ _).mono (by simp;have:=(uh Hb).size;omega)))⟩
     case measure=>simp [intOf];omega
  ·obtain rfl:k=ps.length:=by omega
   go_wp2_with fail
   go_ret
   exact ⟨Z5 (JF (uh Hst)).symm,hb⟩
theorem Fy {b:Int} {ps:List Z6} (h:inB b 1 4=false):Zm (b,ps)=false:=by unfold Zm;simp [h]
theorem Fz {b:Int} {ps:List Z6} (h:inB ps.length 1 4=false):Zm (b,ps)=false:=by unfold Zm;simp [h]
theorem FA {b:Int} {ps:List Z6} (h:inB b 1 4=true) (h2:inB ps.length 1 4=true):Zm (b,ps)=TW ps:=by unfold Zm;simp [h,h2]
theorem Y9  {ps:List Z6} (b:Int) (h:IsPaces w v ps) :
  Calls Tryz.prog 333 #[.agg #[.int .i64 b,v]] w fun e w'=>e= .returned (.bool (Zm (b,ps)))/\Below w.heap.size w w':=by
 have Hv:=Z9 h
 obtain ⟨a,cap,rfl,hc,hm,hr⟩:=h
 clear hr
 have hl:(ps.length:Int)<=9223372036854775807:=by omega
 cases h1:inB b 1 4
 ·go_enter Tryz.func333,Tryz.ntmps333
  go_wp2_with fail
  refine (ZN _ _ _ _).mono ?_
  rintro e w' ⟨rfl,rfl⟩
  go_wp2_with fail
  go_ret
  exact ⟨Z5 (Fy h1).symm,(Below.refl _ _).alloc (Nat.le_refl _) _⟩
 cases h2:inB ps.length 1 4
 ·go_enter Tryz.func333,Tryz.ntmps333
  go_wp2_with fail
  refine (ZN _ _ _ _).mono ?_
  rintro e w' ⟨rfl,rfl⟩
  go_wp2_with fail
  refine (ZN _ _ _ _).mono ?_
  rintro e w' ⟨rfl,rfl⟩
  go_wp2_with fail
  go_ret
  exact ⟨Z5 (Fz h2).symm,(Below.refl _ _).alloc (Nat.le_refl _) _⟩
 ·have H3:=Z9 (FA h1 h2)
  go_enter Tryz.func333,Tryz.ntmps333
  go_wp2_with fail
  refine (ZN _ _ _ _).mono ?_
  rintro e w' ⟨rfl,rfl⟩
  go_wp2_with fail
  refine (ZN _ _ _ _).mono ?_
  rintro e w' ⟨rfl,rfl⟩
  go_wp2_with fail
  refine (JG ((uh Hv).below ((Below.refl _ _).alloc (Nat.le_refl _) _))).mono ?_
  rintro e w1 ⟨rfl,hb⟩
  go_wp2_with fail
  go_ret
  exact ⟨Z5 (uh H3).symm,((Below.refl _ _).alloc (Nat.le_refl _) _).trans (hb.mono (by simp))⟩
theorem XI {B:Nat} (h:Below B w w') (n:Nat):Below B w (w'.drewN n):=⟨h.os,h.tape,h.output,h.size,h.block⟩
theorem DL {ps:List Z6} {k:Nat} {f c:Int} (hp:Z7 ps k=(f,c)) (h:inB f 1 1024=false):WU ps k=false:=by unfold WU Un;rw [hp];simp [h]
theorem DM {ps:List Z6} {k:Nat} {f c:Int} (hp:Z7 ps k=(f,c)) (h:inB c 1 1024=false):WU ps k=false:=by unfold WU Un;rw [hp];simp [h]
theorem Ck {ps:List Z6} {k:Nat} {f c f' c':Int} (hp:Z7 ps k=(f,c)) (hz:0<k) (hq:Z7 ps (k-1)=(f',c')) (h1:inB f 1 1024=true) (h2:inB c 1 1024=true):WU ps k=(decide (f'<f) && decide (c'<c)):=by
 unfold WU Un Rv;rw [hp,hq];simp [h1,h2];omega
theorem DN {ps:List Z6} {f c:Int} (hp:Z7 ps 0=(f,c)) (h1:inB f 1 1024=true) (h2:inB c 1 1024=true):WU ps 0=true:=by unfold WU Un;rw [hp];simp [h1,h2]
theorem Y3  {ps:List Z6} (rb:Int) (h:IsPaces w v ps) :
  Calls Tryz.prog 239 #[.agg #[.int .i64 rb,v]] w fun e w'=>e= .returned (.bool (Zm (rb,ps)))/\Below w.heap.size w w':=by
 obtain ⟨a,cap,rfl,hc,hm,hr⟩:=h
 have Hr:=Z9 hr
 clear hr
 have hl:(ps.length:Int)<=9223372036854775807:=by omega
 cases h1:inB rb 1 4
 ·go_enter Tryz.func239,Tryz.ntmps239
  go_wp2_with fail
  refine (ZX _ _ _ _).mono ?_
  rintro e w' ⟨rfl,rfl⟩
  go_wp2_with fail
  go_ret
  exact ⟨Z5 (Fy h1).symm,(Below.refl _ _).alloc (Nat.le_refl _) _⟩
 cases h2:inB ps.length 1 4
 ·go_enter Tryz.func239,Tryz.ntmps239
  go_wp2_with fail
  refine (ZX _ _ _ _).mono ?_
  rintro e w' ⟨rfl,rfl⟩
  go_wp2_with fail
  refine (ZX _ _ _ _).mono ?_
  rintro e w' ⟨rfl,rfl⟩
  go_wp2_with fail
  go_ret
  exact ⟨Z5 (Fz h2).symm,(Below.refl _ _).alloc (Nat.le_refl _) _⟩
 have H3:=Z9 (FA h1 h2)
 go_enter Tryz.func239,Tryz.ntmps239
 go_wp2_with fail
 refine (ZX _ _ _ _).mono ?_
 rintro e w' ⟨rfl,rfl⟩
 go_wp2_with fail
 refine (ZX _ _ _ _).mono ?_
 rintro e w' ⟨rfl,rfl⟩
 go_wp2_with fail
 clear h1 h2
 go_loopw [3] (fun i wr=> ∃ k:Nat,k<=ps.length/\i= .int .i64 k/\(∀ j,j<k->WU ps j=true)/\Below (w.heap.size+1) (w.alloc (.cells #[.int .i64 rb,.slice a ps.length cap] 137)) wr) (fun i _=>ps.length-(intOf i).toNat)
 case atStart=>exact ⟨0,Nat.zero_le _,rfl,fun j hj=>by omega,Below.refl _ _⟩
 case round=>
  obtain ⟨k,hk,rfl,hst,hb⟩:=hrel
  have Hst:=Z9 hst
  have Hb:=Z9 hb
  clear hst
  have hsz:w.heap.size+1<=wr.heap.size:=by have:=hb.size;simpa using this
  have hbox:wr.cell? ⟨w.heap.size,1,none⟩=some (.slice a ps.length cap):=by rw [hb.cell (p:=⟨w.heap.size,1,none⟩) (by simp)];simp
  have hne0:w.heap.size ≠ wr.heap.size:=by omega
  by_cases hlt:k<ps.length
  ·rcases uh Hr with h0 | ⟨b,off,rfl,hbw,hcl⟩
   ·rw [h0] at hlt;simp at hlt
   have hbB:Below w.heap.size w wr:=((Below.refl _ _).alloc (Nat.le_refl _) _).trans (hb.mono (by omega))
   have hne:b ≠ wr.heap.size:=by omega
   have hne':b ≠ w.heap.size:=by omega
   obtain ⟨c0,c1⟩:=hcl k hlt
   rw [<-hbB.cell (p:=⟨b,off+k*2,none⟩) hbw] at c0
   rw [<-hbB.cell (p:=⟨b,off+k*2+1,none⟩) hbw] at c1
   generalize hp:Z7 ps k=p at c0 c1
   have Hp:=Z9 hp
   obtain ⟨f,c⟩:=p
   simp only at c0 c1
   clear hp hb
   cases h1:inB f 1 1024
   ·clear hcl
    go_wp2_with fail
    go_quiet (exact Calls.quiet_of_same (ZX _ _ _ _))
    go_wp2_with fail
    go_ret
    exact ⟨Z5 (by rw [uh H3];exact (Uo hlt (DL (uh Hp) h1)).symm),((Below.refl _ _).alloc (Nat.le_refl _) _).trans ((XI ((uh Hb).alloc hsz _) _).mono (by omega))⟩
   cases h2:inB c 1 1024
   ·clear hcl
    go_wp2_with fail
    go_quiet (exact Calls.quiet_of_same (ZX _ _ _ _))
    go_wp2_with fail
    go_ret
    exact ⟨Z5 (by rw [uh H3];exact (Uo hlt (DM (uh Hp) h2)).symm),((Below.refl _ _).alloc (Nat.le_refl _) _).trans ((XI ((uh Hb).alloc hsz _) _).mono (by omega))⟩
   by_cases hz:0<k
   ·have hd:decide (0<k)=true:=decide_eq_true hz
    obtain ⟨e0,e1⟩:=hcl (k-1) (by omega)
    rw [<-hbB.cell (p:=⟨b,off+(k-1)*2,none⟩) hbw] at e0
    rw [<-hbB.cell (p:=⟨b,off+(k-1)*2+1,none⟩) hbw] at e1
    generalize hq:Z7 ps (k-1)=q at e0 e1
    have Hq:=Z9 hq
    obtain ⟨f',c'⟩:=q
    simp only at e0 e1
    have q0:(wr.alloc (.cells #[.int .i64 f,.int .i64 c] 139)).cell? ⟨w.heap.size,1,none⟩=some (.slice (some ⟨b,off,none⟩) ps.length cap):=by rw [World.cell?_alloc_old _ _ _ hne0];exact hbox
    have q1:(wr.alloc (.cells #[.int .i64 f,.int .i64 c] 139)).cell? ⟨b,off+(k-1)*2,none⟩=some (.int .i64 f'):=by rw [World.cell?_alloc_old _ _ _ hne];exact e0
    have q2:(wr.alloc (.cells #[.int .i64 f,.int .i64 c] 139)).cell? ⟨b,off+(k-1)*2+1,none⟩=some (.int .i64 c'):=by rw [World.cell?_alloc_old _ _ _ hne];exact e1
    clear hcl hq e0 e1
    have Hs:=Z9 (Ck (uh Hp) hz (uh Hq) h1 h2)
    by_cases g1:f<=f'
    ·have g1':decide (f<=f')=true:=decide_eq_true g1
     go_wp2_with fail
     go_quiet (exact Calls.quiet_of_same (ZX _ _ _ _))
     go_wp2_with fail
     go_ret
     exact ⟨Z5 (by rw [uh H3];exact (Uo hlt (by rw [uh Hs];simp;omega)).symm),((Below.refl _ _).alloc (Nat.le_refl _) _).trans ((XI ((uh Hb).alloc hsz _) _).mono (by omega))⟩
    have g1':decide (f<=f')=false:=decide_eq_false g1
    by_cases g2:c<=c'
    ·have g2':decide (c<=c')=true:=decide_eq_true g2
     go_wp2_with fail
     go_quiet (exact Calls.quiet_of_same (ZX _ _ _ _))
     go_wp2_with fail
     go_ret
     exact ⟨Z5 (by rw [uh H3];exact (Uo hlt (by rw [uh Hs];simp;omega)).symm),((Below.refl _ _).alloc (Nat.le_refl _) _).trans ((XI ((uh Hb).alloc hsz _) _).mono (by omega))⟩
    ·have g2':decide (c<=c')=false:=decide_eq_false g2
     go_wp2_with fail
     go_quiet (exact Calls.quiet_of_same (ZX _ _ _ _))
     go_wp2_with fail
     go_roundw
     case rel=>exact ⟨k+1,by omega,by go_num,Y2 (uh Hst) (by rw [uh Hs];simp;omega),XI ((uh Hb).alloc hsz _) _⟩
     case measure=>simp [intOf];omega
   ·obtain rfl:k=0:=by omega
    simp only [Nat.zero_mul,Nat.add_zero] at c0 c1
    clear hcl hz
    go_wp2_with fail
    go_quiet (exact Calls.quiet_of_same (ZX _ _ _ _))
    go_wp2_with fail
    go_roundw
    case rel=>exact ⟨1,by omega,by go_num,Y2 (uh Hst) (DN (uh Hp) h1 h2),XI ((uh Hb).alloc hsz _) _⟩
    case measure=>simp [intOf];omega
  ·obtain rfl:k=ps.length:=by omega
   clear hb
   go_wp2_with fail
   go_ret
   exact ⟨Z5 (by rw [uh H3];exact (JF (uh Hst)).symm),((Below.refl _ _).alloc (Nat.le_refl _) _).trans ((uh Hb).mono (by omega))⟩
end Go.Proofs.YtjhijildaceadaaGreatDoor
