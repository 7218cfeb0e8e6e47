/- Part 4 of what the proof rests on. No condition but those that a theorem names. -/
import Derived.Test.YtffcgajndmhpkaaGreatDoorXw03
namespace Go.Proofs.YtffcgajndmhpkaaGreatDoor
open Go.ChangeShapes Go.WideShapes Go.ChangeAt Go.RowKit Go.Sort
set_option linter.unusedVariables false
variable {m : Z4}
def Zf (x:Z3):Bool:=
 inB x.1 1 3 && (inB x.2.1 0 7 && (inB x.2.2.1 (-5) 5 && (inB x.2.2.2.1 1 255 && (inB x.2.2.2.2.1 (-1) 5 && (YG x.2.2.2.2.2.1 x.2.2.2.2.2.2.1 && (inB x.2.2.2.2.2.2.2.1 (-1000000000000) 1000000000000 &&
  (inB x.2.2.2.2.2.2.2.2.1 0 (Zx x.2.2.1-1) && (inB x.2.2.2.2.2.2.2.2.2.1 0 1024 && inB x.2.2.2.2.2.2.2.2.2.2 0 100000000000))))))))
def V8:Z3:=(0,0,0,0,0,0,0,0,0,0,0)
def Uw (x y:Z3):Bool:=x.1 ==y.1 && (x.2.1 ==y.2.1 && (x.2.2.1 ==y.2.2.1 && (x.2.2.2.1 ==y.2.2.2.1 && (x.2.2.2.2.1 ==y.2.2.2.2.1 && (x.2.2.2.2.2.1 ==y.2.2.2.2.2.1 && (x.2.2.2.2.2.2.1 ==y.2.2.2.2.2.2.1 && (x.2.2.2.2.2.2.2.1 ==y.2.2.2.2.2.2.2.1 && (x.2.2.2.2.2.2.2.2.1 ==y.2.2.2.2.2.2.2.2.1 && (x.2.2.2.2.2.2.2.2.2.1 ==y.2.2.2.2.2.2.2.2.2.1 && (x.2.2.2.2.2.2.2.2.2.2 ==y.2.2.2.2.2.2.2.2.2.2))))))))))
theorem OL (x:Z3):Uw x x=true:=by unfold Uw;simp
theorem DT {x y:Z3} (h:Uw x y=true):x=y:=by
 obtain ⟨x0,x1,x2,x3,x4,x5,x6,x7,x8,x9,x10⟩:=x
 obtain ⟨y0,y1,y2,y3,y4,y5,y6,y7,y8,y9,y10⟩:=y
 unfold Uw at h
 simp only [Bool.and_eq_true,beq_iff_eq] at h
 obtain ⟨rfl,rfl,rfl,rfl,rfl,rfl,rfl,rfl,rfl,rfl,rfl⟩:=h
 rfl
def VX (x:Z3):Bool:=Uw x V8
def ZE (x:Z3):Bool:=VX x || Zf x
theorem UE (r:Int):0<=Zx r/\Zx r<=3125:=by
 cases h:inB r (-5) 5
 ·rw [WE h];omega
 ·rcases DK h with rfl | rfl | rfl | rfl | rfl | rfl | rfl | rfl | rfl | rfl | rfl<;>decide
theorem Wr {r:Int} (h:inB r (-5) 5=true):335<=Zx r:=by
 rcases DK h with rfl | rfl | rfl | rfl | rfl | rfl | rfl | rfl | rfl | rfl | rfl<;>decide
theorem KT (r:Int):(Zx r !=0)=inB r (-5) 5:=by
 cases h:inB r (-5) 5
 ·rw [WE h];rfl
 ·have:=Wr h
  simp;omega
theorem Zi {st be rk my gu lo hi hd ca ut wk:Int} (h:Zf (st,be,rk,my,gu,lo,hi,hd,ca,ut,wk)=true):(1<=st/\st<=3)/\(0<=be/\be<=7)/\inB rk (-5) 5=true/\(1<=my/\my<=255)/\(-1<=gu/\gu<=5)/\YG lo hi=true/\(-1000000000000<=hd/\hd<=1000000000000)/\(0<=ca/\ca<=Zx rk-1)/\(0<=ut/\ut<=1024)/\(0<=wk/\wk<=100000000000):=by
 unfold Zf at h
 simp only [Bool.and_eq_true] at h
 obtain ⟨h0,h1,h2,h3,h4,h5,h6,h7,h8,h9⟩:=h
 exact ⟨ZU h0,ZU h1,h2,ZU h3,ZU h4,h5,ZU h6,ZU h7,ZU h8,ZU h9⟩
theorem VY {x:Z3} (h:VX x=true):x=V8:=DT h
theorem GF:VX V8=true:=OL _
theorem SL {x:Z3} (h:x.1 ≠ 0):VX x=false:=by
 cases hg:VX x
 ·rfl
 ·exact absurd (show x.1=0 by rw [VY hg];rfl) h
theorem OD {x:Z3} (h:x.1=0):Zf x=false:=by
 unfold Zf
 rw [h]
 rfl
def OE (x:Z3) (work:Int):Z3:=
 (x.1,x.2.1,x.2.2.1,x.2.2.2.1,x.2.2.2.2.1,x.2.2.2.2.2.1,x.2.2.2.2.2.2.1,x.2.2.2.2.2.2.2.1+TZ work (Zx x.2.2.1) x.2.2.2.2.2.2.2.2.1,TY work (Zx x.2.2.1) x.2.2.2.2.2.2.2.2.1,x.2.2.2.2.2.2.2.2.2.1,x.2.2.2.2.2.2.2.2.2.2+work)
def OG (x:Z3) (rank:Int):Z3:=
 (x.1,x.2.1,rank,x.2.2.2.1,x.2.2.2.2.1,x.2.2.2.2.2.1,x.2.2.2.2.2.2.1,x.2.2.2.2.2.2.2.1,x.2.2.2.2.2.2.2.2.1%Zx rank,x.2.2.2.2.2.2.2.2.2.1,x.2.2.2.2.2.2.2.2.2.2)
def XE (x:Z3) (work:Int):Z3 × Bool:=
 if Zf x then (if inB work 0 100000 && Zf (OE x work) then (OE x work,true) else (x,false)) else (if VX x then x else V8,false)
def Yn (x:Z3) (rank:Int):Z3 × Bool:=
 if Zf x then (if inB rank (-5) 5 then (OG x rank,true) else (x,false)) else (if VX x then x else V8,false)
theorem Rr {x:Z3} {rank:Int} (h:Zf x=true) (hr:inB rank (-5) 5=true):Zf (OG x rank)=true:=by
 obtain ⟨st,be,rk,my,gu,lo,hi,hd,ca,ut,wk⟩:=x
 have hp:=Wr hr
 have hc:inB (ca%Zx rank) 0 (Zx rank-1)=true:=Zv (Int.emod_nonneg _ (by omega)) (by have:=Int.emod_lt_of_pos ca (show 0<Zx rank by omega);omega)
 unfold Zf at h ⊢
 simp only [Bool.and_eq_true] at h
 obtain ⟨h0,h1,h2,h3,h4,h5,h6,h7,h8,h9⟩:=h
 simp only [OG,h0,h1,h3,h4,h5,h6,h8,h9,hr,hc,Bool.and_self]
theorem DY {work W ca:Int} (w0:0<=work) (w1:work<=100000) (r0:335<=W) (r1:W<=3125) (c0:0<=ca) (c1:ca<=W-1) :
  Xg work W ca=true/\0<=TZ work W ca/\TZ work W ca<=400000/\0<=TY work W ca/\TY work W ca<=W-1/\TZ work W ca*W+TY work W ca=1024*work+ca:=by
 have hk:Xg work W ca=true:=Ib w0 (by omega) (by omega) (by omega) c0 (by omega)
 obtain ⟨e1,e2⟩:=MI hk
 rw [e1,e2]
 have hd:=Int.emod_add_mul_ediv (1024*work+ca) W
 have m0:=Int.emod_nonneg (1024*work+ca) (show W ≠ 0 by omega)
 have m1:=Int.emod_lt_of_pos (1024*work+ca) (show 0<W by omega)
 have q0:0<=(1024*work+ca) / W:=Int.ediv_nonneg (by omega) (by omega)
 have q1:(1024*work+ca) / W<=400000:=by
  refine Int.le_of_lt_add_one (Int.ediv_lt_of_lt_mul (by omega) ?_)
  have:(335:Int)*400001<=W*400001:=Int.mul_le_mul_of_nonneg_right r0 (by omega)
  have e:(400000+1)*W=W*400001:=by rw [Int.mul_comm];rfl
  rw [e]
  omega
 refine ⟨hk,q0,q1,m0,by omega,?_⟩
 rw [Int.mul_comm]
 omega
open Go.ChangeShapes Go.WideShapes Go.ChangeAt Go.RowKit
theorem UJ (s:Int) (w:World):Calls Tryz.prog 220 #[.int .i64 s] w fun e w'=>e= .returned (.bool (inB s 0 255))/\w'=w:=by
 by_cases h1:0<=s
 ·by_cases h2:s<=255
  all_goals
   go_enter Tryz.func220,Tryz.ntmps220
   go_wp2
   go_ret
   exact ⟨Z5 (by first | exact (Zv h1 h2).symm | exact (U7 (by omega)).symm),rfl⟩
 ·go_enter Tryz.func220,Tryz.ntmps220
  go_wp2
  go_ret
  exact ⟨Z5 (U7 (by omega)).symm,rfl⟩
theorem V0 (i:Int) (w:World):Calls Tryz.prog 221 #[.int .i64 i] w fun e w'=>e= .returned (.bool (inB i 0 7))/\w'=w:=by
 by_cases h1:0<=i
 ·by_cases h2:i<8
  all_goals
   go_enter Tryz.func221,Tryz.ntmps221
   go_wp2
   go_ret
   exact ⟨Z5 (by first | exact (Zv h1 (by omega)).symm | exact (U7 (by omega)).symm),rfl⟩
 ·go_enter Tryz.func221,Tryz.ntmps221
  go_wp2
  go_ret
  exact ⟨Z5 (U7 (by omega)).symm,rfl⟩
def We (s i:Int):Bool:=decide (s / 2 ^ i.toNat%2=1)
def UZ (s i:Int):Bool:=inB s 0 255 && inB i 0 7 && We s i
theorem Dg (n:Int):bits .and .i64 n 1=n%2:=by
 have h1:(BitVec.ofInt 64 1).toNat=2 ^ 1-1:=by decide
 have key:(BitVec.ofInt 64 n &&& BitVec.ofInt 64 1).toNat=(n%((2 ^ 64:Nat):Int)).toNat%2 ^ 1:=by
  rw [BitVec.toNat_and,BitVec.toNat_ofInt,h1,Nat.and_two_pow_sub_one_eq_mod]
 show IntKind.i64.wrap ((BitVec.ofInt 64 n &&& BitVec.ofInt 64 1).toNat:Nat)=n%2
 rw [key,IntKind.wrap_i64]
 omega
theorem CV (s i:Int):(bits .and .i64 (s / 2 ^ i.toNat) 1 ==1)=We s i:=by rw [Dg];unfold We;rfl
theorem HJ {s i:Int} (h:inB s 0 255=false\/inB i 0 7=false):UZ s i=false:=by unfold UZ;rcases h with h | h<;>simp [h]
theorem Du {s i:Int} (hs:inB s 0 255=true) (hi:inB i 0 7=true):UZ s i=We s i:=by unfold UZ;simp [hs,hi]
theorem Mr (s i:Int) (w:World) (hs:0<=s) (hs2:s<=255) (hi:0<=i) (hi2:i<=7):Calls Tryz.prog 106 #[.int .i64 s,.int .i64 i] w fun e w'=>e= .returned (.bool (We s i))/\w'=w:=by
 go_enter Tryz.func106,Tryz.ntmps106
 go_wp2
 go_ret
 exact ⟨Z5 (CV s i),rfl⟩
theorem UI (s i:Int) (w:World):Calls Tryz.prog 174 #[.int .i64 s,.int .i64 i] w fun e w'=>e= .returned (.bool (UZ s i))/\w'=w:=by
 by_cases hb:inB s 0 255=true
 ·obtain ⟨hs,hs2⟩:=ZU hb
  by_cases hc:inB i 0 7=true
  ·obtain ⟨hi,hi2⟩:=ZU hc
   go_enter Tryz.func174,Tryz.ntmps174
   go_wp2_with (first | (go_at_call 220;refine (UJ _ _).mono ?_;rintro e w' ⟨rfl,rfl⟩) | (go_at_call 221;refine (V0 _ _).mono ?_;rintro e w' ⟨rfl,rfl⟩))
   go_ret
   exact ⟨Z5 ((CV s i).trans (Du hb hc).symm),rfl⟩
  ·have hc':inB i 0 7=false:=by simpa using hc
   go_enter Tryz.func174,Tryz.ntmps174
   go_wp2_with (first | (go_at_call 220;refine (UJ _ _).mono ?_;rintro e w' ⟨rfl,rfl⟩) | (go_at_call 221;refine (V0 _ _).mono ?_;rintro e w' ⟨rfl,rfl⟩))
   go_ret
   exact ⟨Z5 (HJ (.inr hc')).symm,rfl⟩
 ·have hb':inB s 0 255=false:=by simpa using hb
  go_enter Tryz.func174,Tryz.ntmps174
  go_wp2_with (first | (go_at_call 220;refine (UJ _ _).mono ?_;rintro e w' ⟨rfl,rfl⟩) | (go_at_call 221;refine (V0 _ _).mono ?_;rintro e w' ⟨rfl,rfl⟩))
  go_ret
  exact ⟨Z5 (HJ (.inl hb')).symm,rfl⟩
def ZR (s:Z3):Bool:=s.1 ==2 || s.1 ==3
def Xw (had XK:Int):Bool:=inB had (-1000000000000) 1000000000000 && (inB XK (-1000000000000) 1000000000000 && inB (had-XK) (-20000) 63000)
def Ws (d:Yq):Bool:=inB d.2.2 (-900000000000) 900000000000
def WS (m:Z4) (j:Nat):Bool:=inB (Z8 m.paces j) 0 (((Z0 m.rooms j).2.length:Int)-1)
def Yv (m:Z4) (s:Z3):Bool:=ZE s && (s.1 ==0 || (decide (s.2.2.2.2.1<m.guilds.length) && decide (s.2.1<m.desks.length)))
def Yj (m:Z4) (s:Z3):Bool:= !ZR s || ((Z8 m.desks s.2.1.toNat).1 && (We s.2.2.2.1 s.2.1 && Xw s.2.2.2.2.2.2.2.1 (Z8 m.desks s.2.1.toNat).2.2))
def Y2 (m:Z4):Bool:=Zh m.rooms && (Zw m.guilds && (decide (m.smiths.length<=12) && (decide ((m.desks.length:Int)=Z1 m.rooms) && (decide (m.paces.length=m.rooms.length) && inB m.now 0 1000000))))
def Wd (m:Z4) (k:Nat):Bool:=(List.range k).all fun j=>Ws (Z8 m.desks j)
def UO (m:Z4) (k:Nat):Bool:=(List.range k).any fun j=>(Z8 m.desks j).1
def WC (m:Z4) (k:Nat):Bool:=(List.range k).all fun j=>WS m j
def WD (m:Z4) (k:Nat):Bool:=(List.range k).all fun j=>Yv m (Z8 m.smiths j) && Yj m (Z8 m.smiths j)
def Y0 (m:Z4):Bool:=Y2 m && (Wd m m.desks.length && (WC m m.paces.length && (WD m m.smiths.length && UO m m.desks.length)))
theorem UF {p:Nat->Bool} (k:Nat):(List.range (k+1)).all p=((List.range k).all p && p k):=by rw [List.range_succ,List.all_append];simp
theorem CP {p:Nat->Bool} (k:Nat):(List.range (k+1)).any p=((List.range k).any p || p k):=by rw [List.range_succ,List.any_append];simp
theorem RL {p:Nat->Bool} {k n:Nat} (hk:k<n) (h:p k=false):(List.range n).all p=false:=by
 rw [List.all_eq_false]
 exact ⟨k,List.mem_range.2 hk,by simp [h]⟩
theorem Lg {p:Nat->Bool} {k n:Nat} (h:(List.range n).all p=true) (hk:k<n):p k=true:=List.all_eq_true.1 h k (List.mem_range.2 hk)
theorem WK (h:Y2 m=false):Y0 m=false:=by unfold Y0;rw [h];rfl
theorem JV {k:Nat} (hk:k<m.desks.length) (h:Ws (Z8 m.desks k)=false):Y0 m=false:=by
 unfold Y0 Wd
 rw [RL hk h];simp
theorem JW {k:Nat} (hk:k<m.paces.length) (h:WS m k=false):Y0 m=false:=by
 unfold Y0 WC
 rw [RL (p:=fun j=>WS m j) hk h];simp
theorem LM {k:Nat} (hk:k<m.smiths.length) (h:(Yv m (Z8 m.smiths k) && Yj m (Z8 m.smiths k))=false):Y0 m=false:=by
 unfold Y0 WD
 rw [RL (p:=fun j=>Yv m (Z8 m.smiths j) && Yj m (Z8 m.smiths j)) hk h];simp
theorem G9 (h1:Y2 m=true) (h2:Wd m m.desks.length=true) (h3:WC m m.paces.length=true) (h4:WD m m.smiths.length=true):Y0 m=UO m m.desks.length:=by
 unfold Y0;rw [h1,h2,h3,h4];rfl
theorem JH {s:Z3} (h:Yv m s=true) (hp:ZR s=true):0<=s.2.1/\s.2.1<m.desks.length/\s.2.1<=7/\1<=s.2.2.2.1/\s.2.2.2.1<=255/\s.2.2.2.2.1<m.guilds.length:=by
 obtain ⟨st,be,rk,my,gu,lo,hi,hd,ca,ut,wk⟩:=s
 have hst:st ≠ 0:=by
  intro e
  subst e
  cases hp
 unfold Yv at h
 simp only [Bool.and_eq_true,Bool.or_eq_true,decide_eq_true_eq] at h
 obtain ⟨h1,h2⟩:=h
 rcases h2 with h2 | ⟨h2,h3⟩
 ·exact absurd (by simpa using h2) hst
 ·have hs:ZE (st,be,rk,my,gu,lo,hi,hd,ca,ut,wk)=Zf (st,be,rk,my,gu,lo,hi,hd,ca,ut,wk):=by unfold ZE;rw [SL hst,Bool.false_or]
  rw [hs] at h1
  obtain ⟨_,⟨b0,b1⟩,_,⟨m0,m1⟩,_⟩:=Zi h1
  exact ⟨b0,h3,b1,m0,m1,h2⟩
def Yc (ss:List Z3) (b:Int):Nat->Option (Int × Bool)
 | 0=>some (-1,false)
 | k+1=>match Yc ss b k with
  | none=>none
  | some (wk,wt)=>if (Z8 ss k).2.1=b/\ZR (Z8 ss k)=true then (if (Z8 ss k).1=2 then some (wk,true) else if 0<=wk then none else some ((k:Int),wt)) else some (wk,wt)
def YC (m:Z4) (b:Nat):Bool:=match Yc m.smiths b m.smiths.length with
 | none=>false
 | some (wk,wt)=>(Z8 m.desks b).2.1 ==wk && !(wt && decide (wk<0))
def ZP (m:Z4):Bool:=Y0 m && (List.range m.desks.length).all (YC m)
def ltB (a b:Z6):Bool:=decide (a.1<b.1\/(a.1=b.1/\a.2<b.2))
theorem Dr {a b:Z6} : ltB a b=true ↔ (a.1<b.1\/(a.1=b.1/\a.2<b.2)):=by unfold ltB;exact decide_eq_true_iff
theorem Mt {a b:Z6} : ltB a b=false ↔ ¬ (a.1<b.1\/(a.1=b.1/\a.2<b.2)):=by unfold ltB;exact decide_eq_false_iff_not
theorem Rk (a:Z6):ltB a a=false:=by rw [Mt];omega
theorem Sv {a b:Z6} (h:ltB a b=true):ltB b a=false:=by rw [Dr] at h;rw [Mt];omega
theorem TP {a b c:Z6} (h:ltB b a=false) (k:ltB c b=false):ltB c a=false:=by rw [Mt] at *;omega
theorem BE {a b c:Z6} (h:ltB a b=true) (k:ltB b c=true):ltB a c=true:=by rw [Dr] at *;omega
theorem BD {a b:Z6} (h:ltB b a=false) (k:ltB a b=false):a=b:=by
  rw [Mt] at *;obtain ⟨a1,a2⟩:=a;obtain ⟨b1,b2⟩:=b;simp only at h k;rw [show a1=b1 by omega,show a2=b2 by omega]
def swp (ps:List Z6) (i j:Nat):List Z6:=(ps.set i (Z7 ps j)).set j (Z7 ps i)
theorem CM (ps:List Z6) (i j:Nat):(swp ps i j).length=ps.length:=by simp [swp]
theorem Oz {ps:List Z6} {i:Nat} {x:Z6} (h:i<ps.length) (k:Nat):Z7 (ps.set i x) k=if k=i then x else Z7 ps k:=by
  unfold Z7
  by_cases e:k=i
  · subst e;simp [List.getD,h]
  · rw [if_neg e];simp [List.getD,Ne.symm e]
theorem Tj {ps:List Z6} {i j:Nat} (hi:i<ps.length) (hj:j<ps.length) (k:Nat):Z7 (swp ps i j) k=if k=j then Z7 ps i else if k=i then Z7 ps j else Z7 ps k:=by
  unfold swp
  rw [Oz (by simpa using hj),Oz hi]
theorem Tk {ps:List Z6} {i j:Nat} (hi:i<ps.length) (hj:j<ps.length):(swp ps i j).Perm ps:=by
  have:=List.set_set_perm hi hj
  unfold swp Z7
  simpa [List.getD,hi,hj] using this
def HeapTo (ps:List Z6) (n:Nat):Prop:= ∀ k,0<k->k<n->ltB (Z7 ps k) (Z7 ps ((k-1) / 2))=false
def UpTo (ps:List Z6) (n j:Nat):Prop:=
  (∀ k,0<k->k<n->k ≠ j->ltB (Z7 ps k) (Z7 ps ((k-1) / 2))=false)/\
  (∀ k,0<k->k<n->(k-1) / 2=j->0<j->ltB (Z7 ps k) (Z7 ps ((j-1) / 2))=false)
def DnTo (ps:List Z6) (n i0 i:Nat):Prop:=
  (∀ k,0<k->k<n->(k-1) / 2 ≠ i->(k ≠ i0\/i ≠ i0)->ltB (Z7 ps k) (Z7 ps ((k-1) / 2))=false)/\
  (∀ k,0<k->k<n->(k-1) / 2=i->0<i->ltB (Z7 ps k) (Z7 ps ((i-1) / 2))=false)
theorem UpTo.done {ps:List Z6} {n j:Nat} (h:UpTo ps n j) (hd:j=0\/ltB (Z7 ps j) (Z7 ps ((j-1) / 2))=false):HeapTo ps n:=fun k h0 hn=>by
  by_cases e:k=j
  · subst e
    rcases hd with hd | hd
    · omega
    · exact hd
  · exact h.1 k h0 hn e
theorem UpTo.step {ps:List Z6} {n j:Nat} (h:UpTo ps n j) (hj0:0<j) (hj:j<n) (hn:n<=ps.length) (hl:ltB (Z7 ps j) (Z7 ps ((j-1) / 2))=true):UpTo (swp ps ((j-1) / 2) j) n ((j-1) / 2):=by
  have hi:(j-1) / 2<j:=by omega
  have at':=fun k=>Tj (ps:=ps) (i:=(j-1) / 2) (j:=j) (by omega) (by omega) k
  generalize hi':(j-1) / 2=i at *
  have hp:ltB (Z7 ps i) (Z7 ps j)=false:=Sv hl
  refine ⟨fun k k0 kn kne=> ?_,fun k k0 kn kp i0=> ?_⟩
  · rw [at' k,at' ((k-1) / 2)]
    by_cases e1:k=j
    · subst e1
      rw [if_pos rfl,hi',if_neg (by omega),if_pos rfl]
      exact hp
    · rw [if_neg e1,if_neg kne]
      by_cases e2:(k-1) / 2=j
      · rw [if_pos e2]
        have:=h.2 k k0 kn e2 hj0
        rwa [hi'] at this
      · rw [if_neg e2]
        by_cases e3:(k-1) / 2=i
        · rw [if_pos e3]
          have:=h.1 k k0 kn e1
          rw [e3] at this
          exact TP hp this
        · rw [if_neg e3]
          exact h.1 k k0 kn e1
  · rw [at' k,at' ((i-1) / 2),if_neg (by omega:(i-1) / 2 ≠ j),if_neg (by omega:(i-1) / 2 ≠ i)]
    by_cases e1:k=j
    · rw [if_pos e1]
      exact h.1 i i0 (by omega) (by omega)
    · rw [if_neg e1,if_neg (by omega)]
      have h1:=h.1 k k0 kn e1
      rw [kp] at h1
      exact TP (h.1 i i0 (by omega) (by omega)) h1
theorem DnTo.still {ps:List Z6} {n i:Nat} (h:DnTo ps n i i) (hd:∀ k,0<k->k<n->(k-1) / 2=i->ltB (Z7 ps k) (Z7 ps i)=false):UpTo ps n i:=
  ⟨fun k k0 kn kne=>by
    by_cases e:(k-1) / 2=i
    · rw [e];exact hd k k0 kn e
    · exact h.1 k k0 kn e (.inl kne),h.2⟩
theorem DnTo.moved {ps:List Z6} {n i0 i:Nat} (h:DnTo ps n i0 i) (hm:i ≠ i0) (hd:∀ k,0<k->k<n->(k-1) / 2=i->ltB (Z7 ps k) (Z7 ps i)=false):HeapTo ps n:=fun k k0 kn=>by
  by_cases e:(k-1) / 2=i
  · rw [e];exact hd k k0 kn e
  · exact h.1 k k0 kn e (.inr hm)
theorem DnTo.step {ps : List Z6} {n i0 i j : Nat} (h : DnTo ps n i0 i) (hi0 : i0 ≤ i) (hj0 : 0 < j) (hji : (j - 1) / 2 = i) (hj : j < n) (hn : n ≤ ps.length) (hl : ltB (Z7 ps j) (Z7 ps i) = true)
    (hm : ∀ k, 0 < k → k < n → (k - 1) / 2 = i → ltB (Z7 ps k) (Z7 ps j) = false) : DnTo (swp ps i j) n i0 j := by
  have at' := fun k => Tj (ps := ps) (i := i) (j := j) (by omega) (by omega) k
  have hp : ltB (Z7 ps i) (Z7 ps j) = false := Sv hl
  refine ⟨fun k k0 kn kne _ => ?_, fun k k0 kn kp _ => ?_⟩
  · rw [at' k, at' ((k - 1) / 2), if_neg kne]
    by_cases e1 : k = j
    · subst e1
      rw [if_pos rfl, if_pos hji]
      exact hp
    · rw [if_neg e1]
      by_cases e2 : k = i
      · subst e2
        rw [if_pos rfl, if_neg (by omega)]
        exact h.2 j hj0 hj hji k0
      · rw [if_neg e2]
        by_cases e3 : (k - 1) / 2 = i
        · rw [if_pos e3]
          exact hm k k0 kn e3
        · rw [if_neg e3]
          exact h.1 k k0 kn e3 (by omega)
  · rw [at' k, at' ((j - 1) / 2), hji, if_neg (by omega : k ≠ j), if_neg (by omega : k ≠ i), if_neg (by omega : i ≠ j), if_pos rfl]
    have := h.1 k k0 kn (by omega) (by omega)
    rwa [kp] at this
theorem HeapTo.least {ps:List Z6} {n:Nat} (h:HeapTo ps n):∀ k,k<n->ltB (Z7 ps k) (Z7 ps 0)=false:=by
  intro k
  induction k using Nat.strongRecOn with
  | ind k ih=>
    intro hk
    by_cases e:k=0
    · subst e;exact Rk _
    · exact TP (ih ((k-1) / 2) (by omega) (by omega)) (h k (by omega) hk)
theorem Sd {ps qs:List Z6} {k:Nat} (h:k<ps.length):Z7 (ps++qs) k=Z7 ps k:=by unfold Z7;simp [List.getD,List.getElem?_append_left h]
theorem V4 {ps:List Z6} {n k:Nat} (h:k<n):Z7 (ps.take n) k=Z7 ps k:=by unfold Z7;simp [List.getD,h]
theorem HeapTo.push {ps:List Z6} (e:Z6) (h:HeapTo ps ps.length):UpTo (ps++[e]) (ps.length+1) ps.length:=
  ⟨fun k k0 kn kne=>by rw [Sd (by omega),Sd (by omega)];exact h k k0 (by omega),fun k k0 kn kp h0=>by omega⟩
theorem HeapTo.swap {ps:List Z6} {n i:Nat} (h:HeapTo ps (n+1)) (hl:ps.length=n+1) (hi:i<n):DnTo (swp ps i n) n i i:=by
  have at':=fun k=>Tj (ps:=ps) (i:=i) (j:=n) (by omega) (by omega) k
  refine ⟨fun k k0 kn kne kd=> ?_,fun k k0 kn kp i0=> ?_⟩
  · rw [at' k,at' ((k-1) / 2),if_neg (by omega),if_neg (by omega),if_neg (by omega),if_neg kne]
    exact h k k0 (by omega)
  · rw [at' k,at' ((i-1) / 2),if_neg (by omega),if_neg (by omega),if_neg (by omega),if_neg (by omega)]
    have h1:=h k k0 (by omega)
    rw [kp] at h1
    exact TP (h i i0 (by omega)) h1
abbrev Ris (ps:List Z6):Prop:=ps.Pairwise fun a b=>ltB b a=false
theorem BP {ps qs:List Z6} (h:Ris ps) (k:Ris qs) (hp:ps.Perm qs):ps=qs:=
  hp.eq_of_pairwise (le:=fun a b=>ltB b a=false) (fun _ _ _ _ h1 h2=>BD h1 h2) h k
theorem DO {ps:List Z6} (h:Ris ps):HeapTo ps ps.length:=fun k k0 kn=>by
  have hk:(k-1) / 2<k:=by omega
  have:=List.pairwise_iff_getElem.1 h ((k-1) / 2) k (by omega) kn hk
  unfold Z7
  simpa [List.getD,kn,(by omega:(k-1) / 2<ps.length)] using this
theorem DP {ps : List Z6} {x : Z6} (h : Ris ps) (hx : ∀ y ∈ ps, ltB x y = false) : Ris (ps ++ [x]) := by
  unfold Ris; rw [List.pairwise_append]
  exact ⟨h, by simp, fun a ha b hb => by obtain rfl : b = x := by simpa using hb
                                         exact hx a ha⟩
theorem O9 {ps:List Z6} {n:Nat} (h:ps.length=n+1):ps.take n++[Z7 ps n]=ps:=by
  have e:Z7 ps n=ps[n]:=by unfold Z7;simp [List.getD,h]
  rw [e,<-List.take_succ_eq_append_getElem (by omega),List.take_of_length_le (by omega)]
theorem XM {ps:List Z6} {k:Nat} (h:k<ps.length):Z7 ps k ∈ ps:=by unfold Z7;simp [List.getD,h]
theorem TR {ps:List Z6} {x:Z6} (h:x ∈ ps):∃ k,k<ps.length/\Z7 ps k=x:=by
  obtain ⟨k,hk,rfl⟩:=List.getElem_of_mem h
  exact ⟨k,hk,by unfold Z7;simp [List.getD,hk]⟩
def NV (p:Z6):Bool:=inB p.1 (-1000000000000) 1000000000000 && inB p.2 0 99
def Ww (ps:List Z6) (who:Int):Int:=match ps.findIdx? (fun p=>p.2 ==who) with
  | some k=>k
  | none=> -1
def Wt (ps:List Z6) (k:Nat):Bool:=NV (Z7 ps k) && ((k ==0 || ltB (Z7 ps (k-1)) (Z7 ps k)) && decide (Ww (ps.take k) (Z7 ps k).2<0))
def YL (ps:List Z6):Bool:=decide (ps.length<=100) && (List.range ps.length).all (Wt ps)
def Ya (e:Z6):List Z6->Nat
  | []=>0
  | p::ps=>if ltB p e then Ya e ps+1 else 0
def VF (ps:List Z6) (e:Z6):List Z6:=ps.take (Ya e ps)++e::ps.drop (Ya e ps)
def TW (ps:List Z6) (e:Z6):List Z6 × Bool:=if YL ps then if YL (VF ps e) then (VF ps e,true) else (ps,false) else ([],false)
def TH (ps:List Z6):Z6 × Bool:=if YL ps && decide (0<ps.length) then (Z7 ps 0,true) else ((0,0),false)
theorem NX {ps:List Z6} {who:Int} (h:∀ j,j<ps.length->(Z7 ps j).2 ≠ who):Ww ps who= -1:=by
  unfold Ww
  rw [List.findIdx?_eq_none_iff.2]
  intro p hp
  obtain ⟨k,hk,rfl⟩:=TR hp
  simpa using h k hk
theorem GC {ps:List Z6} {who:Int} {k:Nat} (hk:k<ps.length) (h:(Z7 ps k).2=who) (hn:∀ j,j<k->(Z7 ps j).2 ≠ who):Ww ps who=k:=by
  have e:∀ j (hj:j<ps.length),Z7 ps j=ps[j]:=fun j hj=>by unfold Z7;simp [List.getD,hj]
  unfold Ww
  rw [List.findIdx?_eq_some_iff_getElem.2 ⟨hk,by rw [<-e k hk];simpa using h,fun j hj=>by rw [<-e j (by omega)];simpa using hn j hj⟩]
theorem PR (ps:List Z6) (who:Int):(Ww ps who= -1/\ ∀ j,j<ps.length->(Z7 ps j).2 ≠ who)\/ ∃ k:Nat,Ww ps who=k/\k<ps.length/\(Z7 ps k).2=who/\ ∀ j,j<k->(Z7 ps j).2 ≠ who:=by
  have e:∀ j (hj:j<ps.length),Z7 ps j=ps[j]:=fun j hj=>by unfold Z7;simp [List.getD,hj]
  cases hf:ps.findIdx? (fun p=>p.2 ==who) with
  | none=>
    left
    refine ⟨by unfold Ww;rw [hf],fun j hj=> ?_⟩
    have:=List.findIdx?_eq_none_iff.1 hf _ (XM hj)
    simpa using this
  | some k=>
    right
    obtain ⟨hk,h1,h2⟩:=List.findIdx?_eq_some_iff_getElem.1 hf
    refine ⟨k,by unfold Ww;rw [hf],hk,by rw [e k hk];simpa using h1,fun j hj=> ?_⟩
    have:=h2 j hj
    rw [e j (by omega)];simpa using this
theorem C8 (ps:List Z6) (who:Int) : -1<=Ww ps who/\Ww ps who<ps.length:=by
  rcases PR ps who with ⟨h,_⟩ | ⟨k,h,hk,_⟩<;>omega
theorem Kn {ps:List Z6} (hl:ps.length<=100) (h:∀ j,j<ps.length->Wt ps j=true):YL ps=true:=by
  unfold YL;simp only [Bool.and_eq_true,decide_eq_true_eq,List.all_eq_true];exact ⟨hl,fun j hj=>h j (List.mem_range.1 hj)⟩
theorem OF {ps:List Z6} {j:Nat} (hj:j<ps.length) (h:Wt ps j=false):YL ps=false:=by
  unfold YL;rw [Bool.and_eq_false_iff];right;rw [List.all_eq_false];exact ⟨j,List.mem_range.2 hj,by simp [h]⟩
theorem Il {ps:List Z6} (hl:100<ps.length):YL ps=false:=by
  unfold YL;rw [Bool.and_eq_false_iff];left;exact decide_eq_false (by omega)
theorem Fb {ps:List Z6} (h:YL ps=true):ps.length<=100/\ ∀ j,j<ps.length->Wt ps j=true:=by
  unfold YL at h;simp only [Bool.and_eq_true,decide_eq_true_eq,List.all_eq_true] at h;exact ⟨h.1,fun j hj=>h.2 j (List.mem_range.2 hj)⟩
theorem O8 {ps : List Z6} {k : Nat} (h : Wt ps k = true) : NV (Z7 ps k) = true ∧ (0 < k → ltB (Z7 ps (k - 1)) (Z7 ps k) = true) ∧ Ww (ps.take k) (Z7 ps k).2 < 0 := by
  unfold Wt at h; simp only [Bool.and_eq_true, Bool.or_eq_true, decide_eq_true_eq, beq_iff_eq] at h
  exact ⟨h.1, fun h0 => by rcases h.2.1 with e | e; · omega
                           · exact e, h.2.2⟩
structure IsQ (ps:List Z6):Prop where
  len:ps.length<=100
  ent:∀ p ∈ ps,NV p=true
  ord:ps.Pairwise fun a b=>ltB a b=true
  who:ps.Pairwise fun a b=>a.2 ≠ b.2
theorem BN {ps:List Z6} (h:∀ k,0<k->k<ps.length->ltB (Z7 ps (k-1)) (Z7 ps k)=true):∀ i j,i<j->j<ps.length->ltB (Z7 ps i) (Z7 ps j)=true:=by
  intro i j
  induction j with
  | zero=>intro h;omega
  | succ j ih=>
    intro hij hj
    have h1:=h (j+1) (by omega) hj
    by_cases e:i=j
    · subst e;simpa using h1
    · exact BE (ih (by omega) (by omega)) (by simpa using h1)
theorem By {ps:List Z6} (h:YL ps=true):IsQ ps:=by
  obtain ⟨hl,hs⟩:=Fb h
  have e:∀ j (hj:j<ps.length),Z7 ps j=ps[j]:=fun j hj=>by unfold Z7;simp [List.getD,hj]
  refine ⟨hl,fun p hp=> ?_,?_,?_⟩
  · obtain ⟨k,hk,rfl⟩:=TR hp
    exact (O8 (hs k hk)).1
  · rw [List.pairwise_iff_getElem]
    intro i j hi hj hij
    rw [<-e i hi,<-e j hj]
    exact BN (fun k k0 kn=>(O8 (hs k kn)).2.1 k0) i j hij hj
  · rw [List.pairwise_iff_getElem]
    intro i j hi hj hij
    rw [<-e i hi,<-e j hj]
    have h3:=(O8 (hs j hj)).2.2
    rcases PR (ps.take j) (Z7 ps j).2 with ⟨_,h4⟩ | ⟨k,h4,_⟩
    · have:=h4 i (by simp;omega)
      rwa [V4 hij] at this
    · omega
theorem Im {ps:List Z6} (h:IsQ ps):YL ps=true:=by
  have e:∀ j (hj:j<ps.length),Z7 ps j=ps[j]:=fun j hj=>by unfold Z7;simp [List.getD,hj]
  refine Kn h.len fun j hj=> ?_
  unfold Wt
  simp only [Bool.and_eq_true,Bool.or_eq_true,decide_eq_true_eq,beq_iff_eq]
  refine ⟨h.ent _ (XM hj),?_,?_⟩
  · by_cases h0:j=0
    · exact .inl h0
    · right
      rw [e j hj,e (j-1) (by omega)]
      exact List.pairwise_iff_getElem.1 h.ord (j-1) j (by omega) hj (by omega)
  · rw [NX (fun i hi=> ?_)]
    · omega
    · have hi':i<j:=by simp at hi;omega
      rw [V4 hi',e i (by omega),e j hj]
      exact List.pairwise_iff_getElem.1 h.who i j (by omega) hj hi'
theorem IsQ.ris {ps:List Z6} (h:IsQ ps):Ris ps:=h.ord.imp fun hab=>Sv hab
theorem Oo (e:Z6):∀ ps:List Z6,Ya e ps<=ps.length
  | []=>Nat.le_refl _
  | p::ps=>by have:=Oo e ps;unfold Ya;split<;>simp<;>omega
theorem Oq (e:Z6):∀ (ps:List Z6) (k:Nat),k<Ya e ps->ltB (Z7 ps k) e=true
  | [],k,h=>by simp [Ya] at h
  | p::ps,k,h=>by
    unfold Ya at h
    split at h
    · cases k with
      | zero=>simpa [Z7] using ‹ltB p e=true›
      | succ k=>
        have:=Oq e ps k (by omega)
        simpa [Z7] using this
    · omega
theorem On (e:Z6):∀ (ps:List Z6),Ya e ps<ps.length->ltB (Z7 ps (Ya e ps)) e=false
  | [],h=>by simp at h
  | p::ps,h=>by
    unfold Ya at h ⊢
    by_cases hp:ltB p e=true
    · rw [if_pos hp] at h ⊢
      have:=On e ps (by simpa using h)
      simpa [Z7] using this
    · rw [if_neg hp] at h ⊢
      simpa [Z7] using hp
theorem Dp {e:Z6} {ps:List Z6} {k:Nat} (hk:k<=ps.length) (h:∀ j,j<k->ltB (Z7 ps j) e=true) (hn:k=ps.length\/ltB (Z7 ps k) e=false):Ya e ps=k:=by
  rcases Nat.lt_trichotomy (Ya e ps) k with h1 | h1 | h1
  · have h2:=On e ps (by omega)
    rw [h _ h1] at h2;cases h2
  · exact h1
  · rcases hn with hn | hn
    · have:=Oo e ps;omega
    · have:=Oq e ps k h1
      rw [hn] at this;cases this
theorem Sx (ps:List Z6) (e:Z6):(VF ps e).Perm (ps++[e]):=by
  unfold VF
  have h1:(ps.take (Ya e ps)++e::ps.drop (Ya e ps)).Perm (e::(ps.take (Ya e ps)++ps.drop (Ya e ps))):=List.perm_middle
  rw [List.take_append_drop] at h1
  exact h1.trans (List.perm_append_comm (l₁:=[e]) (l₂:=ps))
theorem DG (ps:List Z6) (e:Z6):(VF ps e).length=ps.length+1:=by have:=(Sx ps e).length_eq;simpa using this
theorem Kk {ps:List Z6} (h:Ris ps) (e:Z6):Ris (VF ps e):=by
  have hle:=Oo e ps
  have hdr:∀ y ∈ ps.drop (Ya e ps),ltB y e=false:=fun y hy=>by
    obtain ⟨k,hk,rfl⟩:=List.getElem_of_mem hy
    have hk':Ya e ps+k<ps.length:=by simp at hk;omega
    rw [List.getElem_drop]
    have h0:=On e ps (by omega)
    have e0:Z7 ps (Ya e ps)=ps[Ya e ps]'(by omega):=by unfold Z7;simp [List.getD,(by omega:Ya e ps<ps.length)]
    rw [e0] at h0
    by_cases hz:k=0
    · subst hz;simpa using h0
    · have h1:=List.pairwise_iff_getElem.1 h (Ya e ps) (Ya e ps+k) (by omega) hk' (by omega)
      exact TP h0 h1
  have hta:∀ y ∈ ps.take (Ya e ps),ltB y e=true:=fun y hy=>by
    obtain ⟨k,hk,rfl⟩:=List.getElem_of_mem hy
    have hk':k<Ya e ps:=by simp at hk;omega
    have:=Oq e ps k hk'
    rw [List.getElem_take]
    unfold Z7 at this
    simpa [List.getD,(by omega:k<ps.length)] using this
  unfold VF Ris
  rw [List.pairwise_append,List.pairwise_cons]
  refine ⟨h.sublist (List.take_sublist _ _),⟨fun y hy=>hdr y hy,h.sublist (List.drop_sublist _ _)⟩,fun a ha b hb=> ?_⟩
  rcases List.mem_cons.1 hb with rfl | hb
  · exact Sv (hta a ha)
  · exact TP (Sv (hta a ha)) (hdr b hb)
theorem Ix {ps qs:List Z6} {e:Z6} (h:IsQ ps) (hq:Ris qs) (hp:qs.Perm (ps++[e])):qs=VF ps e:=
  BP hq (Kk h.ris e) (hp.trans (Sx ps e).symm)
def atV (ss:List Z3) (b:Int):Nat->List Z6
 | 0=>[]
 | k+1=>if (Z8 ss k).2.1=b/\ZR (Z8 ss k)=true then VF (atV ss b k) ((Z8 ss k).2.2.2.2.2.2.2.1,(k:Int)) else atV ss b k
theorem TD (ss:List Z3) (b:Int):∀ k,(atV ss b k).length<=k
 | 0=>Nat.le_refl _
 | k+1=>by
  have:=TD ss b k
  unfold atV
  split
  ·rw [DG];omega
  ·omega
theorem Qj {ss:List Z3} {b:Int} {k:Nat} (h:¬ ((Z8 ss k).2.1=b/\ZR (Z8 ss k)=true)):atV ss b (k+1)=atV ss b k:=by rw [atV,if_neg h]
theorem Sk {ss:List Z3} {b:Int} {k:Nat} (h1:(Z8 ss k).2.1=b) (h2:ZR (Z8 ss k)=true):atV ss b (k+1)=VF (atV ss b k) ((Z8 ss k).2.2.2.2.2.2.2.1,(k:Int)):=by rw [atV,if_pos ⟨h1,h2⟩]
def WX (m:Z4) (b:Int):Bool:=inB b 0 ((m.desks.length:Int)-1)
def XG (s:Z3):Int:=s.2.2.2.2.2.2.2.1
theorem DH {ps:List Z6} {x e:Z6} : e ∈ VF ps x ↔ e ∈ ps\/e=x:=by
 rw [(Sx ps x).mem_iff];simp
theorem Yt (ss:List Z3) (b:Int) (e:Z6):∀ k,e ∈ atV ss b k ↔ ∃ i:Nat,i<k/\(Z8 ss i).2.1=b/\ZR (Z8 ss i)=true/\e=(XG (Z8 ss i),(i:Int))
 | 0=>by simp [atV]
 | k+1=>by
  have ih:=Yt ss b e k
  by_cases h:(Z8 ss k).2.1=b/\ZR (Z8 ss k)=true
  ·rw [Sk h.1 h.2,DH,ih]
   constructor
   ·rintro (⟨i,hi,h1,h2,h3⟩ | h3)
    ·exact ⟨i,by omega,h1,h2,h3⟩
    ·exact ⟨k,by omega,h.1,h.2,h3⟩
   ·rintro ⟨i,hi,h1,h2,h3⟩
    by_cases hik:i=k
    ·subst hik;exact .inr h3
    ·exact .inl ⟨i,by omega,h1,h2,h3⟩
  ·rw [Qj h,ih]
   constructor
   ·rintro ⟨i,hi,h1,h2,h3⟩
    exact ⟨i,by omega,h1,h2,h3⟩
   ·rintro ⟨i,hi,h1,h2,h3⟩
    by_cases hik:i=k
    ·subst hik;exact absurd ⟨h1,h2⟩ h
    ·exact ⟨i,by omega,h1,h2,h3⟩
theorem Ph (ss:List Z3) (b:Int):∀ k,Ris (atV ss b k)
 | 0=>List.Pairwise.nil
 | k+1=>by
  by_cases h:(Z8 ss k).2.1=b/\ZR (Z8 ss k)=true
  ·rw [Sk h.1 h.2];exact Kk (Ph ss b k) _
  ·rw [Qj h];exact Ph ss b k
theorem Ue (ss:List Z3) (b:Int):∀ k,(atV ss b k).Pairwise fun x y=>x.2 ≠ y.2
 | 0=>List.Pairwise.nil
 | k+1=>by
  by_cases h:(Z8 ss k).2.1=b/\ZR (Z8 ss k)=true
  ·rw [Sk h.1 h.2]
   refine (Sx (atV ss b k) _).symm.pairwise ?_ (fun h=>Ne.symm h)
   rw [List.pairwise_append]
   refine ⟨Ue ss b k,by simp,fun x hx y hy=> ?_⟩
   obtain rfl:y=_:=by simpa using hy
   obtain ⟨i,hi,_,_,rfl⟩:=(Yt ss b x k).1 hx
   show (i:Int) ≠ (k:Int)
   omega
  ·rw [Qj h];exact Ue ss b k
def Alike (ss ss':List Z3) (k:Nat):Prop:= ∀ i,i<k->(Z8 ss' i).2.1=(Z8 ss i).2.1/\ZR (Z8 ss' i)=ZR (Z8 ss i)/\XG (Z8 ss' i)=XG (Z8 ss i)
theorem Md {ss ss':List Z3} (b:Int):∀ k,Alike ss ss' k->atV ss' b k=atV ss b k
 | 0,_=>rfl
 | k+1,h=>by
  have ih:=Md b k (fun i hi=>h i (by omega))
  obtain ⟨h1,h2,h3⟩:=h k (by omega)
  unfold atV
  rw [h1,h2,ih,show (Z8 ss' k).2.2.2.2.2.2.2.1=(Z8 ss k).2.2.2.2.2.2.2.1 from h3]
def WR (ss:List Z3) (b:Int):Int:=match atV ss b ss.length with
 | []=> -1
 | h::_=>h.2
theorem TG {ss:List Z3} {b:Int} {e:Z6} {t:List Z6} (h:atV ss b ss.length=e::t):WR ss b=e.2/\ ∃ i:Nat,i<ss.length/\(Z8 ss i).2.1=b/\ZR (Z8 ss i)=true/\e=(XG (Z8 ss i),(i:Int)):=by
 refine ⟨by unfold WR;rw [h],?_⟩
 exact (Yt ss b e ss.length).1 (by rw [h];simp)
theorem PS {ss:List Z3} {b:Int} {e:Z6} {t:List Z6} (h:atV ss b ss.length=e::t) {i:Nat} (hi:i<ss.length) (h1:(Z8 ss i).2.1=b) (h2:ZR (Z8 ss i)=true):e.1<=XG (Z8 ss i):=by
 have hm:(XG (Z8 ss i),(i:Int)) ∈ atV ss b ss.length:=(Yt ss b _ ss.length).2 ⟨i,hi,h1,h2,rfl⟩
 have hr:=Ph ss b ss.length
 rw [h] at hm hr
 rcases List.mem_cons.1 hm with he | ht
 ·rw [<-he];exact Int.le_refl _
 ·have:=(List.pairwise_cons.1 hr).1 _ ht
  rw [Mt] at this
  simp only at this
  omega
def VZ (x:Int):Bool:=inB x (-1000000000000) 1000000000000
def Wb (h m:Int):Bool:=(VZ h && VZ m) && inB (h-m) (-20000) 63000
def Y8 (h m:Int):Int:=if VZ m then max h (m-20000) else h
def Zq (h f t:Int):Int:=if VZ h && (VZ f && VZ t) then h-f+t else h
def ZL (m f:Int):Int:=if VZ m && VZ f then min (max m f) 900000000000 else m
theorem N7 {x:Int} (h:VZ x=true) : -1000000000000<=x/\x<=1000000000000:=ZU h
theorem FO (x y:Int):([x,y].all fun z=>inB z (-1000000000000) 1000000000000)=(VZ x && VZ y):=by simp [VZ]
theorem Cp (h m:Int):([h].all fun z=>inB z (m-20000) (m+63000))=inB (h-m) (-20000) 63000:=by
 simp only [List.all_cons,List.all_nil,Bool.and_true]
 unfold inB
 congr 1
 exact propext ⟨fun h=>by omega,fun h=>by omega⟩
theorem N6 {x:Int} (h0 : -1000000000000<=x) (h1:x<=1000000000000):VZ x=true:=Zv h0 h1
theorem Dw {h f t:Int} (h0 : -1000000000000<=h) (h1:h<=1000000000000) (f0 : -1000000000000<=f) (f1:f<=1000000000000) (t0 : -1000000000000<=t) (t1:t<=1000000000000):Zq h f t=h-f+t:=by
 unfold Zq;rw [N6 h0 h1,N6 f0 f1,N6 t0 t1];rfl
theorem Mw {m f:Int} (m0 : -1000000000000<=m) (m1:m<=1000000000000) (f0 : -1000000000000<=f) (f1:f<=1000000000000):ZL m f=min (max m f) 900000000000:=by
 unfold ZL;rw [N6 m0 m1,N6 f0 f1];rfl
end Go.Proofs.YtffcgajndmhpkaaGreatDoor
