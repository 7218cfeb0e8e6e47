/- Part 4 of what the proof rests on. No condition but those that a theorem names. -/
import Derived.Test.YtaegckehjlkaaaaGreatXc03
import Derived.Laws.StructEq
set_option maxHeartbeats 8000000
set_option maxRecDepth 100000
namespace Go.Proofs.YtaegckehjlkaaaaGreat
open Go.ChangeShapes Go.WideShapes Go.ChangeAt Go.RowKit
set_option linter.unusedVariables false
theorem Ut (s:Int) (w:World):Calls Tryz.prog 193 #[.int .i64 s] w fun e w'=>e= .returned (.bool (inB s 0 255))/\w'=w:=by
 by_cases h1:0<=s
 ·by_cases h2:s<=255
  all_goals
   go_enter Tryz.func193,Tryz.ntmps193
   go_wp2
   go_ret
   exact ⟨Z7 (by first | exact (Zq h1 h2).symm | exact (W7 (by omega)).symm),rfl⟩
 ·go_enter Tryz.func193,Tryz.ntmps193
  go_wp2
  go_ret
  exact ⟨Z7 (W7 (by omega)).symm,rfl⟩
theorem ZB (i:Int) (w:World):Calls Tryz.prog 194 #[.int .i64 i] w fun e w'=>e= .returned (.bool (inB i 0 7))/\w'=w:=by
 by_cases h1:0<=i
 ·by_cases h2:i<8
  all_goals
   go_enter Tryz.func194,Tryz.ntmps194
   go_wp2
   go_ret
   exact ⟨Z7 (by first | exact (Zq h1 (by omega)).symm | exact (W7 (by omega)).symm),rfl⟩
 ·go_enter Tryz.func194,Tryz.ntmps194
  go_wp2
  go_ret
  exact ⟨Z7 (W7 (by omega)).symm,rfl⟩
def Wu (s i:Int):Bool:=decide (s / 2 ^ i.toNat%2=1)
def Vm (s i:Int):Bool:=inB s 0 255 && inB i 0 7 && Wu s i
theorem DM (n:Int):bits .and .i64 n 1=n%2:=by
 have h1:(BitVec.ofInt 64 1).toNat=2 ^ 1-1:=by decide
 have key:(BitVec.ofInt 64 n &&& BitVec.ofInt 64 1).toNat=(n%((2 ^ 64:Nat):Int)).toNat%2 ^ 1:=by
  rw [BitVec.toNat_and,BitVec.toNat_ofInt,h1,Nat.and_two_pow_sub_one_eq_mod]
 show IntKind.i64.wrap ((BitVec.ofInt 64 n &&& BitVec.ofInt 64 1).toNat:Nat)=n%2
 rw [key,IntKind.wrap_i64]
 omega
theorem Dt (s i:Int):(bits .and .i64 (s / 2 ^ i.toNat) 1 ==1)=Wu s i:=by rw [DM];unfold Wu;rfl
theorem IZ {s i:Int} (h:inB s 0 255=false\/inB i 0 7=false):Vm s i=false:=by unfold Vm;rcases h with h | h<;>simp [h]
theorem D5 {s i:Int} (hs:inB s 0 255=true) (hi:inB i 0 7=true):Vm s i=Wu s i:=by unfold Vm;simp [hs,hi]
theorem M5 (s i:Int) (w:World) (hs:0<=s) (hs2:s<=255) (hi:0<=i) (hi2:i<=7):Calls Tryz.prog 135 #[.int .i64 s,.int .i64 i] w fun e w'=>e= .returned (.bool (Wu s i))/\w'=w:=by
 go_enter Tryz.func135,Tryz.ntmps135
 go_wp2
 go_ret
 exact ⟨Z7 (Dt s i),rfl⟩
theorem VS (s i:Int) (w:World):Calls Tryz.prog 141 #[.int .i64 s,.int .i64 i] w fun e w'=>e= .returned (.bool (Vm s i))/\w'=w:=by
 by_cases hb:inB s 0 255=true
 ·obtain ⟨hs,hs2⟩:=ZV hb
  by_cases hc:inB i 0 7=true
  ·obtain ⟨hi,hi2⟩:=ZV hc
   go_enter Tryz.func141,Tryz.ntmps141
   go_wp2_with (first | (go_at_call 193;refine (Ut _ _).mono ?_;rintro e w' ⟨rfl,rfl⟩) | (go_at_call 194;refine (ZB _ _).mono ?_;rintro e w' ⟨rfl,rfl⟩))
   go_ret
   exact ⟨Z7 ((Dt s i).trans (D5 hb hc).symm),rfl⟩
  ·have hc':inB i 0 7=false:=by simpa using hc
   go_enter Tryz.func141,Tryz.ntmps141
   go_wp2_with (first | (go_at_call 193;refine (Ut _ _).mono ?_;rintro e w' ⟨rfl,rfl⟩) | (go_at_call 194;refine (ZB _ _).mono ?_;rintro e w' ⟨rfl,rfl⟩))
   go_ret
   exact ⟨Z7 (IZ (.inr hc')).symm,rfl⟩
 ·have hb':inB s 0 255=false:=by simpa using hb
  go_enter Tryz.func141,Tryz.ntmps141
  go_wp2_with (first | (go_at_call 193;refine (Ut _ _).mono ?_;rintro e w' ⟨rfl,rfl⟩) | (go_at_call 194;refine (ZB _ _).mono ?_;rintro e w' ⟨rfl,rfl⟩))
  go_ret
  exact ⟨Z7 (IZ (.inl hb')).symm,rfl⟩
open Go.ChangeShapes Go.WideShapes Go.ChangeAt Go.RowKit Go.Sort
def ZP (s:Z5):Bool:=s.1 ==2 || s.1 ==3
def WV (had Xw:Int):Bool:=inB had (-1000000000000) 1000000000000 && (inB Xw (-1000000000000) 1000000000000 && inB (had-Xw) (-20000) 63000)
def V6 (d:XZ):Bool:=inB d.2.2 (-900000000000) 900000000000
def Wj (m:Z6) (j:Nat):Bool:=inB (Z8 m.paces j) 0 (((ZU m.rooms j).2.length:Int)-1)
def Yf (m:Z6) (s:Z5):Bool:=ZD s && (s.1 ==0 || (decide (s.2.2.2.2.1<m.guilds.length) && decide (s.2.1<m.desks.length)))
def XX (m:Z6) (s:Z5):Bool:= !ZP s || ((Z8 m.desks s.2.1.toNat).1 && (Wu s.2.2.2.1 s.2.1 && WV s.2.2.2.2.2.2.2.1 (Z8 m.desks s.2.1.toNat).2.2))
def YG (m:Z6):Bool:=Ze m.rooms && (Zk m.guilds && (decide (m.smiths.length<=12) && (decide ((m.desks.length:Int)=Z4 m.rooms) && (decide (m.paces.length=m.rooms.length) && inB m.now 0 1000000))))
def VV (m:Z6) (k:Nat):Bool:=(List.range k).all fun j=>V6 (Z8 m.desks j)
def Uy (m:Z6) (k:Nat):Bool:=(List.range k).any fun j=>(Z8 m.desks j).1
def Wn (m:Z6) (k:Nat):Bool:=(List.range k).all fun j=>Wj m j
def Wo (m:Z6) (k:Nat):Bool:=(List.range k).all fun j=>Yf m (Z8 m.smiths j) && XX m (Z8 m.smiths j)
def YB (m:Z6):Bool:=YG m && (VV m m.desks.length && (Wn m m.paces.length && (Wo m m.smiths.length && Uy m m.desks.length)))
theorem Up {p:Nat->Bool} (k:Nat):(List.range (k+1)).all p=((List.range k).all p && p k):=by rw [List.range_succ,List.all_append];simp
theorem LV {p:Nat->Bool} (k:Nat):(List.range (k+1)).any p=((List.range k).any p || p k):=by rw [List.range_succ,List.any_append];simp
theorem RM {p:Nat->Bool} {k n:Nat} (hk:k<n) (h:p k=false):(List.range n).all p=false:=by
 rw [List.all_eq_false]
 exact ⟨k,List.mem_range.2 hk,by simp [h]⟩
theorem LU {p:Nat->Bool} {k n:Nat} (h:(List.range n).all p=true) (hk:k<n):p k=true:=List.all_eq_true.1 h k (List.mem_range.2 hk)
theorem Wz {m:Z6} (h:YG m=false):YB m=false:=by unfold YB;rw [h];rfl
theorem KH {m:Z6} {k:Nat} (hk:k<m.desks.length) (h:V6 (Z8 m.desks k)=false):YB m=false:=by
 unfold YB VV
 rw [RM hk h];simp
theorem KI {m:Z6} {k:Nat} (hk:k<m.paces.length) (h:Wj m k=false):YB m=false:=by
 unfold YB Wn
 rw [RM (p:=fun j=>Wj m j) hk h];simp
theorem Ml {m:Z6} {k:Nat} (hk:k<m.smiths.length) (h:(Yf m (Z8 m.smiths k) && XX m (Z8 m.smiths k))=false):YB m=false:=by
 unfold YB Wo
 rw [RM (p:=fun j=>Yf m (Z8 m.smiths j) && XX m (Z8 m.smiths j)) hk h];simp
theorem IX {m:Z6} (h1:YG m=true) (h2:VV m m.desks.length=true) (h3:Wn m m.paces.length=true) (h4:Wo m m.smiths.length=true):YB m=Uy m m.desks.length:=by
 unfold YB;rw [h1,h2,h3,h4];rfl
theorem Ks {m:Z6} {s:Z5} (h:Yf m s=true) (hp:ZP s=true):0<=s.2.1/\s.2.1<m.desks.length/\s.2.1<=7/\1<=s.2.2.2.1/\s.2.2.2.1<=255/\s.2.2.2.2.1<m.guilds.length:=by
 obtain ⟨st,be,rk,my,gu,lo,hi,hd,ca,ut,wk⟩:=s
 have hst:st ≠ 0:=by
  intro e
  subst e
  cases hp
 unfold Yf at h
 simp only [Bool.and_eq_true,Bool.or_eq_true,decide_eq_true_eq] at h
 obtain ⟨h1,h2⟩:=h
 rcases h2 with h2 | ⟨h2,h3⟩
 ·exact absurd (by simpa using h2) hst
 ·have hs:ZD (st,be,rk,my,gu,lo,hi,hd,ca,ut,wk)=YY (st,be,rk,my,gu,lo,hi,hd,ca,ut,wk):=by unfold ZD;rw [SG hst,Bool.false_or]
  rw [hs] at h1
  obtain ⟨_,⟨b0,b1⟩,_,⟨m0,m1⟩,_⟩:=Zc h1
  exact ⟨b0,h3,b1,m0,m1,h2⟩
def XS (ss:List Z5) (b:Int):Nat->Option (Int × Bool)
 | 0=>some (-1,false)
 | k+1=>match XS ss b k with
  | none=>none
  | some (wk,wt)=>if (Z8 ss k).2.1=b/\ZP (Z8 ss k)=true then (if (Z8 ss k).1=2 then some (wk,true) else if 0<=wk then none else some ((k:Int),wt)) else some (wk,wt)
def Yn (m:Z6) (b:Nat):Bool:=match XS m.smiths b m.smiths.length with
 | none=>false
 | some (wk,wt)=>(Z8 m.desks b).2.1 ==wk && !(wt && decide (wk<0))
def ZS (m:Z6):Bool:=YB m && (List.range m.desks.length).all (Yn m)
theorem Qe (x0 x1 x2 x3 x4 x5 x6 x7 x8 x9 x10 y0 y1 y2 y3 y4 y5 y6 y7 y8 y9 y10:Int) (w:World):(Op.equalIn 10000 41 (.agg #[.int .i64 x0,.int .i64 x1,.int .i64 x2,.int .i64 x3,.int .i64 x4,.int .i64 x5,.int .i64 x6,.int .i64 x7,.int .i64 x8,.int .i64 x9,.int .i64 x10]) (.agg #[.int .i64 y0,.int .i64 y1,.int .i64 y2,.int .i64 y3,.int .i64 y4,.int .i64 y5,.int .i64 y6,.int .i64 y7,.int .i64 y8,.int .i64 y9,.int .i64 y10])).run Tryz.prog w= .ok (Uk (x0,x1,x2,x3,x4,x5,x6,x7,x8,x9,x10) (y0,y1,y2,y3,y4,y5,y6,y7,y8,y9,y10)) w:=by
 have u:=Tryz.underlying2
 have a:=Tryz.isAgg2
 have z:=Tryz.sizeOf2
 have hS:Tryz.prog.underlying 41=some (.struct (Tryz.prog.fieldsOf 41)):=by kernel_rfl
 have hp:Tryz.prog.stoodInHeld 41=false:=by kernel_rfl
 rw [show (10000:Nat)=9999+1 from rfl,run_equalIn_agg w 9999 41 _ _ hS hp]
 simp only [Program.fieldsOf,Tryz.underlying41]
 go_simp
 unfold Uk
 by_cases h0:x0=y0
 rotate_left
 ·simp [h0]
 subst h0
 by_cases h1:x1=y1
 rotate_left
 ·simp [h1]
 subst h1
 by_cases h2:x2=y2
 rotate_left
 ·simp [h2]
 subst h2
 by_cases h3:x3=y3
 rotate_left
 ·simp [h3]
 subst h3
 by_cases h4:x4=y4
 rotate_left
 ·simp [h4]
 subst h4
 by_cases h5:x5=y5
 rotate_left
 ·simp [h5]
 subst h5
 by_cases h6:x6=y6
 rotate_left
 ·simp [h6]
 subst h6
 by_cases h7:x7=y7
 rotate_left
 ·simp [h7]
 subst h7
 by_cases h8:x8=y8
 rotate_left
 ·simp [h8]
 subst h8
 by_cases h9:x9=y9
 rotate_left
 ·simp [h9]
 subst h9
 by_cases h10:x10=y10
 rotate_left
 ·simp [h10]
 subst h10
 simp
theorem Nm (x0 x1 x2 x3 x4 x5 x6 x7 x8 x9 x10 y0 y1 y2 y3 y4 y5 y6 y7 y8 y9 y10:Int) (w:World):(binOp .eql 41 (.agg #[.int .i64 x0,.int .i64 x1,.int .i64 x2,.int .i64 x3,.int .i64 x4,.int .i64 x5,.int .i64 x6,.int .i64 x7,.int .i64 x8,.int .i64 x9,.int .i64 x10]) (.agg #[.int .i64 y0,.int .i64 y1,.int .i64 y2,.int .i64 y3,.int .i64 y4,.int .i64 y5,.int .i64 y6,.int .i64 y7,.int .i64 y8,.int .i64 y9,.int .i64 y10])).run Tryz.prog w= .ok (.bool (Uk (x0,x1,x2,x3,x4,x5,x6,x7,x8,x9,x10) (y0,y1,y2,y3,y4,y5,y6,y7,y8,y9,y10))) w:=by
 rw [run_eql_struct,Qe];rfl
theorem Nn (x0 x1 x2 x3 x4 x5 x6 x7 x8 x9 x10 y0 y1 y2 y3 y4 y5 y6 y7 y8 y9 y10:Int) (w:World):(binOp .neq 41 (.agg #[.int .i64 x0,.int .i64 x1,.int .i64 x2,.int .i64 x3,.int .i64 x4,.int .i64 x5,.int .i64 x6,.int .i64 x7,.int .i64 x8,.int .i64 x9,.int .i64 x10]) (.agg #[.int .i64 y0,.int .i64 y1,.int .i64 y2,.int .i64 y3,.int .i64 y4,.int .i64 y5,.int .i64 y6,.int .i64 y7,.int .i64 y8,.int .i64 y9,.int .i64 y10])).run Tryz.prog w= .ok (.bool (!Uk (x0,x1,x2,x3,x4,x5,x6,x7,x8,x9,x10) (y0,y1,y2,y3,y4,y5,y6,y7,y8,y9,y10))) w:=by
 rw [run_neq_struct,Qe];rfl
theorem SM {r x:Int} (h:Zl r=x) (w:World):Calls Tryz.prog 311 #[.int .i64 r] w fun e w'=>e= .returned (.int .i64 x)/\w'=w:=by
 have:=Qz r w;rw [h] at this;exact this
theorem YS {r x:Int} (h:Zl r=x) (w:World):Calls Tryz.prog 191 #[.int .i64 r] w fun e w'=>e= .returned (.int .i64 x)/\w'=w:=by
 have:=QY r w;rw [h] at this;exact this
attribute [local go_sem ↓] Nm Nn
theorem XA (n:Int) (w:World):Calls Tryz.prog 139 #[.int .i64 n] w fun e w'=>e= .returned (.bool (inB n (-1000000000000) 1000000000000))/\w'=w:=by
 go_enter Tryz.func139,Tryz.ntmps139
 go_wp2_with (go_at_call 123;refine (Z0 _ _ _ _).mono ?_;rintro e w' ⟨rfl,rfl⟩)
 go_ret
 exact ⟨rfl,rfl⟩
theorem Zt (st be rk my gu lo hi hd ca ut wk:Int) (w:World):Calls Tryz.prog 134 #[.agg #[.int .i64 st,.int .i64 be,.int .i64 rk,.int .i64 my,.int .i64 gu,.int .i64 lo,.int .i64 hi,.int .i64 hd,.int .i64 ca,.int .i64 ut,.int .i64 wk]] w fun e w'=>e= .returned (.bool (ZD (st,be,rk,my,gu,lo,hi,hd,ca,ut,wk)))/\Below w.heap.size w w':=by
 by_cases hst:st=0
 ·subst hst
  unfold ZD
  rw [OU rfl,Bool.or_false]
  obtain ⟨q,hq⟩:∃ q,VG (0,be,rk,my,gu,lo,hi,hd,ca,ut,wk)=q:=⟨_,rfl⟩
  rw [hq]
  have hz:Uk (0,be,rk,my,gu,lo,hi,hd,ca,ut,wk) (0,0,0,0,0,0,0,0,0,0,0)=q:=hq
  clear hq
  go_enter Tryz.func134,Tryz.ntmps134
  go_wp2_with fail
  go_ret
  exact ⟨rfl,(Below.refl _ _).alloc (Nat.le_refl _) _⟩
 ·have hne:(st ==0)=false:=by simpa using hst
  unfold ZD
  rw [SG hst,Bool.false_or]
  unfold YY
  simp only
  obtain ⟨x0,x1⟩:=Uo rk
  obtain ⟨x,hx⟩:∃ x,Zl rk=x:=⟨_,rfl⟩
  rw [hx] at x0 x1 ⊢
  have Hw:=Z9 hx
  have hwr:IntKind.i64.wrap (x-1)=x-1:=by rw [IntKind.wrap_i64];omega
  clear hx hst
  cases h0:inB st 1 3
  ·go_enter Tryz.func134,Tryz.ntmps134
   go_wp2_with (first | (go_at_call 123;refine (Z0 _ _ _ _).mono ?_;rintro e w' ⟨rfl,rfl⟩) | (go_at_call 190;refine (YW _ _).mono ?_;rintro e w' ⟨rfl,rfl⟩) | (go_at_call 74;refine (YL _ _ _).mono ?_;rintro e w' ⟨rfl,rfl⟩))
   go_ret
   exact ⟨rfl,(Below.refl _ _).alloc (Nat.le_refl _) _⟩
  cases h1:inB be 0 7
  ·go_enter Tryz.func134,Tryz.ntmps134
   go_wp2_with (first | (go_at_call 123;refine (Z0 _ _ _ _).mono ?_;rintro e w' ⟨rfl,rfl⟩) | (go_at_call 190;refine (YW _ _).mono ?_;rintro e w' ⟨rfl,rfl⟩) | (go_at_call 74;refine (YL _ _ _).mono ?_;rintro e w' ⟨rfl,rfl⟩))
   go_ret
   exact ⟨rfl,(Below.refl _ _).alloc (Nat.le_refl _) _⟩
  cases h2:inB rk (-5) 5
  ·go_enter Tryz.func134,Tryz.ntmps134
   go_wp2_with (first | (go_at_call 123;refine (Z0 _ _ _ _).mono ?_;rintro e w' ⟨rfl,rfl⟩) | (go_at_call 190;refine (YW _ _).mono ?_;rintro e w' ⟨rfl,rfl⟩) | (go_at_call 74;refine (YL _ _ _).mono ?_;rintro e w' ⟨rfl,rfl⟩))
   go_ret
   exact ⟨rfl,(Below.refl _ _).alloc (Nat.le_refl _) _⟩
  cases h3:inB my 1 255
  ·go_enter Tryz.func134,Tryz.ntmps134
   go_wp2_with (first | (go_at_call 123;refine (Z0 _ _ _ _).mono ?_;rintro e w' ⟨rfl,rfl⟩) | (go_at_call 190;refine (YW _ _).mono ?_;rintro e w' ⟨rfl,rfl⟩) | (go_at_call 74;refine (YL _ _ _).mono ?_;rintro e w' ⟨rfl,rfl⟩))
   go_ret
   exact ⟨rfl,(Below.refl _ _).alloc (Nat.le_refl _) _⟩
  cases h4:inB gu (-1) 5
  ·go_enter Tryz.func134,Tryz.ntmps134
   go_wp2_with (first | (go_at_call 123;refine (Z0 _ _ _ _).mono ?_;rintro e w' ⟨rfl,rfl⟩) | (go_at_call 190;refine (YW _ _).mono ?_;rintro e w' ⟨rfl,rfl⟩) | (go_at_call 74;refine (YL _ _ _).mono ?_;rintro e w' ⟨rfl,rfl⟩))
   go_ret
   exact ⟨rfl,(Below.refl _ _).alloc (Nat.le_refl _) _⟩
  cases h5:Yr lo hi
  ·go_enter Tryz.func134,Tryz.ntmps134
   go_wp2_with (first | (go_at_call 123;refine (Z0 _ _ _ _).mono ?_;rintro e w' ⟨rfl,rfl⟩) | (go_at_call 190;refine (YW _ _).mono ?_;rintro e w' ⟨rfl,rfl⟩) | (go_at_call 74;refine (YL _ _ _).mono ?_;rintro e w' ⟨rfl,rfl⟩))
   go_ret
   exact ⟨rfl,(Below.refl _ _).alloc (Nat.le_refl _) _⟩
  cases h6:inB hd (-1000000000000) 1000000000000
  ·go_enter Tryz.func134,Tryz.ntmps134
   go_wp2_with (first | (go_at_call 123;refine (Z0 _ _ _ _).mono ?_;rintro e w' ⟨rfl,rfl⟩) | (go_at_call 190;refine (YW _ _).mono ?_;rintro e w' ⟨rfl,rfl⟩) | (go_at_call 74;refine (YL _ _ _).mono ?_;rintro e w' ⟨rfl,rfl⟩))
   go_quiet (first | exact Calls.quiet_of_same (Z0 _ _ _ _) | exact Calls.quiet_of_same (XA _ _) | exact Calls.quiet_of_same (YS (uh Hw) _) | exact Calls.quiet_of_same (Yp _ _))
   go_wp2_with fail
   go_ret
   exact ⟨rfl,YC ((Below.refl _ _).alloc (Nat.le_refl _) _) _⟩
  cases h7:inB ca 0 (x-1)
  ·go_enter Tryz.func134,Tryz.ntmps134
   go_wp2_with (first | (go_at_call 123;refine (Z0 _ _ _ _).mono ?_;rintro e w' ⟨rfl,rfl⟩) | (go_at_call 190;refine (YW _ _).mono ?_;rintro e w' ⟨rfl,rfl⟩) | (go_at_call 74;refine (YL _ _ _).mono ?_;rintro e w' ⟨rfl,rfl⟩))
   go_quiet (first | exact Calls.quiet_of_same (Z0 _ _ _ _) | exact Calls.quiet_of_same (XA _ _) | exact Calls.quiet_of_same (YS (uh Hw) _) | exact Calls.quiet_of_same (Yp _ _))
   go_wp2_with fail
   go_ret
   exact ⟨rfl,YC ((Below.refl _ _).alloc (Nat.le_refl _) _) _⟩
  cases h8:inB ut 0 1024
  ·go_enter Tryz.func134,Tryz.ntmps134
   go_wp2_with (first | (go_at_call 123;refine (Z0 _ _ _ _).mono ?_;rintro e w' ⟨rfl,rfl⟩) | (go_at_call 190;refine (YW _ _).mono ?_;rintro e w' ⟨rfl,rfl⟩) | (go_at_call 74;refine (YL _ _ _).mono ?_;rintro e w' ⟨rfl,rfl⟩))
   go_quiet (first | exact Calls.quiet_of_same (Z0 _ _ _ _) | exact Calls.quiet_of_same (XA _ _) | exact Calls.quiet_of_same (YS (uh Hw) _) | exact Calls.quiet_of_same (Yp _ _))
   go_wp2_with fail
   go_ret
   exact ⟨rfl,YC ((Below.refl _ _).alloc (Nat.le_refl _) _) _⟩
  cases h9:inB wk 0 100000000000
  ·go_enter Tryz.func134,Tryz.ntmps134
   go_wp2_with (first | (go_at_call 123;refine (Z0 _ _ _ _).mono ?_;rintro e w' ⟨rfl,rfl⟩) | (go_at_call 190;refine (YW _ _).mono ?_;rintro e w' ⟨rfl,rfl⟩) | (go_at_call 74;refine (YL _ _ _).mono ?_;rintro e w' ⟨rfl,rfl⟩))
   go_quiet (first | exact Calls.quiet_of_same (Z0 _ _ _ _) | exact Calls.quiet_of_same (XA _ _) | exact Calls.quiet_of_same (YS (uh Hw) _) | exact Calls.quiet_of_same (Yp _ _))
   go_wp2_with fail
   go_ret
   exact ⟨rfl,YC ((Below.refl _ _).alloc (Nat.le_refl _) _) _⟩
  go_enter Tryz.func134,Tryz.ntmps134
  go_wp2_with (first | (go_at_call 123;refine (Z0 _ _ _ _).mono ?_;rintro e w' ⟨rfl,rfl⟩) | (go_at_call 190;refine (YW _ _).mono ?_;rintro e w' ⟨rfl,rfl⟩) | (go_at_call 74;refine (YL _ _ _).mono ?_;rintro e w' ⟨rfl,rfl⟩))
  go_quiet (first | exact Calls.quiet_of_same (Z0 _ _ _ _) | exact Calls.quiet_of_same (XA _ _) | exact Calls.quiet_of_same (YS (uh Hw) _) | exact Calls.quiet_of_same (Yp _ _))
  go_wp2_with fail
  go_ret
  exact ⟨rfl,YC ((Below.refl _ _).alloc (Nat.le_refl _) _) _⟩
end Go.Proofs.YtaegckehjlkaaaaGreat
namespace Go.Proofs.YtaegckehjlkaaaaGreat
open Go.ChangeShapes Go.WideShapes Go.ChangeAt Go.RowKit Go.Sort
set_option linter.unusedVariables false
theorem OG (st be rk my gu lo hi hd ca ut wk:Int) (w:World):Calls Tryz.prog 72 #[.agg #[.int .i64 st,.int .i64 be,.int .i64 rk,.int .i64 my,.int .i64 gu,.int .i64 lo,.int .i64 hi,.int .i64 hd,.int .i64 ca,.int .i64 ut,.int .i64 wk]] w fun e w'=>
  e= .returned (.bool (ZP (st,be,rk,my,gu,lo,hi,hd,ca,ut,wk)))/\Below w.heap.size w w':=by
 unfold ZP
 simp only
 cases h2:(st ==2)
 all_goals
  go_enter Tryz.func72,Tryz.ntmps72
  go_wp2_with fail
  go_ret
  exact ⟨by first | rfl | (simp),(Below.refl _ _).alloc (Nat.le_refl _) _⟩
theorem O9 (h m:Int) (w:World):Calls Tryz.prog 136 #[.int .i64 h,.int .i64 m] w fun e w'=>e= .returned (.bool (WV h m))/\w'=w:=by
 unfold WV
 cases h1:inB h (-1000000000000) 1000000000000
 ·go_enter Tryz.func136,Tryz.ntmps136
  go_wp2_with (first | (go_at_call 139;refine (XA _ _).mono ?_;rintro e w' ⟨rfl,rfl⟩) | (go_at_call 123;refine (Z0 _ _ _ _).mono ?_;rintro e w' ⟨rfl,rfl⟩))
  go_ret
  exact ⟨rfl,rfl⟩
 cases h2:inB m (-1000000000000) 1000000000000
 ·go_enter Tryz.func136,Tryz.ntmps136
  go_wp2_with (first | (go_at_call 139;refine (XA _ _).mono ?_;rintro e w' ⟨rfl,rfl⟩) | (go_at_call 123;refine (Z0 _ _ _ _).mono ?_;rintro e w' ⟨rfl,rfl⟩))
  go_ret
  exact ⟨rfl,rfl⟩
 obtain ⟨a0,a1⟩:=ZV h1
 obtain ⟨b0,b1⟩:=ZV h2
 go_enter Tryz.func136,Tryz.ntmps136
 go_wp2_with (first | (go_at_call 139;refine (XA _ _).mono ?_;rintro e w' ⟨rfl,rfl⟩) | (go_at_call 123;refine (Z0 _ _ _ _).mono ?_;rintro e w' ⟨rfl,rfl⟩))
 go_ret
 exact ⟨rfl,rfl⟩
end Go.Proofs.YtaegckehjlkaaaaGreat
