/- Part 37 of what the proof rests on. No condition but those that a theorem names. -/
import Derived.Test.YthbbahagpmdooaaGreatXq36
import Derived.Deep.DeepMust
set_option maxHeartbeats 8000000
set_option maxRecDepth 100000
namespace Go.Proofs.YthbbahagpmdooaaGreat
open Go.ChangeShapes Go.WideShapes Go.ChangeAt Go.RowKit Go.Sort
open Go.Lib (digitVal decFrom)
set_option linter.unusedVariables false
theorem RD {a b:Value} (h:a=b):Ending.returned a= .returned b:=by rw [h]
theorem Up {s:ByteArray} (h:0<s.size):s.data.toList=s[0]::s.data.toList.drop 1:=Rp s.data.toList 0 (by simpa using h)
theorem JC {s:ByteArray} {k:Nat} (h:k<s.size):s.data.toList[k]?=some s[k]:=by
 rw [List.getElem?_eq_getElem (by simpa using h)];rfl
theorem EU {s:ByteArray} {k:Nat} (h:k<s.size) (h1:1<=k):(s.data.toList.drop 1)[k-1]?=some s[k]:=by
 rw [List.getElem?_drop,show 1+(k-1)=k by omega];exact JC h
theorem EG {s:ByteArray} (h:0<s.size):s.toList.isEmpty=false:=by
 rw [ByteArray.toList_eq,Up h];rfl
theorem Ng {b c:UInt8} (h:b ≠ c):((b.toNat:Int) ==(c.toNat:Int))=false:=beq_eq_false_iff_ne.2 (fun e=>h (UInt8.toNat_inj.1 (by omega)))
theorem Nf {b c:UInt8} (h:b=c):((b.toNat:Int) ==(c.toNat:Int))=true:=by rw [h];simp
theorem JV (s:ByteArray) (w:World) (h0:0<s.size) (hm:s.size<=9223372036854775807) (h45:s[0] ≠ 45) :
  Calls Tryz.prog 175 #[.string s] w fun e w'=>e= .returned (XB s.data.toList)/\w'=w:=by
 have Hl:=Z9 (Up h0)
 have hemp:=EG h0
 have H45:=Z9 h45
 have hb45:((s[0].toNat:Int) ==45)=false:=Ng (c:=45) h45
 have hlen:s.data.toList.length=s.size:=by simp
 have Hlen:=Z9 hlen
 clear h45 hlen
 by_cases h9:9<s.size
 ·have hd1:decide ((s.size:Int)<1)=false:=decide_eq_false (by omega)
  have hd2:decide (9<(s.size:Int))=true:=decide_eq_true (by omega)
  have HN:Hid (XB s.data.toList= .tuple #[.int .i64 0,.bool false]):=Z9 (X9 (by rw [uh Hl];exact Vf (uh H45) (.inl (by rw [<-uh Hl,uh Hlen];omega))))
  go_enter Tryz.func175,Tryz.ntmps175
  go_wp2_with fail
  go_ret2
  exact ⟨RD (uh HN).symm,rfl⟩
 have hd1:decide ((s.size:Int)<1)=false:=decide_eq_false (by omega)
 have hd2:decide (9<(s.size:Int))=false:=decide_eq_false (by omega)
 go_enter Tryz.func175,Tryz.ntmps175
 go_wp2_with fail
 go_loop [6,7] (fun n i=> ∃ (k m:Nat),0<=k/\k<=s.size/\i= .int .i64 k/\n= .int .i64 m/\decFrom 0 (s.data.toList.take k)=some m) (fun _ i=>s.size-(intOf i).toNat)
 case atStart=>exact ⟨0,0,by omega,by omega,rfl,rfl,by simp [decFrom]⟩
 case round=>
  obtain ⟨k,m,hk1,hk,rfl,rfl,hdec⟩:=hrel
  have hmb:m<1000000000:=by
   have hx:=Go.Lib.decFrom_lt _ _ _ hdec
   have hy:(s.data.toList.take k).length<=9:=by rw [List.length_take];omega
   exact Nat.lt_of_lt_of_le (by simpa using hx) (Nat.le_trans (Nat.pow_le_pow_right (by decide) hy) (by decide))
  have Hdec:=Z9 hdec
  clear hdec
  by_cases hlt:k<s.size
  ·have hga:=JC hlt
   have Hga:=Z9 hga
   clear hga
   have hb8:s[k].toNat<=255:=by have:=s[k].toNat_lt;omega
   by_cases hd:s[k].toNat<48
   ·have HN:Hid (XB s.data.toList= .tuple #[.int .i64 0,.bool false]):=Z9 (X9 (by rw [uh Hl];by_cases hz:s[0]=48/\s.data.toList.drop 1 ≠ [];exact Vf (uh H45) (.inr hz);rw [Tg (uh H45) (by rw [<-uh Hl,uh Hlen];omega) hz,<-uh Hl,VH (n:=0) (uh Hga) (S8 (by omega))];rfl))
    have ht:decide ((s[k].toNat:Int)<48)=true:=decide_eq_true (by omega)
    go_wp2_with fail
    go_ret2
    exact ⟨RD (uh HN).symm,rfl⟩
   by_cases hd':57<s[k].toNat
   ·have HN:Hid (XB s.data.toList= .tuple #[.int .i64 0,.bool false]):=Z9 (X9 (by rw [uh Hl];by_cases hz:s[0]=48/\s.data.toList.drop 1 ≠ [];exact Vf (uh H45) (.inr hz);rw [Tg (uh H45) (by rw [<-uh Hl,uh Hlen];omega) hz,<-uh Hl,VH (n:=0) (uh Hga) (S8 (by omega))];rfl))
    have ht:decide ((s[k].toNat:Int)<48)=false:=decide_eq_false (by omega)
    have ht':decide (57<(s[k].toNat:Int))=true:=decide_eq_true (by omega)
    go_wp2_with fail
    go_ret2
    exact ⟨RD (uh HN).symm,rfl⟩
   ·have ht:decide ((s[k].toNat:Int)<48)=false:=decide_eq_false (by omega)
    have ht':decide (57<(s[k].toNat:Int))=false:=decide_eq_false (by omega)
    have Hn:=Z9 (Go.Lib.decFrom_take s.data.toList k 0 m s[k] (s[k].toNat-48) (uh Hdec) (uh Hga) (Ln (by omega) (by omega)))
    have Hx:Hid (((m*10+(s[k].toNat-48):Nat):Int)=(m:Int)*10+((s[k].toNat:Int)-48)):=Z9 (by omega)
    have g1:48<=(s[k].toNat:Int):=by omega
    have g2:(s[k].toNat:Int)<=57:=by omega
    go_wp2_with fail
    go_round
    case rel=>exact ⟨k+1,m*10+(s[k].toNat-48),by omega,by omega,by go_num,by rw [uh Hx],uh Hn⟩
    case measure=>simp [intOf];omega
  ·obtain rfl:k=s.size:=by omega
   have Hall:Hid (decFrom 0 s.data.toList=some m):=Z9 (by have hh:=uh Hdec;rwa [List.take_of_length_le (by rw [uh Hlen];omega)] at hh)
   by_cases hz:s[0]=48
   ·have hb48:((s[0].toNat:Int) ==48)=true:=Nf (c:=48) hz
    by_cases h1s:1<s.size
    ·have ht:decide (1<(s.size:Int))=true:=decide_eq_true (by omega)
     have HN:Hid (XB s.data.toList= .tuple #[.int .i64 0,.bool false]):=Z9 (X9 (by rw [uh Hl];exact Vf (uh H45) (.inr ⟨hz,fun e=>by have:=congrArg List.length e;rw [List.length_drop,uh Hlen] at this;simp at this;omega⟩)))
     clear hz
     go_wp2_with fail
     go_ret2
     exact ⟨RD (uh HN).symm,rfl⟩
    ·have ht:decide (1<(s.size:Int))=false:=decide_eq_false (by omega)
     have HN:Hid (XB s.data.toList= .tuple #[.int .i64 m,.bool true]):=Z9 (SL (by rw [uh Hl,Tg (uh H45) (by rw [<-uh Hl,uh Hlen];omega) (fun hh=>hh.2 (List.eq_nil_of_length_eq_zero (by rw [List.length_drop,uh Hlen];omega))),<-uh Hl,uh Hall];rfl))
     clear hz
     go_wp2_with fail
     go_ret2
     exact ⟨RD (uh HN).symm,rfl⟩
   ·have hb48:((s[0].toNat:Int) ==48)=false:=Ng (c:=48) hz
    have HN:Hid (XB s.data.toList= .tuple #[.int .i64 m,.bool true]):=Z9 (SL (by rw [uh Hl,Tg (uh H45) (by rw [<-uh Hl,uh Hlen];omega) (fun hh=>hz hh.1),<-uh Hl,uh Hall];rfl))
    clear hz
    go_wp2_with fail
    go_ret2
    exact ⟨RD (uh HN).symm,rfl⟩
theorem JU (s:ByteArray) (w:World) (h0:0<s.size) (hm:s.size<=9223372036854775807) (h45:s[0]=45) :
  Calls Tryz.prog 175 #[.string s] w fun e w'=>e= .returned (XB s.data.toList)/\w'=w:=by
 have Hl:=Z9 (Up h0)
 have hemp:=EG h0
 have H45:=Z9 h45
 have hb45:((s[0].toNat:Int) ==45)=true:=Nf (c:=45) h45
 have hlen:s.data.toList.length=s.size:=by simp
 have Hlen:=Z9 hlen
 clear h45 hlen
 by_cases h9:10<s.size
 ·have hd1:decide ((s.size:Int)-1<1)=false:=decide_eq_false (by omega)
  have hd2:decide (9<(s.size:Int)-1)=true:=decide_eq_true (by omega)
  have HN:Hid (XB s.data.toList= .tuple #[.int .i64 0,.bool false]):=Z9 (X9 (by rw [uh Hl];rw [uh H45];exact Wd (.inr (.inl (by rw [List.length_drop,uh Hlen];omega)))))
  go_enter Tryz.func175,Tryz.ntmps175
  go_wp2_with fail
  go_ret2
  exact ⟨RD (uh HN).symm,rfl⟩
 by_cases h1s:s.size<2
 ·have hd1:decide ((s.size:Int)-1<1)=true:=decide_eq_true (by omega)
  have HN:Hid (XB s.data.toList= .tuple #[.int .i64 0,.bool false]):=Z9 (X9 (by rw [uh Hl,uh H45];exact Wd (.inl (List.eq_nil_of_length_eq_zero (by rw [List.length_drop,uh Hlen];omega)))))
  go_enter Tryz.func175,Tryz.ntmps175
  go_wp2_with fail
  go_ret2
  exact ⟨RD (uh HN).symm,rfl⟩
 have hd1:decide ((s.size:Int)-1<1)=false:=decide_eq_false (by omega)
 have hd2:decide (9<(s.size:Int)-1)=false:=decide_eq_false (by omega)
 go_enter Tryz.func175,Tryz.ntmps175
 go_wp2_with fail
 go_loop [6,7] (fun n i=> ∃ (k m:Nat),1<=k/\k<=s.size/\i= .int .i64 k/\n= .int .i64 m/\decFrom 0 ((s.data.toList.drop 1).take (k-1))=some m) (fun _ i=>s.size-(intOf i).toNat)
 case atStart=>exact ⟨1,0,by omega,by omega,rfl,rfl,by simp [decFrom]⟩
 case round=>
  obtain ⟨k,m,hk1,hk,rfl,rfl,hdec⟩:=hrel
  have hmb:m<1000000000:=by
   have hx:=Go.Lib.decFrom_lt _ _ _ hdec
   have hy:((s.data.toList.drop 1).take (k-1)).length<=9:=by rw [List.length_take];omega
   exact Nat.lt_of_lt_of_le (by simpa using hx) (Nat.le_trans (Nat.pow_le_pow_right (by decide) hy) (by decide))
  have Hdec:=Z9 hdec
  clear hdec
  by_cases hlt:k<s.size
  ·have hga:=EU hlt hk1
   have Hga:=Z9 hga
   clear hga
   have hb8:s[k].toNat<=255:=by have:=s[k].toNat_lt;omega
   by_cases hd:s[k].toNat<48
   ·have HN:Hid (XB s.data.toList= .tuple #[.int .i64 0,.bool false]):=Z9 (X9 (by rw [uh Hl,uh H45];by_cases hz:(s.data.toList.drop 1).head?=some 48;exact Wd (.inr (.inr hz));rw [RB (fun e=>by have:=congrArg List.length e;rw [List.length_drop,uh Hlen] at this;simp at this;omega) (by rw [List.length_drop,uh Hlen];omega) hz,VH (n:=0) (uh Hga) (S8 (by omega))];rfl))
    have ht:decide ((s[k].toNat:Int)<48)=true:=decide_eq_true (by omega)
    go_wp2_with fail
    go_ret2
    exact ⟨RD (uh HN).symm,rfl⟩
   by_cases hd':57<s[k].toNat
   ·have HN:Hid (XB s.data.toList= .tuple #[.int .i64 0,.bool false]):=Z9 (X9 (by rw [uh Hl,uh H45];by_cases hz:(s.data.toList.drop 1).head?=some 48;exact Wd (.inr (.inr hz));rw [RB (fun e=>by have:=congrArg List.length e;rw [List.length_drop,uh Hlen] at this;simp at this;omega) (by rw [List.length_drop,uh Hlen];omega) hz,VH (n:=0) (uh Hga) (S8 (by omega))];rfl))
    have ht:decide ((s[k].toNat:Int)<48)=false:=decide_eq_false (by omega)
    have ht':decide (57<(s[k].toNat:Int))=true:=decide_eq_true (by omega)
    go_wp2_with fail
    go_ret2
    exact ⟨RD (uh HN).symm,rfl⟩
   ·have ht:decide ((s[k].toNat:Int)<48)=false:=decide_eq_false (by omega)
    have ht':decide (57<(s[k].toNat:Int))=false:=decide_eq_false (by omega)
    have Hn:=Z9 (Go.Lib.decFrom_take (s.data.toList.drop 1) (k-1) 0 m s[k] (s[k].toNat-48) (uh Hdec) (uh Hga) (Ln (by omega) (by omega)))
    have Hx:Hid (((m*10+(s[k].toNat-48):Nat):Int)=(m:Int)*10+((s[k].toNat:Int)-48)):=Z9 (by omega)
    have g1:48<=(s[k].toNat:Int):=by omega
    have g2:(s[k].toNat:Int)<=57:=by omega
    go_wp2_with fail
    go_round
    case rel=>exact ⟨k+1,m*10+(s[k].toNat-48),by omega,by omega,by go_num,by rw [uh Hx],by have hh:=uh Hn;rwa [show k-1+1=k+1-1 by omega] at hh⟩
    case measure=>simp [intOf];omega
  ·obtain rfl:k=s.size:=by omega
   have Hall:Hid (decFrom 0 (s.data.toList.drop 1)=some m):=Z9 (by have hh:=uh Hdec;rwa [List.take_of_length_le (by rw [List.length_drop,uh Hlen];omega)] at hh)
   have hs1:1<s.size:=by omega
   have Hh:Hid ((s.data.toList.drop 1).head?=some s[1]):=Z9 (by rw [List.head?_drop];exact JC hs1)
   have Hne:Hid (s.data.toList.drop 1 ≠ []):=Z9 (fun e=>by have:=congrArg List.length e;rw [List.length_drop,uh Hlen] at this;simp at this;omega)
   by_cases hz:s[1]=48
   ·have hb48:((s[1].toNat:Int) ==48)=true:=Nf (c:=48) hz
    have HN:Hid (XB s.data.toList= .tuple #[.int .i64 0,.bool false]):=Z9 (X9 (by rw [uh Hl,uh H45];exact Wd (.inr (.inr (by rw [uh Hh,hz])))))
    clear hz
    go_wp2_with fail
    go_ret2
    exact ⟨RD (uh HN).symm,rfl⟩
   ·have hb48:((s[1].toNat:Int) ==48)=false:=Ng (c:=48) hz
    have HN:Hid (XB s.data.toList= .tuple #[.int .i64 (-(m:Int)),.bool true]):=Z9 (SL (by rw [uh Hl,uh H45,RB (uh Hne) (by rw [List.length_drop,uh Hlen];omega) (fun e=>hz (by rw [uh Hh] at e;exact Option.some.inj e)),uh Hall];rfl))
    clear hz
    go_wp2_with fail
    go_ret2
    exact ⟨RD (uh HN).symm,rfl⟩
theorem SG (s:ByteArray) (w:World) (hm:s.size<=9223372036854775807) :
  Calls Tryz.prog 175 #[.string s] w fun e w'=>e= .returned (XB s.data.toList)/\w'=w:=by
 by_cases h0:0<s.size
 ·by_cases h45:s[0]=45
  ·exact JU s w h0 hm h45
  ·exact JV s w h0 hm h45
 ·have hd:s.data.toList=[]:=List.eq_nil_of_length_eq_zero (by rw [show s.data.toList.length=s.size by simp];omega)
  have hemp:s.toList.isEmpty=true:=by rw [ByteArray.toList_eq,hd];rfl
  have HN:Hid (XB s.data.toList= .tuple #[.int .i64 0,.bool false]):=Z9 (X9 (by rw [hd];rfl))
  have hz:s.size=0:=by omega
  clear hd
  go_enter Tryz.func175,Tryz.ntmps175
  go_wp2_with fail
  go_ret2
  exact ⟨RD (uh HN).symm,rfl⟩
theorem Vh {c:UInt8} {l p:Txt} (h:p ∈ Zm c l) (hl:l.length<=1048576):p.length<=1048576:=by
 have:=VA c l [] p h;simp at this;omega
theorem NV {l:Txt} {n:Nat} (h:l.length<=n):(bs l).size<=n:=by rw [ES];exact h
theorem Mz {l:Txt} : -999999999<=(YD l).getD 0/\(YD l).getD 0<=999999999:=by
 cases h:YD l with
 | none=>simp
 | some v=>have:=Uw h;simp;omega
theorem JX (l:Txt) (w:World) (hl:l.length<=1048576) :
  Calls Tryz.prog 176 #[.string (bs l)] w fun e w'=> ∃ (f k:Int) (b:Bool),e= .returned (.tuple #[.agg #[.int .i64 f,.int .i64 k],.bool b])/\(b=true->YN l=some (f,k))/\(b=false->YN l=none)/\Below w.heap.size w w':=by
 have Hb0:Hid (∀ o,Below w.heap.size w (w.alloc o)):=Z9 (fun o=>(Below.refl _ _).alloc (Nat.le_refl _) _)
 go_enter Tryz.func176,Tryz.ntmps176
 go_wp2_with fail
 refine (TE (bs l) 58 _ (NV hl)).mono ?_
 rw [S5]
 rintro e w1 ⟨v,rfl,hst,hb⟩
 have hsz:w.heap.size+1<=w1.heap.size:=by have:=hb.size;simpa using this
 obtain ⟨cc,ff⟩:=Fi hb
 have x0:=cc w.heap.size 0 (by simp)
 have x1:=cc w.heap.size 1 (by simp)
 have f0:=ff w.heap.size 0 (by simp)
 have f1:=ff w.heap.size 1 (by simp)
 have B1:Hid (Below w.heap.size w w1):=Z9 ((uh Hb0 _).trans (hb.mono (by simp)))
 obtain ⟨a,cap,rfl,hc,hm,hr⟩:=hst.view
 have Hr:=Z9 hr
 clear hst hr hb cc ff
 by_cases h2:(Zm 58 l).length=2
 ·obtain ⟨p,q,hpq⟩:∃ p q,Zm 58 l=[p,q]:=by
   match hx:Zm 58 l,h2 with
   | [p,q],_=>exact ⟨p,q,rfl⟩
  have Hpq:=Z9 hpq
  rcases uh Hr with h0 | ⟨g,rfl,hg1,hg2,hcl⟩
  ·rw [h0] at h2;simp at h2
  have c0:=hcl 0 (by omega)
  have c1:=hcl 1 (by omega)
  have hp1:=Vh (c:=58) (l:=l) (p:=p) (by rw [hpq];simp) hl
  have hq1:=Vh (c:=58) (l:=l) (p:=q) (by rw [hpq];simp) hl
  rw [hpq] at c0 c1
  simp only [List.getD_cons_zero,List.getD_cons_succ] at c0 c1
  have Hread:Hid (YN l=(YD p).bind fun f=>(YD q).bind fun k=>some (f,k)):=Z9 (by unfold YN;rw [hpq])
  have hne:g ≠ w.heap.size:=by simp at hg1;omega
  clear hcl Hr hpq
  generalize (Zm 58 l).length=n2 at *
  subst h2
  go_wp2_with fail
  refine (SG (bs p) _ (by have:=NV hp1;omega)).mono ?_
  rw [S5]
  rintro e w' ⟨rfl,hw'⟩
  subst w'
  unfold XB
  have hbp:=Mz (l:=p)
  generalize hrp:YD p=rp at *
  have Hrp:=Z9 hrp
  clear hrp
  go_wp2_with fail
  refine (SG (bs q) _ (by have:=NV hq1;omega)).mono ?_
  rw [S5]
  rintro e w' ⟨rfl,hw'⟩
  subst w'
  unfold XB
  generalize hrq:YD q=rq at *
  have Hrq:=Z9 hrq
  clear hrq
  cases rp with
  | none=>
   have Hz:Hid (YN l=none):=Z9 (by rw [uh Hread];rfl)
   simp only [Option.getD_none,Option.isSome_none]
   go_wp2_with fail
   exact bodyPost_ret (v:= .tuple #[.agg #[.int .i64 0,.int .i64 (rq.getD 0)],.bool false]) (by simp [results,Tryz.results176,go_sem, *]) rfl ⟨_,_,_,rfl,fun h=>(by cases h),fun _=>uh Hz,((uh B1).setCell (by show _<=w.heap.size;omega) _).setCell (by show _<=w.heap.size;omega) _⟩
  | some f=>
   cases rq with
   | none=>
    have Hz:Hid (YN l=none):=Z9 (by rw [uh Hread];rfl)
    simp only [Option.getD_none,Option.isSome_none,Option.getD_some,Option.isSome_some]
    go_wp2_with fail
    exact bodyPost_ret (v:= .tuple #[.agg #[.int .i64 f,.int .i64 0],.bool false]) (by simp [results,Tryz.results176,go_sem, *]) rfl ⟨_,_,_,rfl,fun h=>(by cases h),fun _=>uh Hz,((uh B1).setCell (by show _<=w.heap.size;omega) _).setCell (by show _<=w.heap.size;omega) _⟩
   | some k=>
    have Hz:Hid (YN l=some (f,k)):=Z9 (by rw [uh Hread];rfl)
    simp only [Option.getD_some,Option.isSome_some]
    go_wp2_with fail
    exact bodyPost_ret (v:= .tuple #[.agg #[.int .i64 f,.int .i64 k],.bool true]) (by simp [results,Tryz.results176,go_sem, *]) rfl ⟨_,_,_,rfl,fun _=>uh Hz,fun h=>(by cases h),((uh B1).setCell (by show _<=w.heap.size;omega) _).setCell (by show _<=w.heap.size;omega) _⟩
 ·have Hz:Hid (YN l=none):=Z9 (by
   unfold YN
   split
   ·rename_i a b hx;rw [hx] at h2;simp at h2
   ·rfl)
  have hne:(((Zm 58 l).length:Int) !=2)=true:=by rw [bne_iff_ne];omega
  have hcc:((Zm 58 l).length:Int)<=9223372036854775807:=by omega
  generalize (Zm 58 l).length=n2 at *
  go_wp2_with fail
  exact bodyPost_ret (v:= .tuple #[.agg #[.int .i64 0,.int .i64 0],.bool false]) (by simp [results,Tryz.results176,go_sem, *]) rfl ⟨_,_,_,rfl,fun h=>(by cases h),fun _=>uh Hz,((uh B1).setCell (by show _<=w.heap.size;omega) _).setCell (by show _<=w.heap.size;omega) _⟩
theorem Ob {α β:Type} {f:α->Option β} {l:List α} {k:Nat} {xs:List β} {y:β} (hk:k<l.length) (h:(l.take k).mapM f=some xs) (hy:f l[k]=some y):(l.take (k+1)).mapM f=some (xs++[y]):=by
 rw [List.take_succ_eq_append_getElem hk,List.mapM_append,h];simp [hy]
theorem Rz {α β:Type} {f:α->Option β} : ∀ {l:List α} {k:Nat} (hk:k<l.length),f l[k]=none->l.mapM f=none
 | x::l,0,_,h=>by simp at h;simp [List.mapM_cons,h]
 | x::l,k+1,hk,h=>by
  have ih:=Rz (f:=f) (l:=l) (k:=k) (by simpa using hk) (by simpa using h)
  rw [List.mapM_cons,ih];cases f x<;>rfl
theorem MA {l a:Txt} {ws:List Txt} (h:Zm 32 l=a::ws):Y3 l=(YD a).bind fun n=>(ws.mapM YN).bind fun ps=>some (n,ps):=by unfold Y3;rw [h]
theorem OM {l:Txt} (h:(Zm 47 l).mapM Y3=none):YW l=none:=by unfold YW;rw [h];rfl
theorem ON {l:Txt} {rs:List Z0} (h:(Zm 47 l).mapM Y3=some rs) (hb:Zb rs=true):YW l=some rs:=by unfold YW;rw [h];simp [hb]
theorem NC {l:Txt} {rs:List Z0} (h:(Zm 47 l).mapM Y3=some rs) (hb:Zb rs=false):YW l=none:=by unfold YW;rw [h];simp [hb]
theorem Nh (w:World) (u u':Value) (t:TypeId):∀ (j:Nat) (x:Value),([u,u']:List Value)[j]?=some x->(w.alloc (.cells #[u,u'] t)).cell? ((⟨w.heap.size,0,none⟩:Addr).add j)=some x:=by
 intro j x h
 match j with
 | 0=>simp at h;subst h;simp [Addr.add]
 | 1=>simp at h;subst h;simp [Addr.add]
 | j+2=>simp at h
theorem To (w:World) (u u':Value) (t:TypeId) (b:Nat) (hb:b=w.heap.size):∀ (j:Nat) (x:Value),([u,u']:List Value)[j]?=some x->(w.alloc (.cells #[u,u'] t)).cell? ((⟨b,0,none⟩:Addr).add j)=some x:=by
 subst hb;exact Nh w u u' t
theorem PacesAt.push {B:Nat} {w w1:World} {v v':Value} {ps:List Z5} {f k:Int} {o:Obj} (h:PacesAt B w v ps) (hB:B<=w.heap.size)
  (hown:w1.ownsRow B 188 2 v' (ps.length+1) (YG ps++[.int .i64 f,.int .i64 k])) (hg:(w.alloc o).grownBy w1 v.ownBlock) :
  PacesAt B w1 v' (ps++[(f,k)])/\Below B w w1:=by
 refine ⟨?_,((Below.refl B w).alloc hB o).grown hg (by simp;omega) (fun j e=>(h.lt e).1)⟩
 unfold PacesAt
 simpa [YG] using hown
theorem My {b:Nat} {w w6:World} {v v':Value} {ps:List Z5} {n f kk:Int} {o:Obj} (hp:PacesAt (b+1) w v ps) (hsz:b+1<=w.heap.size)
  (hown:w6.ownsRow (b+1) 188 2 v' (ps.length+1) (YG ps++[.int .i64 f,.int .i64 kk])) (hg:(w.alloc o).grownBy w6 v.ownBlock)
  (c0:w.cell? ⟨b,0,none⟩=some (.int .i64 n)) (c1:w.cell? ⟨b,1,none⟩=some v) (c2:w.frozen? ⟨b,1,none⟩=false) :
  ∃ a cap,v'= .slice a (ps.length+1) cap/\w6.cell? ⟨b,1,none⟩=some v/\w6.frozen? ⟨b,1,none⟩=false/\
   Hid ((w6.setCell ⟨b,1,none⟩ v').cell? ⟨b,0,none⟩=some (.int .i64 n)/\(w6.setCell ⟨b,1,none⟩ v').cell? ⟨b,1,none⟩=some v'/\(w6.setCell ⟨b,1,none⟩ v').frozen? ⟨b,1,none⟩=false/\
    PacesAt (b+1) (w6.setCell ⟨b,1,none⟩ v') v' (ps++[(f,kk)])/\Below b w (w6.setCell ⟨b,1,none⟩ v')/\b+1<=(w6.setCell ⟨b,1,none⟩ v').heap.size):=by
 obtain ⟨hpa,hbl⟩:=hp.push hsz hown hg
 obtain ⟨a,cap,hsh⟩:=hpa.shape
 have d0:=(hbl.cell (p:=⟨b,0,none⟩) (by show b<b+1;omega)).trans c0
 have d1:=(hbl.cell (p:=⟨b,1,none⟩) (by show b<b+1;omega)).trans c1
 have d2:=(hbl.frozen (p:=⟨b,1,none⟩) (by show b<b+1;omega)).trans c2
 refine ⟨a,cap,by simpa using hsh,d1,d2,?_⟩
 refine ⟨?_,?_,?_,?_,?_,?_⟩
 ·rw [World.cell?_setCell_other _ _ _ _ (by simp)];exact d0
 ·exact World.cell?_setCell_same _ _ _ d1
 ·rw [World.frozen?_setCell];exact d2
 ·exact XX hpa (fun q e=>Below.heap_setCell w6 ⟨b,1,none⟩ v' q (by have:=(hpa.lt e).1;show q ≠ b;omega))
 ·have hb0:Below b w w6:=hbl.mono (Nat.le_succ b)
  exact hb0.setCell (Nat.le_refl b) v'
 ·have:=hbl.size;simp;omega
theorem F5 {b n₀:Nat} {w w6:World} {v v' pv:Value} {qs:List (Z0 × Value)} {ps:List Z5} {n:Int} {o:Obj} (h:OwnHall n₀ w v qs) (hp:PacesAt n₀ w pv ps)
  (hoff:∀ b,pv.ownBlock=some b->v.ownBlock ≠ some b) (hap:∀ q ∈ qs,∀ b,q.2.ownBlock=some b->pv.ownBlock ≠ some b)
  (hown:w6.ownsRow n₀ 116 2 v' (qs.length+1) (PO qs++[.int .i64 n,pv])) (hg:(w.alloc o).grownBy w6 v.ownBlock) (hat:v'.ownBlock=v.ownBlock\/v'.ownBlock=some (w.alloc o).heap.size)
  (hb:b<n₀) (hsz:n₀<=w.heap.size) (c1:w.cell? ⟨b,0,none⟩=some v) (c2:w.frozen? ⟨b,0,none⟩=false) :
  ∃ a cap,v'= .slice a (qs.length+1) cap/\w6.cell? ⟨b,0,none⟩=some v/\w6.frozen? ⟨b,0,none⟩=false/\
   Hid ((w6.setCell ⟨b,0,none⟩ v').cell? ⟨b,0,none⟩=some v'/\(w6.setCell ⟨b,0,none⟩ v').frozen? ⟨b,0,none⟩=false/\
    OwnHall n₀ (w6.setCell ⟨b,0,none⟩ v') v' (qs++[((n,ps),pv)])/\Below n₀ w w6):=by
 have hpush:=h.push hp hoff hap hown hg hat
 have hbl:Below n₀ w w6:=((Below.refl n₀ w).alloc hsz o).grown hg (by simp;omega) (fun j e=>(h.lt (.inl e)).1)
 obtain ⟨a,cap,hsh⟩:=hpush.shape
 have d1:=(hbl.cell (p:=⟨b,0,none⟩) hb).trans c1
 have d2:=(hbl.frozen (p:=⟨b,0,none⟩) hb).trans c2
 refine ⟨a,cap,by simpa using hsh,d1,d2,?_,?_,?_,hbl⟩
 ·exact World.cell?_setCell_same _ _ _ d1
 ·rw [World.frozen?_setCell];exact d2
 ·exact hpush.same (fun k h0 hk=>Below.heap_setCell w6 ⟨b,0,none⟩ v' k (by show k ≠ b;omega))
def EM (l:Txt) (n₀:Nat) (e:Ending) (w':World):Prop:=
 (∃ v qs,e= .returned (.tuple #[.agg #[v],.bool true])/\YW l=some (qs.map (·.1))/\OwnHall n₀ w' v qs)\/(e= .returned (.tuple #[.agg #[.slice none 0 0],.bool false])/\YW l=none)
theorem RI (l:Txt) (w:World) (hl:l.length<=1048576) :
  Calls Tryz.prog 143 #[.string (bs l)] w fun e w'=>EM l w.heap.size e w'/\Below w.heap.size w w':=by
 obtain ⟨i1,hi1,hp0,hp1,hp2⟩:=info_parts GY
 obtain ⟨i2,hi2,hr0,hr1,hr2⟩:=info_parts N1
 go_enter Tryz.func143,Tryz.ntmps143
 go_wp2_with fail
 refine (TE (bs l) 47 _ (NV hl)).mono ?_
 rw [S5]
 rintro e w2 ⟨rv,rfl,hst,hb⟩
 have hsz:w.heap.size+2<=w2.heap.size:=by have:=hb.size;simp at this;omega
 obtain ⟨cc,ff⟩:=Fi hb
 have x0:=cc w.heap.size 0 (by simp;omega)
 have x1:=cc (w.heap.size+1) 0 (by simp)
 have f0:=ff w.heap.size 0 (by simp;omega)
 have f1:=ff (w.heap.size+1) 0 (by simp)
 simp at x0 x1
 have g0:w2.frozen? ⟨w.heap.size,0,none⟩=false:=by rw [f0,frozen?_alloc_cells,frozen?_alloc_cells];exact Ui (Nat.le_refl _)
 have g1:w2.frozen? ⟨w.heap.size+1,0,none⟩=false:=by rw [f1,frozen?_alloc_cells,frozen?_alloc_cells];exact Ui (by omega)
 have B2:Hid (Below w.heap.size w w2):=Z9 ((((Below.refl _ _).alloc (Nat.le_refl _) _).alloc (by simp) _).trans (hb.mono (by simp;omega)))
 have hpl:=XI 47 l []
 have Hsm:Hid (∀ p ∈ Zm 47 l,p.length<=1048576):=Z9 (fun p hp=>Vh hp hl)
 obtain ⟨ra,rcap,rfl,hrc,hrm,hrr⟩:=hst.view
 rcases hrr with h0 | ⟨g,rfl,hg1,hg2,hcl⟩
 ·exact absurd h0 (Oq _ _)
 have hg1':w.heap.size+2<=g:=by simp at hg1;omega
 have Hcl:=Z9 hcl
 have hpl':(Zm 47 l).length<=1048577:=by unfold Zm;omega
 clear hst hb cc ff hcl hg1 f0 f1 hpl
 have HN:Hid (YW l=((Zm 47 l).mapM Y3).bind fun rs=>if Zb rs=true then some rs else none):=Z9 rfl
 have Hnone:Hid ((Zm 47 l).mapM Y3=none->YW l=none):=Z9 OM
 have Hsome:Hid (∀ rs,(Zm 47 l).mapM Y3=some rs->Zb rs=true->YW l=some rs):=Z9 (fun rs=>ON)
 have Hbad:Hid (∀ rs,(Zm 47 l).mapM Y3=some rs->Zb rs=false->YW l=none):=Z9 (fun rs=>NC)
 generalize Zm 47 l=pc at *
 go_wp2_with fail
 go_loopw [6] (fun i wr=> ∃ (k:Nat) (v:Value) (qs:List (Z0 × Value)),k<=pc.length/\i= .int .i64 k/\wr.cell? ⟨w.heap.size+1,0,none⟩=some v/\wr.frozen? ⟨w.heap.size+1,0,none⟩=false/\OwnHall w2.heap.size wr v qs/\qs.length=k/\(pc.take k).mapM Y3=some (qs.map (·.1))/\But (w.heap.size+1) w2 wr) (fun i _=>pc.length-(intOf i).toNat)
 case atStart=>exact ⟨0,_,[],Nat.zero_le _,rfl,x1,g1,OwnHall.nil _ _,rfl,rfl,But.refl _ _⟩
 case round=>
  obtain ⟨wo,rfl⟩:∃ wo,wo=wr:=⟨wr,rfl⟩
  obtain ⟨k,v,qs,hk,rfl,hv,hfv,hoh,hql,hmap,hbut⟩:=hrel
  have Hoh:=Z9 hoh
  have Hmap:=Z9 hmap
  have Hbut:=Z9 hbut
  have hz2:=hbut.size
  have Hql:=Z9 hql
  have Hv:=Z9 hv
  have Hfv:=Z9 hfv
  have y0:wo.cell? ⟨w.heap.size,0,none⟩=some (.slice none 0 0):=(hbut.cell (p:=⟨w.heap.size,0,none⟩) (by show w.heap.size<_;omega) (by show w.heap.size ≠ _;omega)).trans x0
  have Hy0:=Z9 y0
  obtain ⟨va,vcap,rfl⟩:=hoh.shape
  by_cases hlt:k<pc.length
  ·have hck:=(hbut.cell (p:=⟨g,k,none⟩) hg2 (by show g ≠ _;omega)).trans (uh Hcl k hlt)
   have hget:pc.getD k []=pc[k]:=by simp [List.getD,hlt]
   rw [hget] at hck
   have hpk:=uh Hsm pc[k] (List.getElem_mem hlt)
   have HX:Hid (Y3 pc[k]=none->pc.mapM Y3=none):=Z9 (fun h=>Rz hlt h)
   have HY:Hid (∀ y,Y3 pc[k]=some y->(pc.take (k+1)).mapM Y3=some (qs.map (·.1)++[y])):=Z9 (fun y h=>Ob hlt (uh Hmap) h)
   generalize pc[k]=pk at *
   clear hoh hmap hbut hql y0 hget
   go_wp2_with fail
   refine (TE (bs pk) 32 _ (NV hpk)).mono ?_
   rw [S5]
   rintro e w3 ⟨wv,rfl,hst3,hb3⟩
   have hz3:=hb3.size
   have Hb3:=Z9 hb3
   have hwl:=XI 32 pk []
   obtain ⟨wd,ws,hww⟩:∃ wd ws,Zm 32 pk=wd::ws:=by
    cases hx:Zm 32 pk with
    | nil=>exact absurd hx (Oq _ _)
    | cons a b=>exact ⟨a,b,rfl⟩
   have Hsm2:Hid (∀ p ∈ wd::ws,p.length<=1048576):=Z9 (fun p hp=>Vh (c:=32) (by rw [hww];exact hp) hpk)
   have hwl':ws.length<=1048576:=by have h9:=hwl.2;unfold Zm at hww;rw [hww] at h9;simp at h9;omega
   have HRR:=Z9 (MA hww)
   rw [hww] at hst3
   obtain ⟨wa,wcap,rfl,hwc,hwm,hwr⟩:=hst3.view
   rcases hwr with h0 | ⟨g3,rfl,hg31,hg32,hcl3⟩
   ·cases h0
   have Hcl3:=Z9 hcl3
   have hc30:=hcl3 0 (by simp)
   simp only [List.getD_cons_zero] at hc30
   have hlen3:(wd::ws).length=ws.length+1:=rfl
   have hwdl:=uh Hsm2 wd (by simp)
   clear hst3 hcl3 hb3 hwl hww hpk
   rw [hlen3] at *
   go_wp2_with fail
   refine (SG (bs wd) _ (by have:=NV hwdl;omega)).mono ?_
   rw [S5]
   rintro e w' ⟨rfl,hw'⟩
   subst w'
   unfold XB
   have hnb:=Mz (l:=wd)
   have HisT:Hid ((YD wd).isSome=true->YD wd=some ((YD wd).getD 0)):=Z9 (fun h=>by cases hx:YD wd with | none=>rw [hx] at h;cases h | some y=>rfl)
   have HisF:Hid ((YD wd).isSome=false->Y3 pk=none):=Z9 (fun h=>by rw [uh HRR];cases hx:YD wd with | none=>rfl | some y=>rw [hx] at h;cases h)
   generalize (YD wd).getD 0=n at *
   generalize hib:(YD wd).isSome=ib at *
   have Hib:=Z9 hib
   clear hib
   go_wp2_with fail
   have hRB:(w3.alloc (.cells #[.int .i64 n,.slice none 0 0] 116)).frozen? ⟨w3.heap.size,1,none⟩=false:=by rw [frozen?_alloc_cells];exact Ui (Nat.le_refl _)
   go_loopw [9,11] (fun q i wi=> ∃ (m:Nat) (b:Bool) (pv:Value) (ps:List Z5),m<=ws.length/\i= .int .i64 (m+1)/\q= .bool b/\wi.cell? ⟨w3.heap.size,0,none⟩=some (.int .i64 n)/\wi.cell? ⟨w3.heap.size,1,none⟩=some pv/\wi.frozen? ⟨w3.heap.size,1,none⟩=false/\PacesAt (w3.heap.size+1) wi pv ps/\ps.length=m/\Below w3.heap.size w3 wi/\w3.heap.size+1<=wi.heap.size/\(b=true->ib=true/\(ws.take m).mapM YN=some ps)/\(b=false->Y3 pk=none)) (fun _ i _=>ws.length+1-(intOf i).toNat)
   case atStart=>exact ⟨0,ib,_,[],Nat.zero_le _,rfl,rfl,by simp,by simp,hRB,World.ownsRow_nil _ _ _ _,rfl,(Below.refl _ _).alloc (Nat.le_refl _) _,by simp,fun h=>⟨h,rfl⟩,fun h=>uh HisF h⟩
   case round=>
    obtain ⟨wi,rfl⟩:∃ wi,wi=wr:=⟨wr,rfl⟩
    obtain ⟨m,b,pv,ps,hm1,rfl,rfl,z0,z1,z2,hpa,hpl1,hbi,hzi,hbt,hbf⟩:=hrel
    have Hpa:=Z9 hpa
    have Hpl1:=Z9 hpl1
    have Hbi:=Z9 hbi
    have Hbt:=Z9 hbt
    have Hbf:=Z9 hbf
    have Hz1:=Z9 z1
    have Hz0:=Z9 z0
    have Hz2:=Z9 z2
    obtain ⟨pva,pvcap,rfl⟩:=hpa.shape
    by_cases hlt2:m<ws.length
    ·have hck2:=(hbi.cell (p:=⟨g3,m+1,none⟩) hg32).trans (uh Hcl3 (m+1) (by first | omega | (simp;omega)))
     have hget2:(wd::ws).getD (m+1) []=ws[m]:=by simp [List.getD,hlt2]
     rw [hget2] at hck2
     have hpm:=uh Hsm2 ws[m] (List.mem_cons_of_mem _ (List.getElem_mem hlt2))
     have HXm:Hid (YN ws[m]=none->Y3 pk=none):=Z9 (fun h=>by rw [uh HRR,Rz hlt2 h];cases YD wd<;>rfl)
     have HYm:Hid (∀ y,YN ws[m]=some y->(ws.take m).mapM YN=some ps->(ws.take (m+1)).mapM YN=some (ps++[y])):=Z9 (fun y h h'=>Ob hlt2 h' h)
     generalize ws[m]=pm at *
     clear hpa hpl1 hbi hbt hbf hget2
     go_wp2_with fail
     refine (JX pm _ hpm).mono ?_
     rintro e w5 ⟨f,kk,fb,rfl,hft,hff,hb5⟩
     have hz5:=hb5.size
     have Hft:=Z9 hft
     have Hff:=Z9 hff
     have Hb5:=Z9 hb5
     have c50:=(hb5.cell (p:=⟨w3.heap.size,0,none⟩) (by show w3.heap.size<_;omega)).trans (uh Hz0)
     have c51:=(hb5.cell (p:=⟨w3.heap.size,1,none⟩) (by show w3.heap.size<_;omega)).trans (uh Hz1)
     have c52:=(hb5.frozen (p:=⟨w3.heap.size,1,none⟩) (by show w3.heap.size<_;omega)).trans (uh Hz2)
     have Hp5:Hid (PacesAt (w3.heap.size+1) w5 (.slice pva ps.length pvcap) ps):=Z9 (XX (uh Hpa) (fun q e=>hb5.block q ((uh Hpa).lt e).2))
     clear hft hff hb5 z0 z1 z2
     have hne5:w3.heap.size ≠ w5.heap.size:=by omega
     have q51:(w5.alloc (.cells #[.int .i64 f,.int .i64 kk] 188)).cell? ⟨w3.heap.size,1,none⟩=some (.slice pva ps.length pvcap):=by rw [World.cell?_alloc_old _ _ _ hne5];exact c51
     have Hp6:Hid (PacesAt (w3.heap.size+1) (w5.alloc (.cells #[.int .i64 f,.int .i64 kk] 188)) (.slice pva ps.length pvcap) ps):=Z9 (XX (uh Hp5) (fun q e=>Below.heap_alloc w5 _ q ((uh Hp5).lt e).2))
     have q50:(w5.alloc (.cells #[.int .i64 f,.int .i64 kk] 188)).cell? ⟨w3.heap.size,0,none⟩=some (.int .i64 n):=by rw [World.cell?_alloc_old _ _ _ hne5];exact c50
     have q52:(w5.alloc (.cells #[.int .i64 f,.int .i64 kk] 188)).frozen? ⟨w3.heap.size,1,none⟩=false:=by rw [frozen?_alloc_cells];exact c52
     have hpsm:ps.length<=1048576:=by rw [uh Hpl1];omega
     have HB5:Hid (Below w3.heap.size w3 (w5.alloc (.cells #[.int .i64 f,.int .i64 kk] 188))):=Z9 (((uh Hbi).trans ((uh Hb5).mono (by omega))).alloc (by omega) _)
     clear c50 c51 c52
     cases b
     ·go_wp2_with (at_builtin;go_must (refine wpList_append_own_at _ rfl _ _ 114 rfl (w3.heap.size+1) 188 i1 (.agg #[.int .i64 0,.int .i64 0]) 2 16 Tryz.underlying114 hi1 hp0 hp1 hp2 rfl (by decide) _ _ _ rfl (World.ownsRow.alloc (uh Hp6) _) ⟨_,0,none⟩ 1 1 [.int .i64 f,.int .i64 kk] rfl rfl (To _ _ _ _ _ (by simp)) (by simp [Value.oneCell']) (by simp only [maxLen];omega) (by omega) (by simp;omega) ?_);go_must (intro v' w6 hown' hgrow _ _);go_must (obtain ⟨a6,cap6,rfl,e1,e2,HE⟩:=My (uh Hp6) (by simp;omega) hown' hgrow q50 q51 q52);clear hown' hgrow)
      go_roundw
      case rel=>exact ⟨m+1,false,_,ps++[(f,kk)],by omega,by go_num,rfl,(uh HE).1,(uh HE).2.1,(uh HE).2.2.1,(uh HE).2.2.2.1,by simp [uh Hpl1],(uh HB5).trans (uh HE).2.2.2.2.1,(uh HE).2.2.2.2.2,fun h=>(by cases h),fun _=>uh Hbf (by simp)⟩
      case measure=>simp [intOf];omega
     ·go_wp2_with (at_builtin;go_must (refine wpList_append_own_at _ rfl _ _ 114 rfl (w3.heap.size+1) 188 i1 (.agg #[.int .i64 0,.int .i64 0]) 2 16 Tryz.underlying114 hi1 hp0 hp1 hp2 rfl (by decide) _ _ _ rfl (World.ownsRow.alloc (uh Hp6) _) ⟨_,0,none⟩ 1 1 [.int .i64 f,.int .i64 kk] rfl rfl (To _ _ _ _ _ (by simp)) (by simp [Value.oneCell']) (by simp only [maxLen];omega) (by omega) (by simp;omega) ?_);go_must (intro v' w6 hown' hgrow _ _);go_must (obtain ⟨a6,cap6,rfl,e1,e2,HE⟩:=My (uh Hp6) (by simp;omega) hown' hgrow q50 q51 q52);clear hown' hgrow)
      go_roundw
      case rel=>exact ⟨m+1,fb,_,ps++[(f,kk)],by omega,by go_num,rfl,(uh HE).1,(uh HE).2.1,(uh HE).2.2.1,(uh HE).2.2.2.1,by simp [uh Hpl1],(uh HB5).trans (uh HE).2.2.2.2.1,(uh HE).2.2.2.2.2,fun h=>⟨(uh Hbt (by simp)).1,uh HYm _ (uh Hft h) (uh Hbt (by simp)).2⟩,fun h=>uh HXm (uh Hff h)⟩
      case measure=>simp [intOf];omega
    ·obtain rfl:m=ws.length:=by omega
     have HBi:Hid (Below wo.heap.size wo wi):=Z9 ((uh Hb3).trans (hbi.mono hz3))
     have HbutI:Hid (But (w.heap.size+1) w2 wi):=Z9 ((uh Hbut).later (uh HBi))
     have HB2:Hid (Below (w.heap.size+1) w2 wi):=Z9 ((uh HbutI).below (Nat.le_refl _) (by omega))
     have d0:wi.cell? ⟨w.heap.size,0,none⟩=some (.slice none 0 0):=((uh HB2).cell (p:=⟨w.heap.size,0,none⟩) (by show w.heap.size<_;omega)).trans x0
     have df0:wi.frozen? ⟨w.heap.size,0,none⟩=false:=((uh HB2).frozen (p:=⟨w.heap.size,0,none⟩) (by show w.heap.size<_;omega)).trans g0
     have d1:wi.cell? ⟨w.heap.size+1,0,none⟩=some (.slice va qs.length vcap):=((uh HBi).cell (p:=⟨w.heap.size+1,0,none⟩) (by show w.heap.size+1<_;omega)).trans (uh Hv)
     have df1:wi.frozen? ⟨w.heap.size+1,0,none⟩=false:=((uh HBi).frozen (p:=⟨w.heap.size+1,0,none⟩) (by show w.heap.size+1<_;omega)).trans (uh Hfv)
     have HohI:Hid (OwnHall w2.heap.size wi (.slice va qs.length vcap) qs):=Z9 ((uh Hoh).later (uh HBi))
     have hzwi:=(uh HBi).size
     clear hpa hpl1 hbi hbt hbf
     cases b
     ·have HZ:Hid (YW l=none):=Z9 (uh Hnone (uh HX (uh Hbf (by simp))))
      go_wp2_with fail
      exact bodyPost_ret (v:= .tuple #[.agg #[.slice none 0 0],.bool false]) (by simp [results,Tryz.results143,go_sem, *]) rfl ⟨.inr ⟨rfl,uh HZ⟩,(((uh B2).trans ((uh HB2).mono (by omega))).setCell (Nat.le_refl w.heap.size) _)⟩
     ·have HRm:Hid (Y3 pk=some (n,ps)):=Z9 (by
       obtain ⟨h1,h2⟩:=uh Hbt (by simp)
       rw [List.take_length] at h2
       rw [uh HRR,uh HisT h1,h2];rfl)
      have hqsm:qs.length<=1048577:=by rw [uh Hql];omega
      have HpI:Hid (PacesAt w2.heap.size wi (.slice pva ps.length pvcap) ps):=Z9 (UK (uh Hpa) (by omega))
      have Hoff:Hid (∀ b,(Value.slice pva ps.length pvcap).ownBlock=some b->(Value.slice va qs.length vcap).ownBlock ≠ some b):=Z9 (fun b e e'=>by have h1:=((uh Hpa).lt e).1;have h2:=((uh Hoh).lt (.inl e')).2;omega)
      have Hap:Hid (∀ q ∈ qs,∀ b,q.2.ownBlock=some b->(Value.slice pva ps.length pvcap).ownBlock ≠ some b):=Z9 (fun q hq b e e'=>by have h1:=((uh Hpa).lt e').1;have h2:=((uh Hoh).lt (.inr ⟨q,hq,e⟩)).2;omega)
      go_wp2_with (at_builtin;go_must (refine wpList_append_own_at _ rfl _ _ 24 rfl w2.heap.size 116 i2 (.agg #[.int .i64 0,.slice none 0 0]) 2 32 Tryz.underlying24 hi2 hr0 hr1 hr2 rfl (by decide) _ _ _ rfl (World.ownsRow.alloc (uh HohI).row _) ⟨_,0,none⟩ 1 1 [.int .i64 n,.slice pva ps.length pvcap] rfl rfl (To _ _ _ _ _ (by simp)) (by simp [Value.oneCell']) (by simp only [maxLen];omega) (by omega) (by simp;omega) ?_);go_must (intro v' w6 hown' hgrow _ hat);go_must (obtain ⟨a6,cap6,rfl,e1,e2,HE⟩:=F5 (b:=w.heap.size+1) (uh HohI) (uh HpI) (uh Hoff) (uh Hap) hown' hgrow hat (by omega) (by omega) d1 df1);clear hown' hgrow hat)
      go_roundw
      case rel=>exact ⟨k+1,_,qs++[((n,ps),.slice pva ps.length pvcap)],by omega,by go_num,(uh HE).1,(uh HE).2.1,(uh HE).2.2.1,by simp [uh Hql],by rw [List.map_append];exact uh HY _ (uh HRm),((uh HbutI).within (uh HE).2.2.2).setCell 0 _⟩
      case measure=>simp [intOf];omega
  ·obtain rfl:k=pc.length:=by omega
   have HB2:Hid (Below (w.heap.size+1) w2 wo):=Z9 (hbut.below (Nat.le_refl _) (by omega))
   have df0:wo.frozen? ⟨w.heap.size,0,none⟩=false:=((uh HB2).frozen (p:=⟨w.heap.size,0,none⟩) (by show w.heap.size<_;omega)).trans g0
   rw [List.take_length] at hmap
   have Hmap2:=Z9 hmap
   have HBo:Hid (Below w.heap.size w wo):=Z9 ((uh B2).trans ((uh HB2).mono (by omega)))
   clear hoh hmap hbut hql
   go_wp2_with fail
   refine (Vz (uh Hoh).rooms).mono ?_
   rintro e w7 ⟨rfl,hb7⟩
   have c70:=(hb7.cell (p:=⟨w.heap.size,0,none⟩) (by show w.heap.size<_;omega)).trans y0
   have c71:=(hb7.cell (p:=⟨w.heap.size+1,0,none⟩) (by show w.heap.size+1<_;omega)).trans hv
   have c72:=(hb7.frozen (p:=⟨w.heap.size,0,none⟩) (by show w.heap.size<_;omega)).trans df0
   have Hb7:=Z9 hb7
   have hz7:=hb7.size
   clear hb7 y0 hv hfv
   cases hh:Zb (qs.map (·.1))
   ·have HZ:Hid (YW l=none):=Z9 (uh Hbad _ (uh Hmap2) hh)
    clear hh
    go_wp2_with fail
    exact bodyPost_ret (v:= .tuple #[.agg #[.slice none 0 0],.bool false]) (by simp [results,Tryz.results143,go_sem, *]) rfl ⟨.inr ⟨rfl,uh HZ⟩,((uh HBo).trans ((uh Hb7).mono (by omega))).setCell (Nat.le_refl w.heap.size) _⟩
   ·have HZ:Hid (YW l=some (qs.map (·.1))):=Z9 (uh Hsome _ (uh Hmap2) hh)
    clear hh
    go_wp2_with fail
    exact bodyPost_ret (v:= .tuple #[.agg #[.slice va qs.length vcap],.bool true]) (by simp [results,Tryz.results143,go_sem, *]) rfl ⟨.inl ⟨_,qs,rfl,uh HZ,(((uh Hoh).later (uh Hb7)).but ((But.refl w.heap.size w7).setCell 0 _) (.inl (by omega))).mono (by omega)⟩,((uh HBo).trans ((uh Hb7).mono (by omega))).setCell (Nat.le_refl w.heap.size) _⟩
end Go.Proofs.YthbbahagpmdooaaGreat
