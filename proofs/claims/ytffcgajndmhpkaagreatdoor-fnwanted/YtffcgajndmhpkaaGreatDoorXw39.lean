/- Part 39 of what the proof rests on. No condition but those that a theorem names. -/
import Derived.Test.YtffcgajndmhpkaaGreatDoorXw38
set_option maxHeartbeats 8000000
set_option maxRecDepth 100000
namespace Go.Proofs.YtffcgajndmhpkaaGreatDoor
open Go.ChangeShapes Go.WideShapes Go.ChangeAt Go.RowKit Go.Sort
open Go.Lib (digitVal decFrom)
set_option linter.unusedVariables false
variable {w w' w0 w1 w2 w3 w₀ wr W W' X A B C : World} {v v0 v1 v2 v3 v4 u u0 u1 u2 u3 u4 : Value}
def bs (l:Txt):ByteArray:=⟨l.toArray⟩
theorem Sm (l:Txt):(bs l).data.toList=l:=by simp [bs]
theorem FH (s:ByteArray):bs s.data.toList=s:=by simp [bs]
theorem Cq (l:Txt):(bs l).size=l.length:=by simp [bs,ByteArray.size]
def StrsAt (n₀:Nat) (w:World) (v:Value) (zs:List Txt):Prop:=w.ownsRow n₀ 9 1 v zs.length (zs.map fun z=>Value.string (bs z))
theorem StrsAt.lt {n₀:Nat}  {zs:List Txt} (h:StrsAt n₀ w v zs) {k:Nat} (hk:v.ownBlock=some k):n₀<=k/\k<w.heap.size:=World.ownsRow.lt h k hk
theorem StrsAt.view {n₀:Nat}  {zs:List Txt} (h:StrsAt n₀ w v zs) :
  ∃ (a:Option Addr) (cap:Nat),v= .slice a zs.length cap/\zs.length<=cap/\cap<=9223372036854775807/\(zs=[]\/ ∃ g,a=some ⟨g,0,none⟩/\n₀<=g/\g<w.heap.size/\
   (∀ k,k<zs.length->w.cell? ⟨g,k,none⟩=some (.string (bs (zs.getD k []))))):=by
 have h':=h
 rcases h.2 with ⟨rfl,hz⟩ | ⟨g,cap,cur,rfl,hb,hg,hnc,hcm,r⟩
 ·exact ⟨none,0,by rw [hz],by omega,by omega,.inl (List.eq_nil_of_length_eq_zero hz)⟩
 ·refine ⟨_,cap,rfl,hnc,by unfold maxLen at hcm;omega,.inr ⟨g,rfl,hb,(Array.getElem?_eq_some_iff.1 hg).1,fun k hk=> ?_⟩⟩
  rw [World.ownsRow.cellAt h' k (by omega)]
  simp [List.getElem?_eq_getElem hk]
theorem Cu:(Tryz.prog.info? 9).map (fun i=>(i.zero,i.size,i.bytes))=some (some (.string ByteArray.empty),1,16):=by kernel_rfl
theorem Fp (l:Txt) (f k:Nat) (hf:f<=k) (h:k<l.length):(l.take (k+1)).drop f=(l.take k).drop f++[l[k]]:=by
 rw [List.take_succ_eq_append_getElem h,List.drop_append_of_le_length (by simp;omega)]
theorem Qn (l:Txt) (k:Nat) (h:k<l.length):l.drop k=l[k]::l.drop (k+1):=List.drop_eq_getElem_cons h
theorem GB (s:ByteArray) (f k:Nat):s.extract f k=bs ((s.data.toList.take k).drop f):=by
 rw [<-FH (s.extract f k)];congr 1;rw [Go.Lib.extract_data];simp [List.drop_take]
theorem ML {v v':Value} {P:List Txt} {s:ByteArray} {a k:Nat} {o:Obj} (hown:StrsAt w.heap.size wr v P) (hb:Below w.heap.size w wr)
  (hown':w1.ownsRow w.heap.size 9 1 v' (P.length+1) ((P.map fun z=>Value.string (bs z))++[.string (s.extract a k)])) (hg:(wr.alloc o).grownBy w1 v.ownBlock) :
  StrsAt w.heap.size w1 v' (P++[(s.data.toList.take k).drop a])/\Below w.heap.size w w1:=by
 refine ⟨?_,?_⟩
 ·unfold StrsAt;rw [GB] at hown';simpa using hown'
 ·exact (hb.alloc hb.size o).grown hg (by have:=hb.size;simp;omega) (fun j ej=>(hown.lt ej).1)
theorem SZ (s:ByteArray) (c:UInt8) (w:World) (hs:s.size<=1048576) :
  Calls Tryz.prog 240 #[.string s,.int .u8 c.toNat] w fun e w'=> ∃ v,e= .returned v/\StrsAt w.heap.size w' v (Zl c s.data.toList)/\Below w.heap.size w w':=by
 obtain ⟨i0,hi,hz0,hz1,hz2⟩:=info_parts Cu
 go_enter Tryz.func240,Tryz.ntmps240
 go_wp2_with fail
 go_loopw [5,6,7] (fun v f i wr=> ∃ (P:List Txt) (a k:Nat),f= .int .i64 a/\i= .int .i64 k/\StrsAt w.heap.size wr v P/\P.length<=k/\Below w.heap.size w wr/\((k<=s.size/\a<=k/\P++Zg c ((s.data.toList.take k).drop a) (s.data.toList.drop k)=Zl c s.data.toList)\/(k=s.size+1/\P=Zl c s.data.toList))) (fun _ _ i _=>s.size+1-(intOf i).toNat)
 case atStart=>exact ⟨[],0,0,rfl,rfl,World.ownsRow_lit w #[] 0 (Nat.le_refl _) (by simp [maxLen]) rfl,by simp,(ba _ _),.inl ⟨by omega,by omega,by simp [Zl]⟩⟩
 case round=>
  obtain ⟨P,a,k,rfl,rfl,hown,hpl,hb,hcase⟩:=hrel
  have Hb:=Z9 hb
  have Hown:=Z9 hown
  clear hb hown
  rcases hcase with ⟨hk,ha,hsp⟩ | ⟨rfl,hP⟩
  ·have Hsp:=Z9 hsp
   clear hsp
   by_cases hend:k=s.size
   ·subst hend
    go_wp2_with (at_builtin;refine wpList_append_own _ rfl _ _ 215 rfl w.heap.size 9 i0 (.string ByteArray.empty) 1 16 Tryz.underlying215 hi hz0 hz1 hz2 rfl (by decide) _ _ _ rfl (World.ownsRow.alloc (uh Hown) _) ⟨_,0,none⟩ 1 1 [.string (s.extract a s.size)] rfl rfl (cell_one_new _ _ _) (by simp [Value.oneCell']) (by simp only [maxLen];omega) (by omega) (by have:=(uh Hb).size;simp;omega) ?_;intro v' w1 hown' hgrow _;have R:=ML (uh Hown) (uh Hb) hown' hgrow;have HR:=Z9 R;clear hown' hgrow R)
    go_roundw
    case rel=>exact ⟨P++[(s.data.toList.take s.size).drop a],s.size+1,s.size+1,by go_num,by go_num,(uh HR).1,by simp;omega,(uh HR).2,.inr ⟨rfl,by rw [<-uh Hsp,List.drop_eq_nil_of_le (show s.data.toList.length<=s.size by simp)];rfl⟩⟩
    case measure=>simp [intOf]
   ·have hlt:k<s.size:=by omega
    have hll:k<s.data.toList.length:=by simpa using hlt
    have hat:s.data.toList[k]=s[k]:=rfl
    by_cases hc:s[k]=c
    ·have Hc:=Z9 hc
     have Hn:Hid (P++[(s.data.toList.take k).drop a]++Zg c ((s.data.toList.take (k+1)).drop (k+1)) (s.data.toList.drop (k+1))=Zl c s.data.toList):=Z9 (by
      have h0:=uh Hsp
      rw [Qn _ k hll,hat,hc,VJ] at h0
      rw [<-h0];simp)
     clear hc hat
     have hbeq:((s[k].toNat:Int) ==(c.toNat:Int))=true:=by rw [show s[k]=c from uh Hc];simp
     have hne:((k:Int) ==(s.size:Int))=false:=beq_eq_false_iff_ne.2 (by omega)
     go_wp2_with (at_builtin;refine wpList_append_own _ rfl _ _ 215 rfl w.heap.size 9 i0 (.string ByteArray.empty) 1 16 Tryz.underlying215 hi hz0 hz1 hz2 rfl (by decide) _ _ _ rfl (World.ownsRow.alloc (uh Hown) _) ⟨_,0,none⟩ 1 1 [.string (s.extract a k)] rfl rfl (cell_one_new _ _ _) (by simp [Value.oneCell']) (by simp only [maxLen];omega) (by omega) (by have:=(uh Hb).size;simp;omega) ?_;intro v' w1 hown' hgrow _;have R:=ML (uh Hown) (uh Hb) hown' hgrow;have HR:=Z9 R;clear hown' hgrow R)
     go_roundw
     case rel=>exact ⟨P++[(s.data.toList.take k).drop a],k+1,k+1,by go_num,by go_num,(uh HR).1,by simp;omega,(uh HR).2,.inl ⟨by omega,by omega,uh Hn⟩⟩
     case measure=>exact ms
    ·have Hn:Hid (P++Zg c ((s.data.toList.take (k+1)).drop a) (s.data.toList.drop (k+1))=Zl c s.data.toList):=Z9 (by
      have h0:=uh Hsp
      rw [Qn _ k hll,hat,VK hc] at h0
      rw [<-h0,Fp _ a k ha hll,hat])
     have hbeq:((s[k].toNat:Int) ==(c.toNat:Int))=false:=beq_eq_false_iff_ne.2 (fun e=>hc (UInt8.toNat_inj.1 (by omega)))
     have hne:((k:Int) ==(s.size:Int))=false:=beq_eq_false_iff_ne.2 (by omega)
     clear hc hat
     go_wp2_with fail
     go_roundw
     case rel=>exact ⟨P,a,k+1,rfl,by go_num,uh Hown,by omega,uh Hb,.inl ⟨by omega,by omega,uh Hn⟩⟩
     case measure=>exact ms
  ·have HP:=Z9 hP
   clear hP
   go_wp2_with fail
   go_ret
   exact ⟨_,rfl,by rw [<-uh HP];exact uh Hown,uh Hb⟩
theorem VA {l:Txt} {acc n k:Nat} {b:UInt8} (h1:l[k]?=some b) (h2:digitVal b=none):Go.Lib.decFrom acc l=none:=by
 cases h:Go.Lib.decFrom acc l with
 | none=>rfl
 | some m=>obtain ⟨d,hd⟩:=Go.Lib.digit_of_decFrom l acc m h k b h1;rw [h2] at hd;cases hd
theorem Sy {c:UInt8} {r:Txt} (hc:c ≠ 45) (h9:(c::r).length<=9) (h0:¬ (c=48/\r ≠ [])):YB (c::r)=(Go.Lib.decFrom 0 (c::r)).map fun n:Nat=>(n:Int):=by
 unfold YB;simp only [if_neg hc];rw [if_neg];rw [not_or];exact ⟨by omega,h0⟩
theorem UU {c:UInt8} {r:Txt} (hc:c ≠ 45) (h:9<(c::r).length\/(c=48/\r ≠ [])):YB (c::r)=none:=by
 unfold YB;simp only [if_neg hc];rw [if_pos h]
theorem QI {r:Txt} (h1:r ≠ []) (h9:r.length<=9) (h0:r.head? ≠ some 48):YB (45::r)=(Go.Lib.decFrom 0 r).map fun n:Nat=> -(n:Int):=by
 unfold YB;simp only [if_true];rw [if_neg];rw [not_or,not_or];exact ⟨h1,by omega,h0⟩
theorem V5 {r:Txt} (h:r=[]\/9<r.length\/r.head?=some 48):YB (45::r)=none:=by
 unfold YB;simp only [if_true];rw [if_pos h]
def Xp (l:Txt):Value:= .tuple #[.int .i64 ((YB l).getD 0),.bool (YB l).isSome]
theorem XW {l:Txt} (h:YB l=none):Xp l= .tuple #[.int .i64 0,.bool false]:=by unfold Xp;rw [h];rfl
theorem RW {l:Txt} {v:Int} (h:YB l=some v):Xp l= .tuple #[.int .i64 v,.bool true]:=by unfold Xp;rw [h];rfl
theorem Jj {b:UInt8} (h1:48<=b.toNat) (h2:b.toNat<=57):digitVal b=some (b.toNat-48):=by unfold Go.Lib.digitVal;rw [if_pos ⟨h1,h2⟩]
theorem Sp {b:UInt8} (h:b.toNat<48\/57<b.toNat):digitVal b=none:=by unfold Go.Lib.digitVal;rw [if_neg (by omega)]
theorem QM {a b:Value} (h:a=b):Ending.returned a= .returned b:=by rw [h]
theorem TO {s:ByteArray} (h:0<s.size):s.data.toList=s[0]::s.data.toList.drop 1:=Qn s.data.toList 0 (by simpa using h)
theorem GD {s:ByteArray} {k:Nat} (h:k<s.size):s.data.toList[k]?=some s[k]:=by
 rw [List.getElem?_eq_getElem (by simpa using h)];rfl
theorem Cs {s:ByteArray} {k:Nat} (h:k<s.size) (h1:1<=k):(s.data.toList.drop 1)[k-1]?=some s[k]:=by
 rw [List.getElem?_drop,show 1+(k-1)=k by omega];exact GD h
theorem BY {s:ByteArray} (h:0<s.size):s.toList.isEmpty=false:=by
 rw [ByteArray.toList_eq,TO h];rfl
theorem Lm {b c:UInt8} (h:b ≠ c):((b.toNat:Int) ==(c.toNat:Int))=false:=beq_eq_false_iff_ne.2 (fun e=>h (UInt8.toNat_inj.1 (by omega)))
theorem Ll {b c:UInt8} (h:b=c):((b.toNat:Int) ==(c.toNat:Int))=true:=by rw [h];simp
theorem GX (s:ByteArray) (w:World) (h0:0<s.size) (hm:s.size<=9223372036854775807) (h45:s[0] ≠ 45) :
  Calls Tryz.prog 241 #[.string s] w fun e w'=>e= .returned (Xp s.data.toList)/\w'=w:=by
 have Hl:=Z9 (TO h0)
 have hemp:=BY h0
 have H45:=Z9 h45
 have hb45:((s[0].toNat:Int) ==45)=false:=Lm (c:=45) h45
 have hlen:s.data.toList.length=s.size:=by simp
 have Hlen:=Z9 hlen
 clear h45 hlen
 by_cases h9:9<s.size
 ·have hd1:decide ((s.size:Int)<1)=false:=decide_eq_false (by omega)
  have hd2:decide (9<(s.size:Int))=true:=decide_eq_true (by omega)
  have HN:Hid (Xp s.data.toList= .tuple #[.int .i64 0,.bool false]):=Z9 (XW (by rw [uh Hl];exact UU (uh H45) (.inl (by rw [<-uh Hl,uh Hlen];omega))))
  go_enter Tryz.func241,Tryz.ntmps241
  go_wp2_with fail
  go_ret2
  exact ⟨QM (uh HN).symm,rfl⟩
 have hd1:decide ((s.size:Int)<1)=false:=decide_eq_false (by omega)
 have hd2:decide (9<(s.size:Int))=false:=decide_eq_false (by omega)
 go_enter Tryz.func241,Tryz.ntmps241
 go_wp2_with fail
 go_loop [6,7] (fun n i=> ∃ (k m:Nat),0<=k/\k<=s.size/\i= .int .i64 k/\n= .int .i64 m/\decFrom 0 (s.data.toList.take k)=some m) (fun _ i=>s.size-(intOf i).toNat)
 case atStart=>exact ⟨0,0,by omega,by omega,rfl,rfl,by simp [decFrom]⟩
 case round=>
  obtain ⟨k,m,hk1,hk,rfl,rfl,hdec⟩:=hrel
  have hmb:m<1000000000:=by
   have hx:=Go.Lib.decFrom_lt _ _ _ hdec
   have hy:(s.data.toList.take k).length<=9:=by rw [List.length_take];omega
   exact Nat.lt_of_lt_of_le (by simpa using hx) (Nat.le_trans (Nat.pow_le_pow_right (by decide) hy) (by decide))
  have Hdec:=Z9 hdec
  clear hdec
  by_cases hlt:k<s.size
  ·have hga:=GD hlt
   have Hga:=Z9 hga
   clear hga
   have hb8:s[k].toNat<=255:=by have:=s[k].toNat_lt;omega
   by_cases hd:s[k].toNat<48
   ·have HN:Hid (Xp s.data.toList= .tuple #[.int .i64 0,.bool false]):=Z9 (XW (by rw [uh Hl];by_cases hz:s[0]=48/\s.data.toList.drop 1 ≠ [];exact UU (uh H45) (.inr hz);rw [Sy (uh H45) (by rw [<-uh Hl,uh Hlen];omega) hz,<-uh Hl,VA (n:=0) (uh Hga) (Sp (by omega))];rfl))
    have ht:decide ((s[k].toNat:Int)<48)=true:=decide_eq_true (by omega)
    go_wp2_with fail
    go_ret2
    exact ⟨QM (uh HN).symm,rfl⟩
   by_cases hd':57<s[k].toNat
   ·have HN:Hid (Xp s.data.toList= .tuple #[.int .i64 0,.bool false]):=Z9 (XW (by rw [uh Hl];by_cases hz:s[0]=48/\s.data.toList.drop 1 ≠ [];exact UU (uh H45) (.inr hz);rw [Sy (uh H45) (by rw [<-uh Hl,uh Hlen];omega) hz,<-uh Hl,VA (n:=0) (uh Hga) (Sp (by omega))];rfl))
    have ht:decide ((s[k].toNat:Int)<48)=false:=decide_eq_false (by omega)
    have ht':decide (57<(s[k].toNat:Int))=true:=decide_eq_true (by omega)
    go_wp2_with fail
    go_ret2
    exact ⟨QM (uh HN).symm,rfl⟩
   ·have ht:decide ((s[k].toNat:Int)<48)=false:=decide_eq_false (by omega)
    have ht':decide (57<(s[k].toNat:Int))=false:=decide_eq_false (by omega)
    have Hn:=Z9 (Go.Lib.decFrom_take s.data.toList k 0 m s[k] (s[k].toNat-48) (uh Hdec) (uh Hga) (Jj (by omega) (by omega)))
    have Hx:Hid (((m*10+(s[k].toNat-48):Nat):Int)=(m:Int)*10+((s[k].toNat:Int)-48)):=Z9 (by omega)
    have g1:48<=(s[k].toNat:Int):=by omega
    have g2:(s[k].toNat:Int)<=57:=by omega
    go_wp2_with fail
    go_round
    case rel=>exact ⟨k+1,m*10+(s[k].toNat-48),by omega,by omega,by go_num,by rw [uh Hx],uh Hn⟩
    case measure=>exact ms
  ·obtain rfl:k=s.size:=by omega
   have Hall:Hid (decFrom 0 s.data.toList=some m):=Z9 (by have hh:=uh Hdec;rwa [List.take_of_length_le (by rw [uh Hlen];omega)] at hh)
   by_cases hz:s[0]=48
   ·have hb48:((s[0].toNat:Int) ==48)=true:=Ll (c:=48) hz
    by_cases h1s:1<s.size
    ·have ht:decide (1<(s.size:Int))=true:=decide_eq_true (by omega)
     have HN:Hid (Xp s.data.toList= .tuple #[.int .i64 0,.bool false]):=Z9 (XW (by rw [uh Hl];exact UU (uh H45) (.inr ⟨hz,fun e=>by have:=congrArg List.length e;rw [List.length_drop,uh Hlen] at this;simp at this;omega⟩)))
     clear hz
     go_wp2_with fail
     go_ret2
     exact ⟨QM (uh HN).symm,rfl⟩
    ·have ht:decide (1<(s.size:Int))=false:=decide_eq_false (by omega)
     have HN:Hid (Xp s.data.toList= .tuple #[.int .i64 m,.bool true]):=Z9 (RW (by rw [uh Hl,Sy (uh H45) (by rw [<-uh Hl,uh Hlen];omega) (fun hh=>hh.2 (List.eq_nil_of_length_eq_zero (by rw [List.length_drop,uh Hlen];omega))),<-uh Hl,uh Hall];rfl))
     clear hz
     go_wp2_with fail
     go_ret2
     exact ⟨QM (uh HN).symm,rfl⟩
   ·have hb48:((s[0].toNat:Int) ==48)=false:=Lm (c:=48) hz
    have HN:Hid (Xp s.data.toList= .tuple #[.int .i64 m,.bool true]):=Z9 (RW (by rw [uh Hl,Sy (uh H45) (by rw [<-uh Hl,uh Hlen];omega) (fun hh=>hz hh.1),<-uh Hl,uh Hall];rfl))
    clear hz
    go_wp2_with fail
    go_ret2
    exact ⟨QM (uh HN).symm,rfl⟩
theorem GW (s:ByteArray) (w:World) (h0:0<s.size) (hm:s.size<=9223372036854775807) (h45:s[0]=45) :
  Calls Tryz.prog 241 #[.string s] w fun e w'=>e= .returned (Xp s.data.toList)/\w'=w:=by
 have Hl:=Z9 (TO h0)
 have hemp:=BY h0
 have H45:=Z9 h45
 have hb45:((s[0].toNat:Int) ==45)=true:=Ll (c:=45) h45
 have hlen:s.data.toList.length=s.size:=by simp
 have Hlen:=Z9 hlen
 clear h45 hlen
 by_cases h9:10<s.size
 ·have hd1:decide ((s.size:Int)-1<1)=false:=decide_eq_false (by omega)
  have hd2:decide (9<(s.size:Int)-1)=true:=decide_eq_true (by omega)
  have HN:Hid (Xp s.data.toList= .tuple #[.int .i64 0,.bool false]):=Z9 (XW (by rw [uh Hl];rw [uh H45];exact V5 (.inr (.inl (by rw [List.length_drop,uh Hlen];omega)))))
  go_enter Tryz.func241,Tryz.ntmps241
  go_wp2_with fail
  go_ret2
  exact ⟨QM (uh HN).symm,rfl⟩
 by_cases h1s:s.size<2
 ·have hd1:decide ((s.size:Int)-1<1)=true:=decide_eq_true (by omega)
  have HN:Hid (Xp s.data.toList= .tuple #[.int .i64 0,.bool false]):=Z9 (XW (by rw [uh Hl,uh H45];exact V5 (.inl (List.eq_nil_of_length_eq_zero (by rw [List.length_drop,uh Hlen];omega)))))
  go_enter Tryz.func241,Tryz.ntmps241
  go_wp2_with fail
  go_ret2
  exact ⟨QM (uh HN).symm,rfl⟩
 have hd1:decide ((s.size:Int)-1<1)=false:=decide_eq_false (by omega)
 have hd2:decide (9<(s.size:Int)-1)=false:=decide_eq_false (by omega)
 go_enter Tryz.func241,Tryz.ntmps241
 go_wp2_with fail
 go_loop [6,7] (fun n i=> ∃ (k m:Nat),1<=k/\k<=s.size/\i= .int .i64 k/\n= .int .i64 m/\decFrom 0 ((s.data.toList.drop 1).take (k-1))=some m) (fun _ i=>s.size-(intOf i).toNat)
 case atStart=>exact ⟨1,0,by omega,by omega,rfl,rfl,by simp [decFrom]⟩
 case round=>
  obtain ⟨k,m,hk1,hk,rfl,rfl,hdec⟩:=hrel
  have hmb:m<1000000000:=by
   have hx:=Go.Lib.decFrom_lt _ _ _ hdec
   have hy:((s.data.toList.drop 1).take (k-1)).length<=9:=by rw [List.length_take];omega
   exact Nat.lt_of_lt_of_le (by simpa using hx) (Nat.le_trans (Nat.pow_le_pow_right (by decide) hy) (by decide))
  have Hdec:=Z9 hdec
  clear hdec
  by_cases hlt:k<s.size
  ·have hga:=Cs hlt hk1
   have Hga:=Z9 hga
   clear hga
   have hb8:s[k].toNat<=255:=by have:=s[k].toNat_lt;omega
   by_cases hd:s[k].toNat<48
   ·have HN:Hid (Xp s.data.toList= .tuple #[.int .i64 0,.bool false]):=Z9 (XW (by rw [uh Hl,uh H45];by_cases hz:(s.data.toList.drop 1).head?=some 48;exact V5 (.inr (.inr hz));rw [QI (fun e=>by have:=congrArg List.length e;rw [List.length_drop,uh Hlen] at this;simp at this;omega) (by rw [List.length_drop,uh Hlen];omega) hz,VA (n:=0) (uh Hga) (Sp (by omega))];rfl))
    have ht:decide ((s[k].toNat:Int)<48)=true:=decide_eq_true (by omega)
    go_wp2_with fail
    go_ret2
    exact ⟨QM (uh HN).symm,rfl⟩
   by_cases hd':57<s[k].toNat
   ·have HN:Hid (Xp s.data.toList= .tuple #[.int .i64 0,.bool false]):=Z9 (XW (by rw [uh Hl,uh H45];by_cases hz:(s.data.toList.drop 1).head?=some 48;exact V5 (.inr (.inr hz));rw [QI (fun e=>by have:=congrArg List.length e;rw [List.length_drop,uh Hlen] at this;simp at this;omega) (by rw [List.length_drop,uh Hlen];omega) hz,VA (n:=0) (uh Hga) (Sp (by omega))];rfl))
    have ht:decide ((s[k].toNat:Int)<48)=false:=decide_eq_false (by omega)
    have ht':decide (57<(s[k].toNat:Int))=true:=decide_eq_true (by omega)
    go_wp2_with fail
    go_ret2
    exact ⟨QM (uh HN).symm,rfl⟩
   ·have ht:decide ((s[k].toNat:Int)<48)=false:=decide_eq_false (by omega)
    have ht':decide (57<(s[k].toNat:Int))=false:=decide_eq_false (by omega)
    have Hn:=Z9 (Go.Lib.decFrom_take (s.data.toList.drop 1) (k-1) 0 m s[k] (s[k].toNat-48) (uh Hdec) (uh Hga) (Jj (by omega) (by omega)))
    have Hx:Hid (((m*10+(s[k].toNat-48):Nat):Int)=(m:Int)*10+((s[k].toNat:Int)-48)):=Z9 (by omega)
    have g1:48<=(s[k].toNat:Int):=by omega
    have g2:(s[k].toNat:Int)<=57:=by omega
    go_wp2_with fail
    go_round
    case rel=>exact ⟨k+1,m*10+(s[k].toNat-48),by omega,by omega,by go_num,by rw [uh Hx],by have hh:=uh Hn;rwa [show k-1+1=k+1-1 by omega] at hh⟩
    case measure=>exact ms
  ·obtain rfl:k=s.size:=by omega
   have Hall:Hid (decFrom 0 (s.data.toList.drop 1)=some m):=Z9 (by have hh:=uh Hdec;rwa [List.take_of_length_le (by rw [List.length_drop,uh Hlen];omega)] at hh)
   have hs1:1<s.size:=by omega
   have Hh:Hid ((s.data.toList.drop 1).head?=some s[1]):=Z9 (by rw [List.head?_drop];exact GD hs1)
   have Hne:Hid (s.data.toList.drop 1 ≠ []):=Z9 (fun e=>by have:=congrArg List.length e;rw [List.length_drop,uh Hlen] at this;simp at this;omega)
   by_cases hz:s[1]=48
   ·have hb48:((s[1].toNat:Int) ==48)=true:=Ll (c:=48) hz
    have HN:Hid (Xp s.data.toList= .tuple #[.int .i64 0,.bool false]):=Z9 (XW (by rw [uh Hl,uh H45];exact V5 (.inr (.inr (by rw [uh Hh,hz])))))
    clear hz
    go_wp2_with fail
    go_ret2
    exact ⟨QM (uh HN).symm,rfl⟩
   ·have hb48:((s[1].toNat:Int) ==48)=false:=Lm (c:=48) hz
    have HN:Hid (Xp s.data.toList= .tuple #[.int .i64 (-(m:Int)),.bool true]):=Z9 (RW (by rw [uh Hl,uh H45,QI (uh Hne) (by rw [List.length_drop,uh Hlen];omega) (fun e=>hz (by rw [uh Hh] at e;exact Option.some.inj e)),uh Hall];rfl))
    clear hz
    go_wp2_with fail
    go_ret2
    exact ⟨QM (uh HN).symm,rfl⟩
theorem RS (s:ByteArray) (w:World) (hm:s.size<=9223372036854775807) :
  Calls Tryz.prog 241 #[.string s] w fun e w'=>e= .returned (Xp s.data.toList)/\w'=w:=by
 by_cases h0:0<s.size
 ·by_cases h45:s[0]=45
  ·exact GW s w h0 hm h45
  ·exact GX s w h0 hm h45
 ·have hd:s.data.toList=[]:=List.eq_nil_of_length_eq_zero (by rw [show s.data.toList.length=s.size by simp];omega)
  have hemp:s.toList.isEmpty=true:=by rw [ByteArray.toList_eq,hd];rfl
  have HN:Hid (Xp s.data.toList= .tuple #[.int .i64 0,.bool false]):=Z9 (XW (by rw [hd];rfl))
  have hz:s.size=0:=by omega
  clear hd
  go_enter Tryz.func241,Tryz.ntmps241
  go_wp2_with fail
  go_ret2
  exact ⟨QM (uh HN).symm,rfl⟩
theorem UW {c:UInt8} {l p:Txt} (h:p ∈ Zl c l) (hl:l.length<=1048576):p.length<=1048576:=by
 have:=Vn c l [] p h;simp at this;omega
theorem Mf {l:Txt} {n:Nat} (h:l.length<=n):(bs l).size<=n:=by rw [Cq];exact h
theorem Kq {l:Txt} : -999999999<=(YB l).getD 0/\(YB l).getD 0<=999999999:=by
 cases h:YB l with
 | none=>simp
 | some v=>have:=TX h;simp;omega
theorem GZ (l:Txt) (w:World) (hl:l.length<=1048576) :
  Calls Tryz.prog 242 #[.string (bs l)] w fun e w'=> ∃ (f k:Int) (b:Bool),e= .returned (.tuple #[.agg #[.int .i64 f,.int .i64 k],.bool b])/\(b=true->YM l=some (f,k))/\(b=false->YM l=none)/\Below w.heap.size w w':=by
 have Hb0:Hid (∀ o,Below w.heap.size w (w.alloc o)):=Z9 (fun o=>(ba _ _))
 go_enter Tryz.func242,Tryz.ntmps242
 go_wp2_with fail
 refine (SZ (bs l) 58 _ (Mf hl)).mono ?_
 rw [Sm]
 rintro e w1 ⟨v,rfl,hst,hb⟩
 have hsz:w.heap.size+1<=w1.heap.size:=by have:=hb.size;simpa using this
 obtain ⟨cc,ff⟩:=NG hb
 have x0:=cc w.heap.size 0 (by simp)
 have x1:=cc w.heap.size 1 (by simp)
 have f0:=ff w.heap.size 0 (by simp)
 have f1:=ff w.heap.size 1 (by simp)
 have B1:Hid (Below w.heap.size w w1):=Z9 ((uh Hb0 _).trans (hb.mono (by simp)))
 obtain ⟨a,cap,rfl,hc,hm,hr⟩:=hst.view
 have Hr:=Z9 hr
 clear hst hr hb cc ff
 by_cases h2:(Zl 58 l).length=2
 ·obtain ⟨p,q,hpq⟩:∃ p q,Zl 58 l=[p,q]:=by
   match hx:Zl 58 l,h2 with
   | [p,q],_=>exact ⟨p,q,rfl⟩
  have Hpq:=Z9 hpq
  rcases uh Hr with h0 | ⟨g,rfl,hg1,hg2,hcl⟩
  ·rw [h0] at h2;simp at h2
  have c0:=hcl 0 (by omega)
  have c1:=hcl 1 (by omega)
  have hp1:=UW (c:=58) (l:=l) (p:=p) (by rw [hpq];simp) hl
  have hq1:=UW (c:=58) (l:=l) (p:=q) (by rw [hpq];simp) hl
  rw [hpq] at c0 c1
  simp only [List.getD_cons_zero,List.getD_cons_succ] at c0 c1
  have Hread:Hid (YM l=(YB p).bind fun f=>(YB q).bind fun k=>some (f,k)):=Z9 (by unfold YM;rw [hpq])
  have hne:g ≠ w.heap.size:=by simp at hg1;omega
  clear hcl Hr hpq
  generalize (Zl 58 l).length=n2 at *
  subst h2
  go_wp2_with fail
  refine (RS (bs p) _ (by have:=Mf hp1;omega)).mono ?_
  rw [Sm]
  rintro e w' ⟨rfl,hw'⟩
  subst w'
  unfold Xp
  have hbp:=Kq (l:=p)
  generalize hrp:YB p=rp at *
  have Hrp:=Z9 hrp
  clear hrp
  go_wp2_with fail
  refine (RS (bs q) _ (by have:=Mf hq1;omega)).mono ?_
  rw [Sm]
  rintro e w' ⟨rfl,hw'⟩
  subst w'
  unfold Xp
  generalize hrq:YB q=rq at *
  have Hrq:=Z9 hrq
  clear hrq
  cases rp with
  | none=>
   have Hz:Hid (YM l=none):=Z9 (by rw [uh Hread];rfl)
   simp only [Option.getD_none,Option.isSome_none]
   go_wp2_with fail
   exact bodyPost_ret (v:= .tuple #[.agg #[.int .i64 0,.int .i64 (rq.getD 0)],.bool false]) (by simp [results,Tryz.results242,go_sem, *]) rfl ⟨_,_,_,rfl,fun h=>(by cases h),fun _=>uh Hz,((uh B1).setCell (by show _<=w.heap.size;omega) _).setCell (by show _<=w.heap.size;omega) _⟩
  | some f=>
   cases rq with
   | none=>
    have Hz:Hid (YM l=none):=Z9 (by rw [uh Hread];rfl)
    simp only [Option.getD_none,Option.isSome_none,Option.getD_some,Option.isSome_some]
    go_wp2_with fail
    exact bodyPost_ret (v:= .tuple #[.agg #[.int .i64 f,.int .i64 0],.bool false]) (by simp [results,Tryz.results242,go_sem, *]) rfl ⟨_,_,_,rfl,fun h=>(by cases h),fun _=>uh Hz,((uh B1).setCell (by show _<=w.heap.size;omega) _).setCell (by show _<=w.heap.size;omega) _⟩
   | some k=>
    have Hz:Hid (YM l=some (f,k)):=Z9 (by rw [uh Hread];rfl)
    simp only [Option.getD_some,Option.isSome_some]
    go_wp2_with fail
    exact bodyPost_ret (v:= .tuple #[.agg #[.int .i64 f,.int .i64 k],.bool true]) (by simp [results,Tryz.results242,go_sem, *]) rfl ⟨_,_,_,rfl,fun _=>uh Hz,fun h=>(by cases h),((uh B1).setCell (by show _<=w.heap.size;omega) _).setCell (by show _<=w.heap.size;omega) _⟩
 ·have Hz:Hid (YM l=none):=Z9 (by
   unfold YM
   split
   ·rename_i a b hx;rw [hx] at h2;simp at h2
   ·rfl)
  have hne:(((Zl 58 l).length:Int) !=2)=true:=by rw [bne_iff_ne];omega
  have hcc:((Zl 58 l).length:Int)<=9223372036854775807:=by omega
  generalize (Zl 58 l).length=n2 at *
  go_wp2_with fail
  exact bodyPost_ret (v:= .tuple #[.agg #[.int .i64 0,.int .i64 0],.bool false]) (by simp [results,Tryz.results242,go_sem, *]) rfl ⟨_,_,_,rfl,fun h=>(by cases h),fun _=>uh Hz,((uh B1).setCell (by show _<=w.heap.size;omega) _).setCell (by show _<=w.heap.size;omega) _⟩
theorem Mu {α β:Type} {f:α->Option β} {l:List α} {k:Nat} {xs:List β} {y:β} (hk:k<l.length) (h:(l.take k).mapM f=some xs) (hy:f l[k]=some y):(l.take (k+1)).mapM f=some (xs++[y]):=by
 rw [List.take_succ_eq_append_getElem hk,List.mapM_append,h];simp [hy]
theorem Qz {α β:Type} {f:α->Option β} : ∀ {l:List α} {k:Nat} (hk:k<l.length),f l[k]=none->l.mapM f=none
 | x::l,0,_,h=>by simp at h;simp [List.mapM_cons,h]
 | x::l,k+1,hk,h=>by
  have ih:=Qz (f:=f) (l:=l) (k:=k) (by simpa using hk) (by simpa using h)
  rw [List.mapM_cons,ih];cases f x<;>rfl
theorem Ks {l a:Txt} {ws:List Txt} (h:Zl 32 l=a::ws):Za l=(YB a).bind fun n=>(ws.mapM YM).bind fun ps=>some (n,ps):=by unfold Za;rw [h]
theorem Nh {l:Txt} (h:(Zl 47 l).mapM Za=none):YW l=none:=by unfold YW;rw [h];rfl
theorem Ni {l:Txt} {rs:List Z2} (h:(Zl 47 l).mapM Za=some rs) (hb:Zh rs=true):YW l=some rs:=by unfold YW;rw [h];simp [hb]
theorem LR {l:Txt} {rs:List Z2} (h:(Zl 47 l).mapM Za=some rs) (hb:Zh rs=false):YW l=none:=by unfold YW;rw [h];simp [hb]
theorem Ln (w:World) (u u':Value) (t:TypeId):∀ (j:Nat) (x:Value),([u,u']:List Value)[j]?=some x->(w.alloc (.cells #[u,u'] t)).cell? ((⟨w.heap.size,0,none⟩:Addr).add j)=some x:=by
 intro j x h
 match j with
 | 0=>simp at h;subst h;simp [Addr.add]
 | 1=>simp at h;subst h;simp [Addr.add]
 | j+2=>simp at h
theorem SG (w:World) (u u':Value) (t:TypeId) (b:Nat) (hb:b=w.heap.size):∀ (j:Nat) (x:Value),([u,u']:List Value)[j]?=some x->(w.alloc (.cells #[u,u'] t)).cell? ((⟨b,0,none⟩:Addr).add j)=some x:=by
 subst hb;exact Ln w u u' t
theorem PacesAt.push {B:Nat} {v v':Value} {ps:List Z6} {f k:Int} {o:Obj} (h:PacesAt B w v ps) (hB:B<=w.heap.size)
  (hown:w1.ownsRow B 42 2 v' (ps.length+1) (Zj ps++[.int .i64 f,.int .i64 k])) (hg:(w.alloc o).grownBy w1 v.ownBlock) :
  PacesAt B w1 v' (ps++[(f,k)])/\Below B w w1:=by
 refine ⟨?_,((Below.refl B w).alloc hB o).grown hg (by simp;omega) (fun j e=>(h.lt e).1)⟩
 unfold PacesAt
 simpa [Zj] using hown
theorem Kp {b:Nat} {w w6:World} {v v':Value} {ps:List Z6} {n f kk:Int} {o:Obj} (hp:PacesAt (b+1) w v ps) (hsz:b+1<=w.heap.size)
  (hown:w6.ownsRow (b+1) 42 2 v' (ps.length+1) (Zj ps++[.int .i64 f,.int .i64 kk])) (hg:(w.alloc o).grownBy w6 v.ownBlock)
  (c0:w.cell? ⟨b,0,none⟩=some (.int .i64 n)) (c1:w.cell? ⟨b,1,none⟩=some v) (c2:w.frozen? ⟨b,1,none⟩=false) :
  ∃ a cap,v'= .slice a (ps.length+1) cap/\w6.cell? ⟨b,1,none⟩=some v/\w6.frozen? ⟨b,1,none⟩=false/\
   Hid ((w6.setCell ⟨b,1,none⟩ v').cell? ⟨b,0,none⟩=some (.int .i64 n)/\(w6.setCell ⟨b,1,none⟩ v').cell? ⟨b,1,none⟩=some v'/\(w6.setCell ⟨b,1,none⟩ v').frozen? ⟨b,1,none⟩=false/\
    PacesAt (b+1) (w6.setCell ⟨b,1,none⟩ v') v' (ps++[(f,kk)])/\Below b w (w6.setCell ⟨b,1,none⟩ v')/\b+1<=(w6.setCell ⟨b,1,none⟩ v').heap.size):=by
 obtain ⟨hpa,hbl⟩:=hp.push hsz hown hg
 obtain ⟨a,cap,hsh⟩:=hpa.shape
 have d0:=(hbl.cell (p:=⟨b,0,none⟩) (by show b<b+1;omega)).trans c0
 have d1:=(hbl.cell (p:=⟨b,1,none⟩) (by show b<b+1;omega)).trans c1
 have d2:=(hbl.frozen (p:=⟨b,1,none⟩) (by show b<b+1;omega)).trans c2
 refine ⟨a,cap,by simpa using hsh,d1,d2,?_⟩
 refine ⟨?_,?_,?_,?_,?_,?_⟩
 ·rw [World.cell?_setCell_other _ _ _ _ (by simp)];exact d0
 ·exact World.cell?_setCell_same _ _ _ d1
 ·rw [World.frozen?_setCell];exact d2
 ·exact XS hpa (fun q e=>Below.heap_setCell w6 ⟨b,1,none⟩ v' q (by have:=(hpa.lt e).1;show q ≠ b;omega))
 ·have hb0:Below b w w6:=hbl.mono (Nat.le_succ b)
  exact hb0.setCell (Nat.le_refl b) v'
 ·have:=hbl.size;simp;omega
theorem DL {b n₀:Nat} {w w6:World} {v v' pv:Value} {qs:List (Z2 × Value)} {ps:List Z6} {n:Int} {o:Obj} (h:OwnHall n₀ w v qs) (hp:PacesAt n₀ w pv ps)
  (hoff:∀ b,pv.ownBlock=some b->v.ownBlock ≠ some b) (hap:∀ q ∈ qs,∀ b,q.2.ownBlock=some b->pv.ownBlock ≠ some b)
  (hown:w6.ownsRow n₀ 45 2 v' (qs.length+1) (Tf qs++[.int .i64 n,pv])) (hg:(w.alloc o).grownBy w6 v.ownBlock) (hat:v'.ownBlock=v.ownBlock\/v'.ownBlock=some (w.alloc o).heap.size)
  (hb:b<n₀) (hsz:n₀<=w.heap.size) (c1:w.cell? ⟨b,0,none⟩=some v) (c2:w.frozen? ⟨b,0,none⟩=false) :
  ∃ a cap,v'= .slice a (qs.length+1) cap/\w6.cell? ⟨b,0,none⟩=some v/\w6.frozen? ⟨b,0,none⟩=false/\
   Hid ((w6.setCell ⟨b,0,none⟩ v').cell? ⟨b,0,none⟩=some v'/\(w6.setCell ⟨b,0,none⟩ v').frozen? ⟨b,0,none⟩=false/\
    OwnHall n₀ (w6.setCell ⟨b,0,none⟩ v') v' (qs++[((n,ps),pv)])/\Below n₀ w w6):=by
 have hpush:=h.push hp hoff hap hown hg hat
 have hbl:Below n₀ w w6:=((Below.refl n₀ w).alloc hsz o).grown hg (by simp;omega) (fun j e=>(h.lt (.inl e)).1)
 obtain ⟨a,cap,hsh⟩:=hpush.shape
 have d1:=(hbl.cell (p:=⟨b,0,none⟩) hb).trans c1
 have d2:=(hbl.frozen (p:=⟨b,0,none⟩) hb).trans c2
 refine ⟨a,cap,by simpa using hsh,d1,d2,?_,?_,?_,hbl⟩
 ·exact World.cell?_setCell_same _ _ _ d1
 ·rw [World.frozen?_setCell];exact d2
 ·exact hpush.same (fun k h0 hk=>Below.heap_setCell w6 ⟨b,0,none⟩ v' k (by show k ≠ b;omega))
end Go.Proofs.YtffcgajndmhpkaaGreatDoor
