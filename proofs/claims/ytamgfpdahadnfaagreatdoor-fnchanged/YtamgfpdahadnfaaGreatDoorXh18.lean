/- Part 18 of what the proof rests on. No condition but those that a theorem names. -/
import Derived.Test.YtamgfpdahadnfaaGreatDoorXh17
import Derived.Lib.ItoaNum
import Derived.Lib.ItoaLen
import Derived.Lib.AtoiTie
import Derived.Lib.ParseIntBTie
import Derived.Lib.SplitLaws
import Derived.Lib.Join
import Derived.Deep.DeepMust
set_option maxHeartbeats 8000000
set_option maxRecDepth 100000
namespace Go.Proofs.YtamgfpdahadnfaaGreatDoor
open Go.ChangeShapes Go.WideShapes Go.ChangeAt Go.RowKit Go.Sort
open Draw (St Off Row Cur)
set_option linter.unusedVariables false
variable {w w' w0 w1 w2 w3 w₀ wr W W' X A B C : World} {v v0 v1 v2 v3 v4 u u0 u1 u2 u3 u4 : Value}
theorem Ga {ps:List Zt} {ab low hi:Int} (h:Zk ps=true) (hl:ps.length<=5) (a0:0<=ab) (a1:ab<(ps.length:Int)+1) (l0:0<=low) (l1:low<=hi) (h1:hi<=1024):Zk (ps++[(ab-1,low,hi)])=true:=by
 obtain ⟨hu,_⟩:=Vp h;unfold Zk;rw [List.length_append];show (TW _ (ps.length+1) && decide (ps.length+1<=6))=true;rw [decide_eq_true (by omega),Bool.and_true,Qo]
 have hsame:TW (ps++[(ab-1,low,hi)]) ps.length=true:=by
  unfold TW;refine List.all_eq_true.2 fun j hj=> ?_;have hj':=List.mem_range.1 hj;rw [Vv,if_neg (by omega)];exact Iz hu hj'
 rw [hsame,Vv,if_pos rfl,Bool.true_and];unfold Xj Yx;simp only [ZM,YW];exact ⟨Zn (by omega) (by omega),⟨Zn l0 (by omega),Zn (by omega) h1⟩,l1⟩
theorem Jh (a:Option Addr) (len cap bc:Nat) (w:World) (hs:St a len cap bc w) :
  Calls Tryz.prog 149 #[.pointer (some ⟨bc,0,none⟩)] w fun e w'=> ∃ v ps,e= .returned v/\Zk ps=true/\Gbox a len cap bc w w' v ps:=by
 have Hs:=Z9 hs;have hbc:=WS hs;clear hs;go_enter Tryz.func149,Tryz.ntmps149;go_wp2_with fail;have HE:Hid (GuildsAt w.heap.size (w.alloc (.cells #[] 75)) (.slice (some ⟨w.heap.size,0,none⟩) 0 0) []):=Z9 (Y8 rfl (Z2 _));refine (Draw.below_any a len cap bc 5 (by omega) (by omega) _ ((uh Hs).alloc _)).mono ?_;rintro e w1 ⟨n,rfl,n0,n1,s1,o1⟩;have HG1:Hid (Gbox a len cap bc w w1 (.slice (some ⟨w.heap.size,0,none⟩) 0 0) []):=Z9 (Gbox.step ⟨(uh Hs).alloc _,(Off.refl _ _).alloc _,hbc,uh HE⟩ s1 o1);clear s1 o1 HE;go_wp2_with fail
 go_loopw [3,4] (fun s i wr=> ∃ (k:Nat) (ps:List Zt),ps.length+k<=4/\Zk ps=true/\i= .int .i64 k/\Gbox a len cap bc w wr s ps) (fun _ i _=>(intOf i).toNat)
 case atStart=>exact ⟨n.toNat,[],by simp;omega,rfl,by rw [show ((n.toNat:Nat):Int)=n by omega],uh HG1⟩
 case round=>
  obtain ⟨k,ps,hk,hgs,rfl,hG⟩:=hrel;have Hgs:=Z9 hgs;clear hgs;obtain ⟨ra,rcap,rfl⟩:=RecAt.shape hG.row;have HG:=Z9 hG;clear hG;by_cases hk0:0<k
  ·go_wp2_with fail
   refine (Draw.below_any a len cap bc 600 (by omega) (by omega) _ (uh HG).st).mono ?_;rintro e w2 ⟨low,rfl,l0,l1,s2,o2⟩;have HG2:=Z9 ((uh HG).step s2 o2);clear s2 o2 HG;go_wp2_with fail;refine (Draw.below_any a len cap bc _ (by omega) (by omega) _ (uh HG2).st).mono ?_;rintro e w3 ⟨ab,rfl,a0,a1,s3,o3⟩;have HG3:=Z9 ((uh HG2).step s3 o3);clear s3 o3 HG2;go_wp2_with fail;refine (Draw.from_any a len cap bc low 1024 (by omega) (by omega) (by omega) _ (uh HG3).st).mono ?_;rintro e w4 ⟨hi,rfl,h0,h1,s4,o4⟩;have HG4:=Z9 ((uh HG3).step s4 o4);have hsz:=(uh HG4).off.size;clear s4 o4 HG3;go_wp2_with (at_builtin;refine ZH DF rfl (.tmp 15) (.tmp 27) 27 Tryz.underlying27 rfl w.heap.size _ _ ps [(ab-1,low,hi)] rfl rfl ((uh HG4).alloc _).row (LI _ _ _ rfl (Z2 _) (by omega)) (by simp;omega) (by simp;omega) ?_;intro v' w5 hown hgrow hat)
   have HG5:=Z9 (((uh HG4).alloc _).grown hgrow hown);clear hown hgrow hat;go_wp2_with fail;go_roundw
   case rel=>exact ⟨k-1,ps++[(ab-1,low,hi)],by simp;omega,Ga (uh Hgs) (by omega) (by omega) (by omega) (by omega) (by omega) (by omega),by rw [show ((k:Int)-1)=((k-1:Nat):Int) by omega],uh HG5⟩
   case measure=>exact ms
  ·obtain rfl:k=0:=by omega
   go_wp2_with fail;go_ret;exact ⟨_,ps,rfl,uh Hgs,uh HG⟩
open Go.Lib
abbrev Txt:=List UInt8
def YU (c:UInt8) (cur:Txt):Txt->List Txt
 | []=>[cur]
 | x::r=>if x=c then cur::YU c [] r else YU c (cur++[x]) r
def YZ (c:UInt8) (l:Txt):List Txt:=YU c [] l
theorem UP (c:UInt8) (cur r:Txt):YU c cur (c::r)=cur::YU c [] r:=by simp [YU]
theorem UQ {c x:UInt8} (h:x ≠ c) (cur r:Txt):YU c cur (x::r)=YU c (cur++[x]) r:=by simp [YU,h]
theorem WO (c:UInt8):∀ (l cur:Txt),1<=(YU c cur l).length/\(YU c cur l).length<=l.length+1
 | [],cur=>by simp [YU]
 | x::r,cur=>by
  by_cases h:x=c
  ·subst h;rw [UP];have:=WO x r [];simp;omega
  ·rw [UQ h];have:=WO c r (cur++[x]);simp;omega
theorem Kk (c:UInt8) (l:Txt):YZ c l ≠ []:=fun h=>by have:=(WO c l []).1;unfold YZ at h;rw [h] at this;simp at this
theorem Ux (c:UInt8):∀ (l cur:Txt),∀ p ∈ YU c cur l,p.length<=cur.length+l.length
 | [],cur,p,hp=>by simp [YU] at hp;subst hp;simp
 | x::r,cur,p,hp=>by
  by_cases h:x=c
  ·subst h;rw [UP] at hp
   rcases List.mem_cons.1 hp with rfl | hp
   ·simp
   ·have:=Ux x r [] p hp;simp at this ⊢;omega
  ·rw [UQ h] at hp;have:=Ux c r _ p hp;simp at this ⊢;omega
theorem Qv (sep x:Txt) (r:List Txt):joinTail sep (x::r)=sep++x++joinTail sep r:=by simp [joinTail]
theorem Ui (c:UInt8):∀ (l cur:Txt),join (YU c cur l) [c]=cur++l
 | [],cur=>by simp [YU,join_one]
 | x::r,cur=>by
  by_cases h:x=c
  ·subst h
   rw [UP,join_cons];have ih:=Ui x r [];cases hs:YU x [] r with
   | nil=>have:=(WO x r []).1;rw [hs] at this;simp at this
   | cons p q=>rw [hs,join_cons] at ih;rw [Qv];simp at ih ⊢;rw [ih]
  ·rw [UQ h,Ui c r];simp
def X8 (l:Txt):Option Int:=
 match l with
 | []=>none
 | c::r=>if c=45 then (if r=[]\/9<r.length\/r.head?=some 48 then none else (decFrom 0 r).map fun n:Nat=> -(n:Int))
  else if 9<(c::r).length\/(c=48/\r ≠ []) then none else (decFrom 0 (c::r)).map fun n:Nat=>(n:Int)
theorem GO {d:Nat} (h:d<10):(UInt8.ofNat (48+d)).toNat=48+d:=by simp;omega
theorem Ly {b:UInt8} {d:Nat} (h:digitVal b=some d):d<10/\b=UInt8.ofNat (48+d):=by
 obtain ⟨h1,h2,h3⟩:=digitVal_eq h;refine ⟨by omega,?_⟩;apply UInt8.toNat_inj.1;rw [GO (by omega)];omega
theorem Lx {a d:Nat} (ha:0<a) (hd:d<10):decDigits (a*10+d)=decDigits a++[UInt8.ofNat (48+d)]:=by
 rw [decDigits,dif_neg (by omega),show (a*10+d) / 10=a by omega,show (a*10+d)%10=d by omega]
theorem Rj:∀ (r:Txt) (a n:Nat),0<a->decFrom a r=some n->decDigits n=decDigits a++r/\a<=n
 | [],a,n,_,h=>by simp [decFrom] at h;subst h;simp
 | b::r,a,n,ha,h=>by
  unfold decFrom at h;cases hd:digitVal b with
  | none=>rw [hd] at h;cases h
  | some d=>
   rw [hd] at h;obtain ⟨h1,h2⟩:=Ly hd;have ih:=Rj r (a*10+d) n (by omega) h;rw [ih.1,Lx ha h1,h2];simp;omega
theorem RY {b:UInt8} {r:Txt} {n:Nat} (h:decFrom 0 (b::r)=some n) (hb:b ≠ 48\/r=[]):decDigits n=b::r/\(b ≠ 48->0<n):=by
 unfold decFrom at h;cases hd:digitVal b with
 | none=>rw [hd] at h;cases h
 | some d=>
  rw [hd] at h;obtain ⟨h1,h2⟩:=Ly hd;simp at h;by_cases h0:d=0
  ·subst h0
   have hb48:b=48:=by rw [h2];rfl
   rcases hb with hb | rfl
   ·exact absurd hb48 hb
   ·simp [decFrom] at h;subst h;subst hb48;exact ⟨by rw [decDigits_one (by decide)];rfl,fun h=>absurd rfl h⟩
  ·have:=Rj r d n (by omega) h
   rw [this.1,decDigits_one h1,h2];simp;intro _;omega
theorem SN {l:Txt} {v:Int} (h:X8 l=some v):l=itoa v/\ -999999999<=v/\v<=999999999:=by
 unfold X8 at h
 split at h
 ·cases h
 ·rename_i c r
  split at h
  ·rename_i hc
   split at h
   ·cases h
   ·rename_i hr
    simp only [not_or] at hr;obtain ⟨n,hn,rfl⟩:=Option.map_eq_some_iff.1 h;cases r with
    | nil=>exact absurd rfl hr.1
    | cons b r=>
     have hb:b ≠ 48:=fun e=>hr.2.2 (by simp [e]);have hw:=RY hn (.inl hb);have hlt:=decFrom_lt _ _ _ hn;have:n<10 ^ 9:=Zf (by simpa using hlt) (Nat.pow_le_pow_right (by decide) (by have:=hr.2.1;simp at this ⊢;omega));have h3:(10:Nat) ^ 9=1000000000:=by decide
     have hp:=hw.2 hb;refine ⟨?_,by omega,by omega⟩;unfold itoa;rw [if_pos (by omega),show (-(n:Int)).natAbs=n by omega,hw.1,hc]
  ·rename_i hc
   split at h
   ·cases h
   ·rename_i hr
    simp only [not_or] at hr;obtain ⟨n,hn,rfl⟩:=Option.map_eq_some_iff.1 h
    have hb:c ≠ 48\/r=[]:=by
     by_cases e:c=48
     ·exact .inr (Classical.byContradiction fun hne=>hr.2 ⟨e,hne⟩)
     ·exact .inl e
    have hw:=RY hn hb;have hlt:=decFrom_lt _ _ _ hn;have:n<10 ^ 9:=Zf (by simpa using hlt) (Nat.pow_le_pow_right (by decide) (by have:=hr.1;simp at this ⊢;omega));have h3:(10:Nat) ^ 9=1000000000:=by decide
    refine ⟨?_,by omega,by omega⟩;unfold itoa;rw [if_neg (by omega),show ((n:Int)).toNat=n by omega,hw.1]
def Yi (l:Txt):Option Z4:=
 match YZ 58 l with
 | [a,b]=>(X8 a).bind fun f=>(X8 b).bind fun k=>some (f,k)
 | _=>none
def YP (l:Txt):Option ZZ:=
 match YZ 32 l with
 | []=>none
 | a::ws=>(X8 a).bind fun n=>(ws.mapM Yi).bind fun ps=>some (n,ps)
def Yy (l:Txt):Option (List ZZ):=((YZ 47 l).mapM YP).bind fun rs=>if Y2 rs=true then some rs else none
def PM (p:Z4):Txt:=itoa p.1++58::itoa p.2
def PN (r:ZZ):Txt:=join (itoa r.1::r.2.map PM) [32]
def Im (rs:List ZZ):Txt:=if Y2 rs=true then join (rs.map PN) [47] else []
theorem KT {l:Txt} {p:Z4} (h:Yi l=some p):PM p=l:=by
 unfold Yi at h
 split at h
 ·rename_i a b hs
  obtain ⟨f,hf,h⟩:=Option.bind_eq_some_iff.1 h;obtain ⟨k,hk,h⟩:=Option.bind_eq_some_iff.1 h;cases h;have hj:=Ui 58 l [];unfold YZ at hs;rw [hs,join_cons,Qv] at hj;unfold PM;rw [<-(SN hf).1,<-(SN hk).1];simpa [joinTail] using hj
 ·cases h
theorem OK {α β:Type} {f:α->Option β} {g:β->α} : ∀ (l:List α) (ps:List β),l.mapM f=some ps->(∀ x p,f x=some p->g p=x)->ps.map g=l
 | [],ps,h,_=>by simp at h;subst h;rfl
 | x::l,ps,h,hg=>by
  rw [List.mapM_cons] at h;obtain ⟨p,hp,h⟩:=Option.bind_eq_some_iff.1 h;obtain ⟨q,hq,h⟩:=Option.bind_eq_some_iff.1 h;cases h;simp [hg x p hp,OK l q hq hg]
theorem KU {l:Txt} {r:ZZ} (h:YP l=some r):PN r=l:=by
 unfold YP at h
 split at h
 ·cases h
 ·rename_i a ws hs
  obtain ⟨n,hn,h⟩:=Option.bind_eq_some_iff.1 h;obtain ⟨ps,hp,h⟩:=Option.bind_eq_some_iff.1 h;cases h;have hj:=Ui 32 l [];unfold YZ at hs;rw [hs] at hj;unfold PN;rw [<-(SN hn).1,OK (g:=PM) _ _ hp (fun x p=>KT)];simpa using hj
theorem KQ {l:Txt} {rs:List ZZ} (h:Yy l=some rs):Y2 rs=true/\Im rs=l:=by
 unfold Yy at h;obtain ⟨rs',hr,h⟩:=Option.bind_eq_some_iff.1 h
 split at h
 ·rename_i hb
  cases h;refine ⟨hb,?_⟩;unfold Im;rw [if_pos hb,OK (g:=PN) _ _ hr (fun x p=>KU)];have hj:=Ui 47 l [];simpa [YZ] using hj
 ·cases h
open Go.Lib (digitVal decFrom)
def bs (l:Txt):ByteArray:=⟨l.toArray⟩
theorem QQ (l:Txt):(bs l).data.toList=l:=by simp [bs]
theorem CZ (s:ByteArray):bs s.data.toList=s:=by simp [bs]
theorem yZ (l:Txt):(bs l).size=l.length:=by simp [bs,ByteArray.size]
def StrsAt (n₀:Nat) (w:World) (v:Value) (zs:List Txt):Prop:=w.ownsRow n₀ 9 1 v zs.length (zs.map fun z=>Value.string (bs z))
theorem StrsAt.lt {n₀:Nat}  {zs:List Txt} (h:StrsAt n₀ w v zs) {k:Nat} (hk:v.ownBlock=some k):n₀<=k/\k<w.heap.size:=World.ownsRow.lt h k hk
theorem StrsAt.view {n₀:Nat}  {zs:List Txt} (h:StrsAt n₀ w v zs) :
  ∃ (a:Option Addr) (cap:Nat),v= .slice a zs.length cap/\zs.length<=cap/\cap<=9223372036854775807/\(zs=[]\/ ∃ g,a=some ⟨g,0,none⟩/\n₀<=g/\g<w.heap.size/\
   (∀ k,k<zs.length->w.cell? ⟨g,k,none⟩=some (.string (bs (zs.getD k []))))):=by
 have h':=h
 rcases h.2 with ⟨rfl,hz⟩ | ⟨g,cap,cur,rfl,hb,hg,hnc,hcm,r⟩
 ·exact ⟨none,0,by rw [hz],by omega,by omega,.inl (List.eq_nil_of_length_eq_zero hz)⟩
 ·refine ⟨_,cap,rfl,hnc,by unfold maxLen at hcm;omega,.inr ⟨g,rfl,hb,(Array.getElem?_eq_some_iff.1 hg).1,fun k hk=> ?_⟩⟩
  rw [World.ownsRow.cellAt h' k (by omega)];simp [List.getElem?_eq_getElem hk]
theorem zd:(Tryz.prog.info? 9).map (fun i=>(i.zero,i.size,i.bytes))=some (some (.string ByteArray.empty),1,16):=by kernel_rfl
theorem CC (l:Txt) (f k:Nat) (hf:f<=k) (h:k<l.length):(l.take (k+1)).drop f=(l.take k).drop f++[l[k]]:=by
 rw [List.take_succ_eq_append_getElem h,List.drop_append_of_le_length (by simp;omega)]
theorem OA (l:Txt) (k:Nat) (h:k<l.length):l.drop k=l[k]::l.drop (k+1):=List.drop_eq_getElem_cons h
theorem D7 (s:ByteArray) (f k:Nat):s.extract f k=bs ((s.data.toList.take k).drop f):=by
 rw [<-CZ (s.extract f k)];congr 1;rw [Go.Lib.extract_data];simp [List.drop_take]
theorem Kl {v v':Value} {P:List Txt} {s:ByteArray} {a k:Nat} {o:Obj} (hown:StrsAt w.heap.size wr v P) (hb:Below w.heap.size w wr)
  (hown':w1.ownsRow w.heap.size 9 1 v' (P.length+1) ((P.map fun z=>Value.string (bs z))++[.string (s.extract a k)])) (hg:(wr.alloc o).grownBy w1 v.ownBlock) :
  StrsAt w.heap.size w1 v' (P++[(s.data.toList.take k).drop a])/\Below w.heap.size w w1:=by
 refine ⟨?_,?_⟩
 ·unfold StrsAt;rw [D7] at hown';simpa using hown'
 ·exact (hb.alloc hb.size o).grown hg (by have:=hb.size;simp;omega) (fun j ej=>(hown.lt ej).1)
theorem Rz (s:ByteArray) (c:UInt8) (w:World) (hs:s.size<=1048576) :
  Calls Tryz.prog 249 #[.string s,.int .u8 c.toNat] w fun e w'=> ∃ v,e= .returned v/\StrsAt w.heap.size w' v (YZ c s.data.toList)/\Below w.heap.size w w':=by
 obtain ⟨i0,hi,hz0,hz1,hz2⟩:=info_parts zd;go_enter Tryz.func249,Tryz.ntmps249;go_wp2_with fail
 go_loopw [5,6,7] (fun v f i wr=> ∃ (P:List Txt) (a k:Nat),f= .int .i64 a/\i= .int .i64 k/\StrsAt w.heap.size wr v P/\P.length<=k/\Below w.heap.size w wr/\((k<=s.size/\a<=k/\P++YU c ((s.data.toList.take k).drop a) (s.data.toList.drop k)=YZ c s.data.toList)\/(k=s.size+1/\P=YZ c s.data.toList))) (fun _ _ i _=>s.size+1-(intOf i).toNat)
 case atStart=>exact ⟨[],0,0,rfl,rfl,World.ownsRow_lit w #[] 0 (Z2 _) (by simp [maxLen]) rfl,by simp,(ba _ _),.inl ⟨by omega,by omega,by simp [YZ]⟩⟩
 case round=>
  obtain ⟨P,a,k,rfl,rfl,hown,hpl,hb,hcase⟩:=hrel;have Hb:=Z9 hb;have Hown:=Z9 hown;clear hb hown
  rcases hcase with ⟨hk,ha,hsp⟩ | ⟨rfl,hP⟩
  ·have Hsp:=Z9 hsp
   clear hsp;by_cases hend:k=s.size
   ·subst hend
    go_wp2_with (at_builtin;refine wpList_append_own _ rfl _ _ 186 rfl w.heap.size 9 i0 (.string ByteArray.empty) 1 16 Tryz.underlying186 hi hz0 hz1 hz2 rfl (by decide) _ _ _ rfl (World.ownsRow.alloc (uh Hown) _) ⟨_,0,none⟩ 1 1 [.string (s.extract a s.size)] rfl rfl (cell_one_new _ _ _) (by simp [Value.oneCell']) (by simp only [maxLen];omega) (by omega) (by have:=(uh Hb).size;simp;omega) ?_;intro v' w1 hown' hgrow _;have R:=Kl (uh Hown) (uh Hb) hown' hgrow;have HR:=Z9 R;clear hown' hgrow R)
    go_roundw
    case rel=>exact ⟨P++[(s.data.toList.take s.size).drop a],s.size+1,s.size+1,by go_num,by go_num,(uh HR).1,by simp;omega,(uh HR).2,.inr ⟨rfl,by rw [<-uh Hsp,List.drop_eq_nil_of_le (show s.data.toList.length<=s.size by simp)];rfl⟩⟩
    case measure=>simp [intOf]
   ·have hlt:k<s.size:=by omega
    have hll:k<s.data.toList.length:=by simpa using hlt
    have hat:s.data.toList[k]=s[k]:=rfl;by_cases hc:s[k]=c
    ·have Hc:=Z9 hc
     have Hn:Hid (P++[(s.data.toList.take k).drop a]++YU c ((s.data.toList.take (k+1)).drop (k+1)) (s.data.toList.drop (k+1))=YZ c s.data.toList):=Z9 (by
      have h0:=uh Hsp;rw [OA _ k hll,hat,hc,UP] at h0
      rw [<-h0];simp)
     clear hc hat;have hbeq:((s[k].toNat:Int) ==(c.toNat:Int))=true:=by rw [show s[k]=c from uh Hc];simp
     have hne:((k:Int) ==(s.size:Int))=false:=beq_eq_false_iff_ne.2 (by omega);go_wp2_with (at_builtin;refine wpList_append_own _ rfl _ _ 186 rfl w.heap.size 9 i0 (.string ByteArray.empty) 1 16 Tryz.underlying186 hi hz0 hz1 hz2 rfl (by decide) _ _ _ rfl (World.ownsRow.alloc (uh Hown) _) ⟨_,0,none⟩ 1 1 [.string (s.extract a k)] rfl rfl (cell_one_new _ _ _) (by simp [Value.oneCell']) (by simp only [maxLen];omega) (by omega) (by have:=(uh Hb).size;simp;omega) ?_;intro v' w1 hown' hgrow _;have R:=Kl (uh Hown) (uh Hb) hown' hgrow;have HR:=Z9 R;clear hown' hgrow R)
     go_roundw
     case rel=>exact ⟨P++[(s.data.toList.take k).drop a],k+1,k+1,by go_num,by go_num,(uh HR).1,by simp;omega,(uh HR).2,.inl ⟨by omega,by omega,uh Hn⟩⟩
     case measure=>exact ms
    ·have Hn:Hid (P++YU c ((s.data.toList.take (k+1)).drop a) (s.data.toList.drop (k+1))=YZ c s.data.toList):=Z9 (by
      have h0:=uh Hsp;rw [OA _ k hll,hat,UQ hc] at h0
      rw [<-h0,CC _ a k ha hll,hat])
     have hbeq:((s[k].toNat:Int) ==(c.toNat:Int))=false:=beq_eq_false_iff_ne.2 (fun e=>hc (UInt8.toNat_inj.1 (by omega)));have hne:((k:Int) ==(s.size:Int))=false:=beq_eq_false_iff_ne.2 (by omega);clear hc hat;go_wp2_with fail;go_roundw
     case rel=>exact ⟨P,a,k+1,rfl,by go_num,uh Hown,by omega,uh Hb,.inl ⟨by omega,by omega,uh Hn⟩⟩
     case measure=>exact ms
  ·have HP:=Z9 hP
   clear hP;go_wp2_with fail;go_ret;exact ⟨_,rfl,by rw [<-uh HP];exact uh Hown,uh Hb⟩
theorem UI {l:Txt} {acc n k:Nat} {b:UInt8} (h1:l[k]?=some b) (h2:digitVal b=none):Go.Lib.decFrom acc l=none:=by
 cases h:Go.Lib.decFrom acc l with
 | none=>rfl
 | some m=>obtain ⟨d,hd⟩:=Go.Lib.digit_of_decFrom l acc m h k b h1;rw [h2] at hd;cases hd
theorem Q4 {c:UInt8} {r:Txt} (hc:c ≠ 45) (h9:(c::r).length<=9) (h0:¬ (c=48/\r ≠ [])):X8 (c::r)=(Go.Lib.decFrom 0 (c::r)).map fun n:Nat=>(n:Int):=by
 unfold X8;simp only [if_neg hc];rw [if_neg];rw [not_or];exact ⟨by omega,h0⟩
theorem TR {c:UInt8} {r:Txt} (hc:c ≠ 45) (h:9<(c::r).length\/(c=48/\r ≠ [])):X8 (c::r)=none:=by
 unfold X8;simp only [if_neg hc];rw [if_pos h]
theorem OS {r:Txt} (h1:r ≠ []) (h9:r.length<=9) (h0:r.head? ≠ some 48):X8 (45::r)=(Go.Lib.decFrom 0 r).map fun n:Nat=> -(n:Int):=by
 unfold X8;simp only [if_true];rw [if_neg];rw [not_or,not_or];exact ⟨h1,by omega,h0⟩
theorem Vc {r:Txt} (h:r=[]\/9<r.length\/r.head?=some 48):X8 (45::r)=none:=by
 unfold X8;simp only [if_true];rw [if_pos h]
def Wx (l:Txt):Value:= .tuple #[.int .i64 ((X8 l).getD 0),.bool (X8 l).isSome]
theorem Xv {l:Txt} (h:X8 l=none):Wx l= .tuple #[.int .i64 0,.bool false]:=by unfold Wx;rw [h];rfl
theorem Qi {l:Txt} {v:Int} (h:X8 l=some v):Wx l= .tuple #[.int .i64 v,.bool true]:=by unfold Wx;rw [h];rfl
theorem FX {b:UInt8} (h1:48<=b.toNat) (h2:b.toNat<=57):digitVal b=some (b.toNat-48):=by unfold Go.Lib.digitVal;rw [if_pos ⟨h1,h2⟩]
theorem QS {b:UInt8} (h:b.toNat<48\/57<b.toNat):digitVal b=none:=by unfold Go.Lib.digitVal;rw [if_neg (by omega)]
theorem OW {a b:Value} (h:a=b):Ending.returned a= .returned b:=by rw [h]
theorem SA {s:ByteArray} (h:0<s.size):s.data.toList=s[0]::s.data.toList.drop 1:=OA s.data.toList 0 (by simpa using h)
theorem D9 {s:ByteArray} {k:Nat} (h:k<s.size):s.data.toList[k]?=some s[k]:=by
 rw [List.getElem?_eq_getElem (by simpa using h)];rfl
theorem zb {s:ByteArray} {k:Nat} (h:k<s.size) (h1:1<=k):(s.data.toList.drop 1)[k-1]?=some s[k]:=by
 rw [List.getElem?_drop,show 1+(k-1)=k by omega];exact D9 h
theorem yC {s:ByteArray} (h:0<s.size):s.toList.isEmpty=false:=by
 rw [ByteArray.toList_eq,SA h];rfl
theorem IY {b c:UInt8} (h:b ≠ c):((b.toNat:Int) ==(c.toNat:Int))=false:=beq_eq_false_iff_ne.2 (fun e=>h (UInt8.toNat_inj.1 (by omega)))
theorem IX {b c:UInt8} (h:b=c):((b.toNat:Int) ==(c.toNat:Int))=true:=by rw [h];simp
theorem Eo (s:ByteArray) (w:World) (h0:0<s.size) (hm:s.size<=9223372036854775807) (h45:s[0] ≠ 45) :
  Calls Tryz.prog 250 #[.string s] w fun e w'=>e= .returned (Wx s.data.toList)/\w'=w:=by
 have Hl:=Z9 (SA h0);have hemp:=yC h0;have H45:=Z9 h45;have hb45:((s[0].toNat:Int) ==45)=false:=IY (c:=45) h45;have hlen:s.data.toList.length=s.size:=by simp
 have Hlen:=Z9 hlen;clear h45 hlen;by_cases h9:9<s.size
 ·have hd1:decide ((s.size:Int)<1)=false:=Xr (by omega)
  have hd2:decide (9<(s.size:Int))=true:=Vx (by omega);have HN:Hid (Wx s.data.toList= .tuple #[.int .i64 0,.bool false]):=Z9 (Xv (by rw [uh Hl];exact TR (uh H45) (.inl (by rw [<-uh Hl,uh Hlen];omega))));go_enter Tryz.func250,Tryz.ntmps250;go_wp2_with fail
  go_ret2
  exact ⟨OW (uh HN).symm,rfl⟩
 have hd1:decide ((s.size:Int)<1)=false:=Xr (by omega);have hd2:decide (9<(s.size:Int))=false:=Xr (by omega);go_enter Tryz.func250,Tryz.ntmps250;go_wp2_with fail
 go_loop [6,7] (fun n i=> ∃ (k m:Nat),0<=k/\k<=s.size/\i= .int .i64 k/\n= .int .i64 m/\decFrom 0 (s.data.toList.take k)=some m) (fun _ i=>s.size-(intOf i).toNat)
 case atStart=>exact ⟨0,0,by omega,by omega,rfl,rfl,by simp [decFrom]⟩
 case round=>
  obtain ⟨k,m,hk1,hk,rfl,rfl,hdec⟩:=hrel
  have hmb:m<1000000000:=by
   have hx:=Go.Lib.decFrom_lt _ _ _ hdec;have hy:(s.data.toList.take k).length<=9:=by rw [List.length_take];omega
   exact Zf (by simpa using hx) (XH (Nat.pow_le_pow_right (by decide) hy) (by decide))
  have Hdec:=Z9 hdec;clear hdec;by_cases hlt:k<s.size
  ·have hga:=D9 hlt
   have Hga:=Z9 hga;clear hga;have hb8:s[k].toNat<=255:=by have:=s[k].toNat_lt;omega
   by_cases hd:s[k].toNat<48
   ·have HN:Hid (Wx s.data.toList= .tuple #[.int .i64 0,.bool false]):=Z9 (Xv (by rw [uh Hl];by_cases hz:s[0]=48/\s.data.toList.drop 1 ≠ [];exact TR (uh H45) (.inr hz);rw [Q4 (uh H45) (by rw [<-uh Hl,uh Hlen];omega) hz,<-uh Hl,UI (n:=0) (uh Hga) (QS (by omega))];rfl))
    have ht:decide ((s[k].toNat:Int)<48)=true:=Vx (by omega);go_wp2_with fail
    go_ret2
    exact ⟨OW (uh HN).symm,rfl⟩
   by_cases hd':57<s[k].toNat
   ·have HN:Hid (Wx s.data.toList= .tuple #[.int .i64 0,.bool false]):=Z9 (Xv (by rw [uh Hl];by_cases hz:s[0]=48/\s.data.toList.drop 1 ≠ [];exact TR (uh H45) (.inr hz);rw [Q4 (uh H45) (by rw [<-uh Hl,uh Hlen];omega) hz,<-uh Hl,UI (n:=0) (uh Hga) (QS (by omega))];rfl))
    have ht:decide ((s[k].toNat:Int)<48)=false:=Xr (by omega);have ht':decide (57<(s[k].toNat:Int))=true:=Vx (by omega);go_wp2_with fail
    go_ret2
    exact ⟨OW (uh HN).symm,rfl⟩
   ·have ht:decide ((s[k].toNat:Int)<48)=false:=Xr (by omega)
    have ht':decide (57<(s[k].toNat:Int))=false:=Xr (by omega);have Hn:=Z9 (Go.Lib.decFrom_take s.data.toList k 0 m s[k] (s[k].toNat-48) (uh Hdec) (uh Hga) (FX (by omega) (by omega)));have Hx:Hid (((m*10+(s[k].toNat-48):Nat):Int)=(m:Int)*10+((s[k].toNat:Int)-48)):=Z9 (by omega);have g1:48<=(s[k].toNat:Int):=by omega
    have g2:(s[k].toNat:Int)<=57:=by omega
    go_wp2_with fail
    go_round
    case rel=>exact ⟨k+1,m*10+(s[k].toNat-48),by omega,by omega,by go_num,by rw [uh Hx],uh Hn⟩
    case measure=>exact ms
  ·obtain rfl:k=s.size:=by omega
   have Hall:Hid (decFrom 0 s.data.toList=some m):=Z9 (by have hh:=uh Hdec;rwa [List.take_of_length_le (by rw [uh Hlen];omega)] at hh);by_cases hz:s[0]=48
   ·have hb48:((s[0].toNat:Int) ==48)=true:=IX (c:=48) hz
    by_cases h1s:1<s.size
    ·have ht:decide (1<(s.size:Int))=true:=Vx (by omega)
     have HN:Hid (Wx s.data.toList= .tuple #[.int .i64 0,.bool false]):=Z9 (Xv (by rw [uh Hl];exact TR (uh H45) (.inr ⟨hz,fun e=>by have:=congrArg List.length e;rw [List.length_drop,uh Hlen] at this;simp at this;omega⟩)));clear hz;go_wp2_with fail
     go_ret2
     exact ⟨OW (uh HN).symm,rfl⟩
    ·have ht:decide (1<(s.size:Int))=false:=Xr (by omega)
     have HN:Hid (Wx s.data.toList= .tuple #[.int .i64 m,.bool true]):=Z9 (Qi (by rw [uh Hl,Q4 (uh H45) (by rw [<-uh Hl,uh Hlen];omega) (fun hh=>hh.2 (List.eq_nil_of_length_eq_zero (by rw [List.length_drop,uh Hlen];omega))),<-uh Hl,uh Hall];rfl));clear hz;go_wp2_with fail
     go_ret2
     exact ⟨OW (uh HN).symm,rfl⟩
   ·have hb48:((s[0].toNat:Int) ==48)=false:=IY (c:=48) hz
    have HN:Hid (Wx s.data.toList= .tuple #[.int .i64 m,.bool true]):=Z9 (Qi (by rw [uh Hl,Q4 (uh H45) (by rw [<-uh Hl,uh Hlen];omega) (fun hh=>hz hh.1),<-uh Hl,uh Hall];rfl));clear hz;go_wp2_with fail
    go_ret2
    exact ⟨OW (uh HN).symm,rfl⟩
theorem En (s:ByteArray) (w:World) (h0:0<s.size) (hm:s.size<=9223372036854775807) (h45:s[0]=45) :
  Calls Tryz.prog 250 #[.string s] w fun e w'=>e= .returned (Wx s.data.toList)/\w'=w:=by
 have Hl:=Z9 (SA h0);have hemp:=yC h0;have H45:=Z9 h45;have hb45:((s[0].toNat:Int) ==45)=true:=IX (c:=45) h45;have hlen:s.data.toList.length=s.size:=by simp
 have Hlen:=Z9 hlen;clear h45 hlen;by_cases h9:10<s.size
 ·have hd1:decide ((s.size:Int)-1<1)=false:=Xr (by omega)
  have hd2:decide (9<(s.size:Int)-1)=true:=Vx (by omega);have HN:Hid (Wx s.data.toList= .tuple #[.int .i64 0,.bool false]):=Z9 (Xv (by rw [uh Hl];rw [uh H45];exact Vc (.inr (.inl (by rw [List.length_drop,uh Hlen];omega)))));go_enter Tryz.func250,Tryz.ntmps250;go_wp2_with fail
  go_ret2
  exact ⟨OW (uh HN).symm,rfl⟩
 by_cases h1s:s.size<2
 ·have hd1:decide ((s.size:Int)-1<1)=true:=Vx (by omega)
  have HN:Hid (Wx s.data.toList= .tuple #[.int .i64 0,.bool false]):=Z9 (Xv (by rw [uh Hl,uh H45];exact Vc (.inl (List.eq_nil_of_length_eq_zero (by rw [List.length_drop,uh Hlen];omega)))));go_enter Tryz.func250,Tryz.ntmps250;go_wp2_with fail
  go_ret2
  exact ⟨OW (uh HN).symm,rfl⟩
 have hd1:decide ((s.size:Int)-1<1)=false:=Xr (by omega);have hd2:decide (9<(s.size:Int)-1)=false:=Xr (by omega);go_enter Tryz.func250,Tryz.ntmps250;go_wp2_with fail
 go_loop [6,7] (fun n i=> ∃ (k m:Nat),1<=k/\k<=s.size/\i= .int .i64 k/\n= .int .i64 m/\decFrom 0 ((s.data.toList.drop 1).take (k-1))=some m) (fun _ i=>s.size-(intOf i).toNat)
 case atStart=>exact ⟨1,0,by omega,by omega,rfl,rfl,by simp [decFrom]⟩
 case round=>
  obtain ⟨k,m,hk1,hk,rfl,rfl,hdec⟩:=hrel
  have hmb:m<1000000000:=by
   have hx:=Go.Lib.decFrom_lt _ _ _ hdec;have hy:((s.data.toList.drop 1).take (k-1)).length<=9:=by rw [List.length_take];omega
   exact Zf (by simpa using hx) (XH (Nat.pow_le_pow_right (by decide) hy) (by decide))
  have Hdec:=Z9 hdec;clear hdec;by_cases hlt:k<s.size
  ·have hga:=zb hlt hk1
   have Hga:=Z9 hga;clear hga;have hb8:s[k].toNat<=255:=by have:=s[k].toNat_lt;omega
   by_cases hd:s[k].toNat<48
   ·have HN:Hid (Wx s.data.toList= .tuple #[.int .i64 0,.bool false]):=Z9 (Xv (by rw [uh Hl,uh H45];by_cases hz:(s.data.toList.drop 1).head?=some 48;exact Vc (.inr (.inr hz));rw [OS (fun e=>by have:=congrArg List.length e;rw [List.length_drop,uh Hlen] at this;simp at this;omega) (by rw [List.length_drop,uh Hlen];omega) hz,UI (n:=0) (uh Hga) (QS (by omega))];rfl))
    have ht:decide ((s[k].toNat:Int)<48)=true:=Vx (by omega);go_wp2_with fail
    go_ret2
    exact ⟨OW (uh HN).symm,rfl⟩
   by_cases hd':57<s[k].toNat
   ·have HN:Hid (Wx s.data.toList= .tuple #[.int .i64 0,.bool false]):=Z9 (Xv (by rw [uh Hl,uh H45];by_cases hz:(s.data.toList.drop 1).head?=some 48;exact Vc (.inr (.inr hz));rw [OS (fun e=>by have:=congrArg List.length e;rw [List.length_drop,uh Hlen] at this;simp at this;omega) (by rw [List.length_drop,uh Hlen];omega) hz,UI (n:=0) (uh Hga) (QS (by omega))];rfl))
    have ht:decide ((s[k].toNat:Int)<48)=false:=Xr (by omega);have ht':decide (57<(s[k].toNat:Int))=true:=Vx (by omega);go_wp2_with fail
    go_ret2
    exact ⟨OW (uh HN).symm,rfl⟩
   ·have ht:decide ((s[k].toNat:Int)<48)=false:=Xr (by omega)
    have ht':decide (57<(s[k].toNat:Int))=false:=Xr (by omega);have Hn:=Z9 (Go.Lib.decFrom_take (s.data.toList.drop 1) (k-1) 0 m s[k] (s[k].toNat-48) (uh Hdec) (uh Hga) (FX (by omega) (by omega)));have Hx:Hid (((m*10+(s[k].toNat-48):Nat):Int)=(m:Int)*10+((s[k].toNat:Int)-48)):=Z9 (by omega);have g1:48<=(s[k].toNat:Int):=by omega
    have g2:(s[k].toNat:Int)<=57:=by omega
    go_wp2_with fail
    go_round
    case rel=>exact ⟨k+1,m*10+(s[k].toNat-48),by omega,by omega,by go_num,by rw [uh Hx],by have hh:=uh Hn;rwa [show k-1+1=k+1-1 by omega] at hh⟩
    case measure=>exact ms
  ·obtain rfl:k=s.size:=by omega
   have Hall:Hid (decFrom 0 (s.data.toList.drop 1)=some m):=Z9 (by have hh:=uh Hdec;rwa [List.take_of_length_le (by rw [List.length_drop,uh Hlen];omega)] at hh);have hs1:1<s.size:=by omega
   have Hh:Hid ((s.data.toList.drop 1).head?=some s[1]):=Z9 (by rw [List.head?_drop];exact D9 hs1);have Hne:Hid (s.data.toList.drop 1 ≠ []):=Z9 (fun e=>by have:=congrArg List.length e;rw [List.length_drop,uh Hlen] at this;simp at this;omega);by_cases hz:s[1]=48
   ·have hb48:((s[1].toNat:Int) ==48)=true:=IX (c:=48) hz
    have HN:Hid (Wx s.data.toList= .tuple #[.int .i64 0,.bool false]):=Z9 (Xv (by rw [uh Hl,uh H45];exact Vc (.inr (.inr (by rw [uh Hh,hz])))));clear hz;go_wp2_with fail
    go_ret2
    exact ⟨OW (uh HN).symm,rfl⟩
   ·have hb48:((s[1].toNat:Int) ==48)=false:=IY (c:=48) hz
    have HN:Hid (Wx s.data.toList= .tuple #[.int .i64 (-(m:Int)),.bool true]):=Z9 (Qi (by rw [uh Hl,uh H45,OS (uh Hne) (by rw [List.length_drop,uh Hlen];omega) (fun e=>hz (by rw [uh Hh] at e;exact Option.some.inj e)),uh Hall];rfl));clear hz;go_wp2_with fail
    go_ret2
    exact ⟨OW (uh HN).symm,rfl⟩
theorem Qb (s:ByteArray) (w:World) (hm:s.size<=9223372036854775807) :
  Calls Tryz.prog 250 #[.string s] w fun e w'=>e= .returned (Wx s.data.toList)/\w'=w:=by
 by_cases h0:0<s.size
 ·by_cases h45:s[0]=45
  ·exact En s w h0 hm h45
  ·exact Eo s w h0 hm h45
 ·have hd:s.data.toList=[]:=List.eq_nil_of_length_eq_zero (by rw [show s.data.toList.length=s.size by simp];omega)
  have hemp:s.toList.isEmpty=true:=by rw [ByteArray.toList_eq,hd];rfl
  have HN:Hid (Wx s.data.toList= .tuple #[.int .i64 0,.bool false]):=Z9 (Xv (by rw [hd];rfl));have hz:s.size=0:=by omega
  clear hd;go_enter Tryz.func250,Tryz.ntmps250;go_wp2_with fail
  go_ret2
  exact ⟨OW (uh HN).symm,rfl⟩
theorem TU {c:UInt8} {l p:Txt} (h:p ∈ YZ c l) (hl:l.length<=1048576):p.length<=1048576:=by
 have:=Ux c l [] p h;simp at this;omega
theorem JJ {l:Txt} {n:Nat} (h:l.length<=n):(bs l).size<=n:=by rw [yZ];exact h
theorem HJ {l:Txt} : -999999999<=(X8 l).getD 0/\(X8 l).getD 0<=999999999:=by
 cases h:X8 l with
 | none=>simp
 | some v=>have:=SN h;simp;omega
theorem Er (l:Txt) (w:World) (hl:l.length<=1048576) :
  Calls Tryz.prog 251 #[.string (bs l)] w fun e w'=> ∃ (f k:Int) (b:Bool),e= .returned (.tuple #[.agg #[.int .i64 f,.int .i64 k],.bool b])/\(b=true->Yi l=some (f,k))/\(b=false->Yi l=none)/\Below w.heap.size w w':=by
 have Hb0:Hid (∀ o,Below w.heap.size w (w.alloc o)):=Z9 (fun o=>(ba _ _));go_enter Tryz.func251,Tryz.ntmps251;go_wp2_with fail;refine (Rz (bs l) 58 _ (JJ hl)).mono ?_;rw [QQ];rintro e w1 ⟨v,rfl,hst,hb⟩;have hsz:w.heap.size+1<=w1.heap.size:=by have:=hb.size;simpa using this
 obtain ⟨cc,ff⟩:=Ln hb;have x0:=cc w.heap.size 0 (by simp);have x1:=cc w.heap.size 1 (by simp);have f0:=ff w.heap.size 0 (by simp);have f1:=ff w.heap.size 1 (by simp);have B1:Hid (Below w.heap.size w w1):=Z9 ((uh Hb0 _).trans (hb.mono (by simp)));obtain ⟨a,cap,rfl,hc,hm,hr⟩:=hst.view;have Hr:=Z9 hr;clear hst hr hb cc ff;by_cases h2:(YZ 58 l).length=2
 ·obtain ⟨p,q,hpq⟩:∃ p q,YZ 58 l=[p,q]:=by
   match hx:YZ 58 l,h2 with
   | [p,q],_=>exact ⟨p,q,rfl⟩
  have Hpq:=Z9 hpq
  rcases uh Hr with h0 | ⟨g,rfl,hg1,hg2,hcl⟩
  ·rw [h0] at h2;simp at h2
  have c0:=hcl 0 (by omega);have c1:=hcl 1 (by omega);have hp1:=TU (c:=58) (l:=l) (p:=p) (by rw [hpq];simp) hl;have hq1:=TU (c:=58) (l:=l) (p:=q) (by rw [hpq];simp) hl;rw [hpq] at c0 c1;simp only [List.getD_cons_zero,List.getD_cons_succ] at c0 c1;have Hread:Hid (Yi l=(X8 p).bind fun f=>(X8 q).bind fun k=>some (f,k)):=Z9 (by unfold Yi;rw [hpq]);have hne:g ≠ w.heap.size:=by simp at hg1;omega
  clear hcl Hr hpq;generalize (YZ 58 l).length=n2 at *;subst h2;go_wp2_with fail;refine (Qb (bs p) _ (by have:=JJ hp1;omega)).mono ?_;rw [QQ];rintro e w' ⟨rfl,hw'⟩;subst w';unfold Wx;have hbp:=HJ (l:=p);generalize hrp:X8 p=rp at *;have Hrp:=Z9 hrp;clear hrp;go_wp2_with fail;refine (Qb (bs q) _ (by have:=JJ hq1;omega)).mono ?_;rw [QQ];rintro e w' ⟨rfl,hw'⟩;subst w';unfold Wx;generalize hrq:X8 q=rq at *;have Hrq:=Z9 hrq;clear hrq;cases rp with
  | none=>
   have Hz:Hid (Yi l=none):=Z9 (by rw [uh Hread];rfl);simp only [Option.getD_none,Option.isSome_none];go_wp2_with fail;exact ZS (v:= .tuple #[.agg #[.int .i64 0,.int .i64 (rq.getD 0)],.bool false]) (by simp [results,Tryz.results251,go_sem, *]) rfl ⟨_,_,_,rfl,fun h=>(by cases h),fun _=>uh Hz,((uh B1).setCell (by show _<=w.heap.size;omega) _).setCell (by show _<=w.heap.size;omega) _⟩
  | some f=>
   cases rq with
   | none=>
    have Hz:Hid (Yi l=none):=Z9 (by rw [uh Hread];rfl);simp only [Option.getD_none,Option.isSome_none,Option.getD_some,Option.isSome_some];go_wp2_with fail;exact ZS (v:= .tuple #[.agg #[.int .i64 f,.int .i64 0],.bool false]) (by simp [results,Tryz.results251,go_sem, *]) rfl ⟨_,_,_,rfl,fun h=>(by cases h),fun _=>uh Hz,((uh B1).setCell (by show _<=w.heap.size;omega) _).setCell (by show _<=w.heap.size;omega) _⟩
   | some k=>
    have Hz:Hid (Yi l=some (f,k)):=Z9 (by rw [uh Hread];rfl);simp only [Option.getD_some,Option.isSome_some];go_wp2_with fail;exact ZS (v:= .tuple #[.agg #[.int .i64 f,.int .i64 k],.bool true]) (by simp [results,Tryz.results251,go_sem, *]) rfl ⟨_,_,_,rfl,fun _=>uh Hz,fun h=>(by cases h),((uh B1).setCell (by show _<=w.heap.size;omega) _).setCell (by show _<=w.heap.size;omega) _⟩
 ·have Hz:Hid (Yi l=none):=Z9 (by
   unfold Yi
   split
   ·rename_i a b hx;rw [hx] at h2;simp at h2
   ·rfl)
  have hne:(((YZ 58 l).length:Int) !=2)=true:=by rw [bne_iff_ne];omega
  have hcc:((YZ 58 l).length:Int)<=9223372036854775807:=by omega
  generalize (YZ 58 l).length=n2 at *;go_wp2_with fail;exact ZS (v:= .tuple #[.agg #[.int .i64 0,.int .i64 0],.bool false]) (by simp [results,Tryz.results251,go_sem, *]) rfl ⟨_,_,_,rfl,fun h=>(by cases h),fun _=>uh Hz,((uh B1).setCell (by show _<=w.heap.size;omega) _).setCell (by show _<=w.heap.size;omega) _⟩
theorem J2 {α β:Type} {f:α->Option β} {l:List α} {k:Nat} {xs:List β} {y:β} (hk:k<l.length) (h:(l.take k).mapM f=some xs) (hy:f l[k]=some y):(l.take (k+1)).mapM f=some (xs++[y]):=by
 rw [List.take_succ_eq_append_getElem hk,List.mapM_append,h];simp [hy]
theorem OL {α β:Type} {f:α->Option β} : ∀ {l:List α} {k:Nat} (hk:k<l.length),f l[k]=none->l.mapM f=none
 | x::l,0,_,h=>by simp at h;simp [List.mapM_cons,h]
 | x::l,k+1,hk,h=>by
  have ih:=OL (f:=f) (l:=l) (k:=k) (by simpa using hk) (by simpa using h);rw [List.mapM_cons,ih];cases f x<;>rfl
theorem H7 {l a:Txt} {ws:List Txt} (h:YZ 32 l=a::ws):YP l=(X8 a).bind fun n=>(ws.mapM Yi).bind fun ps=>some (n,ps):=by unfold YP;rw [h]
theorem KR {l:Txt} (h:(YZ 47 l).mapM YP=none):Yy l=none:=by unfold Yy;rw [h];rfl
theorem KS {l:Txt} {rs:List ZZ} (h:(YZ 47 l).mapM YP=some rs) (hb:Y2 rs=true):Yy l=some rs:=by unfold Yy;rw [h];simp [hb]
theorem Jt {l:Txt} {rs:List ZZ} (h:(YZ 47 l).mapM YP=some rs) (hb:Y2 rs=false):Yy l=none:=by unfold Yy;rw [h];simp [hb]
theorem IZ (w:World) (u u':Value) (t:TypeId):∀ (j:Nat) (x:Value),([u,u']:List Value)[j]?=some x->(w.alloc (.cells #[u,u'] t)).cell? ((⟨w.heap.size,0,none⟩:Addr).add j)=some x:=by
 intro j x h
 match j with
 | 0=>simp at h;subst h;simp [Addr.add]
 | 1=>simp at h;subst h;simp [Addr.add]
 | j+2=>simp at h
theorem Rg (w:World) (u u':Value) (t:TypeId) (b:Nat) (hb:b=w.heap.size):∀ (j:Nat) (x:Value),([u,u']:List Value)[j]?=some x->(w.alloc (.cells #[u,u'] t)).cell? ((⟨b,0,none⟩:Addr).add j)=some x:=by
 subst hb;exact IZ w u u' t
theorem PacesAt.push {B:Nat} {v v':Value} {ps:List Z4} {f k:Int} {o:Obj} (h:PacesAt B w v ps) (hB:B<=w.heap.size)
  (hown:w1.ownsRow B 114 2 v' (ps.length+1) (YY ps++[.int .i64 f,.int .i64 k])) (hg:(w.alloc o).grownBy w1 v.ownBlock) :
  PacesAt B w1 v' (ps++[(f,k)])/\Below B w w1:=by
 refine ⟨?_,((Z1 B w).alloc hB o).grown hg (by simp;omega) (fun j e=>(h.lt e).1)⟩;unfold PacesAt;simpa [YY] using hown
theorem Hj {b:Nat} {w w6:World} {v v':Value} {ps:List Z4} {n f kk:Int} {o:Obj} (hp:PacesAt (b+1) w v ps) (hsz:b+1<=w.heap.size)
  (hown:w6.ownsRow (b+1) 114 2 v' (ps.length+1) (YY ps++[.int .i64 f,.int .i64 kk])) (hg:(w.alloc o).grownBy w6 v.ownBlock)
  (c0:w.cell? ⟨b,0,none⟩=some (.int .i64 n)) (c1:w.cell? ⟨b,1,none⟩=some v) (c2:w.frozen? ⟨b,1,none⟩=false) :
  ∃ a cap,v'= .slice a (ps.length+1) cap/\w6.cell? ⟨b,1,none⟩=some v/\w6.frozen? ⟨b,1,none⟩=false/\
   Hid ((w6.setCell ⟨b,1,none⟩ v').cell? ⟨b,0,none⟩=some (.int .i64 n)/\(w6.setCell ⟨b,1,none⟩ v').cell? ⟨b,1,none⟩=some v'/\(w6.setCell ⟨b,1,none⟩ v').frozen? ⟨b,1,none⟩=false/\
    PacesAt (b+1) (w6.setCell ⟨b,1,none⟩ v') v' (ps++[(f,kk)])/\Below b w (w6.setCell ⟨b,1,none⟩ v')/\b+1<=(w6.setCell ⟨b,1,none⟩ v').heap.size):=by
 obtain ⟨hpa,hbl⟩:=hp.push hsz hown hg;obtain ⟨a,cap,hsh⟩:=hpa.shape;have d0:=(hbl.cell (p:=⟨b,0,none⟩) (by show b<b+1;omega)).trans c0;have d1:=(hbl.cell (p:=⟨b,1,none⟩) (by show b<b+1;omega)).trans c1;have d2:=(hbl.frozen (p:=⟨b,1,none⟩) (by show b<b+1;omega)).trans c2;refine ⟨a,cap,by simpa using hsh,d1,d2,?_⟩;refine ⟨?_,?_,?_,?_,?_,?_⟩
 ·rw [World.cell?_setCell_other _ _ _ _ (by simp)];exact d0
 ·exact World.cell?_setCell_same _ _ _ d1
 ·rw [World.frozen?_setCell];exact d2
 ·exact Xm hpa (fun q e=>Below.heap_setCell w6 ⟨b,1,none⟩ v' q (by have:=(hpa.lt e).1;show q ≠ b;omega))
 ·have hb0:Below b w w6:=hbl.mono (Nat.le_succ b)
  exact hb0.setCell (Z2 b) v'
 ·have:=hbl.size;simp;omega
theorem AN {b n₀:Nat} {w w6:World} {v v' pv:Value} {qs:List (ZZ × Value)} {ps:List Z4} {n:Int} {o:Obj} (h:OwnHall n₀ w v qs) (hp:PacesAt n₀ w pv ps)
  (hoff:∀ b,pv.ownBlock=some b->v.ownBlock ≠ some b) (hap:∀ q ∈ qs,∀ b,q.2.ownBlock=some b->pv.ownBlock ≠ some b)
  (hown:w6.ownsRow n₀ 112 2 v' (qs.length+1) (RK qs++[.int .i64 n,pv])) (hg:(w.alloc o).grownBy w6 v.ownBlock) (hat:v'.ownBlock=v.ownBlock\/v'.ownBlock=some (w.alloc o).heap.size)
  (hb:b<n₀) (hsz:n₀<=w.heap.size) (c1:w.cell? ⟨b,0,none⟩=some v) (c2:w.frozen? ⟨b,0,none⟩=false) :
  ∃ a cap,v'= .slice a (qs.length+1) cap/\w6.cell? ⟨b,0,none⟩=some v/\w6.frozen? ⟨b,0,none⟩=false/\
   Hid ((w6.setCell ⟨b,0,none⟩ v').cell? ⟨b,0,none⟩=some v'/\(w6.setCell ⟨b,0,none⟩ v').frozen? ⟨b,0,none⟩=false/\
    OwnHall n₀ (w6.setCell ⟨b,0,none⟩ v') v' (qs++[((n,ps),pv)])/\Below n₀ w w6):=by
 have hpush:=h.push hp hoff hap hown hg hat;have hbl:Below n₀ w w6:=((Z1 n₀ w).alloc hsz o).grown hg (by simp;omega) (fun j e=>(h.lt (.inl e)).1);obtain ⟨a,cap,hsh⟩:=hpush.shape;have d1:=(hbl.cell (p:=⟨b,0,none⟩) hb).trans c1;have d2:=(hbl.frozen (p:=⟨b,0,none⟩) hb).trans c2;refine ⟨a,cap,by simpa using hsh,d1,d2,?_,?_,?_,hbl⟩
 ·exact World.cell?_setCell_same _ _ _ d1
 ·rw [World.frozen?_setCell];exact d2
 ·exact hpush.same (fun k h0 hk=>Below.heap_setCell w6 ⟨b,0,none⟩ v' k (by show k ≠ b;omega))
def yR (l:Txt) (n₀:Nat) (e:Ending) (w':World):Prop:=
 (∃ v qs,e= .returned (.tuple #[.agg #[v],.bool true])/\Yy l=some (qs.map (·.1))/\OwnHall n₀ w' v qs)\/(e= .returned (.tuple #[.agg #[.slice none 0 0],.bool false])/\Yy l=none)
theorem O5 (l:Txt) (w:World) (hl:l.length<=1048576) :
  Calls Tryz.prog 205 #[.string (bs l)] w fun e w'=>yR l w.heap.size e w'/\Below w.heap.size w w':=by
 obtain ⟨i1,hi1,hp0,hp1,hp2⟩:=info_parts BQ;obtain ⟨i2,hi2,hr0,hr1,hr2⟩:=info_parts JO;go_enter Tryz.func205,Tryz.ntmps205;go_wp2_with fail;refine (Rz (bs l) 47 _ (JJ hl)).mono ?_;rw [QQ];rintro e w2 ⟨rv,rfl,hst,hb⟩;have hsz:w.heap.size+2<=w2.heap.size:=by have:=hb.size;simp at this;omega
 obtain ⟨cc,ff⟩:=Ln hb;have x0:=cc w.heap.size 0 (by simp;omega);have x1:=cc (w.heap.size+1) 0 (by simp);have f0:=ff w.heap.size 0 (by simp;omega);have f1:=ff (w.heap.size+1) 0 (by simp);simp at x0 x1;have g0:w2.frozen? ⟨w.heap.size,0,none⟩=false:=by rw [f0,frozen?_alloc_cells,frozen?_alloc_cells];exact Sr (Z2 _)
 have g1:w2.frozen? ⟨w.heap.size+1,0,none⟩=false:=by rw [f1,frozen?_alloc_cells,frozen?_alloc_cells];exact Sr (by omega)
 have B2:Hid (Below w.heap.size w w2):=Z9 ((((ba _ _)).alloc (by simp) _).trans (hb.mono (by simp;omega)));have hpl:=WO 47 l [];have Hsm:Hid (∀ p ∈ YZ 47 l,p.length<=1048576):=Z9 (fun p hp=>TU hp hl);obtain ⟨ra,rcap,rfl,hrc,hrm,hrr⟩:=hst.view
 rcases hrr with h0 | ⟨g,rfl,hg1,hg2,hcl⟩
 ·exact absurd h0 (Kk _ _)
 have hg1':w.heap.size+2<=g:=by simp at hg1;omega
 have Hcl:=Z9 hcl;have hpl':(YZ 47 l).length<=1048577:=by unfold YZ;omega
 clear hst hb cc ff hcl hg1 f0 f1 hpl;have HN:Hid (Yy l=((YZ 47 l).mapM YP).bind fun rs=>if Y2 rs=true then some rs else none):=Z9 rfl;have Hnone:Hid ((YZ 47 l).mapM YP=none->Yy l=none):=Z9 KR;have Hsome:Hid (∀ rs,(YZ 47 l).mapM YP=some rs->Y2 rs=true->Yy l=some rs):=Z9 (fun rs=>KS);have Hbad:Hid (∀ rs,(YZ 47 l).mapM YP=some rs->Y2 rs=false->Yy l=none):=Z9 (fun rs=>Jt);generalize YZ 47 l=pc at *;go_wp2_with fail
 go_loopw [6] (fun i wr=> ∃ (k:Nat) (v:Value) (qs:List (ZZ × Value)),k<=pc.length/\i= .int .i64 k/\wr.cell? ⟨w.heap.size+1,0,none⟩=some v/\wr.frozen? ⟨w.heap.size+1,0,none⟩=false/\OwnHall w2.heap.size wr v qs/\qs.length=k/\(pc.take k).mapM YP=some (qs.map (·.1))/\But (w.heap.size+1) w2 wr) (fun i _=>pc.length-(intOf i).toNat)
 case atStart=>exact ⟨0,_,[],ZA _,rfl,x1,g1,OwnHall.nil _ _,rfl,rfl,But.refl _ _⟩
 case round=>
  obtain ⟨wo,rfl⟩:∃ wo,wo=wr:=⟨wr,rfl⟩
  obtain ⟨k,v,qs,hk,rfl,hv,hfv,hoh,hql,hmap,hbut⟩:=hrel;have Hoh:=Z9 hoh;have Hmap:=Z9 hmap;have Hbut:=Z9 hbut;have hz2:=hbut.size;have Hql:=Z9 hql;have Hv:=Z9 hv;have Hfv:=Z9 hfv;have y0:wo.cell? ⟨w.heap.size,0,none⟩=some (.slice none 0 0):=(hbut.cell (p:=⟨w.heap.size,0,none⟩) (by show w.heap.size<_;omega) (by show w.heap.size ≠ _;omega)).trans x0;have Hy0:=Z9 y0;obtain ⟨va,vcap,rfl⟩:=hoh.shape;by_cases hlt:k<pc.length
  ·have hck:=(hbut.cell (p:=⟨g,k,none⟩) hg2 (by show g ≠ _;omega)).trans (uh Hcl k hlt)
   have hget:pc.getD k []=pc[k]:=by simp [List.getD,hlt]
   rw [hget] at hck;have hpk:=uh Hsm pc[k] (List.getElem_mem hlt);have HX:Hid (YP pc[k]=none->pc.mapM YP=none):=Z9 (fun h=>OL hlt h);have HY:Hid (∀ y,YP pc[k]=some y->(pc.take (k+1)).mapM YP=some (qs.map (·.1)++[y])):=Z9 (fun y h=>J2 hlt (uh Hmap) h);generalize pc[k]=pk at *;clear hoh hmap hbut hql y0 hget;go_wp2_with fail;refine (Rz (bs pk) 32 _ (JJ hpk)).mono ?_;rw [QQ];rintro e w3 ⟨wv,rfl,hst3,hb3⟩;have hz3:=hb3.size;have Hb3:=Z9 hb3;have hwl:=WO 32 pk []
   obtain ⟨wd,ws,hww⟩:∃ wd ws,YZ 32 pk=wd::ws:=by
    cases hx:YZ 32 pk with
    | nil=>exact absurd hx (Kk _ _)
    | cons a b=>exact ⟨a,b,rfl⟩
   have Hsm2:Hid (∀ p ∈ wd::ws,p.length<=1048576):=Z9 (fun p hp=>TU (c:=32) (by rw [hww];exact hp) hpk);have hwl':ws.length<=1048576:=by have h9:=hwl.2;unfold YZ at hww;rw [hww] at h9;simp at h9;omega
   have HRR:=Z9 (H7 hww);rw [hww] at hst3;obtain ⟨wa,wcap,rfl,hwc,hwm,hwr⟩:=hst3.view
   rcases hwr with h0 | ⟨g3,rfl,hg31,hg32,hcl3⟩
   ·cases h0
   have Hcl3:=Z9 hcl3;have hc30:=hcl3 0 (by simp);simp only [List.getD_cons_zero] at hc30;have hlen3:(wd::ws).length=ws.length+1:=rfl;have hwdl:=uh Hsm2 wd (by simp);clear hst3 hcl3 hb3 hwl hww hpk;rw [hlen3] at *;go_wp2_with fail;refine (Qb (bs wd) _ (by have:=JJ hwdl;omega)).mono ?_;rw [QQ];rintro e w' ⟨rfl,hw'⟩;subst w';unfold Wx;have hnb:=HJ (l:=wd);have HisT:Hid ((X8 wd).isSome=true->X8 wd=some ((X8 wd).getD 0)):=Z9 (fun h=>by cases hx:X8 wd with | none=>rw [hx] at h;cases h | some y=>rfl);have HisF:Hid ((X8 wd).isSome=false->YP pk=none):=Z9 (fun h=>by rw [uh HRR];cases hx:X8 wd with | none=>rfl | some y=>rw [hx] at h;cases h);generalize (X8 wd).getD 0=n at *;generalize hib:(X8 wd).isSome=ib at *;have Hib:=Z9 hib;clear hib;go_wp2_with fail;have hRB:(w3.alloc (.cells #[.int .i64 n,.slice none 0 0] 112)).frozen? ⟨w3.heap.size,1,none⟩=false:=by rw [frozen?_alloc_cells];exact Sr (Z2 _)
   go_loopw [9,11] (fun q i wi=> ∃ (m:Nat) (b:Bool) (pv:Value) (ps:List Z4),m<=ws.length/\i= .int .i64 (m+1)/\q= .bool b/\wi.cell? ⟨w3.heap.size,0,none⟩=some (.int .i64 n)/\wi.cell? ⟨w3.heap.size,1,none⟩=some pv/\wi.frozen? ⟨w3.heap.size,1,none⟩=false/\PacesAt (w3.heap.size+1) wi pv ps/\ps.length=m/\Below w3.heap.size w3 wi/\w3.heap.size+1<=wi.heap.size/\(b=true->ib=true/\(ws.take m).mapM Yi=some ps)/\(b=false->YP pk=none)) (fun _ i _=>ws.length+1-(intOf i).toNat)
   case atStart=>exact ⟨0,ib,_,[],ZA _,rfl,rfl,by simp,by simp,hRB,World.ownsRow_nil _ _ _ _,rfl,(ba _ _),by simp,fun h=>⟨h,rfl⟩,fun h=>uh HisF h⟩
   case round=>
    obtain ⟨wi,rfl⟩:∃ wi,wi=wr:=⟨wr,rfl⟩
    obtain ⟨m,b,pv,ps,hm1,rfl,rfl,z0,z1,z2,hpa,hpl1,hbi,hzi,hbt,hbf⟩:=hrel;have Hpa:=Z9 hpa;have Hpl1:=Z9 hpl1;have Hbi:=Z9 hbi;have Hbt:=Z9 hbt;have Hbf:=Z9 hbf;have Hz1:=Z9 z1;have Hz0:=Z9 z0;have Hz2:=Z9 z2;obtain ⟨pva,pvcap,rfl⟩:=hpa.shape;by_cases hlt2:m<ws.length
    ·have hck2:=(hbi.cell (p:=⟨g3,m+1,none⟩) hg32).trans (uh Hcl3 (m+1) (by first | omega | (simp;omega)))
     have hget2:(wd::ws).getD (m+1) []=ws[m]:=by simp [List.getD,hlt2]
     rw [hget2] at hck2;have hpm:=uh Hsm2 ws[m] (List.mem_cons_of_mem _ (List.getElem_mem hlt2));have HXm:Hid (Yi ws[m]=none->YP pk=none):=Z9 (fun h=>by rw [uh HRR,OL hlt2 h];cases X8 wd<;>rfl);have HYm:Hid (∀ y,Yi ws[m]=some y->(ws.take m).mapM Yi=some ps->(ws.take (m+1)).mapM Yi=some (ps++[y])):=Z9 (fun y h h'=>J2 hlt2 h' h);generalize ws[m]=pm at *;clear hpa hpl1 hbi hbt hbf hget2;go_wp2_with fail;refine (Er pm _ hpm).mono ?_;rintro e w5 ⟨f,kk,fb,rfl,hft,hff,hb5⟩;have hz5:=hb5.size;have Hft:=Z9 hft;have Hff:=Z9 hff;have Hb5:=Z9 hb5;have c50:=(hb5.cell (p:=⟨w3.heap.size,0,none⟩) (by show w3.heap.size<_;omega)).trans (uh Hz0);have c51:=(hb5.cell (p:=⟨w3.heap.size,1,none⟩) (by show w3.heap.size<_;omega)).trans (uh Hz1);have c52:=(hb5.frozen (p:=⟨w3.heap.size,1,none⟩) (by show w3.heap.size<_;omega)).trans (uh Hz2);have Hp5:Hid (PacesAt (w3.heap.size+1) w5 (.slice pva ps.length pvcap) ps):=Z9 (Xm (uh Hpa) (fun q e=>hb5.block q ((uh Hpa).lt e).2));clear hft hff hb5 z0 z1 z2;have hne5:w3.heap.size ≠ w5.heap.size:=by omega
     have q51:(w5.alloc (.cells #[.int .i64 f,.int .i64 kk] 114)).cell? ⟨w3.heap.size,1,none⟩=some (.slice pva ps.length pvcap):=by rw [World.cell?_alloc_old _ _ _ hne5];exact c51
     have Hp6:Hid (PacesAt (w3.heap.size+1) (w5.alloc (.cells #[.int .i64 f,.int .i64 kk] 114)) (.slice pva ps.length pvcap) ps):=Z9 (Xm (uh Hp5) (fun q e=>Below.heap_alloc w5 _ q ((uh Hp5).lt e).2));have q50:(w5.alloc (.cells #[.int .i64 f,.int .i64 kk] 114)).cell? ⟨w3.heap.size,0,none⟩=some (.int .i64 n):=by rw [World.cell?_alloc_old _ _ _ hne5];exact c50
     have q52:(w5.alloc (.cells #[.int .i64 f,.int .i64 kk] 114)).frozen? ⟨w3.heap.size,1,none⟩=false:=by rw [frozen?_alloc_cells];exact c52
     have hpsm:ps.length<=1048576:=by rw [uh Hpl1];omega
     have HB5:Hid (Below w3.heap.size w3 (w5.alloc (.cells #[.int .i64 f,.int .i64 kk] 114))):=Z9 (((uh Hbi).trans ((uh Hb5).mono (by omega))).alloc (by omega) _);clear c50 c51 c52;cases b
     ·go_wp2_with (at_builtin;go_must (refine wpList_append_own_at _ rfl _ _ 110 rfl (w3.heap.size+1) 114 i1 (.agg #[.int .i64 0,.int .i64 0]) 2 16 Tryz.underlying110 hi1 hp0 hp1 hp2 rfl (by decide) _ _ _ rfl (World.ownsRow.alloc (uh Hp6) _) ⟨_,0,none⟩ 1 1 [.int .i64 f,.int .i64 kk] rfl rfl (Rg _ _ _ _ _ (by simp)) (by simp [Value.oneCell']) (by simp only [maxLen];omega) (by omega) (by simp;omega) ?_);go_must (intro v' w6 hown' hgrow _ _);go_must (obtain ⟨a6,cap6,rfl,e1,e2,HE⟩:=Hj (uh Hp6) (by simp;omega) hown' hgrow q50 q51 q52);clear hown' hgrow)
      go_roundw
      case rel=>exact ⟨m+1,false,_,ps++[(f,kk)],by omega,by go_num,rfl,(uh HE).1,(uh HE).2.1,(uh HE).2.2.1,(uh HE).2.2.2.1,by simp [uh Hpl1],(uh HB5).trans (uh HE).2.2.2.2.1,(uh HE).2.2.2.2.2,fun h=>(by cases h),fun _=>uh Hbf (by simp)⟩
      case measure=>exact ms
     ·go_wp2_with (at_builtin;go_must (refine wpList_append_own_at _ rfl _ _ 110 rfl (w3.heap.size+1) 114 i1 (.agg #[.int .i64 0,.int .i64 0]) 2 16 Tryz.underlying110 hi1 hp0 hp1 hp2 rfl (by decide) _ _ _ rfl (World.ownsRow.alloc (uh Hp6) _) ⟨_,0,none⟩ 1 1 [.int .i64 f,.int .i64 kk] rfl rfl (Rg _ _ _ _ _ (by simp)) (by simp [Value.oneCell']) (by simp only [maxLen];omega) (by omega) (by simp;omega) ?_);go_must (intro v' w6 hown' hgrow _ _);go_must (obtain ⟨a6,cap6,rfl,e1,e2,HE⟩:=Hj (uh Hp6) (by simp;omega) hown' hgrow q50 q51 q52);clear hown' hgrow)
      go_roundw
      case rel=>exact ⟨m+1,fb,_,ps++[(f,kk)],by omega,by go_num,rfl,(uh HE).1,(uh HE).2.1,(uh HE).2.2.1,(uh HE).2.2.2.1,by simp [uh Hpl1],(uh HB5).trans (uh HE).2.2.2.2.1,(uh HE).2.2.2.2.2,fun h=>⟨(uh Hbt (by simp)).1,uh HYm _ (uh Hft h) (uh Hbt (by simp)).2⟩,fun h=>uh HXm (uh Hff h)⟩
      case measure=>exact ms
    ·obtain rfl:m=ws.length:=by omega
     have HBi:Hid (Below wo.heap.size wo wi):=Z9 ((uh Hb3).trans (hbi.mono hz3));have HbutI:Hid (But (w.heap.size+1) w2 wi):=Z9 ((uh Hbut).later (uh HBi));have HB2:Hid (Below (w.heap.size+1) w2 wi):=Z9 ((uh HbutI).below (Z2 _) (by omega));have d0:wi.cell? ⟨w.heap.size,0,none⟩=some (.slice none 0 0):=((uh HB2).cell (p:=⟨w.heap.size,0,none⟩) (by show w.heap.size<_;omega)).trans x0;have df0:wi.frozen? ⟨w.heap.size,0,none⟩=false:=((uh HB2).frozen (p:=⟨w.heap.size,0,none⟩) (by show w.heap.size<_;omega)).trans g0;have d1:wi.cell? ⟨w.heap.size+1,0,none⟩=some (.slice va qs.length vcap):=((uh HBi).cell (p:=⟨w.heap.size+1,0,none⟩) (by show w.heap.size+1<_;omega)).trans (uh Hv);have df1:wi.frozen? ⟨w.heap.size+1,0,none⟩=false:=((uh HBi).frozen (p:=⟨w.heap.size+1,0,none⟩) (by show w.heap.size+1<_;omega)).trans (uh Hfv);have HohI:Hid (OwnHall w2.heap.size wi (.slice va qs.length vcap) qs):=Z9 ((uh Hoh).later (uh HBi));have hzwi:=(uh HBi).size;clear hpa hpl1 hbi hbt hbf;cases b
     ·have HZ:Hid (Yy l=none):=Z9 (uh Hnone (uh HX (uh Hbf (by simp))))
      go_wp2_with fail;exact ZS (v:= .tuple #[.agg #[.slice none 0 0],.bool false]) (by simp [results,Tryz.results205,go_sem, *]) rfl ⟨.inr ⟨rfl,uh HZ⟩,(((uh B2).trans ((uh HB2).mono (by omega))).setCell (Z2 w.heap.size) _)⟩
     ·have HRm:Hid (YP pk=some (n,ps)):=Z9 (by
       obtain ⟨h1,h2⟩:=uh Hbt (by simp);rw [List.take_length] at h2
       rw [uh HRR,uh HisT h1,h2];rfl)
      have hqsm:qs.length<=1048577:=by rw [uh Hql];omega
      have HpI:Hid (PacesAt w2.heap.size wi (.slice pva ps.length pvcap) ps):=Z9 (Tl (uh Hpa) (by omega));have Hoff:Hid (∀ b,(Value.slice pva ps.length pvcap).ownBlock=some b->(Value.slice va qs.length vcap).ownBlock ≠ some b):=Z9 (fun b e e'=>by have h1:=((uh Hpa).lt e).1;have h2:=((uh Hoh).lt (.inl e')).2;omega);have Hap:Hid (∀ q ∈ qs,∀ b,q.2.ownBlock=some b->(Value.slice pva ps.length pvcap).ownBlock ≠ some b):=Z9 (fun q hq b e e'=>by have h1:=((uh Hpa).lt e').1;have h2:=((uh Hoh).lt (.inr ⟨q,hq,e⟩)).2;omega);go_wp2_with (at_builtin;go_must (refine wpList_append_own_at _ rfl _ _ 24 rfl w2.heap.size 112 i2 (.agg #[.int .i64 0,.slice none 0 0]) 2 32 Tryz.underlying24 hi2 hr0 hr1 hr2 rfl (by decide) _ _ _ rfl (World.ownsRow.alloc (uh HohI).row _) ⟨_,0,none⟩ 1 1 [.int .i64 n,.slice pva ps.length pvcap] rfl rfl (Rg _ _ _ _ _ (by simp)) (by simp [Value.oneCell']) (by simp only [maxLen];omega) (by omega) (by simp;omega) ?_);go_must (intro v' w6 hown' hgrow _ hat);go_must (obtain ⟨a6,cap6,rfl,e1,e2,HE⟩:=AN (b:=w.heap.size+1) (uh HohI) (uh HpI) (uh Hoff) (uh Hap) hown' hgrow hat (by omega) (by omega) d1 df1);clear hown' hgrow hat)
      go_roundw
      case rel=>exact ⟨k+1,_,qs++[((n,ps),.slice pva ps.length pvcap)],by omega,by go_num,(uh HE).1,(uh HE).2.1,(uh HE).2.2.1,by simp [uh Hql],by rw [List.map_append];exact uh HY _ (uh HRm),((uh HbutI).within (uh HE).2.2.2).setCell 0 _⟩
      case measure=>exact ms
  ·obtain rfl:k=pc.length:=by omega
   have HB2:Hid (Below (w.heap.size+1) w2 wo):=Z9 (hbut.below (Z2 _) (by omega));have df0:wo.frozen? ⟨w.heap.size,0,none⟩=false:=((uh HB2).frozen (p:=⟨w.heap.size,0,none⟩) (by show w.heap.size<_;omega)).trans g0;rw [List.take_length] at hmap;have Hmap2:=Z9 hmap;have HBo:Hid (Below w.heap.size w wo):=Z9 ((uh B2).trans ((uh HB2).mono (by omega)));clear hoh hmap hbut hql;go_wp2_with fail;refine ck (Uw (uh Hoh).rm) fun w7 hb7=> ?_;have c70:=(hb7.cell (p:=⟨w.heap.size,0,none⟩) (by show w.heap.size<_;omega)).trans y0;have c71:=(hb7.cell (p:=⟨w.heap.size+1,0,none⟩) (by show w.heap.size+1<_;omega)).trans hv;have c72:=(hb7.frozen (p:=⟨w.heap.size,0,none⟩) (by show w.heap.size<_;omega)).trans df0;have Hb7:=Z9 hb7;have hz7:=hb7.size;clear hb7 y0 hv hfv;cases hh:Y2 (qs.map (·.1))
   ·have HZ:Hid (Yy l=none):=Z9 (uh Hbad _ (uh Hmap2) hh)
    clear hh;go_wp2_with fail;exact ZS (v:= .tuple #[.agg #[.slice none 0 0],.bool false]) (by simp [results,Tryz.results205,go_sem, *]) rfl ⟨.inr ⟨rfl,uh HZ⟩,((uh HBo).trans ((uh Hb7).mono (by omega))).setCell (Z2 w.heap.size) _⟩
   ·have HZ:Hid (Yy l=some (qs.map (·.1))):=Z9 (uh Hsome _ (uh Hmap2) hh)
    clear hh;go_wp2_with fail;exact ZS (v:= .tuple #[.agg #[.slice va qs.length vcap],.bool true]) (by simp [results,Tryz.results205,go_sem, *]) rfl ⟨.inl ⟨_,qs,rfl,uh HZ,(((uh Hoh).later (uh Hb7)).but ((But.refl w.heap.size w7).setCell 0 _) (.inl (by omega))).mono (by omega)⟩,((uh HBo).trans ((uh Hb7).mono (by omega))).setCell (Z2 w.heap.size) _⟩
def Af (l:Txt):Bool:=decide (l.length<=1048576) && (Yy l).isSome
def Al:Value->Bool
 | .string s=>Af s.data.toList
 | _=>false
theorem Cm (cs:Array Value) (j:Nat) (hj:j<cs.size) (h:cs.toList.all Al=true):∃ l,cs[j]?=some (.string (bs l))/\Af l=true:=by
 rw [Array.all_toList,Array.all_eq_true] at h;have:=h j hj;rw [Array.getElem?_eq_getElem hj];generalize cs[j]=c at *;unfold Al at this
 split at this
 ·rename_i s;exact ⟨s.data.toList,by rw [CZ],this⟩
 ·cases this
theorem Gw (w:World):Calls Tryz.prog 206 #[] w fun e w'=>e= .returned (.slice (some ⟨w.heap.size,0,none⟩) 6 6)/\(∀ j,j<6-> ∃ l,w'.cell? ⟨w.heap.size,j,none⟩=some (.string (bs l))/\Af l=true)/\Below w.heap.size w w'/\w.heap.size<w'.heap.size:=by
 go_enter Tryz.func206,Tryz.ntmps206;go_wp2_with fail;go_ret;refine ⟨rfl,fun j hj=> ?_,(ba _ _),by simp⟩;rw [World.cell?_alloc_new];exact Cm _ j hj (by decide +kernel)
theorem C8 {l:Txt} (h:Af l=true):l.length<=1048576/\(Yy l).isSome=true:=by
 unfold Af at h;simpa using h
theorem Ep (a:Option Addr) (len cap bc:Nat) (w:World) (hs:St a len cap bc w) :
  Calls Tryz.prog 148 #[.pointer (some ⟨bc,0,none⟩)] w fun e w'=> ∃ v qs,e= .returned (.agg #[v])/\Y2 (qs.map (·.1))=true/\OwnHall w.heap.size w' v qs/\St a len cap bc w'/\Off bc w w':=by
 have Hs:=Z9 hs;have hbc:=WS hs;clear hs;go_enter Tryz.func148,Tryz.ntmps148;go_wp2_with fail;refine (Gw _).mono ?_;rintro e w1 ⟨rfl,htx,hb1,hz1⟩;have hz1':w.heap.size+2<=w1.heap.size:=by simp at hz1;omega
 have B1:Hid (Below w.heap.size w w1):=Z9 (((ba _ _)).trans (hb1.mono (by simp)));have x0:w1.cell? ⟨w.heap.size,0,none⟩=some (.slice none 0 0):=(hb1.cell (p:=⟨w.heap.size,0,none⟩) (by simp)).trans (by simp);have x1:w1.frozen? ⟨w.heap.size,0,none⟩=false:=(hb1.frozen (p:=⟨w.heap.size,0,none⟩) (by simp)).trans (by rw [frozen?_alloc_cells];exact Sr (Z2 _));have Htx:=Z9 htx;clear htx hb1;go_wp2_with fail;refine (Draw.below_any a len cap bc 6 (by omega) (by omega) _ (XA (uh Hs) ((uh B1).mono (by omega)))).mono ?_;rintro e w2 ⟨x,rfl,hx0,hx1,hs2,ho2⟩;obtain ⟨j,rfl⟩:=Int.eq_ofNat_of_zero_le hx0;obtain ⟨l,hcl,hgd⟩:=uh Htx j (by omega);simp only [ZB] at hcl;have hcl2:=(ho2.cell (p:=⟨w.heap.size+1,j,none⟩) (by show w.heap.size+1<_;omega) (by show w.heap.size+1 ≠ _;omega)).trans hcl;have y0:=(ho2.cell (p:=⟨w.heap.size,0,none⟩) (by show w.heap.size<_;omega) (by show w.heap.size ≠ _;omega)).trans x0;have y1:w2.frozen? ⟨w.heap.size,0,none⟩=false:=(World.frozen?_of_block (w:=w1) (w':=w2) (ho2.block w.heap.size (by omega) (by omega))).trans x1;have Hs2:=Z9 hs2;have Ho2:=Z9 ho2;have hz2:=ho2.size;have hll:=(C8 hgd).1;have Hgd:=Z9 (C8 hgd).2;clear hcl hs2 ho2 x0 x1 hgd;go_wp2_with fail;refine (O5 l _ hll).mono ?_;rintro e w3 ⟨hgot,hb3⟩
 rcases hgot with ⟨v,qs,rfl,hrd,hown⟩ | ⟨rfl,hrd⟩
 ·obtain ⟨va,vcap,rfl⟩:=hown.shape
  have hz3:=hb3.size;have z0:=(hb3.cell (p:=⟨w.heap.size,0,none⟩) (by show w.heap.size<_;omega)).trans y0;have z1:=(hb3.frozen (p:=⟨w.heap.size,0,none⟩) (by show w.heap.size<_;omega)).trans y1;have Hown:=Z9 hown;have Hb3:=Z9 hb3;have Hrd:=Z9 (KQ hrd).1;have hlt3:w.heap.size<w3.heap.size:=by omega
  clear hown hb3 hrd y0 y1;go_wp2_with fail;have HB:Below w.heap.size w2 ((w3.setCell ⟨w.heap.size,0,none⟩ (.slice va qs.length vcap)).alloc (.cells #[.slice va qs.length vcap] 26)):=(((uh Hb3).mono (by omega)).setCell (Z2 w.heap.size) _).alloc (by simp;omega) _;refine ZS (v:= .agg #[.slice va qs.length vcap]) (by simp [results,Tryz.results148,go_sem, *]) rfl ⟨_,qs,rfl,uh Hrd,?_,XA (uh Hs2) (HB.mono (by omega)),Tk ((Tk (Off.refl bc w) (uh B1)).trans (uh Ho2)) HB⟩;exact ((((uh Hown).but ((But.refl w.heap.size w3).setCell 0 _) (.inl (by omega))).later ((ba _ _))).mono (by omega))
 ·exfalso;rw [hrd] at Hgd;exact absurd (uh Hgd) (by simp)
def Cf (rs:List ZZ):Z6:=if Y2 rs then TY rs else Yj
def xv (n₀:Nat) (M:Z6) (q:Bool) (e:Ending) (w':World):Prop:=
 ∃ u0 u1 u2 u3 u4 qs,e= .returned (.tuple #[.agg #[u0,u1,u2,u3,u4,.int .i64 M.now],.bool q])/\FullSmy n₀ w' u0 u1 u2 u3 u4 M qs
theorem DE:∀ rs:List ZZ,rs.all Ze=true->0<=ZV rs
 | [],_=>by simp [ZV]
 | r::rs,h=>by
  simp only [List.all_cons,ZM] at h;have ih:=DE rs h.2;have h1:=h.1;unfold Ze at h1;simp only [ZM] at h1;have:=ZO h1.1;simp only [ZV,List.map_cons,List.sum_cons] at ih ⊢;omega
theorem Ow {rs:List ZZ} (h:Y2 rs=true):1<=ZV rs:=by
 obtain ⟨r1,r2,r3,r4⟩:=Zo h
 match rs,r1,r3 with
 | r::rs,_,h3=>
  simp only [List.all_cons,ZM] at h3;have ih:=DE rs h3.2;have h1:=h3.1;unfold Ze at h1;simp only [ZM] at h1;have:=ZO h1.1;simp only [ZV,List.map_cons,List.sum_cons] at ih ⊢;omega
theorem B7 {B n:Nat} (hg:B<=w.heap.size) (hn:n<=1000):NumsAt B (w.alloc (.cells (madeCells #[.int .i64 0] n) 2)) (.slice (some ⟨w.heap.size,0,none⟩) n n) (List.replicate n 0):=by
 have hl:(madeCells #[Value.int .i64 0] n).toList=UK Sn (List.replicate n 0):=by
  have:=BZ YH (by omega) (0:Int) #[Value.int .i64 0] rfl n;rw [Nat.mul_one] at this;exact this
 have hsz:(madeCells #[Value.int .i64 0] n).size=n:=by simp [madeCells]
 show (w.alloc _).ownsRow B 2 1 _ (List.replicate n (0:Int)).length _;rw [List.length_replicate];refine ⟨by rw [V9 YH,List.length_replicate],.inr ⟨_,n,madeCells #[.int .i64 0] n,rfl,hg,heap_alloc_new w _,Z2 _,(by unfold maxLen;omega),(by simp [hsz]),?_⟩⟩;rw [<-hl,Nat.mul_one];exact List.take_of_length_le (by rw [Array.length_toList,hsz];exact Z2 _)
theorem AO (B:Nat) (w:World):DesksAt B w (.slice none 0 0) []:=World.ownsRow_nil _ _ _ _
structure NewOff (n₀:Nat) (rs:List ZZ) (w:World) (R:Nat) (v0 v4 v3:Value) (qs:List (ZZ × Value)):Prop where
 hall:OwnHall (n₀+2) w v0 qs
 rm:qs.map (·.1)=rs
 nums:NumsAt (n₀+2) w v4 (List.replicate rs.length 0)
 rlo:n₀+2<=R
 rh:∀ k,(v0.ownBlock=some k\/ ∃ q ∈ qs,q.2.ownBlock=some k)->k ≠ R
 rp:v4.ownBlock ≠ some R
 rd:v3.ownBlock ≠ some R
 hp:∀ k,(v0.ownBlock=some k\/ ∃ q ∈ qs,q.2.ownBlock=some k)->v4.ownBlock ≠ some k
 hd:∀ k,(v0.ownBlock=some k\/ ∃ q ∈ qs,q.2.ownBlock=some k)->v3.ownBlock ≠ some k
 pd:∀ k,v4.ownBlock=some k->v3.ownBlock ≠ some k
 rlt:R<w.heap.size
structure NewCut (n₀:Nat) (w:World) (a:Option Addr) (rs:List ZZ) (cap:Nat) (wc:World) (R:Nat) (hv pv:Value) (qs:List (ZZ × Value)):Prop where
 off:NewOff n₀ rs wc R hv pv (.slice none 0 0) qs
 km:Blk wc R 32 #[hv,.slice none 0 0,.slice none 0 0,.slice none 0 0,pv,.int .i64 0]
 kb:Blk wc n₀ 26 #[.slice a rs.length cap]
 kr:Blk wc (n₀+1) 32 E6
 bel:Below w.heap.size w wc
 hshape:∃ ua uc,hv= .slice ua rs.length uc
 pshape:∃ pa pc,pv= .slice pa rs.length pc
theorem NewOff.below {n₀:Nat} {rs:List ZZ} {R:Nat} {qs:List (ZZ × Value)} (h:NewOff n₀ rs w R v0 v4 v3 qs) (hb:Below w.heap.size w w'):NewOff n₀ rs w' R v0 v4 v3 qs:=
 ⟨h.hall.later hb,h.rm,RecAt.later h.nums hb,h.rlo,h.rh,h.rp,h.rd,h.hp,h.hd,h.pd,Zf h.rlt hb.size⟩
theorem NewCut.below {n₀:Nat} {a:Option Addr} {rs:List ZZ} {cap:Nat} {wc w':World} {R:Nat} {hv pv:Value} {qs:List (ZZ × Value)} (h:NewCut n₀ w a rs cap wc R hv pv qs) (hb:Below wc.heap.size wc w'):NewCut n₀ w a rs cap w' R hv pv qs:=
 ⟨h.off.below hb,h.km.below hb h.km.lt,h.kb.below hb h.kb.lt,h.kr.below hb h.kr.lt,h.bel.trans (hb.mono h.bel.size),h.hshape,h.pshape⟩
theorem NewOff.set_R {n₀:Nat} {rs:List ZZ} {R:Nat} {qs:List (ZZ × Value)} (h:NewOff n₀ rs w R v0 v4 v3 qs) (o:Nat) (u:Value):NewOff n₀ rs (w.setCell ⟨R,o,none⟩ u) R v0 v4 v3 qs:=
 ⟨h.hall.same2 fun k e=>heap_setCell_other _ _ _ _ (h.rh k e),h.rm,RecAt.same h.nums fun k e=>heap_setCell_other _ _ _ _ (fun e'=>h.rp (by rw [e];exact congrArg some e')),h.rlo,h.rh,h.rp,h.rd,h.hp,h.hd,h.pd,by simpa using h.rlt⟩
theorem NewOff.grow {n₀:Nat} {rs:List ZZ} {R:Nat} {v0 v4 v3 v':Value} {qs:List (ZZ × Value)} {o:Obj} (h:NewOff n₀ rs w R v0 v4 v3 qs) (hg:(w.alloc o).grownBy w' v3.ownBlock) (hat:v'.ownBlock=v3.ownBlock\/v'.ownBlock=some (w.alloc o).heap.size):NewOff n₀ rs w' R v0 v4 v' qs:=by
 have hk:∀ k,k<w.heap.size->v3.ownBlock ≠ some k->w'.heap[k]?=w.heap[k]?:=fun k hk hn=>(hg.block k (by simp;omega) (fun e=>hn e.symm)).trans (Below.heap_alloc w o k hk)
 have hv:∀ k,k<w.heap.size->v3.ownBlock ≠ some k->v'.ownBlock ≠ some k:=fun k hlt hn e=>by
  rcases hat with e' | e'
  ·exact hn (by rw [<-e'];exact e)
  ·rw [e'] at e
   simp at e;omega
 have hs:w.heap.size<=w'.heap.size:=by have:=hg.size;simp at this;omega
 refine ⟨h.hall.same2 fun k e=>hk k (h.hall.lt e).2 (h.hd k e),h.rm,RecAt.same h.nums fun k e=>hk k (RecAt.lt h.nums e).2 (h.pd k e),h.rlo,h.rh,h.rp,hv R h.rlt h.rd,h.hp,fun k e=>hv k (h.hall.lt e).2 (h.hd k e),fun k e=>hv k (RecAt.lt h.nums e).2 (h.pd k e),by have:=h.rlt;omega⟩
theorem NewOff.full {n₀:Nat} {rs:List ZZ} {R:Nat} {qs:List (ZZ × Value)} {ds:List XQ} (h:NewOff n₀ rs w R v0 v4 v3 qs) (hd:DesksAt (n₀+2) w v3 ds):FullSmy (n₀+2) w v0 (.slice none 0 0) (.slice none 0 0) v3 v4 ⟨rs,[],[],ds,List.replicate rs.length 0,0⟩ qs:=by
 have hz:∀ u:Value,Lh (.slice none 0 0) u:=fun u b e=>by cases e
 have hz2:∀ u:Value,Lh u (.slice none 0 0):=fun u b e e'=>by cases e'
 exact ⟨h.hall,h.rm,World.ownsRow_nil _ _ _ _,World.ownsRow_nil _ _ _ _,hd,h.nums,⟨hz _,fun q hq=>hz _⟩,⟨hz _,fun q hq=>hz _⟩,⟨fun b e e'=>h.hd b (.inl e') e,fun q hq b e e'=>h.hd b (.inr ⟨q,hq,e'⟩) e⟩,⟨fun b e e'=>h.hp b (.inl e') e,fun q hq b e e'=>h.hp b (.inr ⟨q,hq,e'⟩) e⟩,hz _,hz _,hz _,hz _,hz _,fun b e e'=>h.pd b e' e⟩
theorem zj {a:Option Addr} {rs:List ZZ} {cap R g uc:Nat} {ua:Option Addr} {qs:List (ZZ × Value)} (hlo:w.heap.size+2<=R) (bel:Below w.heap.size w X) (kb:Blk X w.heap.size 26 #[.slice a rs.length cap]) (kr:Blk X (w.heap.size+1) 32 E6)
  (hh:OwnHall (w.heap.size+2) X (.slice ua rs.length uc) qs) (hn:NumsAt (w.heap.size+2) X (.slice (some ⟨g,0,none⟩) rs.length rs.length) (List.replicate rs.length 0)) (km:Blk X R 32 E6) (hgl:w.heap.size+2<=g)
  (h15:∀ k,((Value.slice ua rs.length uc).ownBlock=some k\/ ∃ q ∈ qs,q.2.ownBlock=some k)->k ≠ g) (h17:∀ k,((Value.slice ua rs.length uc).ownBlock=some k\/ ∃ q ∈ qs,q.2.ownBlock=some k)->k ≠ R) (h57:R ≠ g) (hq:qs.map (·.1)=rs) :
  ∃ R' hv pv qs',Value.pointer (some ⟨R,0,none⟩)= .pointer (some ⟨R',0,none⟩)/\NewCut w.heap.size w a rs cap ((((((X.setCell ⟨R,0,none⟩ (.slice ua rs.length uc)).setCell ⟨R,1,none⟩ (.slice none 0 0)).setCell ⟨R,2,none⟩ (.slice none 0 0)).setCell ⟨R,3,none⟩ (.slice none 0 0)).setCell ⟨R,4,none⟩ (.slice (some ⟨g,0,none⟩) rs.length rs.length)).setCell ⟨R,5,none⟩ (.int .i64 0)) R' hv pv qs':=by
 refine ⟨R,.slice ua rs.length uc,.slice (some ⟨g,0,none⟩) rs.length rs.length,qs,rfl,?_⟩;have ho:NewOff w.heap.size rs X R (.slice ua rs.length uc) (.slice (some ⟨g,0,none⟩) rs.length rs.length) (.slice none 0 0) qs:=⟨hh,hq,hn,hlo,h17,fun e=>(by cases e;exact h57 rfl),fun e=>(by cases e),fun k e e'=>(by cases e';exact h15 _ e rfl),fun k e e'=>(by cases e'),fun k e e'=>(by cases e'),km.lt⟩
 have k1:=((((((km.set 0 (.slice ua rs.length uc)).set 1 (.slice none 0 0)).set 2 (.slice none 0 0)).set 3 (.slice none 0 0)).set 4 (.slice (some ⟨g,0,none⟩) rs.length rs.length)).set 5 (.int .i64 0))
 refine ⟨(((((ho.set_R _ _).set_R _ _).set_R _ _).set_R _ _).set_R _ _).set_R _ _,k1,?_,?_,?_,⟨_,_,rfl⟩,⟨_,_,rfl⟩⟩
 ·iterate 6 (refine Blk.other ?_ (by show w.heap.size ≠ R;omega) _)
  exact kb
 ·iterate 6 (refine Blk.other ?_ (by show w.heap.size+1 ≠ R;omega) _)
  exact kr
 ·iterate 6 (refine YS ?_ (by show _<=R;omega) _)
  exact bel
theorem P0 {ops:Array Oper} {rest:List Oper} {o:Oper} {a:Act} {Q:Exit->Act->World->Prop} (hgd:o.guard=none) (s x:Operand) (t:TypeId)
  (ho:o.op= .call { callee:= .builtin .append,args:=#[s,x],argTypes:=#[t,t] }) {v u v':Value} {w':World} (hs:a.eval s=v) (hx:a.eval x=u) (hrun:(Builtin.append_ #[t,t] o.type #[v,u]).run Tryz.prog w= .ok v' w')
  (h:wpList Tryz.prog ops Q rest (a.put o.dst v') w'):wpList Tryz.prog ops Q (o::rest) a w:=by
 refine wpList_plain hgd fun K hK=> ?_;unfold Oper.wp execOp;simp only [ho,resolve,invoke,builtin,Sem.run_bind,Sem.run_pure,Result.andThen_ok,List.map_toArray,List.map_cons,List.map_nil,hs,hx,hrun];exact hK _ _ h
end Go.Proofs.YtamgfpdahadnfaaGreatDoor
