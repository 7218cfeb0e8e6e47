/- Part 5 of what the proof rests on. No condition but those that a theorem names. -/
import Derived.Test.YtmdgokjeobnnaaaGreatDoorXt01
import Derived.Deep.QuietTactic
import Derived.BigQuiet
set_option maxHeartbeats 8000000
set_option maxRecDepth 100000
namespace Go.Proofs.YtmdgokjeobnnaaaGreatDoor
open Go.ChangeShapes Go.WideShapes Go.ChangeAt Go.RowKit Go.Proofs.Tryz
set_option linter.unusedVariables false
def VI (s i:Int):Bool:=decide (s / 2 ^ i.toNat%2=1)
theorem IA (n:Int):bits .and .i64 n 1=n%2:=by
 have h1:(BitVec.ofInt 64 1).toNat=2 ^ 1-1:=by decide
 have key:(BitVec.ofInt 64 n &&& BitVec.ofInt 64 1).toNat=(n%((2 ^ 64:Nat):Int)).toNat%2 ^ 1:=by
  rw [BitVec.toNat_and,BitVec.toNat_ofInt,h1,Nat.and_two_pow_sub_one_eq_mod]
 show IntKind.i64.wrap ((BitVec.ofInt 64 n &&& BitVec.ofInt 64 1).toNat:Nat)=n%2;rw [key,IntKind.wrap_i64];omega
theorem Gi (s i:Int):(bits .and .i64 (s / 2 ^ i.toNat) 1 ==1)=VI s i:=by rw [IA];unfold VI;rfl
theorem Pm (s i:Int) (w:World) (hs:0<=s) (hs2:s<=255) (hi:0<=i) (hi2:i<=7):cE 64 #[.int .i64 s,.int .i64 i] w (.bool (VI s i)):=by
 go_enter func64,ntmps64
 go_wp2
 go_ret;exact ⟨ZU (Gi s i),rfl⟩
end Go.Proofs.YtmdgokjeobnnaaaGreatDoor
namespace Go.Proofs.YtmdgokjeobnnaaaGreatDoor.Draw
open Go.ChangeShapes Go.WideShapes Go.ChangeAt Go.RowKit Go.Proofs.Tryz
set_option linter.unusedVariables false
theorem Z9 {p:Prop} (h:p):Hid p:=h
theorem uh {p:Prop} (h:Hid p):p:=h
theorem Za {k:IntKind} {a b:Int} (h:a=b):Ending.returned (.int k a)= .returned (.int k b):=by rw [h]
theorem UK (n:Int):bits .and .i64 n 255=n%256:=by
 have h127:(BitVec.ofInt 64 255).toNat=2 ^ 8-1:=by decide
 have key:(BitVec.ofInt 64 n &&& BitVec.ofInt 64 255).toNat=(n%((2 ^ 64:Nat):Int)).toNat%2 ^ 8:=by
  rw [BitVec.toNat_and,BitVec.toNat_ofInt,h127,Nat.and_two_pow_sub_one_eq_mod]
 show IntKind.i64.wrap ((BitVec.ofInt 64 n &&& BitVec.ofInt 64 255).toNat:Nat)=n%256;rw [key,IntKind.wrap_i64];omega
structure Off (bc:Nat) (w w':World):Prop where
 os:w'.os=w.os
 tape:w'.tape=w.tape
 output:w'.output=w.output
 size:w.heap.size<=w'.heap.size
 block:∀ k,k<w.heap.size->k ≠ bc->w'.heap[k]?=w.heap[k]?
theorem Off.refl (bc:Nat) (w:World):Off bc w w:=⟨rfl,rfl,rfl,Z3 _,fun _ _ _=>rfl⟩
theorem Off.trans {bc:Nat} {a b c:World} (h:Off bc a b) (k:Off bc b c):Off bc a c:=
 ⟨k.os.trans h.os,k.tape.trans h.tape,k.output.trans h.output,XA h.size k.size,fun i hi hn=>(k.block i (YH hi h.size) hn).trans (h.block i hi hn)⟩
theorem Off.drewN {bc:Nat} {a w:World} (h:Off bc a w) (n:Nat):Off bc a (w.drewN n):=⟨h.os,h.tape,h.output,h.size,h.block⟩
theorem Off.alloc {bc:Nat} {a w:World} (h:Off bc a w) (o:Obj):Off bc a (w.alloc o):=
 h.trans ⟨rfl,rfl,rfl,by simp,fun k hk _=>Below.heap_alloc w o k hk⟩
theorem Off.setCell {bc:Nat} {a w:World} (h:Off bc a w) (o:Nat) (v:Value):Off bc a (w.setCell ⟨bc,o,none⟩ v):=
 h.trans ⟨rfl,rfl,rfl,by simp,fun k hk hn=>Below.heap_setCell w ⟨bc,o,none⟩ v k hn⟩
theorem Off.below {bc:Nat} {a w:World} (h:Off bc a w) {B:Nat} (hB:B<=bc) (hs:B<=a.heap.size):Below B a w:=
 ⟨h.os,h.tape,h.output,h.size,fun k hk=>h.block k (YH hk hs) (by omega)⟩
theorem Off.cell {bc:Nat} {w w':World} (h:Off bc w w') {p:Addr} (hp:p.block<w.heap.size) (hn:p.block ≠ bc):w'.cell? p=w.cell? p:=
 World.cell?_of_block (w:=w) (h.block p.block hp hn)
theorem RR (w:World) (o:Nat):w.frozen? ⟨w.heap.size,o,none⟩=false:=by simp [World.frozen?]
def Row (B:Nat) (w:World) (a:Option Addr) (len:Nat):Prop:=
 len<=4096/\(len=0\/ ∃ b off,a=some ⟨b,off,none⟩/\b<B/\ ∀ i,i<len-> ∃ n:Int,0<=n/\n<=255/\w.cell? ⟨b,off+i,none⟩=some (.int .u8 n))
def Cur (a:Option Addr) (len cap bc:Nat) (w:World):Prop:=
 bc<w.heap.size/\ ∃ i h:Int,0<=i/\i<=4096/\w.cell? ⟨bc,0,none⟩=some (.slice a len cap)/\w.cell? ⟨bc,1,none⟩=some (.int .i64 i)/\w.cell? ⟨bc,2,none⟩=some (.int .i64 h)
  /\w.frozen? ⟨bc,1,none⟩=false/\w.frozen? ⟨bc,2,none⟩=false
structure St (a:Option Addr) (len cap bc:Nat) (w:World):Prop where
 cur:Cur a len cap bc w
 row:Row bc w a len
theorem Row.off {bc:Nat} {w w':World} {a:Option Addr} {len:Nat} (h:Row bc w a len) (ho:Off bc w w') (hb:bc<=w.heap.size):Row bc w' a len:=by
 refine ⟨h.1,?_⟩
 rcases h.2 with h0 | ⟨b,off,ha,hlt,hc⟩
 ·exact .inl h0
 ·refine .inr ⟨b,off,ha,hlt,fun i hi=> ?_⟩
  obtain ⟨n,n0,n1,hn⟩:=hc i hi;exact ⟨n,n0,n1,by rw [ho.cell (p:=⟨b,off+i,none⟩) (Nat.lt_of_lt_of_le hlt hb) (Nat.ne_of_lt hlt)];exact hn⟩
theorem St.drewN {a:Option Addr} {len cap bc:Nat} {w:World} (h:St a len cap bc w) (n:Nat):St a len cap bc (w.drewN n):=⟨h.cur,h.row⟩
theorem St.alloc {a:Option Addr} {len cap bc:Nat} {w:World} (h:St a len cap bc w) (o:Obj):St a len cap bc (w.alloc o):=by
 obtain ⟨⟨hb,i,x,h0,h1,c0,c1,c2,f1,f2⟩,hr⟩:=h;have hne:∀ o,(⟨bc,o,none⟩:Addr).block ≠ w.heap.size:=fun _=>KS hb;refine ⟨⟨by simp;omega,i,x,h0,h1,?_,?_,?_,?_,?_⟩,hr.off ((Off.refl _ _).alloc o) (Nat.le_of_lt hb)⟩
 ·rw [World.cell?_alloc_old _ _ _ (hne 0)];exact c0
 ·rw [World.cell?_alloc_old _ _ _ (hne 1)];exact c1
 ·rw [World.cell?_alloc_old _ _ _ (hne 2)];exact c2
 ·rw [World.frozen?_alloc_old _ _ _ (hne 1)];exact f1
 ·rw [World.frozen?_alloc_old _ _ _ (hne 2)];exact f2
theorem St.setH {a:Option Addr} {len cap bc:Nat} {w:World} (h:St a len cap bc w) (x:Int):St a len cap bc (w.setCell ⟨bc,2,none⟩ (.int .i64 x)):=by
 obtain ⟨⟨hb,i,y,h0,h1,c0,c1,c2,f1,f2⟩,hr⟩:=h;refine ⟨⟨by simpa using hb,i,x,h0,h1,?_,?_,?_,?_,?_⟩,hr.off ((Off.refl _ _).setCell 2 _) (Nat.le_of_lt hb)⟩
 ·rw [World.cell?_setCell_other _ _ _ _ (by simp)];exact c0
 ·rw [World.cell?_setCell_other _ _ _ _ (by simp)];exact c1
 ·exact World.cell?_setCell_same _ _ _ c2
 ·rw [World.frozen?_setCell];exact f1
 ·rw [World.frozen?_setCell];exact f2
theorem St.setI {a:Option Addr} {len cap bc:Nat} {w:World} (h:St a len cap bc w) (x:Int) (x0:0<=x) (x1:x<=4096):St a len cap bc (w.setCell ⟨bc,1,none⟩ (.int .i64 x)):=by
 obtain ⟨⟨hb,i,y,h0,h1,c0,c1,c2,f1,f2⟩,hr⟩:=h;refine ⟨⟨by simpa using hb,x,y,x0,x1,?_,?_,?_,?_,?_⟩,hr.off ((Off.refl _ _).setCell 1 _) (Nat.le_of_lt hb)⟩
 ·rw [World.cell?_setCell_other _ _ _ _ (by simp)];exact c0
 ·exact World.cell?_setCell_same _ _ _ c1
 ·rw [World.cell?_setCell_other _ _ _ _ (by simp)];exact c2
 ·rw [World.frozen?_setCell];exact f1
 ·rw [World.frozen?_setCell];exact f2
theorem TY (a:Option Addr) (len cap bc:Nat) (w:World) (hs:St a len cap bc w) :
  Calls prog 35 #[.pointer (some ⟨bc,0,none⟩)] w fun e w'=> ∃ x:Int,e= .returned (.int .i64 x)/\0<=x/\x<=255/\St a len cap bc w'/\Off bc w w':=by
 have Hs:=Z9 hs;obtain ⟨⟨hb,i,h,h0,h1,c0,c1,c2,f1,f2⟩,hl,hr⟩:=hs;by_cases hge:i<(len:Int)
 ·have Hr:=Z9 hr
  rcases hr with hr | ⟨b,off,rfl,hlt,hc⟩
  ·omega
  obtain ⟨k,rfl⟩:=Int.eq_ofNat_of_zero_le h0;obtain ⟨n,n0,n1,hn⟩:=hc k (by omega);have hneb:b ≠ bc:=KS hlt;clear hc Hr;go_enter func35,ntmps35;go_wp2_with fail;go_quiet (fail);go_wp2_with fail;go_quiet (fail);go_wp2_with fail;go_quiet (fail);go_wp2_with fail;go_ret;refine ⟨_,rfl,?_,?_,(((uh Hs).setH _).drewN _).setI _ (by omega) (by omega),(((Off.refl _ _).setCell 2 _).drewN _).setCell 1 _⟩
  ·rw [UK];omega
  ·rw [UK];omega
 ·go_enter func35,ntmps35
  go_wp2_with fail;go_quiet (fail);go_wp2_with fail;go_quiet (fail);go_wp2_with fail;go_ret;refine ⟨_,rfl,?_,?_,(((uh Hs).setH _).drewN _).drewN _,(((Off.refl _ _).setCell 2 _).drewN _).drewN _⟩
  ·rw [UK];omega
  ·rw [UK];omega
theorem below_any (a:Option Addr) (len cap bc:Nat) (n:Int) (hn:0<n) (hm:n<=4611686018427387904) (w:World) (hs:St a len cap bc w) :
  Calls prog 16 #[.pointer (some ⟨bc,0,none⟩),.int .i64 n] w fun e w'=> ∃ x:Int,e= .returned (.int .i64 x)/\0<=x/\x<n/\St a len cap bc w'/\Off bc w w':=by
 have Hs:=Z9 hs;clear hs;by_cases h256:n<=256
 ·go_enter func16,ntmps16
  go_wp2_with fail;refine (TY a len cap bc _ (uh Hs)).mono ?_;rintro e w1 ⟨x,rfl,x0,x1,s1,o1⟩;have Hs1:=Z9 s1;have Ho1:=Z9 o1;clear s1 o1;go_wp2_with fail;go_ret;exact ⟨_,rfl,Int.emod_nonneg _ (by omega),Int.emod_lt_of_pos _ hn,uh Hs1,uh Ho1⟩
 ·go_enter func16,ntmps16
  go_wp2_with fail;refine (TY a len cap bc _ (uh Hs)).mono ?_;rintro e w1 ⟨x,rfl,x0,x1,s1,o1⟩;have Hs1:=Z9 s1;have Ho1:=Z9 o1;clear s1 o1;go_wp2_with fail;refine (TY a len cap bc _ (uh Hs1)).mono ?_;rintro e w2 ⟨y,rfl,y0,y1,s2,o2⟩;have Hs2:=Z9 s2;have Ho2:=Z9 o2;clear s2 o2;go_wp2_with fail;refine (TY a len cap bc _ (uh Hs2)).mono ?_;rintro e w3 ⟨z,rfl,z0,z1,s3,o3⟩;have Hs3:=Z9 s3;have Ho3:=Z9 o3;clear s3 o3;go_wp2_with fail;refine (TY a len cap bc _ (uh Hs3)).mono ?_;rintro e w4 ⟨v,rfl,v0,v1,s4,o4⟩;have Hs4:=Z9 s4;have Ho4:=Z9 o4;clear s4 o4;go_wp2_with fail;go_ret;exact ⟨_,rfl,Int.emod_nonneg _ (by omega),Int.emod_lt_of_pos _ hn,uh Hs4,(((uh Ho1).trans (uh Ho2)).trans (uh Ho3)).trans (uh Ho4)⟩
theorem once_any (a:Option Addr) (len cap bc:Nat) (n:Int) (hn:0<n) (hm:n<=4611686018427387904) (w:World) (hs:St a len cap bc w) :
  Calls prog 18 #[.pointer (some ⟨bc,0,none⟩),.int .i64 n] w fun e w'=> ∃ b:Bool,e= .returned (.bool b)/\St a len cap bc w'/\Off bc w w':=by
 have Hs:=Z9 hs;clear hs;go_enter func18,ntmps18;go_wp2_with fail;refine (below_any a len cap bc n hn hm _ (uh Hs)).mono ?_;rintro e w1 ⟨x,rfl,x0,x1,s1,o1⟩;have Hs1:=Z9 s1;have Ho1:=Z9 o1;clear s1 o1;go_wp2_with fail;go_ret;exact ⟨_,rfl,uh Hs1,uh Ho1⟩
theorem from_any (a:Option Addr) (len cap bc:Nat) (lo hi:Int) (h:lo<=hi) (h1 : -1000000000000<=lo) (h2:hi<=1000000000000) (w:World) (hs:St a len cap bc w) :
  Calls prog 17 #[.pointer (some ⟨bc,0,none⟩),.int .i64 lo,.int .i64 hi] w fun e w'=> ∃ x:Int,e= .returned (.int .i64 x)/\lo<=x/\x<=hi/\St a len cap bc w'/\Off bc w w':=by
 have Hs:=Z9 hs;clear hs;go_enter func17,ntmps17;go_wp2_with fail;refine (below_any a len cap bc _ (by omega) (by omega) _ (uh Hs)).mono ?_;rintro e w1 ⟨x,rfl,x0,x1,s1,o1⟩;have Hs1:=Z9 s1;have Ho1:=Z9 o1;clear s1 o1;go_wp2_with fail;go_ret;exact ⟨_,rfl,by omega,by omega,uh Hs1,uh Ho1⟩
theorem Gs {a:Option Addr} {len cap:Nat} {w:World} (hr:Row w.heap.size w a len) {t:TypeId} (x:Int):St a len cap w.heap.size (w.alloc (.cells #[.slice a len cap,.int .i64 0,.int .i64 x] t)):=by
 refine ⟨⟨by simp,0,x,by omega,by omega,?_,?_,?_,?_,?_⟩,hr.off ((Off.refl _ _).alloc _) (Z3 _)⟩
 ·simp
 ·simp
 ·simp
 ·rw [frozen?_alloc_cells];exact RR _ _
 ·rw [frozen?_alloc_cells];exact RR _ _
theorem new_any (a:Option Addr) (len cap:Nat) (w:World) (hr:Row w.heap.size w a len) :
  Calls prog 15 #[.slice a len cap] w fun e w'=>e= .returned (.pointer (some ⟨w.heap.size,0,none⟩))/\St a len cap w.heap.size w'/\Off w.heap.size w w':=by
 have Hr:=Z9 hr;obtain ⟨hl,hr⟩:=hr;have Hc:=Z9 hr;clear hr;go_enter func15,ntmps15;go_wp2_with fail
 go_loop [3,4] (fun t i=> ∃ k:Nat,k<=len/\i= .int .i64 k/\ ∃ x:Int,t= .int .i64 x) (fun _ i=>len-(intOf i).toNat)
 case atStart=>exact ⟨0,Zi _,rfl,_,rfl⟩
 case round=>
  obtain ⟨k,hk,rfl,x,rfl⟩:=hrel;by_cases hlt:k<len
  ·rcases uh Hc with h0 | ⟨b,off,rfl,hb,hc⟩
   ·omega
   obtain ⟨n,n0,n1,hn⟩:=hc k hlt;clear hc;go_wp2_with fail
   go_round
   case rel=>exact ⟨k+1,by omega,by go_num,_,rfl⟩
   case measure=>exact ms
  ·go_wp2_with fail
   go_ret;refine ⟨rfl,Gs (uh Hr) _,(Off.refl _ _).alloc _⟩
def IsRow (k:IntKind) (w:World) (a:Option Addr) (len cap:Nat) (zs:List Int):Prop:=
 (a=none/\len=0/\cap=0/\zs=[])\/
 ∃ x,a=some x/\len<=cap/\cap<=maxLen/\zs.length=cap/\(∀ i,i<zs.length->w.cell? (x.add i)=some (.int k (zs.getD i 0)))/\ ∀ n ∈ zs,(Lit.int k n).wf=true
theorem row_of {w:World} {a:Option Addr} {len cap:Nat} {zs:List Int} (h:IsRow .u8 w a len cap zs) (hl:len<=4096):Row w.heap.size w a len:=by
 refine ⟨hl,?_⟩
 rcases h with ⟨_,h0,_,_⟩ | ⟨x,rfl,hlc,hm,hz,hcell,hwz⟩
 ·exact .inl h0
 ·by_cases h0:len=0
  ·exact .inl h0
  ·obtain ⟨b,off,spot⟩:=x
   have hc:=hcell 0 (by omega);have hspot:spot=none:=by simpa [Addr.add] using World.cell?_spot hc
   subst hspot;have hlt:=World.block_lt_of_cell? _ _ hc;refine .inr ⟨b,off,rfl,hlt,fun i hi=> ?_⟩;have hiz:i<zs.length:=by omega
   have hb:=bounds_u8 (hwz zs[i] (List.getElem_mem hiz));have hci:=hcell i hiz;rw [show zs.getD i 0=zs[i] from by simp [List.getD,hiz]] at hci;refine ⟨zs[i],hb.1,hb.2,?_⟩;by_cases hi0:i=0
   ·subst hi0;simpa [Addr.add] using hci
   ·simpa [Addr.add,hi0] using hci
theorem row_below {B:Nat} {w w':World} {a:Option Addr} {len:Nat} (h:Row B w a len) (hb:Below B w w'):Row B w' a len:=by
 refine ⟨h.1,?_⟩
 rcases h.2 with h0 | ⟨b,off,ha,hlt,hc⟩
 ·exact .inl h0
 ·refine .inr ⟨b,off,ha,hlt,fun i hi=> ?_⟩
  obtain ⟨n,n0,n1,hn⟩:=hc i hi;exact ⟨n,n0,n1,by rw [hb.cell (p:=⟨b,off+i,none⟩) hlt];exact hn⟩
theorem Gx {B B':Nat} {w:World} {a:Option Addr} {len:Nat} (h:Row B w a len) (hB:B<=B'):Row B' w a len:=by
 refine ⟨h.1,?_⟩
 rcases h.2 with h0 | ⟨b,off,ha,hlt,hc⟩
 ·exact .inl h0
 ·exact .inr ⟨b,off,ha,YH hlt hB,hc⟩
theorem row_later {w w':World} {a:Option Addr} {len:Nat} (h:Row w.heap.size w a len) (hb:Below w.heap.size w w'):Row w'.heap.size w' a len:=Gx (row_below h hb) hb.size
theorem big_no (a:Option Addr) (len cap:Nat) (w:World) (hl:len<=4096):cE 4 #[.slice a len cap] w (.bool false):=by
 have h:¬ (4096:Int)<len:=by omega
 go_enter func4,ntmps4
 go_wp2
 go_ret;exact ⟨rfl,rfl⟩
theorem big_yes (a:Option Addr) (len cap:Nat) (w:World) (hl:4096<len):cE 4 #[.slice a len cap] w (.bool true):=by
 have h:(4096:Int)<len:=by omega
 go_enter func4,ntmps4
 go_wp2
 go_ret;exact ⟨rfl,rfl⟩
def isI64:Value->Bool
 | .int .i64 _=>true
 | _=>false
theorem pick_any (cs:Array Value) (j:Nat) (hj:j<cs.size) (h:cs.toList.all isI64=true):∃ v:Int,cs[j]?=some (.int .i64 v):=by
 rw [Array.all_toList,Array.all_eq_true] at h;have:=h j hj;rw [Array.getElem?_eq_getElem hj];generalize cs[j]=c at *;unfold isI64 at this
 split at this
 ·exact ⟨_,rfl⟩
 ·cases this
theorem Gg (p q r:Value) (k:IntKind) (j:Nat) (hj:j<3) (hp:∃ v:Int,p= .int k v) (hq:∃ v:Int,q= .int k v) (hr:∃ v:Int,r= .int k v) :
  ∃ v:Int,(#[p,q,r]:Array Value)[j]?=some (.int k v):=by
 obtain ⟨_,rfl⟩:=hp;obtain ⟨_,rfl⟩:=hq;obtain ⟨_,rfl⟩:=hr
 match j,hj with
 | 0,_=>exact ⟨_,rfl⟩
 | 1,_=>exact ⟨_,rfl⟩
 | 2,_=>exact ⟨_,rfl⟩
theorem drawForce_any (a:Option Addr) (len cap bc:Nat) (w:World) (hs:St a len cap bc w) :
  Calls prog 59 #[.pointer (some ⟨bc,0,none⟩)] w fun e w'=> ∃ x:Int,e= .returned (.int .i64 x)/\St a len cap bc w'/\Off bc w w':=by
 have Hs:=Z9 hs;clear hs;go_enter func59,ntmps59;go_wp2_with fail;refine (once_any a len cap bc 8 (by omega) (by omega) _ (uh Hs)).mono ?_;rintro e w1 ⟨b,rfl,s1,o1⟩;have Hs1:=Z9 s1;have Ho1:=Z9 o1;have hb:=s1.cur.1;clear s1 o1;cases b
 ·go_wp2_with fail
  refine (below_any a len cap bc 1025 (by omega) (by omega) _ (uh Hs1)).mono ?_;rintro e w2 ⟨x,rfl,x0,x1,s2,o2⟩;have Hs2:=Z9 s2;have Ho2:=Z9 o2;clear s2 o2;go_wp2_with fail;go_ret;exact ⟨_,rfl,uh Hs2,(uh Ho1).trans (uh Ho2)⟩
 ·go_wp2_with fail
  refine (below_any a len cap bc 3 (by omega) (by omega) _ ((uh Hs1).alloc _)).mono ?_;rintro e w2 ⟨x,rfl,x0,x1,s2,o2⟩;have hsz:w1.heap.size<w2.heap.size:=by have:=o2.size;simp at this;omega
  obtain ⟨v,hv⟩:=Gg (.int .i64 (-1)) (.int .i64 1024) (.int .i64 1025) .i64 x.toNat (by omega) ⟨_,rfl⟩ ⟨_,rfl⟩ ⟨_,rfl⟩
  have hcell:w2.cell? ⟨w1.heap.size,x.toNat,none⟩=some (.int .i64 v):=by
   rw [o2.cell (p:=⟨w1.heap.size,x.toNat,none⟩) (by simp) (by simp;omega),World.cell?_alloc_at _ _ _ _ rfl];exact hv
  clear hv;have Hs2:=Z9 s2;have Ho2:=Z9 o2;clear s2 o2;go_wp2_with fail;go_ret;exact ⟨_,rfl,uh Hs2,(uh Ho1).trans (((Off.refl _ _).alloc _).trans (uh Ho2))⟩
end Go.Proofs.YtmdgokjeobnnaaaGreatDoor.Draw
