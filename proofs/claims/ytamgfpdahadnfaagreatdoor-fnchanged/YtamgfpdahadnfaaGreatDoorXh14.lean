/- Part 14 of what the proof rests on. No condition but those that a theorem names. -/
import Derived.Test.YtamgfpdahadnfaaGreatDoorXh13
import Derived.Deep.CutBlock
set_option maxHeartbeats 8000000
set_option maxRecDepth 100000
namespace Go.Proofs.YtamgfpdahadnfaaGreatDoor.Draw
open Go.ChangeShapes Go.WideShapes Go.ChangeAt Go.RowKit
set_option linter.unusedVariables false
theorem Z9 {p:Prop} (h:p):Hid p:=h
theorem uh {p:Prop} (h:Hid p):p:=h
theorem ZC {k:IntKind} {a b:Int} (h:a=b):Ending.returned (.int k a)= .returned (.int k b):=by rw [h]
theorem Sv (n:Int):bits .and .i64 n 255=n%256:=by
 have h127:(BitVec.ofInt 64 255).toNat=2 ^ 8-1:=by decide
 have key:(BitVec.ofInt 64 n &&& BitVec.ofInt 64 255).toNat=(n%((2 ^ 64:Nat):Int)).toNat%2 ^ 8:=by
  rw [BitVec.toNat_and,BitVec.toNat_ofInt,h127,Nat.and_two_pow_sub_one_eq_mod]
 show IntKind.i64.wrap ((BitVec.ofInt 64 n &&& BitVec.ofInt 64 255).toNat:Nat)=n%256;rw [key,IntKind.wrap_i64];omega
structure Off (bc:Nat) (w w':World):Prop where
 os:w'.os=w.os
 tape:w'.tape=w.tape
 output:w'.output=w.output
 size:w.heap.size<=w'.heap.size
 block:∀ k,k<w.heap.size->k ≠ bc->w'.heap[k]?=w.heap[k]?
theorem Off.refl (bc:Nat) (w:World):Off bc w w:=⟨rfl,rfl,rfl,Z2 _,fun _ _ _=>rfl⟩
theorem Off.trans {bc:Nat} {a b c:World} (h:Off bc a b) (k:Off bc b c):Off bc a c:=
 ⟨k.os.trans h.os,k.tape.trans h.tape,k.output.trans h.output,XH h.size k.size,fun i hi hn=>(k.block i (Zf hi h.size) hn).trans (h.block i hi hn)⟩
theorem Off.drewN {bc:Nat} {a w:World} (h:Off bc a w) (n:Nat):Off bc a (w.drewN n):=⟨h.os,h.tape,h.output,h.size,h.block⟩
theorem Off.alloc {bc:Nat} {a w:World} (h:Off bc a w) (o:Obj):Off bc a (w.alloc o):=
 h.trans ⟨rfl,rfl,rfl,by simp,fun k hk _=>Below.heap_alloc w o k hk⟩
theorem Off.setCell {bc:Nat} {a w:World} (h:Off bc a w) (o:Nat) (v:Value):Off bc a (w.setCell ⟨bc,o,none⟩ v):=
 h.trans ⟨rfl,rfl,rfl,by simp,fun k hk hn=>Below.heap_setCell w ⟨bc,o,none⟩ v k hn⟩
theorem Off.below {bc:Nat} {a w:World} (h:Off bc a w) {B:Nat} (hB:B<=bc) (hs:B<=a.heap.size):Below B a w:=
 ⟨h.os,h.tape,h.output,h.size,fun k hk=>h.block k (Zf hk hs) (by omega)⟩
theorem Off.cell {bc:Nat} {w w':World} (h:Off bc w w') {p:Addr} (hp:p.block<w.heap.size) (hn:p.block ≠ bc):w'.cell? p=w.cell? p:=
 World.cell?_of_block (w:=w) (h.block p.block hp hn)
theorem NU (w:World) (o:Nat):w.frozen? ⟨w.heap.size,o,none⟩=false:=by simp [World.frozen?]
def Row (B:Nat) (w:World) (a:Option Addr) (len:Nat):Prop:=
 len<=4096/\(len=0\/ ∃ b off,a=some ⟨b,off,none⟩/\b<B/\ ∀ i,i<len-> ∃ n:Int,0<=n/\n<=255/\w.cell? ⟨b,off+i,none⟩=some (.int .u8 n))
def Cur (a:Option Addr) (len cap bc:Nat) (w:World):Prop:=
 bc<w.heap.size/\ ∃ i h:Int,0<=i/\i<=4096/\w.cell? ⟨bc,0,none⟩=some (.slice a len cap)/\w.cell? ⟨bc,1,none⟩=some (.int .i64 i)/\w.cell? ⟨bc,2,none⟩=some (.int .i64 h)
  /\w.frozen? ⟨bc,1,none⟩=false/\w.frozen? ⟨bc,2,none⟩=false
structure St (a:Option Addr) (len cap bc:Nat) (w:World):Prop where
 cur:Cur a len cap bc w
 row:Row bc w a len
theorem Row.off {bc:Nat} {w w':World} {a:Option Addr} {len:Nat} (h:Row bc w a len) (ho:Off bc w w') (hb:bc<=w.heap.size):Row bc w' a len:=by
 refine ⟨h.1,?_⟩
 rcases h.2 with h0 | ⟨b,off,ha,hlt,hc⟩
 ·exact .inl h0
 ·refine .inr ⟨b,off,ha,hlt,fun i hi=> ?_⟩
  obtain ⟨n,n0,n1,hn⟩:=hc i hi;exact ⟨n,n0,n1,by rw [ho.cell (p:=⟨b,off+i,none⟩) (Nat.lt_of_lt_of_le hlt hb) (Nat.ne_of_lt hlt)];exact hn⟩
theorem St.drewN {a:Option Addr} {len cap bc:Nat} {w:World} (h:St a len cap bc w) (n:Nat):St a len cap bc (w.drewN n):=⟨h.cur,h.row⟩
theorem St.alloc {a:Option Addr} {len cap bc:Nat} {w:World} (h:St a len cap bc w) (o:Obj):St a len cap bc (w.alloc o):=by
 obtain ⟨⟨hb,i,x,h0,h1,c0,c1,c2,f1,f2⟩,hr⟩:=h;have hne:∀ o,(⟨bc,o,none⟩:Addr).block ≠ w.heap.size:=fun _=>U5 hb;refine ⟨⟨by simp;omega,i,x,h0,h1,?_,?_,?_,?_,?_⟩,hr.off ((Off.refl _ _).alloc o) (Nat.le_of_lt hb)⟩
 ·rw [World.cell?_alloc_old _ _ _ (hne 0)];exact c0
 ·rw [World.cell?_alloc_old _ _ _ (hne 1)];exact c1
 ·rw [World.cell?_alloc_old _ _ _ (hne 2)];exact c2
 ·rw [World.frozen?_alloc_old _ _ _ (hne 1)];exact f1
 ·rw [World.frozen?_alloc_old _ _ _ (hne 2)];exact f2
theorem St.setH {a:Option Addr} {len cap bc:Nat} {w:World} (h:St a len cap bc w) (x:Int):St a len cap bc (w.setCell ⟨bc,2,none⟩ (.int .i64 x)):=by
 obtain ⟨⟨hb,i,y,h0,h1,c0,c1,c2,f1,f2⟩,hr⟩:=h;refine ⟨⟨by simpa using hb,i,x,h0,h1,?_,?_,?_,?_,?_⟩,hr.off ((Off.refl _ _).setCell 2 _) (Nat.le_of_lt hb)⟩
 ·rw [World.cell?_setCell_other _ _ _ _ (by simp)];exact c0
 ·rw [World.cell?_setCell_other _ _ _ _ (by simp)];exact c1
 ·exact World.cell?_setCell_same _ _ _ c2
 ·rw [World.frozen?_setCell];exact f1
 ·rw [World.frozen?_setCell];exact f2
theorem St.setI {a:Option Addr} {len cap bc:Nat} {w:World} (h:St a len cap bc w) (x:Int) (x0:0<=x) (x1:x<=4096):St a len cap bc (w.setCell ⟨bc,1,none⟩ (.int .i64 x)):=by
 obtain ⟨⟨hb,i,y,h0,h1,c0,c1,c2,f1,f2⟩,hr⟩:=h;refine ⟨⟨by simpa using hb,x,y,x0,x1,?_,?_,?_,?_,?_⟩,hr.off ((Off.refl _ _).setCell 1 _) (Nat.le_of_lt hb)⟩
 ·rw [World.cell?_setCell_other _ _ _ _ (by simp)];exact c0
 ·exact World.cell?_setCell_same _ _ _ c1
 ·rw [World.cell?_setCell_other _ _ _ _ (by simp)];exact c2
 ·rw [World.frozen?_setCell];exact f1
 ·rw [World.frozen?_setCell];exact f2
theorem Rf (a:Option Addr) (len cap bc:Nat) (w:World) (hs:St a len cap bc w) :
  Calls Tryz.prog 91 #[.pointer (some ⟨bc,0,none⟩)] w fun e w'=> ∃ x:Int,e= .returned (.int .i64 x)/\0<=x/\x<=255/\St a len cap bc w'/\Off bc w w':=by
 have Hs:=Z9 hs;obtain ⟨⟨hb,i,h,h0,h1,c0,c1,c2,f1,f2⟩,hl,hr⟩:=hs;by_cases hge:i<(len:Int)
 ·have Hr:=Z9 hr
  rcases hr with hr | ⟨b,off,rfl,hlt,hc⟩
  ·omega
  obtain ⟨k,rfl⟩:=Int.eq_ofNat_of_zero_le h0;obtain ⟨n,n0,n1,hn⟩:=hc k (by omega);have hneb:b ≠ bc:=U5 hlt;clear hc Hr;go_enter Tryz.func91,Tryz.ntmps91;go_wp2_with fail;go_quiet (fail);go_wp2_with fail;go_quiet (fail);go_wp2_with fail;go_quiet (fail);go_wp2_with fail;go_ret;refine ⟨_,rfl,?_,?_,(((uh Hs).setH _).drewN _).setI _ (by omega) (by omega),(((Off.refl _ _).setCell 2 _).drewN _).setCell 1 _⟩
  ·rw [Sv];omega
  ·rw [Sv];omega
 ·go_enter Tryz.func91,Tryz.ntmps91
  go_wp2_with fail;go_quiet (fail);go_wp2_with fail;go_quiet (fail);go_wp2_with fail;go_ret;refine ⟨_,rfl,?_,?_,(((uh Hs).setH _).drewN _).drewN _,(((Off.refl _ _).setCell 2 _).drewN _).drewN _⟩
  ·rw [Sv];omega
  ·rw [Sv];omega
theorem below_any (a:Option Addr) (len cap bc:Nat) (n:Int) (hn:0<n) (hm:n<=4611686018427387904) (w:World) (hs:St a len cap bc w) :
  Calls Tryz.prog 41 #[.pointer (some ⟨bc,0,none⟩),.int .i64 n] w fun e w'=> ∃ x:Int,e= .returned (.int .i64 x)/\0<=x/\x<n/\St a len cap bc w'/\Off bc w w':=by
 have Hs:=Z9 hs;clear hs;by_cases h256:n<=256
 ·go_enter Tryz.func41,Tryz.ntmps41
  go_wp2_with fail;refine (Rf a len cap bc _ (uh Hs)).mono ?_;rintro e w1 ⟨x,rfl,x0,x1,s1,o1⟩;have Hs1:=Z9 s1;have Ho1:=Z9 o1;clear s1 o1;go_wp2_with fail;go_ret;exact ⟨_,rfl,Int.emod_nonneg _ (by omega),Int.emod_lt_of_pos _ hn,uh Hs1,uh Ho1⟩
 ·go_enter Tryz.func41,Tryz.ntmps41
  go_wp2_with fail;refine (Rf a len cap bc _ (uh Hs)).mono ?_;rintro e w1 ⟨x,rfl,x0,x1,s1,o1⟩;have Hs1:=Z9 s1;have Ho1:=Z9 o1;clear s1 o1;go_wp2_with fail;refine (Rf a len cap bc _ (uh Hs1)).mono ?_;rintro e w2 ⟨y,rfl,y0,y1,s2,o2⟩;have Hs2:=Z9 s2;have Ho2:=Z9 o2;clear s2 o2;go_wp2_with fail;refine (Rf a len cap bc _ (uh Hs2)).mono ?_;rintro e w3 ⟨z,rfl,z0,z1,s3,o3⟩;have Hs3:=Z9 s3;have Ho3:=Z9 o3;clear s3 o3;go_wp2_with fail;refine (Rf a len cap bc _ (uh Hs3)).mono ?_;rintro e w4 ⟨v,rfl,v0,v1,s4,o4⟩;have Hs4:=Z9 s4;have Ho4:=Z9 o4;clear s4 o4;go_wp2_with fail;go_ret;exact ⟨_,rfl,Int.emod_nonneg _ (by omega),Int.emod_lt_of_pos _ hn,uh Hs4,(((uh Ho1).trans (uh Ho2)).trans (uh Ho3)).trans (uh Ho4)⟩
theorem once_any (a:Option Addr) (len cap bc:Nat) (n:Int) (hn:0<n) (hm:n<=4611686018427387904) (w:World) (hs:St a len cap bc w) :
  Calls Tryz.prog 40 #[.pointer (some ⟨bc,0,none⟩),.int .i64 n] w fun e w'=> ∃ b:Bool,e= .returned (.bool b)/\St a len cap bc w'/\Off bc w w':=by
 have Hs:=Z9 hs;clear hs;go_enter Tryz.func40,Tryz.ntmps40;go_wp2_with fail;refine (below_any a len cap bc n hn hm _ (uh Hs)).mono ?_;rintro e w1 ⟨x,rfl,x0,x1,s1,o1⟩;have Hs1:=Z9 s1;have Ho1:=Z9 o1;clear s1 o1;go_wp2_with fail;go_ret;exact ⟨_,rfl,uh Hs1,uh Ho1⟩
theorem from_any (a:Option Addr) (len cap bc:Nat) (lo hi:Int) (h:lo<=hi) (h1 : -1000000000000<=lo) (h2:hi<=1000000000000) (w:World) (hs:St a len cap bc w) :
  Calls Tryz.prog 39 #[.pointer (some ⟨bc,0,none⟩),.int .i64 lo,.int .i64 hi] w fun e w'=> ∃ x:Int,e= .returned (.int .i64 x)/\lo<=x/\x<=hi/\St a len cap bc w'/\Off bc w w':=by
 have Hs:=Z9 hs;clear hs;go_enter Tryz.func39,Tryz.ntmps39;go_wp2_with fail;refine (below_any a len cap bc _ (by omega) (by omega) _ (uh Hs)).mono ?_;rintro e w1 ⟨x,rfl,x0,x1,s1,o1⟩;have Hs1:=Z9 s1;have Ho1:=Z9 o1;clear s1 o1;go_wp2_with fail;go_ret;exact ⟨_,rfl,by omega,by omega,uh Hs1,uh Ho1⟩
theorem yk {a:Option Addr} {len cap:Nat} {w:World} (hr:Row w.heap.size w a len) {t:TypeId} (x:Int):St a len cap w.heap.size (w.alloc (.cells #[.slice a len cap,.int .i64 0,.int .i64 x] t)):=by
 refine ⟨⟨by simp,0,x,by omega,by omega,?_,?_,?_,?_,?_⟩,hr.off ((Off.refl _ _).alloc _) (Z2 _)⟩
 ·simp
 ·simp
 ·simp
 ·rw [frozen?_alloc_cells];exact NU _ _
 ·rw [frozen?_alloc_cells];exact NU _ _
theorem new_any (a:Option Addr) (len cap:Nat) (w:World) (hr:Row w.heap.size w a len) :
  Calls Tryz.prog 37 #[.slice a len cap] w fun e w'=>e= .returned (.pointer (some ⟨w.heap.size,0,none⟩))/\St a len cap w.heap.size w'/\Off w.heap.size w w':=by
 have Hr:=Z9 hr;obtain ⟨hl,hr⟩:=hr;have Hc:=Z9 hr;clear hr;go_enter Tryz.func37,Tryz.ntmps37;go_wp2_with fail
 go_loop [3,4] (fun t i=> ∃ k:Nat,k<=len/\i= .int .i64 k/\ ∃ x:Int,t= .int .i64 x) (fun _ i=>len-(intOf i).toNat)
 case atStart=>exact ⟨0,ZA _,rfl,_,rfl⟩
 case round=>
  obtain ⟨k,hk,rfl,x,rfl⟩:=hrel;by_cases hlt:k<len
  ·rcases uh Hc with h0 | ⟨b,off,rfl,hb,hc⟩
   ·omega
   obtain ⟨n,n0,n1,hn⟩:=hc k hlt;clear hc;go_wp2_with fail
   go_round
   case rel=>exact ⟨k+1,by omega,by go_num,_,rfl⟩
   case measure=>simp [intOf];omega
  ·go_wp2_with fail
   go_ret;refine ⟨rfl,yk (uh Hr) _,(Off.refl _ _).alloc _⟩
def IsRow (k:IntKind) (w:World) (a:Option Addr) (len cap:Nat) (zs:List Int):Prop:=
 (a=none/\len=0/\cap=0/\zs=[])\/
 ∃ x,a=some x/\len<=cap/\cap<=maxLen/\zs.length=cap/\(∀ i,i<zs.length->w.cell? (x.add i)=some (.int k (zs.getD i 0)))/\ ∀ n ∈ zs,(Lit.int k n).wf=true
theorem AS {w:World} {a:Option Addr} {len cap:Nat} {zs:List Int} (h:IsRow .u8 w a len cap zs) (hl:len<=4096):Row w.heap.size w a len:=by
 refine ⟨hl,?_⟩
 rcases h with ⟨_,h0,_,_⟩ | ⟨x,rfl,hlc,hm,hz,hcell,hwz⟩
 ·exact .inl h0
 ·by_cases h0:len=0
  ·exact .inl h0
  ·obtain ⟨b,off,spot⟩:=x
   have hc:=hcell 0 (by omega);have hspot:spot=none:=by simpa [Addr.add] using World.cell?_spot hc
   subst hspot;have hlt:=World.block_lt_of_cell? _ _ hc;refine .inr ⟨b,off,rfl,hlt,fun i hi=> ?_⟩;have hiz:i<zs.length:=by omega
   have hb:=bounds_u8 (hwz zs[i] (List.getElem_mem hiz));have hci:=hcell i hiz;rw [show zs.getD i 0=zs[i] from by simp [List.getD,hiz]] at hci;refine ⟨zs[i],hb.1,hb.2,?_⟩;by_cases hi0:i=0
   ·subst hi0;simpa [Addr.add] using hci
   ·simpa [Addr.add,hi0] using hci
theorem row_below {B:Nat} {w w':World} {a:Option Addr} {len:Nat} (h:Row B w a len) (hb:Below B w w'):Row B w' a len:=by
 refine ⟨h.1,?_⟩
 rcases h.2 with h0 | ⟨b,off,ha,hlt,hc⟩
 ·exact .inl h0
 ·refine .inr ⟨b,off,ha,hlt,fun i hi=> ?_⟩
  obtain ⟨n,n0,n1,hn⟩:=hc i hi;exact ⟨n,n0,n1,by rw [hb.cell (p:=⟨b,off+i,none⟩) hlt];exact hn⟩
theorem yu {B B':Nat} {w:World} {a:Option Addr} {len:Nat} (h:Row B w a len) (hB:B<=B'):Row B' w a len:=by
 refine ⟨h.1,?_⟩
 rcases h.2 with h0 | ⟨b,off,ha,hlt,hc⟩
 ·exact .inl h0
 ·exact .inr ⟨b,off,ha,Zf hlt hB,hc⟩
theorem row_later {w w':World} {a:Option Addr} {len:Nat} (h:Row w.heap.size w a len) (hb:Below w.heap.size w w'):Row w'.heap.size w' a len:=yu (row_below h hb) hb.size
theorem zM (a:Option Addr) (len cap:Nat) (w:World) (hl:len<=4096):Calls Tryz.prog 7 #[.slice a len cap] w fun e w'=>e= .returned (.bool false)/\w'=w:=by
 have h:¬ (4096:Int)<len:=by omega
 go_enter Tryz.func7,Tryz.ntmps7
 go_wp2
 go_ret;exact ⟨rfl,rfl⟩
theorem CW (a:Option Addr) (len cap:Nat) (w:World) (hl:4096<len):Calls Tryz.prog 7 #[.slice a len cap] w fun e w'=>e= .returned (.bool true)/\w'=w:=by
 have h:(4096:Int)<len:=by omega
 go_enter Tryz.func7,Tryz.ntmps7
 go_wp2
 go_ret;exact ⟨rfl,rfl⟩
def isI64:Value->Bool
 | .int .i64 _=>true
 | _=>false
theorem pick_any (cs:Array Value) (j:Nat) (hj:j<cs.size) (h:cs.toList.all isI64=true):∃ v:Int,cs[j]?=some (.int .i64 v):=by
 rw [Array.all_toList,Array.all_eq_true] at h;have:=h j hj;rw [Array.getElem?_eq_getElem hj];generalize cs[j]=c at *;unfold isI64 at this
 split at this
 ·exact ⟨_,rfl⟩
 ·cases this
end Go.Proofs.YtamgfpdahadnfaaGreatDoor.Draw
namespace Go.Proofs.YtamgfpdahadnfaaGreatDoor
open Go.ChangeShapes Go.WideShapes Go.ChangeAt Go.RowKit Go.Sort
open Draw (St Off Row Cur)
set_option linter.unusedVariables false
theorem XA {a:Option Addr} {len cap bc:Nat} {w w':World} (h:St a len cap bc w) (hb:Below (bc+1) w w'):St a len cap bc w':=by
 obtain ⟨⟨hlt,i,x,h0,h1,c0,c1,c2,f1,f2⟩,hr⟩:=h;have hc:∀ o,w'.cell? ⟨bc,o,none⟩=w.cell? ⟨bc,o,none⟩:=fun o=>hb.cell (p:=⟨bc,o,none⟩) (Nat.lt_succ_self bc);have hf:∀ o,w'.frozen? ⟨bc,o,none⟩=w.frozen? ⟨bc,o,none⟩:=fun o=>hb.frozen (p:=⟨bc,o,none⟩) (Nat.lt_succ_self bc);refine ⟨⟨Zf hlt hb.size,i,x,h0,h1,(hc 0).trans c0,(hc 1).trans c1,(hc 2).trans c2,(hf 1).trans f1,(hf 2).trans f2⟩,Draw.row_below hr (hb.mono (Nat.le_succ bc))⟩
theorem WS {a:Option Addr} {len cap bc:Nat} {w:World} (h:St a len cap bc w):bc<w.heap.size:=h.cur.1
theorem Tk {bc:Nat} {a b c:World} (h:Off bc a b) (k:Below a.heap.size b c):Off bc a c:=
 ⟨k.os.trans h.os,k.tape.trans h.tape,k.output.trans h.output,XH h.size k.size,fun i hi hn=>(k.block i hi).trans (h.block i hi hn)⟩
theorem RG {bc:Nat} {w w':World} (h:Off bc w.drew w'):Off bc w w':=⟨h.os,h.tape,h.output,h.size,h.block⟩
theorem Q8 {a:Option Addr} {len cap bc:Nat} {w:World} (h:St a len cap bc w):St a len cap bc w.drew:=⟨h.cur,h.row⟩
theorem J8 {bc:Nat} {w w':World} {cs:Array Value} {t:TypeId} {j:Int} (p:Off bc (w.alloc (.cells cs t)) w') (hb:bc<w.heap.size) (h0:0<=j) (h1:j<cs.size) (hz:cs.toList.all Draw.isI64=true):∃ v,w'.cell? ⟨w.heap.size,j.toNat,none⟩=some (.int .i64 v):=by
 obtain ⟨v,hv⟩:=Draw.pick_any cs j.toNat (by omega) hz;exact ⟨v,by rw [p.cell (p:=⟨w.heap.size,j.toNat,none⟩) (by simp) (by simp;omega),World.cell?_alloc_at _ _ _ _ rfl];exact hv⟩
theorem FullSmy.away {n₀ bc:Nat} {w w':World} {v0 v1 v2 v3 v4:Value} {m:Z6} {qs:List (ZZ × Value)} (h:FullSmy n₀ w v0 v1 v2 v3 v4 m qs) (ho:Off bc w w') (hb:bc<n₀):FullSmy n₀ w' v0 v1 v2 v3 v4 m qs:=
 h.keep fun k e=>ho.block k (h.own e).2 (by have:=(h.own e).1;omega)
theorem Blk.away {bc R:Nat} {w w':World} {t:TypeId} {cs:Array Value} (h:Blk w R t cs) (ho:Off bc w w') (hb:R ≠ bc):Blk w' R t cs:=h.same (ho.block R h.lt hb)
theorem VQ {bc:Nat} {w w':World} (h:Below w.heap.size w w'):Off bc w w':=⟨h.os,h.tape,h.output,h.size,fun k hk _=>h.block k hk⟩
theorem Off.newer {bc tb:Nat} {w0 w:World} (h:Off bc w0 w) (ht:w0.heap.size<=tb) (o:Nat) (v:Value):Off bc w0 (w.setCell ⟨tb,o,none⟩ v):=
 ⟨h.os,h.tape,h.output,by simpa using h.size,fun k hk hn=>(heap_setCell_other _ _ _ _ (by show k ≠ tb;omega)).trans (h.block k hk hn)⟩
theorem St.newer {a:Option Addr} {len cap bc tb:Nat} {w:World} (h:St a len cap bc w) (ht:bc<tb) (o:Nat) (v:Value):St a len cap bc (w.setCell ⟨tb,o,none⟩ v):=
 XA h ((Z1 _ _).setCell (p:=⟨tb,o,none⟩) (by show bc+1<=tb;omega) _)
set_option linter.unusedSimpArgs false
set_option maxRecDepth 100000
end Go.Proofs.YtamgfpdahadnfaaGreatDoor
namespace Go.Proofs.YtamgfpdahadnfaaGreatDoor
open Go.ChangeShapes Go.WideShapes Go.ChangeAt Go.RowKit Go.Sort
set_option linter.unusedVariables false
set_option linter.unusedSimpArgs false
def Ue (m:Z6) (room pace:Int):Z6 × Int:=
 if ZI m then (if M8 m room then (if inB pace 0 (((ZR m.rm room.toNat).2.length:Int)-1) then (ZN (TI m room.toNat pace),0) else (m,3)) else (m,1)) else (Yj,3)
theorem F7 {m:Z6} (h:ZI m=true) (room pace:Int):ZI (Ue m room pace).1=true:=by
 unfold Ue;rw [h];simp only [if_true]
 split
 ·rename_i hw
  obtain ⟨k,rfl,hk⟩:=Dz hw;rw [show ((k:Int)).toNat=k by simp]
  split
  ·rename_i hp
   have:=ZO hp;exact YK (JW (ZK h) hk (by omega) (by omega))
  ·exact h
 ·exact h
theorem VX {m:Z6} (h:Loose m):m.pc.length=m.rm.length:=by
 have hd:=h.head;unfold YD at hd;simp only [ZM,YW] at hd;exact hd.2.2.2.2.1
theorem NF {w:World} {v0 v1 v2 v3 v4:Value} {m:Z6} (room:Int) (pace:Int) (h:Smy w v0 v1 v2 v3 v4 m) :
  Calls Tryz.prog 255 #[.agg #[v0,v1,v2,v3,v4,.int .i64 m.now],.int .i64 room,.int .i64 pace] w fun e w'=>TX w.heap.size (Ue m room pace).1 (Ue m room pace).2 e w'/\Below w.heap.size w w':=by
 obtain ⟨X,hX⟩:∃ x,Ue m room pace=x:=⟨_,rfl⟩
 rw [hX];have HX:=Z9 hX;clear hX;have Hv0:=Z9 h;obtain ⟨a0,p0,a1,p1,a2,p2,a3,p3,a4,p4,rfl,rfl,rfl,rfl,rfl,_,_,_,_,_,_,_,_,_,_⟩:=h.five;clear h;obtain ⟨ok,hok⟩:∃ q,ZI m=q:=⟨_,rfl⟩
 have Hok:=Z9 hok;clear hok;go_enter Tryz.func255,Tryz.ntmps255;go_wp2_with fail;obtain ⟨W,hW,kb,kr,BB⟩:=YG w 32 (S6 a0 p0 a1 p1 a2 p2 a3 p3 a4 p4 m) 32 E6;have Hv:=Z9 ((uh Hv0).below (uh BB));clear Hv0;rw [hW];clear hW;refine ck (XN (uh Hok) (uh Hv)) fun w1 hb=> ?_;replace kb:=bl kb hb;replace kr:=bl kr hb;replace Hv:=Z9 ((uh Hv).below hb);replace BB:=bt BB hb;clear hb;cases ok
 ·
  obtain ⟨c0,c1,c2,c3,c4,c5⟩:=(uh kb).c6;go_wp2_with fail;clear c0 c1 c2 c3 c4 c5;refine ck (XY (uh Hv)) fun w2 hb=> ?_;replace kb:=bl kb hb;replace kr:=bl kr hb;replace Hv:=Z9 ((uh Hv).below hb);replace BB:=bt BB hb;clear hb;obtain ⟨o0,o1,o2,o3,o4,o5⟩:=(uh kr).c6;obtain ⟨f0,f1,f2,f3,f4,f5⟩:=(uh kr).f6;go_wp2_with fail;have hX0:X=(Yj,3):=by rw [<-uh HX];unfold Ue;rw [uh Hok];rfl
  exact ZS (v:= .tuple #[.agg E6,.int .i64 3]) (by simp [results,Tryz.results255,go_sem, *]) rfl (Zb hX0 rfl (Yr _ _) (uh BB))
 have hlo:=ZK (uh Hok);have HLo:=Z9 hlo;have HFew:=Z9 (WK hlo);clear hlo;obtain ⟨c0,c1,c2,c3,c4,c5⟩:=(uh kb).c6;go_wp2_with fail;clear c0 c1 c2 c3 c4 c5;refine (T6 (uh Hv) (uh HFew) (uh kb) (uh kr) (uh BB)).mono ?_;clear kb kr Hv BB;rintro e w2 ⟨b0,q0,b1,q1,b2,q2,b3,q3,b4,q4,oq,rfl,W2,ob,hW2,hob2,kb,kr,Hv,HO,ko,LO,hob,BB⟩;go_upto_region 4 with fail
 (try rw [hW2])
 (try rw [hob2])
 clear hW2 hob2;obtain ⟨qw,hqw⟩:∃ q,M8 m room=q:=⟨_,rfl⟩
 have Hqw:=Z9 hqw;clear hqw;obtain ⟨c0,c1,c2,c3,c4,c5⟩:=(uh kb).c6;go_wp2_with fail;clear c0 c1 c2 c3 c4 c5;refine ck (BX (uh Hqw) (uh Hv)) fun w3 hb=> ?_;replace kb:=bl kb hb;replace kr:=bl kr hb;replace Hv:=Z9 ((uh Hv).below hb);replace HO:=Z9 ((uh HO).below hb);replace ko:=bl ko hb;replace BB:=bt BB hb;clear hb;cases qw
 ·
  obtain ⟨x0,x1,x2,x3,x4,x5⟩:=(uh ko).c6;obtain ⟨o0,o1,o2,o3,o4,o5⟩:=(uh kr).c6;obtain ⟨f0,f1,f2,f3,f4,f5⟩:=(uh kr).f6;go_wp2_with fail;have hX0:X=(m,1):=by rw [<-uh HX];unfold Ue;rw [uh Hok,uh Hqw];rfl
  exact ZS (v:= .tuple #[.agg (S6 b0 q0 b1 q1 b2 q2 b3 q3 b4 q4 m),.int .i64 1]) (by simp [results,Tryz.results255,go_sem, *]) rfl (Zb hX0 rfl (uh HO) (uh BB))
 obtain ⟨k,rfl,hk⟩:=Dz (uh Hqw);have hk1:(k:Int)<(m.rm.length:Int):=by omega
 have hkp:k<m.pc.length:=by rw [VX (uh HLo)];exact hk
 have hkp1:(k:Int)<(m.pc.length:Int):=by omega
 obtain ⟨_,_,hre,_,_,r0⟩:=(uh Hv).rm;cases hre
 rcases r0 with e0 | ⟨rb,off,rfl,hbw,hcl⟩
 ·rw [e0] at hk;simp at hk
 obtain ⟨_,pv,d1,pa,pc,rfl,hpc,hpm,_⟩:=hcl k hk;clear hcl;obtain ⟨op,hop⟩:∃ q,inB pace 0 (((ZR m.rm k).2.length:Int)-1)=q:=⟨_,rfl⟩
 have Hop:=Z9 hop;have hpl:(ZR m.rm k).2.length<=9223372036854775807:=by omega
 have c0:=(uh kb).cell (i:=0) (v:= .slice (some ⟨rb,off,none⟩) m.rm.length p0) rfl;obtain ⟨nl,hnl⟩:∃ q,(ZR m.rm k).2.length=q:=⟨_,rfl⟩
 rw [hnl] at hop d1 hpl;have Hop2:=Z9 hop;clear hop hnl hpc;go_wp2_with fail;refine (ZT _ _ _ _).mono ?_;rw [uh Hop2];rintro e w9 ⟨rfl,hw9⟩;subst w9;cases op
 ·
  obtain ⟨x0,x1,x2,x3,x4,x5⟩:=(uh ko).c6;obtain ⟨o0,o1,o2,o3,o4,o5⟩:=(uh kr).c6;obtain ⟨f0,f1,f2,f3,f4,f5⟩:=(uh kr).f6;go_wp2_with fail;have hX0:X=(m,3):=by rw [<-uh HX];unfold Ue;rw [uh Hok,uh Hqw];simp only [if_true,Zz];rw [uh Hop];rfl
  exact ZS (v:= .tuple #[.agg (S6 b0 q0 b1 q1 b2 q2 b3 q3 b4 q4 m),.int .i64 3]) (by simp [results,Tryz.results255,go_sem, *]) rfl (Zb hX0 rfl (uh HO) (uh BB))
 obtain ⟨g4,hga,_,_,hc4,hz4⟩:=RecAt.view YH (by omega) (uh HO).pc rfl (by omega);cases hga;have s0:=hc4 k hkp 0 _ rfl;have f0:=hz4 k;have x4:=(uh ko).cell (i:=4) (v:= .slice (some ⟨g4,0,none⟩) m.pc.length q4) rfl;have hput:=(uh HO).putP rfl (j:=k) hkp pace;simp only [Nat.add_zero,Nat.mul_one] at s0;have hg4o:=(uh LO g4 (.inr (.inr (.inr (.inr (.inr rfl))))))
 clear hc4 hz4;go_upto_region 9 with fail;clear s0 f0 x4 c0 d1;have HP:=Z9 hput;clear hput HO;replace ko:Hid (Blk (w3.setCell ⟨g4,k,none⟩ (.int .i64 pace)) ob 32 (S6 b0 q0 b1 q1 b2 q2 b3 q3 (some ⟨g4,0,none⟩) q4 m)):=Z9 ((uh ko).other (a:=⟨g4,k,none⟩) (by show ob ≠ g4;omega) _);replace kr:Hid (Blk (w3.setCell ⟨g4,k,none⟩ (.int .i64 pace)) (w.heap.size+1) 32 E6):=Z9 ((uh kr).other (a:=⟨g4,k,none⟩) (by show w.heap.size+1 ≠ g4;omega) _);replace BB:Hid (Below w.heap.size w (w3.setCell ⟨g4,k,none⟩ (.int .i64 pace))):=Z9 ((uh BB).setCell (p:=⟨g4,k,none⟩) (by show w.heap.size<=g4;omega) _);clear kb Hv;generalize w3.setCell ⟨g4,k,none⟩ (.int .i64 pace)=W3 at *;have hfw:=uh HFew;go_wp2_with fail;refine (UZ (m:=TI m k pace) (uh ko) (uh HP) (fun k e=>by have:=(uh LO k e).2;omega) (uh kr) (uh BB) (by show m.sm.length<=800;have:=hfw.sm;omega) hfw.dk).mono ?_;clear kr BB;rintro e w4 ⟨rfl,HF9,kr,BB⟩;obtain ⟨o0,o1,o2,o3,o4,o5⟩:=(uh kr).c6;obtain ⟨f0,f1,f2,f3,f4,f5⟩:=(uh kr).f6;go_wp2_with fail;have hX0:X=(ZN (TI m k pace),0):=by rw [<-uh HX];unfold Ue;rw [uh Hok,uh Hqw];simp only [if_true,Zz];rw [uh Hop];rfl
 have hnow:(ZN (TI m k pace)).now=m.now:=(ZG _ _).2.2.2.1;exact ZS (v:= .tuple #[.agg (S6 b0 q0 b1 q1 b2 q2 b3 q3 (some ⟨g4,0,none⟩) q4 m),.int .i64 0]) (by simp [results,Tryz.results255,go_sem,setS,TI,Yc,pushS, *]) rfl (Zb hX0 hnow (uh HF9) (uh BB))
set_option maxRecDepth 100000
theorem KJ {w:World} {v0 v1 v2 v3 v4:Value} {m:Z6} {r:Nat} (h:Smy w v0 v1 v2 v3 v4 m) (hS:Sane m) (hr:r<m.rm.length) :
  Calls Tryz.prog 282 #[.agg #[v0,v1,v2,v3,v4,.int .i64 m.now],.int .i64 (r:Int)] w fun e w'=>e= .returned (.int .i64 (SW m r))/\Below w.heap.size w w':=by
 have Hv:=Z9 (h.alloc (.cells #[v0,v1,v2,v3,v4,.int .i64 m.now] 32));obtain ⟨a0,p0,a1,p1,a2,p2,a3,p3,a4,p4,rfl,rfl,rfl,rfl,rfl,_,_,_,_,_,_,_,_,_,_⟩:=h.five;clear h;have kb:Hid (Blk (w.alloc (.cells (S6 a0 p0 a1 p1 a2 p2 a3 p3 a4 p4 m) 32)) w.heap.size 32 (S6 a0 p0 a1 p1 a2 p2 a3 p3 a4 p4 m)):=Z9 (Blk.new w _ _);have BB:Hid (Below w.heap.size w (w.alloc (.cells (S6 a0 p0 a1 p1 a2 p2 a3 p3 a4 p4 m) 32))):=Z9 ((ba _ _));obtain ⟨x,hx⟩:∃ x,SW m r=x:=⟨_,rfl⟩
 rw [hx];obtain ⟨ms,hms⟩:∃ q,YV m (r:Int) m.dk.length=q:=⟨_,rfl⟩
 have Hx:Hid (Xn (ZR m.rm r) ms.1=x):=Z9 (by rw [<-hx,<-hms];rfl);have Hms:=Z9 hms;have HS:=Z9 hS;have hr1:(r:Int)<(m.rm.length:Int):=by omega
 clear hx hms hS;obtain ⟨mo,al⟩:=ms;go_enter Tryz.func282,Tryz.ntmps282;go_wp2_with fail;generalize w.alloc (.cells (S6 a0 p0 a1 p1 a2 p2 a3 p3 a4 p4 m) 32)=W at *;refine (N5 (r:Int) (uh Hv) (uh HS)).mono ?_;rw [uh Hms];rintro e w1 ⟨rfl,hb⟩;replace Hv:=Z9 ((uh Hv).below hb);replace kb:=bl kb hb;replace BB:=bt BB hb;clear hb;obtain ⟨_,_,hre,_,_,r0⟩:=(uh Hv).rm;cases hre
 rcases r0 with e0 | ⟨rb,off,rfl,hbw,hcl⟩
 ·rw [e0] at hr;simp at hr
 obtain ⟨d0,pv,d1,hpv⟩:=hcl r hr;have Hpv:=Z9 hpv;obtain ⟨pa,pc,rfl,_,_,_⟩:=hpv;obtain ⟨⟨bn,ps⟩,hrm⟩:∃ q,ZR m.rm r=q:=⟨_,rfl⟩
 rw [hrm] at d0 d1 Hpv Hx;simp only at d0 d1;clear hcl hrm;have c0:=(uh kb).cell (i:=0) (v:= .slice (some ⟨rb,off,none⟩) m.rm.length p0) rfl;go_wp2_with fail;refine ck (Se bn mo (uh Hpv)) fun w2 hb=> ?_;replace BB:=bt BB hb;clear hb;go_wp2_with fail;go_ret;exact ⟨ZC (uh Hx),uh BB⟩
theorem NZ {w:World} {v0 v1 v2 v3 v4:Value} {m:Z6} {b:Nat} (h:Smy w v0 v1 v2 v3 v4 m) (hb0:b<m.dk.length) (hl:m.sm.length<=800) :
  Calls Tryz.prog 87 #[.agg #[v0,v1,v2,v3,v4,.int .i64 m.now],.int .i64 (b:Int)] w fun e w'=>e= .returned (.bool (VG m b))/\Below w.heap.size w w':=by
 have Hv:=Z9 (h.alloc (.cells #[v0,v1,v2,v3,v4,.int .i64 m.now] 32));obtain ⟨a0,p0,a1,p1,a2,p2,a3,p3,a4,p4,rfl,rfl,rfl,rfl,rfl,_,_,_,_,_,_,_,_,_,_⟩:=h.five;clear h;have kb:Hid (Blk (w.alloc (.cells (S6 a0 p0 a1 p1 a2 p2 a3 p3 a4 p4 m) 32)) w.heap.size 32 (S6 a0 p0 a1 p1 a2 p2 a3 p3 a4 p4 m)):=Z9 (Blk.new w _ _);have BB:Hid (Below w.heap.size w (w.alloc (.cells (S6 a0 p0 a1 p1 a2 p2 a3 p3 a4 p4 m) 32))):=Z9 ((ba _ _));have hb1:(b:Int)<(m.dk.length:Int):=by omega
 obtain ⟨qs,hqs⟩:∃ q,atV m.sm (b:Int) m.sm.length=q:=⟨_,rfl⟩
 obtain ⟨op,hop⟩:∃ q,(Z8 m.dk b).1=q:=⟨_,rfl⟩
 have hI:VG m b=(op && decide (qs.length=0)):=by unfold VG;rw [hqs,hop]
 rw [hI];have Hqs:=Z9 hqs;have Hop:=Z9 hop;clear hI hqs hop;go_enter Tryz.func87,Tryz.ntmps87;go_upto_region 1 with fail;generalize w.alloc (.cells (S6 a0 p0 a1 p1 a2 p2 a3 p3 a4 p4 m) 32)=W at *;obtain ⟨_,_,hde,_,_,r3⟩:=(uh Hv).dk;cases hde
 rcases r3 with e0 | ⟨db,off,rfl,hbw,hcl⟩
 ·rw [e0] at hb0;simp at hb0
 obtain ⟨d0,_,_⟩:=Y4 hcl hb0;rw [uh Hop] at d0;clear hcl Hop;obtain ⟨c0,c1,c2,c3,c4,c5⟩:=(uh kb).c6;cases op
 ·go_wp2_with fail
  go_ret;exact ⟨rfl,uh BB⟩
 go_wp2_with fail;refine (QU (b:Int) (uh Hv) (by omega)).mono ?_;rw [uh Hqs];rintro e w2 ⟨v',rfl,he,hb⟩;obtain ⟨ua,uc,rfl⟩:=EntsAt.shape he;replace BB:=bt BB hb;clear hb he c0 c1 c2 c3 c4 c5;go_wp2_with fail;go_ret;exact ⟨Z5 (by rw [Bool.true_and,Bool.eq_iff_iff];simp only [beq_iff_eq,YW];omega),uh BB⟩
def CG:Option (Nat × Nat)->Value
 | none=> .tuple #[.int .i64 0,.int .i64 0,.bool false]
 | some (w,b)=> .tuple #[.int .i64 (w:Int),.int .i64 (b:Int),.bool true]
theorem CQ {m:Z6} {b w:Nat} {k n:Nat} (h:U4 m b k=some w) (hn:k<=n):U4 m b n=some w:=by
 obtain ⟨d,rfl⟩:∃ d,n=k+d:=⟨n-k,by omega⟩
 clear hn
 induction d with
 | zero=>exact h
 | succ d ih=>
  show U4 m b (k+d+1)=some w;unfold U4;rw [ih]
theorem Fq {m:Z6} {w b:Nat} {k n:Nat} (h:Wm m k=some (w,b)) (hn:k<=n):Wm m n=some (w,b):=by
 obtain ⟨d,rfl⟩:∃ d,n=k+d:=⟨n-k,by omega⟩
 clear hn
 induction d with
 | zero=>exact h
 | succ d ih=>
  show Wm m (k+d+1)=some (w,b);unfold Wm;rw [ih]
theorem BM {m:Z6} {w b:Nat} {k n:Nat} (h:Vo m w k=some b) (hn:k<=n):Vo m w n=some b:=by
 obtain ⟨d,rfl⟩:∃ d,n=k+d:=⟨n-k,by omega⟩
 clear hn
 induction d with
 | zero=>exact h
 | succ d ih=>
  show Vo m w (k+d+1)=some b;unfold Vo;rw [ih]
theorem Av {m:Z6} {w b:Nat} {k n:Nat} (h:Tj m k=some (w,b)) (hn:k<=n):Tj m n=some (w,b):=by
 obtain ⟨d,rfl⟩:∃ d,n=k+d:=⟨n-k,by omega⟩
 clear hn
 induction d with
 | zero=>exact h
 | succ d ih=>
  show Tj m (k+d+1)=some (w,b);unfold Tj;rw [ih]
set_option maxRecDepth 100000
theorem MK {w:World} {v0 v1 v2 v3 v4:Value} {m:Z6} (h:Smy w v0 v1 v2 v3 v4 m) :
  Calls Tryz.prog 283 #[.agg #[v0,v1,v2,v3,v4,.int .i64 m.now]] w fun e w'=>e= .returned (CG (UM m))/\Below w.heap.size w w':=by
 have Hv0:=Z9 (h.alloc (.cells #[v0,v1,v2,v3,v4,.int .i64 m.now] 32));obtain ⟨a0,p0,a1,p1,a2,p2,a3,p3,a4,p4,rfl,rfl,rfl,rfl,rfl,_,_,_,_,_,_,_,_,_,_⟩:=h.five;clear h;obtain ⟨BB0,kb0⟩:=Wd w 32 (S6 a0 p0 a1 p1 a2 p2 a3 p3 a4 p4 m);obtain ⟨tv,htv⟩:∃ t,CG (UM m)=t:=⟨_,rfl⟩
 rw [htv];obtain ⟨ok,hok⟩:∃ q,ZI m=q:=⟨_,rfl⟩
 have Hok:=Z9 hok;have HT:=Z9 htv;clear hok htv;cases ok
 ·obtain rfl:tv= .tuple #[.int .i64 0,.int .i64 0,.bool false]:=by rw [<-uh HT];unfold UM;rw [uh Hok];rfl
  go_enter Tryz.func283,Tryz.ntmps283;go_wp2_with fail
  go_loopw [5] (fun i wr=>i= .int .i64 0/\Blk wr w.heap.size 32 (S6 a0 p0 a1 p1 a2 p2 a3 p3 a4 p4 m)/\Smy wr (.slice a0 m.rm.length p0) (.slice a1 m.gd.length p1) (.slice a2 m.sm.length p2) (.slice a3 m.dk.length p3) (.slice a4 m.pc.length p4) m/\Below w.heap.size w wr) (fun _ _=>1)
  case atStart=>exact ⟨rfl,uh kb0,uh Hv0,uh BB0⟩
  case round=>
   obtain ⟨rfl,hkb,hv,hb0⟩:=hrel;have kb:=Z9 hkb;have Hv:=Z9 hv;have BB:=Z9 hb0;clear hkb hv hb0 kb0 Hv0 BB0;obtain ⟨c0,c1,c2,c3,c4,c5⟩:=(uh kb).c6;by_cases hlt:0<m.sm.length
   ·have hlt1:(0:Int)<(m.sm.length:Int):=by omega
    go_wp2_with fail;refine ck (XN (uh Hok) (uh Hv)) fun w1 hb=> ?_;replace BB:=bt BB hb;clear hb;go_wp2_with fail;refine ZS (v:= .tuple #[.int .i64 0,.int .i64 0,.bool false]) (by simp [results,Tryz.results283,go_sem]) rfl ⟨rfl,uh BB⟩
   ·have hlt1:¬ ((0:Int)<(m.sm.length:Int)):=by omega
    go_wp2_with fail;refine ZS (v:= .tuple #[.int .i64 0,.int .i64 0,.bool false]) (by simp [results,Tryz.results283,go_sem]) rfl ⟨rfl,uh BB⟩
 have hlo:=ZK (uh Hok);have HLo:=Z9 hlo;have HSa:=Z9 hlo.sane;have h12:=Yz hlo;have h8:=VR hlo;clear hlo;have HW:Hid (tv=CG (Tj m m.sm.length)):=Z9 (by rw [<-uh HT];unfold UM;rw [uh Hok];rfl);clear HT;go_enter Tryz.func283,Tryz.ntmps283;go_wp2_with fail
 go_loopw [5] (fun i wr=> ∃ k:Nat,k<=m.sm.length/\i= .int .i64 k/\Tj m k=none/\Blk wr w.heap.size 32 (S6 a0 p0 a1 p1 a2 p2 a3 p3 a4 p4 m)/\Smy wr (.slice a0 m.rm.length p0) (.slice a1 m.gd.length p1) (.slice a2 m.sm.length p2) (.slice a3 m.dk.length p3) (.slice a4 m.pc.length p4) m/\Below w.heap.size w wr) (fun i _=>m.sm.length-(intOf i).toNat)
 case atStart=>exact ⟨0,ZA _,rfl,rfl,uh kb0,uh Hv0,uh BB0⟩
 case round=>
  obtain ⟨k,hk,rfl,hno,hkb,hv,hb0⟩:=hrel;have Hno:=Z9 hno;clear hno;have kb:=Z9 hkb;have Hv:=Z9 hv;have BB:=Z9 hb0;clear hkb hv hb0;clear kb0 Hv0 BB0;obtain ⟨c0,c1,c2,c3,c4,c5⟩:=(uh kb).c6;by_cases hlt:k<m.sm.length;rotate_left
  ·have hlt1:¬ ((k:Int)<(m.sm.length:Int)):=by omega
   obtain rfl:k=m.sm.length:=by omega
   obtain rfl:tv= .tuple #[.int .i64 0,.int .i64 0,.bool false]:=by rw [uh HW,uh Hno];rfl
   go_wp2_with fail;refine ZS (v:= .tuple #[.int .i64 0,.int .i64 0,.bool false]) (by simp [results,Tryz.results283,go_sem]) rfl ⟨rfl,uh BB⟩
  have hlt1:(k:Int)<(m.sm.length:Int):=by omega
  go_wp2_with fail;refine ck (XN (uh Hok) (uh Hv)) fun w1 hb=> ?_;replace Hv:=Z9 ((uh Hv).below hb);replace kb:=bl kb hb;replace BB:=bt BB hb;clear hb c0 c1 c2 c3 c4 c5;have HN:Hid (∀ w9,PC m k=w9->Tj m (k+1)=w9.map fun x=>(k,x)):=Z9 (fun w9 e=>by unfold Tj;rw [uh Hno,e]);have HMB:Hid (QF m k=(ZL (Z8 m.sm k) && !Ws (Zs m (k:Int)) 0 (Zd m.rm (Z8 m.sm k).2.1))):=Z9 rfl;obtain ⟨_,_,hse,_,_,r2⟩:=(uh Hv).sm;cases hse
  rcases r2 with e0 | ⟨sb,off,rfl,hbw,hcl⟩
  ·rw [e0] at hlt;simp at hlt
  obtain ⟨d0,d1,d2,d3,d4,d5,d6,d7,d8,d9,d10⟩:=Zw hcl hlt;clear hcl;obtain ⟨ps,hps⟩:∃ q,ZL (Z8 m.sm k)=q:=⟨_,rfl⟩
  obtain ⟨fi,hfi⟩:∃ q,Ws (Zs m (k:Int)) 0 (Zd m.rm (Z8 m.sm k).2.1)=q:=⟨_,rfl⟩
  have HM2:Hid (QF m k=(ps && !fi)):=Z9 (by rw [uh HMB,hps,hfi]);have HP0:=Z9 hps
  have HA1:Hid (ps=true->0<=(Z8 m.sm k).2.1/\(Z8 m.sm k).2.1<m.dk.length/\ -1<=(Z8 m.sm k).2.2.2.2.1/\(Z8 m.sm k).2.2.2.2.1<m.gd.length/\0<=(Z8 m.sm k).2.2.2.1/\(Z8 m.sm k).2.2.2.1<=255):=Z9 (fun e=>by
   have hp:=(uh HP0).trans e;have h1:=(uh HLo).at hlt hp;have h2:=(uh HLo).limits hlt (Dr hp);have h3:=h2.1;have h4:=h2.2.1;have a0:=h1.1;have a1:=h1.2.1;generalize Z8 m.sm k=s at *;obtain ⟨st,be,rk,my,gu,lo',hi',hd,ca,ut,wk⟩:=s;have h5:=Zi h3
   exact ⟨a0,a1,h5.2.2.2.2.1.1,h4,by show 0<=my;omega,h5.2.2.2.1.2⟩)
  have HG:=Z9 (uh HSa).guilded.gd;have Hwa:=Z9 (fun (e:ps=true) (X:World) (hX:Smy X (.slice a0 m.rm.length p0) (.slice a1 m.gd.length p1) (.slice (some ⟨sb,off,none⟩) m.sm.length p2) (.slice a3 m.dk.length p3) (.slice a4 m.pc.length p4) m)=>Ru hX (uh HG) hlt (uh HA1 e).2.2.1 (uh HA1 e).2.2.2.1)
  have Hfo:=Z9 (fun (e:ps=true) (X:World) (hX:Smy X (.slice a0 m.rm.length p0) (.slice a1 m.gd.length p1) (.slice (some ⟨sb,off,none⟩) m.sm.length p2) (.slice a3 m.dk.length p3) (.slice a4 m.pc.length p4) m)=>U8 (Z8 m.sm k).2.1 hX.rm (by
   have h9:=uh HA1 e;obtain ⟨j9,e9⟩:∃ j:Nat,(Z8 m.sm k).2.1=(j:Int):=⟨(Z8 m.sm k).2.1.toNat,by omega⟩
   rw [e9]
   exact (uh HSa).bench (by omega)))
  have HFv:Hid (ps=true->Vr (ZR m.rm (Xo m.rm (Z8 m.sm k).2.1)).2=Zd m.rm (Z8 m.sm k).2.1):=Z9 (fun e=>(Ta (by
   have h9:=uh HA1 e;obtain ⟨j9,e9⟩:∃ j:Nat,(Z8 m.sm k).2.1=(j:Int):=⟨(Z8 m.sm k).2.1.toNat,by omega⟩
   rw [e9]
   exact (uh HSa).bench (by omega))).symm)
  have Hmy:=Z9 (fun (e:ps=true)=>(uh HA1 e).2.2.2.2);obtain ⟨⟨st,be,rk,my,gu,lo,hi,hd,ca,ut,wk⟩,hrk⟩:∃ d,Z8 m.sm k=d:=⟨_,rfl⟩
  rw [hrk] at d0 d1 d2 d3 d4 d5 d6 d7 d8 d9 d10 hps hfi Hfo HFv;simp only at d0 d1 d2 d3 d4 d5 d6 d7 d8 d9 d10 hfi Hfo HFv;have Hps:=Z9 hps;have Hfi:=Z9 hfi;have Hrk:=Z9 hrk;clear hps hfi hrk HMB HP0;have hsbw:sb<w1.heap.size:=hbw;obtain ⟨c0,c1,c2,c3,c4,c5⟩:=(uh kb).c6;go_upto_region 5 with fail;clear d0 d1 d2 d3 d4 d5 d6 d7 d8 d9 d10 c0 c1 c2 c3 c4 c5;obtain ⟨WQ,hWQ,hba,ks⟩:=YF w1 40 (I11 st be rk my gu lo hi hd ca ut wk);replace Hv:=Z9 ((uh Hv).below hba);replace kb:=bl kb hba;replace BB:=bt BB hba;clear hba hsbw hbw;rw [hWQ];clear hWQ;generalize w1.heap.size=sx at *;obtain ⟨c0,c1,c2,c3,c4,c5⟩:=(uh kb).c6;have y0:=ZW c0;have y1:=ZW c1;have y2:=ZW c2;have y3:=ZW c3;have y4:=ZW c4;have y5:=ZW c5;have s0:=ZW ((uh ks).cell (i:=0) (v:= .int .i64 st) rfl);have s1:=ZW ((uh ks).cell (i:=1) (v:= .int .i64 be) rfl);have s2:=ZW ((uh ks).cell (i:=2) (v:= .int .i64 rk) rfl);have s3:=ZW ((uh ks).cell (i:=3) (v:= .int .i64 my) rfl);have s4:=ZW ((uh ks).cell (i:=4) (v:= .int .i64 gu) rfl);have s5:=ZW ((uh ks).cell (i:=5) (v:= .int .i64 lo) rfl);have s6:=ZW ((uh ks).cell (i:=6) (v:= .int .i64 hi) rfl);have s7:=ZW ((uh ks).cell (i:=7) (v:= .int .i64 hd) rfl);have s8:=ZW ((uh ks).cell (i:=8) (v:= .int .i64 ca) rfl);have s9:=ZW ((uh ks).cell (i:=9) (v:= .int .i64 ut) rfl);have s10:=ZW ((uh ks).cell (i:=10) (v:= .int .i64 wk) rfl);have H1:=Z9 (fun (X:World)=>Yu (uh Hps) X);cases ps
  ·have hm0:PC m k=none:=by unfold PC;rw [uh HM2];rfl
   have Hm0:=Z9 hm0;clear hm0;go_wp2_with fail;refine wq ?_
   repeat (go_big_quiet_step (first | exact ZY (uh H1 _)))
   refine wqn fun W9 hb=> ?_;replace Hv:=Z9 ((uh Hv).below hb);replace kb:=bl kb hb;replace BB:=bt BB hb;clear hb;go_wp2_with fail;go_roundw
   case rel=>exact ⟨k+1,by omega,by go_num,by rw [uh HN none (uh Hm0)];rfl,uh kb,uh Hv,uh BB⟩
   case measure=>exact ms
  have H2:=Z9 (fun (X:World) (hX:Below WQ.heap.size WQ X)=>uh Hwa rfl X ((uh Hv).below hX));have H3:=Z9 (fun (X:World) (hX:Below WQ.heap.size WQ X)=>uh Hfo rfl X ((uh Hv).below hX));rw [uh HFv rfl] at H3;have H4:=Z9 (fun (X:World)=>Calls.bool_of (Calls.same_below (Uv (Zs m (k:Int)) 0 (Zd m.rm be) X)) (uh Hfi));have Hmy2:=Z9 (uh Hmy rfl);obtain ⟨wa,hwa⟩:∃ q,Zs m (k:Int)=q:=⟨_,rfl⟩
  obtain ⟨fo,hfo⟩:∃ q,Zd m.rm be=q:=⟨_,rfl⟩
  have HWb:=Z9 (fun (X:World) (hX:Smy X (.slice a0 m.rm.length p0) (.slice a1 m.gd.length p1) (.slice (some ⟨sb,off,none⟩) m.sm.length p2) (.slice a3 m.dk.length p3) (.slice a4 m.pc.length p4) m)=>uh Hwa rfl X hX);rw [hwa] at H2 H4 HWb;rw [hfo] at H3 H4;have HWa:=Z9 hwa;clear hwa hfo Hwa Hfo HFv Hmy;cases fi;rotate_left
  ·have hm0:PC m k=none:=by unfold PC;rw [uh HM2];rfl
   have Hm0:=Z9 hm0;clear hm0;go_wp2_with fail;refine wq ?_
   repeat (go_big_quiet_step (first | exact ZY (uh H1 _) | exact ZY (uh H2 _ (Z0 _ _ _)) | exact ZY (uh H3 _ (Z0 _ _ _)) | exact ZY (uh H4 _)))
   refine wqn fun W9 hb=> ?_;replace Hv:=Z9 ((uh Hv).below hb);replace kb:=bl kb hb;replace BB:=bt BB hb;clear hb;go_wp2_with fail;go_roundw
   case rel=>exact ⟨k+1,by omega,by go_num,by rw [uh HN none (uh Hm0)];rfl,uh kb,uh Hv,uh BB⟩
   case measure=>exact ms
  have HMA:Hid (PC m k=Vo m k m.dk.length):=Z9 (by unfold PC;rw [uh HM2];rfl);go_wp2_with fail;refine wq ?_
  repeat (go_big_quiet_step (first | exact ZY (uh H1 _) | exact ZY (uh H2 _ (Z0 _ _ _)) | exact ZY (uh H3 _ (Z0 _ _ _)) | exact ZY (uh H4 _)))
  refine wqn fun W9 hb=> ?_;replace Hv:=Z9 ((uh Hv).below hb);replace kb:=bl kb hb;replace BB:=bt BB hb;clear hb c0 c1 c2 c3 c4 c5 s0 s1 s2 s3 s4 s5 s6 s7 s8 s9 s10 y0 y1 y2 y3 y4 y5 H1 H2 H3 H4 ks;go_wp2_with fail
  go_loopw [7] (fun i wr=> ∃ j:Nat,j<=m.dk.length/\i= .int .i64 j/\Vo m k j=none/\Blk wr w.heap.size 32 #[.slice a0 m.rm.length p0,.slice a1 m.gd.length p1,.slice (some ⟨sb,off,none⟩) m.sm.length p2,.slice a3 m.dk.length p3,.slice a4 m.pc.length p4,.int .i64 m.now]/\Smy wr (.slice a0 m.rm.length p0) (.slice a1 m.gd.length p1) (.slice (some ⟨sb,off,none⟩) m.sm.length p2) (.slice a3 m.dk.length p3) (.slice a4 m.pc.length p4) m/\Below w.heap.size w wr) (fun i _=>m.dk.length-(intOf i).toNat)
  case atStart=>exact ⟨0,ZA _,rfl,rfl,uh kb,uh Hv,uh BB⟩
  case round=>
   obtain ⟨j,hj,rfl,hno2,hkb,hv,hb0⟩:=hrel;have Hno2:=Z9 hno2;obtain ⟨WQ,rfl⟩:∃ x,x=wr:=⟨wr,rfl⟩
   clear hno2 kb Hv BB;have kb:=Z9 hkb;have Hv:=Z9 hv;have BB:=Z9 hb0;clear hkb hv hb0;obtain ⟨c0,c1,c2,c3,c4,c5⟩:=(uh kb).c6;by_cases hlj:j<m.dk.length;rotate_left
   ·have hlj1:¬ ((j:Int)<(m.dk.length:Int)):=by omega
    obtain rfl:j=m.dk.length:=by omega
    go_wp2_with fail;go_roundw
    case rel=>exact ⟨k+1,by omega,by go_num,by rw [uh HN none (by rw [uh HMA];exact uh Hno2)];rfl,uh kb,uh Hv,uh BB⟩
    case measure=>exact ms
   have hlj1:(j:Int)<(m.dk.length:Int):=by omega
   have HS:Hid (∀ q,LH m k j=q->Vo m k (j+1)=if q then some j else none):=Z9 (fun q e=>by unfold Vo;rw [uh Hno2,e]);obtain ⟨qi,hqi⟩:∃ q,VG m j=q:=⟨_,rfl⟩
   obtain ⟨qm,hqm⟩:∃ q,Yw m (k:Int) j=q:=⟨_,rfl⟩
   obtain ⟨qf,hqf⟩:∃ q,Ws wa 0 (Zd m.rm (j:Int))=q:=⟨_,rfl⟩
   have HB2:Hid (LH m k j=(qi && (qm && qf))):=Z9 (by unfold LH;rw [hqi,hqm,uh HWa,hqf]);have hfov:=Ta ((uh HSa).bench hlj);have H1:=Z9 (fun (X:World) (hX:Below WQ.heap.size WQ X)=>Calls.bool_of (NZ ((uh Hv).below hX) hlj (by omega)) hqi);have H2:=Z9 (fun (X:World) (hX:Below WQ.heap.size WQ X)=>Calls.bool_of (Sy ((uh Hv).below hX) hlt hlj (by omega) (uh Hmy2).1 (uh Hmy2).2) hqm);have H3:=Z9 (fun (X:World) (hX:Below WQ.heap.size WQ X)=>uh HWb X ((uh Hv).below hX));have H4:=Z9 (fun (X:World) (hX:Below WQ.heap.size WQ X)=>U8 (j:Int) ((uh Hv).below hX).rm ((uh HSa).bench hlj));rw [<-hfov] at H4;have H5:=Z9 (fun (X:World)=>Calls.bool_of (Calls.same_below (Uv wa 0 (Zd m.rm (j:Int)) X)) hqf);clear hqi hqm hqf hfov;generalize Zd m.rm (j:Int)=fj at *;have y0:=ZW c0;have y1:=ZW c1;have y2:=ZW c2;have y3:=ZW c3;have y4:=ZW c4;have y5:=ZW c5;cases qi
   ·go_wp2_with fail
    refine wq ?_
    repeat (go_big_quiet_step (first | exact ZY (uh H1 _ (Z0 _ _ _)) | exact ZY (uh H2 _ (Z0 _ _ _)) | exact ZY (uh H3 _ (Z0 _ _ _)) | exact ZY (uh H4 _ (Z0 _ _ _)) | exact ZY (uh H5 _)))
    refine wqn fun W9 hb=> ?_;replace Hv:=Z9 ((uh Hv).below hb);replace kb:=bl kb hb;replace BB:=bt BB hb;clear hb;go_wp2_with fail;go_roundw
    case rel=>exact ⟨j+1,by omega,by go_num,by rw [uh HS _ (uh HB2)];rfl,uh kb,uh Hv,uh BB⟩
    case measure=>exact ms
   cases qm
   ·go_wp2_with fail
    refine wq ?_
    repeat (go_big_quiet_step (first | exact ZY (uh H1 _ (Z0 _ _ _)) | exact ZY (uh H2 _ (Z0 _ _ _)) | exact ZY (uh H3 _ (Z0 _ _ _)) | exact ZY (uh H4 _ (Z0 _ _ _)) | exact ZY (uh H5 _)))
    refine wqn fun W9 hb=> ?_;replace Hv:=Z9 ((uh Hv).below hb);replace kb:=bl kb hb;replace BB:=bt BB hb;clear hb;go_wp2_with fail;go_roundw
    case rel=>exact ⟨j+1,by omega,by go_num,by rw [uh HS _ (uh HB2)];rfl,uh kb,uh Hv,uh BB⟩
    case measure=>exact ms
   cases qf
   ·go_wp2_with fail
    refine wq ?_
    repeat (go_big_quiet_step (first | exact ZY (uh H1 _ (Z0 _ _ _)) | exact ZY (uh H2 _ (Z0 _ _ _)) | exact ZY (uh H3 _ (Z0 _ _ _)) | exact ZY (uh H4 _ (Z0 _ _ _)) | exact ZY (uh H5 _)))
    refine wqn fun W9 hb=> ?_;replace Hv:=Z9 ((uh Hv).below hb);replace kb:=bl kb hb;replace BB:=bt BB hb;clear hb;go_wp2_with fail;go_roundw
    case rel=>exact ⟨j+1,by omega,by go_num,by rw [uh HS _ (uh HB2)];rfl,uh kb,uh Hv,uh BB⟩
    case measure=>exact ms
   go_wp2_with fail;refine wq ?_
   repeat (go_big_quiet_step (first | exact ZY (uh H1 _ (Z0 _ _ _)) | exact ZY (uh H2 _ (Z0 _ _ _)) | exact ZY (uh H3 _ (Z0 _ _ _)) | exact ZY (uh H4 _ (Z0 _ _ _)) | exact ZY (uh H5 _)))
   refine wqn fun W9 hb=> ?_;replace Hv:=Z9 ((uh Hv).below hb);replace kb:=bl kb hb;replace BB:=bt BB hb;clear hb
   have HR:Hid (tv= .tuple #[.int .i64 (k:Int),.int .i64 (j:Int),.bool true]):=Z9 (by
    rw [uh HW,Av (k:=k+1) (w:=k) (b:=j) (by rw [uh HN (some j) (by rw [uh HMA];exact BM (k:=j+1) (by rw [uh HS _ (uh HB2)];rfl) (by omega))];rfl) (by omega)]
    rfl)
   obtain rfl:=uh HR;go_wp2_with fail;refine ZS (v:= .tuple #[.int .i64 (k:Int),.int .i64 (j:Int),.bool true]) (by simp [results,Tryz.results283,go_sem]) rfl ⟨rfl,uh BB⟩
set_option maxRecDepth 100000
theorem NI {w:World} {v0 v1 v2 v3 v4:Value} {m:Z6} (h:Smy w v0 v1 v2 v3 v4 m) :
  Calls Tryz.prog 284 #[.agg #[v0,v1,v2,v3,v4,.int .i64 m.now]] w fun e w'=>e= .returned (CG (Ve m))/\Below w.heap.size w w':=by
 have Hv0:=Z9 (h.alloc (.cells #[v0,v1,v2,v3,v4,.int .i64 m.now] 32));obtain ⟨a0,p0,a1,p1,a2,p2,a3,p3,a4,p4,rfl,rfl,rfl,rfl,rfl,_,_,_,_,_,_,_,_,_,_⟩:=h.five;clear h;obtain ⟨BB0,kb0⟩:=Wd w 32 (S6 a0 p0 a1 p1 a2 p2 a3 p3 a4 p4 m);obtain ⟨tv,htv⟩:∃ t,CG (Ve m)=t:=⟨_,rfl⟩
 rw [htv];obtain ⟨ok,hok⟩:∃ q,ZI m=q:=⟨_,rfl⟩
 have Hok:=Z9 hok;have HT:=Z9 htv;clear hok htv;cases ok
 ·obtain rfl:tv= .tuple #[.int .i64 0,.int .i64 0,.bool false]:=by rw [<-uh HT];unfold Ve;rw [uh Hok];rfl
  go_enter Tryz.func284,Tryz.ntmps284;go_wp2_with fail
  go_loopw [5] (fun i wr=>i= .int .i64 0/\Blk wr w.heap.size 32 (S6 a0 p0 a1 p1 a2 p2 a3 p3 a4 p4 m)/\Smy wr (.slice a0 m.rm.length p0) (.slice a1 m.gd.length p1) (.slice a2 m.sm.length p2) (.slice a3 m.dk.length p3) (.slice a4 m.pc.length p4) m/\Below w.heap.size w wr) (fun _ _=>1)
  case atStart=>exact ⟨rfl,uh kb0,uh Hv0,uh BB0⟩
  case round=>
   obtain ⟨rfl,hkb,hv,hb0⟩:=hrel;have kb:=Z9 hkb;have Hv:=Z9 hv;have BB:=Z9 hb0;clear hkb hv hb0 kb0 Hv0 BB0;obtain ⟨c0,c1,c2,c3,c4,c5⟩:=(uh kb).c6;by_cases hlt:0<m.dk.length
   ·have hlt1:(0:Int)<(m.dk.length:Int):=by omega
    go_wp2_with fail;refine ck (XN (uh Hok) (uh Hv)) fun w1 hb=> ?_;replace BB:=bt BB hb;clear hb;go_wp2_with fail;refine ZS (v:= .tuple #[.int .i64 0,.int .i64 0,.bool false]) (by simp [results,Tryz.results284,go_sem]) rfl ⟨rfl,uh BB⟩
   ·have hlt1:¬ ((0:Int)<(m.dk.length:Int)):=by omega
    go_wp2_with fail;refine ZS (v:= .tuple #[.int .i64 0,.int .i64 0,.bool false]) (by simp [results,Tryz.results284,go_sem]) rfl ⟨rfl,uh BB⟩
 have hlo:=ZK (uh Hok);have HLo:=Z9 hlo;have h12:=Yz hlo;have h8:=VR hlo;clear hlo;have HW:Hid (tv=CG (Wm m m.dk.length)):=Z9 (by rw [<-uh HT];unfold Ve;rw [uh Hok];rfl);clear HT;go_enter Tryz.func284,Tryz.ntmps284;go_wp2_with fail
 go_loopw [5] (fun i wr=> ∃ k:Nat,k<=m.dk.length/\i= .int .i64 k/\Wm m k=none/\Blk wr w.heap.size 32 (S6 a0 p0 a1 p1 a2 p2 a3 p3 a4 p4 m)/\Smy wr (.slice a0 m.rm.length p0) (.slice a1 m.gd.length p1) (.slice a2 m.sm.length p2) (.slice a3 m.dk.length p3) (.slice a4 m.pc.length p4) m/\Below w.heap.size w wr) (fun i _=>m.dk.length-(intOf i).toNat)
 case atStart=>exact ⟨0,ZA _,rfl,rfl,uh kb0,uh Hv0,uh BB0⟩
 case round=>
  obtain ⟨k,hk,rfl,hno,hkb,hv,hb0⟩:=hrel;have Hno:=Z9 hno;clear hno;have kb:=Z9 hkb;have Hv:=Z9 hv;have BB:=Z9 hb0;clear hkb hv hb0;clear kb0 Hv0 BB0;obtain ⟨c0,c1,c2,c3,c4,c5⟩:=(uh kb).c6;by_cases hlt:k<m.dk.length;rotate_left
  ·have hlt1:¬ ((k:Int)<(m.dk.length:Int)):=by omega
   obtain rfl:k=m.dk.length:=by omega
   obtain rfl:tv= .tuple #[.int .i64 0,.int .i64 0,.bool false]:=by rw [uh HW,uh Hno];rfl
   go_wp2_with fail;refine ZS (v:= .tuple #[.int .i64 0,.int .i64 0,.bool false]) (by simp [results,Tryz.results284,go_sem]) rfl ⟨rfl,uh BB⟩
  have hlt1:(k:Int)<(m.dk.length:Int):=by omega
  go_wp2_with fail;refine ck (XN (uh Hok) (uh Hv)) fun w1 hb=> ?_;replace Hv:=Z9 ((uh Hv).below hb);replace kb:=bl kb hb;replace BB:=bt BB hb;clear hb c0 c1 c2 c3 c4 c5;obtain ⟨qi,hqi⟩:∃ q,VG m k=q:=⟨_,rfl⟩
  have Hqi:=Z9 hqi;clear hqi;have HN:Hid (∀ w9,Pb m k=w9->Wm m (k+1)=w9.map fun x=>(x,k)):=Z9 (fun w9 e=>by unfold Wm;rw [uh Hno,e]);obtain ⟨c0,c1,c2,c3,c4,c5⟩:=(uh kb).c6;go_wp2_with fail;refine (NZ (uh Hv) hlt (by omega)).mono ?_;rw [uh Hqi];rintro e w2 ⟨rfl,hb⟩;replace Hv:=Z9 ((uh Hv).below hb);replace kb:=bl kb hb;replace BB:=bt BB hb;clear hb c0 c1 c2 c3 c4 c5;cases qi
  ·go_wp2_with fail
   go_roundw
   case rel=>exact ⟨k+1,by omega,by go_num,by rw [uh HN none (by unfold Pb;rw [uh Hqi];rfl)];rfl,uh kb,uh Hv,uh BB⟩
   case measure=>exact ms
  go_wp2_with fail
  go_loopw [6] (fun i wr=> ∃ j:Nat,j<=m.sm.length/\i= .int .i64 j/\U4 m k j=none/\Blk wr w.heap.size 32 (S6 a0 p0 a1 p1 a2 p2 a3 p3 a4 p4 m)/\Smy wr (.slice a0 m.rm.length p0) (.slice a1 m.gd.length p1) (.slice a2 m.sm.length p2) (.slice a3 m.dk.length p3) (.slice a4 m.pc.length p4) m/\Below w.heap.size w wr) (fun i _=>m.sm.length-(intOf i).toNat)
  case atStart=>exact ⟨0,ZA _,rfl,rfl,uh kb,uh Hv,uh BB⟩
  case round=>
   obtain ⟨j,hj,rfl,hno2,hkb,hv,hb0⟩:=hrel;have Hno2:=Z9 hno2;clear hno2 kb Hv BB;have kb:=Z9 hkb;have Hv:=Z9 hv;have BB:=Z9 hb0;clear hkb hv hb0;obtain ⟨c0,c1,c2,c3,c4,c5⟩:=(uh kb).c6;by_cases hlj:j<m.sm.length;rotate_left
   ·have hlj1:¬ ((j:Int)<(m.sm.length:Int)):=by omega
    obtain rfl:j=m.sm.length:=by omega
    go_wp2_with fail;go_roundw
    case rel=>exact ⟨k+1,by omega,by go_num,by rw [uh HN none (by unfold Pb;rw [uh Hqi];exact uh Hno2)];rfl,uh kb,uh Hv,uh BB⟩
    case measure=>exact ms
   have hlj1:(j:Int)<(m.sm.length:Int):=by omega
   have HS:Hid (∀ q,Ok m j k=q->U4 m k (j+1)=if q then some j else none):=Z9 (fun q e=>by unfold U4;rw [uh Hno2,e]);have HB:Hid (Ok m j k=((Z8 m.sm j).1 ==2 && Yw m (j:Int) k)):=Z9 rfl;obtain ⟨_,_,hse,_,_,r2⟩:=(uh Hv).sm;cases hse
   rcases r2 with e0 | ⟨sb,off,rfl,hbw,hcl⟩
   ·rw [e0] at hlj;simp at hlj
   obtain ⟨d0,_⟩:=Zw hcl hlj;clear hcl;obtain ⟨st,hst⟩:∃ q,(Z8 m.sm j).1=q:=⟨_,rfl⟩
   rw [hst] at d0;by_cases h2:st=2;rotate_left
   ·have hn2:(st ==2)=false:=by simpa using h2
    have HB2:Hid (Ok m j k=false):=Z9 (by rw [uh HB,hst,hn2];rfl);clear hst;go_wp2_with fail;go_roundw
    case rel=>exact ⟨j+1,by omega,by go_num,by rw [uh HS _ (uh HB2)];rfl,uh kb,uh Hv,uh BB⟩
    case measure=>exact ms
   subst h2;have hlim:=(uh HLo).limits hlj (by rw [hst];omega)
   have hmy:0<=(Z8 m.sm j).2.2.2.1/\(Z8 m.sm j).2.2.2.1<=255:=by
    have hp:=hlim.1;generalize Z8 m.sm j=s at *;obtain ⟨st,be,rk,my,gu,lo',hi',hd,ca,ut,wk⟩:=s;have:=(Zi hp).2.2.2.1;exact ⟨by show 0<=my;omega,this.2⟩
   obtain ⟨qm,hqm⟩:∃ q,Yw m (j:Int) k=q:=⟨_,rfl⟩
   have Hqm:=Z9 hqm;have HB2:Hid (Ok m j k=qm):=Z9 (by rw [uh HB,hst,hqm];rfl);have HM:=Z9 (fun (X:World) (hX:Smy X (.slice a0 m.rm.length p0) (.slice a1 m.gd.length p1) (.slice (some ⟨sb,off,none⟩) m.sm.length p2) (.slice a3 m.dk.length p3) (.slice a4 m.pc.length p4) m)=>Sy hX hlj hlt (by omega) hmy.1 hmy.2);clear hst hlim hmy hqm;go_wp2_with fail;refine (uh HM _ (uh Hv)).mono ?_;rw [uh Hqm];rintro e w3 ⟨rfl,hb⟩;replace Hv:=Z9 ((uh Hv).below hb);replace kb:=bl kb hb;replace BB:=bt BB hb;clear hb c0 c1 c2 c3 c4 c5 d0 HM;cases qm
   ·go_wp2_with fail
    go_roundw
    case rel=>exact ⟨j+1,by omega,by go_num,by rw [uh HS _ (uh HB2)];rfl,uh kb,uh Hv,uh BB⟩
    case measure=>exact ms
   have HR:Hid (tv= .tuple #[.int .i64 (j:Int),.int .i64 (k:Int),.bool true]):=Z9 (by
    rw [uh HW,Fq (k:=k+1) (w:=j) (b:=k) (by rw [uh HN (some j) (by unfold Pb;rw [uh Hqi];exact CQ (k:=j+1) (by rw [uh HS _ (uh HB2)];rfl) (by omega))];rfl) (by omega)]
    rfl)
   obtain rfl:=uh HR;go_wp2_with fail;refine ZS (v:= .tuple #[.int .i64 (j:Int),.int .i64 (k:Int),.bool true]) (by simp [results,Tryz.results284,go_sem]) rfl ⟨rfl,uh BB⟩
def yS (n₀:Nat) (M:Z6) (e:Ending) (w':World):Prop:=
 ∃ u0 u1 u2 u3 u4 qs,e= .returned (.agg #[u0,u1,u2,u3,u4,.int .i64 M.now])/\FullSmy n₀ w' u0 u1 u2 u3 u4 M qs
theorem O4 {w:World} {v0 v1 v2 v3 v4:Value} {m:Z6} (h:Smy w v0 v1 v2 v3 v4 m) :
  Calls Tryz.prog 257 #[.agg #[v0,v1,v2,v3,v4,.int .i64 m.now]] w fun e w'=>yS w.heap.size (VV m) e w'/\Below w.heap.size w w':=by
 obtain ⟨X,hX⟩:∃ x,VV m=x:=⟨_,rfl⟩
 rw [hX];have HX:=Z9 hX;clear hX;have Hv0:=Z9 h;obtain ⟨a0,p0,a1,p1,a2,p2,a3,p3,a4,p4,rfl,rfl,rfl,rfl,rfl,_,_,_,_,_,_,_,_,_,_⟩:=h.five;clear h;obtain ⟨ok,hok⟩:∃ q,ZI m=q:=⟨_,rfl⟩
 have Hok:=Z9 hok;clear hok;go_enter Tryz.func257,Tryz.ntmps257;go_wp2_with fail;obtain ⟨W,hW,kb,kr,BB⟩:=YG w 32 (S6 a0 p0 a1 p1 a2 p2 a3 p3 a4 p4 m) 32 E6;have Hv:=Z9 ((uh Hv0).below (uh BB));clear Hv0;rw [hW];clear hW;refine ck (XN (uh Hok) (uh Hv)) fun w1 hb=> ?_;replace kb:=bl kb hb;replace kr:=bl kr hb;replace Hv:=Z9 ((uh Hv).below hb);replace BB:=bt BB hb;clear hb;cases ok
 ·
  obtain ⟨o0,o1,o2,o3,o4,o5⟩:=(uh kr).c6;obtain ⟨f0,f1,f2,f3,f4,f5⟩:=(uh kr).f6;go_wp2_with fail;have hX0:X=Yj:=by rw [<-uh HX];unfold VV;rw [uh Hok];rfl
  refine ZS (v:= .agg E6) (by simp [results,Tryz.results257,go_sem, *]) rfl ⟨?_,?_⟩
  ·rw [hX0];exact ⟨_,_,_,_,_,[],rfl,Yr _ _⟩
  ·iterate 6 (refine YS ?_ (by show _<=w.heap.size+1;omega) _)
   exact uh BB
 have hlo:=ZK (uh Hok);have HLo:=Z9 hlo;have HFew:=Z9 (WK hlo);clear hlo;obtain ⟨c0,c1,c2,c3,c4,c5⟩:=(uh kb).c6;go_wp2_with fail;clear c0 c1 c2 c3 c4 c5;have hWs:w.heap.size+2<=w1.heap.size:=by have:=(uh kr).lt;omega
 refine (XT (uh Hv) (uh HFew)).mono ?_;rintro e w2 ⟨y0,y1,y2,y3,y4,oq,rfl,ho,hb⟩;have k9:=ho.smy;obtain ⟨b0,q0,b1,q1,b2,q2,b3,q3,b4,q4,rfl,rfl,rfl,rfl,rfl,_,_,_,_,_,_,_,_,_,_⟩:=k9.five;clear k9;replace kb:=bl kb hb;replace kr:=bl kr hb;replace Hv:=Z9 ((uh Hv).below hb);replace BB:=bt BB hb;have HO:=Z9 (ho.mono hWs);have LO:Hid (∀ k,Wg (.slice b0 m.rm.length q0) (.slice b1 m.gd.length q1) (.slice b2 m.sm.length q2) (.slice b3 m.dk.length q3) (.slice b4 m.pc.length q4) oq k->w.heap.size+2<=k/\k<w2.heap.size):=Z9 (fun k e=>(uh HO).own e);have hsz9:=hb.size;clear ho hb;go_upto_region 4 with fail;obtain ⟨W2,hW2,hba,ko⟩:=YF w2 32 (S6 b0 q0 b1 q1 b2 q2 b3 q3 b4 q4 m);replace kb:=bl kb hba;replace kr:=bl kr hba;replace Hv:=Z9 ((uh Hv).below hba);replace HO:=Z9 ((uh HO).below hba);replace BB:=bt BB hba;have hob:w.heap.size+2<=w2.heap.size:=XH hWs hsz9;clear hba hsz9 hWs;rw [hW2];clear hW2;generalize w2.heap.size=ob at *;have HX2:Hid (TF m=X):=Z9 (by rw [<-uh HX];unfold VV;rw [uh Hok];rfl);have hofR:∀ k,Wg (.slice b0 m.rm.length q0) (.slice b1 m.gd.length q1) (.slice b2 m.sm.length q2) (.slice b3 m.dk.length q3) (.slice b4 m.pc.length q4) oq k->k ≠ ob:=fun k e=>by have:=(uh LO k e).2;omega
 have H2:Hid ((Value.slice b2 m.sm.length q2).ownBlock ≠ some ob):=Z9 (fun e=>hofR _ (.inr (.inr (.inr (.inl e)))) rfl);have H3:Hid ((Value.slice b3 m.dk.length q3).ownBlock ≠ some ob):=Z9 (fun e=>hofR _ (.inr (.inr (.inr (.inr (.inl e))))) rfl);clear hofR;go_wp2_with fail
 go_loopg [4] (R1 m+1) (fun k i wr=> ∃ (M:Z6) (more:Bool),i= .bool more/\k=(if more=true then R1 M+1 else 0)/\ZI M=true/\M.now=m.now/\TF M=TF m/\(more=false->Up M=none)/\FullSmy (w.heap.size+2) wr (.slice b0 m.rm.length q0) (.slice b1 m.gd.length q1) (.slice b2 m.sm.length q2) (.slice b3 m.dk.length q3) (.slice b4 m.pc.length q4) M oq/\Two (Value.slice b2 m.sm.length q2).ownBlock (Value.slice b3 m.dk.length q3).ownBlock W2 wr)
 case atStart=>exact ⟨m,true,rfl,rfl,uh Hok,rfl,rfl,(fun e=>by cases e),uh HO,Two.refl _ _ _⟩
 case round=>
  obtain ⟨M,more,rfl,hgk,hsm,hnow,hlv,hno,hf1,htw⟩:=hrel;have HF1:=Z9 hf1;have Tw:=Z9 htw;have Hsm:=Z9 hsm;have Hnow:=Z9 hnow;have Hlv:=Z9 hlv;have Hno:=Z9 hno;replace ko:=Z9 ((uh ko).two htw (uh H2) (uh H3));clear hf1 htw hsm hnow hlv hno;cases more
  ·
   clear hgk;replace kr:=Z9 ((uh kr).two (uh Tw) (fun e=>by have:=(uh LO _ (.inr (.inr (.inr (.inl e))))).1;omega) (fun e=>by have:=(uh LO _ (.inr (.inr (.inr (.inr (.inl e)))))).1;omega));replace BB:=Z9 ((uh BB).trans ((uh Tw).below (uh BB).size (fun k e=>by have:=(uh LO k (.inr (.inr (.inr (.inl e))))).1;omega) (fun k e=>by have:=(uh LO k (.inr (.inr (.inr (.inr (.inl e)))))).1;omega)));obtain ⟨x0,x1,x2,x3,x4,x5⟩:=(uh ko).c6;obtain ⟨o0,o1,o2,o3,o4,o5⟩:=(uh kr).c6;obtain ⟨f0,f1,f2,f3,f4,f5⟩:=(uh kr).f6;go_wp2_with fail;have hX0:X=M:=by rw [<-uh HX2,<-uh Hlv];exact Gy (uh Hno (by trivial))
   refine ZS (v:= .agg (S6 b0 q0 b1 q1 b2 q2 b3 q3 b4 q4 m)) (by simp [results,Tryz.results257,go_sem, *]) rfl ⟨?_,?_⟩
   ·rw [hX0];refine ⟨_,_,_,_,_,oq,by rw [uh Hnow],?_⟩
    iterate 6 (refine FullSmy.set_off ?_ (fun k e=>by have:=(uh LO k e).1;omega) _ _)
    exact (uh HF1).mono (by omega)
   ·iterate 6 (refine YS ?_ (by show _<=w.heap.size+1;omega) _)
    exact uh BB
  simp only [if_true] at hgk;subst hgk;clear Hno;obtain ⟨mi,hmi⟩:∃ q,UM M=q:=⟨_,rfl⟩
  have hc:=MK (uh HF1).smy;rw [uh Hnow] at hc;have Hc:=Z9 hc;clear hc;rw [hmi] at Hc;have Hmi:=Z9 hmi;clear hmi;obtain ⟨x0,x1,x2,x3,x4,x5⟩:=(uh ko).c6;cases mi with
  | some r=>
   obtain ⟨wh,bb⟩:=r;have Hc2:Hid (Calls Tryz.prog 283 #[.agg (S6 b0 q0 b1 q1 b2 q2 b3 q3 b4 q4 m)] wr fun e w'=>e= .returned (.tuple #[.int .i64 (wh:Int),.int .i64 (bb:Int),.bool true])/\Below wr.heap.size wr w'):=Hc;clear Hc;have Hc:=Hc2;clear Hc2;go_wp2_with fail;clear x0 x1 x2 x3 x4 x5;refine ck (uh Hc) fun w5 hb=> ?_;replace HF1:=Z9 ((uh HF1).below hb);replace ko:=bl ko hb;replace Tw:=Z9 ((uh Tw).trans (Two.of_below hb));clear hb Hc;have hmv:Up M=some (wh,bb):=by unfold Up;rw [uh Hmi]
   have mv:=RE hmv;have Hmv:=Z9 hmv;obtain ⟨a0',a1',_⟩:=(ZK (uh Hsm)).at mv.who mv.pres;obtain ⟨bn,hbn⟩:∃ bn:Nat,(Z8 M.sm wh).2.1=(bn:Int):=⟨(Z8 M.sm wh).2.1.toNat,by omega⟩
   have Hbn:=Z9 hbn;have hbl:bn<M.dk.length:=by omega
   have Mv:=Z9 mv;have Hbl:=Z9 hbl;clear hmv hbn hbl a0' a1' mv;have k8:Hid (Blk w5 ob 32 #[.slice b0 m.rm.length q0,.slice b1 m.gd.length q1,.slice b2 m.sm.length q2,.slice b3 m.dk.length q3,.slice b4 m.pc.length q4,.int .i64 M.now]):=Z9 (by rw [uh Hnow];exact uh ko);go_wp2_with fail;refine (Um (m:=M) (k:=wh) (bn:=bn) (b:=bb) (uh k8) (uh HF1) (uh H2) (uh H3) (uh Mv).who (uh Hbn) (uh Hbl) (uh Mv).bench).mono ?_;rintro e w7 ⟨rfl,hf7,ht7⟩;have k7:Hid (Blk w7 ob 32 #[.slice b0 m.rm.length q0,.slice b1 m.gd.length q1,.slice b2 m.sm.length q2,.slice b3 m.dk.length q3,.slice b4 m.pc.length q4,.int .i64 M.now]):=Z9 ((uh k8).two ht7 (uh H2) (uh H3));have HF7:=Z9 hf7;have T7:=Z9 ((uh Tw).trans ht7);clear hf7 ht7 k8;have h12:=Yz (ZK (uh Hsm));have h8:=(ZK (uh Hsm)).sane.eight;have hl12:(TH M wh bb).sm.length<=800:=by rw [Us];omega
   have hd8:(TH M wh bb).dk.length<=1000:=by show M.dk.length<=1000;omega
   have Hl12:=Z9 hl12;have Hd8:=Z9 hd8;clear h12 h8 hl12 hd8;go_wp2_with fail;refine (Rv (m:=TH M wh bb) (uh k7) (uh HF7) (uh H2) (uh H3) (uh Hl12) (uh Hd8)).mono ?_;rintro e w8 ⟨rfl,hf8,ht8⟩;have HF8:=Z9 hf8;have T8:=Z9 ((uh T7).trans ht8);clear hf8 ht8;go_wp2_with fail
   go_roundg (R1 (Uq M wh bb)+1)
   case measure=>have:=(uh Mv).falls;omega
   case rel=>exact ⟨Uq M wh bb,true,rfl,rfl,(uh Mv).keeps,((ZG _ _).2.2.2.1).trans (uh Hnow),(J0 (uh Hmv)).symm.trans (uh Hlv),(fun e=>by cases e),uh HF8,uh T8⟩
  | none=>
   have Hc2:Hid (Calls Tryz.prog 283 #[.agg (S6 b0 q0 b1 q1 b2 q2 b3 q3 b4 q4 m)] wr fun e w'=>e= .returned (.tuple #[.int .i64 0,.int .i64 0,.bool false])/\Below wr.heap.size wr w'):=Hc;clear Hc;have Hc:=Hc2;clear Hc2;go_wp2_with fail;clear x0 x1 x2 x3 x4 x5;refine ck (uh Hc) fun w5 hb=> ?_;replace HF1:=Z9 ((uh HF1).below hb);replace ko:=bl ko hb;replace Tw:=Z9 ((uh Tw).trans (Two.of_below hb));clear hb Hc;obtain ⟨wi,hwi⟩:∃ q,Ve M=q:=⟨_,rfl⟩
   have hc:=NI (uh HF1).smy;rw [uh Hnow] at hc;have Hc:=Z9 hc;clear hc;rw [hwi] at Hc;have hmv:Up M=wi:=by unfold Up;rw [uh Hmi];exact hwi
   clear hwi;obtain ⟨x0,x1,x2,x3,x4,x5⟩:=(uh ko).c6;cases wi with
   | some r=>
    obtain ⟨wh,bb⟩:=r;have Hc2:Hid (Calls Tryz.prog 284 #[.agg (S6 b0 q0 b1 q1 b2 q2 b3 q3 b4 q4 m)] w5 fun e w'=>e= .returned (.tuple #[.int .i64 (wh:Int),.int .i64 (bb:Int),.bool true])/\Below w5.heap.size w5 w'):=Hc;clear Hc;have Hc:=Hc2;clear Hc2;have Hm0:=Z9 hmv;clear hmv;go_wp2_with fail;clear x0 x1 x2 x3 x4 x5;refine ck (uh Hc) fun w6 hb=> ?_;replace HF1:=Z9 ((uh HF1).below hb);replace ko:=bl ko hb;replace Tw:=Z9 ((uh Tw).trans (Two.of_below hb));clear hb Hc;have hmv:=uh Hm0;clear Hm0;have mv:=RE hmv;have Hmv:=Z9 hmv;obtain ⟨a0',a1',_⟩:=(ZK (uh Hsm)).at mv.who mv.pres;obtain ⟨bn,hbn⟩:∃ bn:Nat,(Z8 M.sm wh).2.1=(bn:Int):=⟨(Z8 M.sm wh).2.1.toNat,by omega⟩
    have Hbn:=Z9 hbn;have hbl:bn<M.dk.length:=by omega
    have Mv:=Z9 mv;have Hbl:=Z9 hbl;clear hmv hbn hbl a0' a1' mv;have k8:Hid (Blk w6 ob 32 #[.slice b0 m.rm.length q0,.slice b1 m.gd.length q1,.slice b2 m.sm.length q2,.slice b3 m.dk.length q3,.slice b4 m.pc.length q4,.int .i64 M.now]):=Z9 (by rw [uh Hnow];exact uh ko);go_wp2_with fail;refine (Um (m:=M) (k:=wh) (bn:=bn) (b:=bb) (uh k8) (uh HF1) (uh H2) (uh H3) (uh Mv).who (uh Hbn) (uh Hbl) (uh Mv).bench).mono ?_;rintro e w7 ⟨rfl,hf7,ht7⟩;have k7:Hid (Blk w7 ob 32 #[.slice b0 m.rm.length q0,.slice b1 m.gd.length q1,.slice b2 m.sm.length q2,.slice b3 m.dk.length q3,.slice b4 m.pc.length q4,.int .i64 M.now]):=Z9 ((uh k8).two ht7 (uh H2) (uh H3));have HF7:=Z9 hf7;have T7:=Z9 ((uh Tw).trans ht7);clear hf7 ht7 k8;have h12:=Yz (ZK (uh Hsm));have h8:=(ZK (uh Hsm)).sane.eight;have hl12:(TH M wh bb).sm.length<=800:=by rw [Us];omega
    have hd8:(TH M wh bb).dk.length<=1000:=by show M.dk.length<=1000;omega
    have Hl12:=Z9 hl12;have Hd8:=Z9 hd8;clear h12 h8 hl12 hd8;go_wp2_with fail;refine (Rv (m:=TH M wh bb) (uh k7) (uh HF7) (uh H2) (uh H3) (uh Hl12) (uh Hd8)).mono ?_;rintro e w8 ⟨rfl,hf8,ht8⟩;have HF8:=Z9 hf8;have T8:=Z9 ((uh T7).trans ht8);clear hf8 ht8;go_wp2_with fail
    go_roundg (R1 (Uq M wh bb)+1)
    case measure=>have:=(uh Mv).falls;omega
    case rel=>exact ⟨Uq M wh bb,true,rfl,rfl,(uh Mv).keeps,((ZG _ _).2.2.2.1).trans (uh Hnow),(J0 (uh Hmv)).symm.trans (uh Hlv),(fun e=>by cases e),uh HF8,uh T8⟩
   | none=>
    have Hc2:Hid (Calls Tryz.prog 284 #[.agg (S6 b0 q0 b1 q1 b2 q2 b3 q3 b4 q4 m)] w5 fun e w'=>e= .returned (.tuple #[.int .i64 0,.int .i64 0,.bool false])/\Below w5.heap.size w5 w'):=Hc;clear Hc;have Hc:=Hc2;clear Hc2;have Hm0:=Z9 hmv;clear hmv;go_wp2_with fail;clear x0 x1 x2 x3 x4 x5;refine ck (uh Hc) fun w6 hb=> ?_;replace HF1:=Z9 ((uh HF1).below hb);replace ko:=bl ko hb;replace Tw:=Z9 ((uh Tw).trans (Two.of_below hb));clear hb Hc;go_wp2_with fail
    go_roundg 0
    case measure=>omega
    case rel=>exact ⟨M,false,rfl,rfl,uh Hsm,uh Hnow,uh Hlv,(fun _=>uh Hm0),uh HF1,uh Tw⟩
end Go.Proofs.YtamgfpdahadnfaaGreatDoor
