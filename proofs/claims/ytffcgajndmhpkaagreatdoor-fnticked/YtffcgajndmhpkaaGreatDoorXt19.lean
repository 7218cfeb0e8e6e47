/- Part 19 of what the proof rests on. No condition but those that a theorem names. -/
import Derived.Test.YtffcgajndmhpkaaGreatDoorXt18
import Derived.LaidEql
import Derived.Stop.Asserts
import Derived.RowKitTokens
import Derived.Shelf.RegionOpen
set_option maxHeartbeats 8000000
set_option maxRecDepth 100000
namespace Go.Proofs.YtffcgajndmhpkaaGreatDoor
open Go.ChangeShapes Go.WideShapes Go.ChangeAt Go.RowKit Go.Sort
set_option linter.unusedVariables false
theorem KG {ss:List Z3} {b:Int} : ∀ {k:Nat} {wk:Int} {wt:Bool},Yv ss b k=some (wk,wt)->(∀ i,i<k->(Z8 ss i).2.1=b->(Z8 ss i).1=3->(i:Int)=wk)/\(wk= -1\/ ∃ i:Nat,i<k/\wk=(i:Int)/\(Z8 ss i).2.1=b/\(Z8 ss i).1=3)
 | 0,wk,wt,h=>by
  cases h
  exact ⟨fun i hi=>by omega,.inl rfl⟩
 | k+1,wk,wt,h=>by
  unfold Yv at h
  cases hs:Yv ss b k with
  | none=>rw [hs] at h;cases h
  | some r=>
   obtain ⟨w0,t0⟩:=r
   rw [hs] at h
   simp only at h
   obtain ⟨i1,i2⟩:=KG hs
   split at h
   ·rename_i hb
    split at h
    ·rename_i h2
     cases h
     refine ⟨fun i hi hbi h3=> ?_,i2.imp id (fun ⟨i,hi,hr⟩=>⟨i,by omega,hr⟩)⟩
     by_cases e:i=k
     ·subst e;rw [h2] at h3;omega
     ·exact i1 i (by omega) hbi h3
    ·rename_i h2
     split at h
     ·cases h
     ·rename_i hw
      cases h
      have h3:(Z8 ss k).1=3:=by
       have:=hb.2
       unfold ZP at this
       simp only [Bool.or_eq_true,beq_iff_eq] at this
       omega
      refine ⟨fun i hi hbi h3'=> ?_,.inr ⟨k,by omega,rfl,hb.1,h3⟩⟩
      by_cases e:i=k
      ·rw [e]
      ·have:=i1 i (by omega) hbi h3'
       omega
   ·rename_i hb
    cases h
    refine ⟨fun i hi hbi h3=> ?_,i2.imp id (fun ⟨i,hi,hr⟩=>⟨i,by omega,hr⟩)⟩
    by_cases e:i=k
    ·subst e
     exact absurd ⟨hbi,by unfold ZP;rw [h3];rfl⟩ hb
    ·exact i1 i (by omega) hbi h3
theorem N6 {m:Z6} (h:ZO m=true) {b:Nat} (hb:b<m.desks.length):(∀ i,i<m.smiths.length->(Z8 m.smiths i).2.1=(b:Int)->(Z8 m.smiths i).1=3->(i:Int)=(Z8 m.desks b).2.1)/\((Z8 m.desks b).2.1= -1\/ ∃ i:Nat,i<m.smiths.length/\(Z8 m.desks b).2.1=(i:Int)/\(Z8 m.smiths i).2.1=(b:Int)/\(Z8 m.smiths i).1=3):=by
 unfold ZO at h
 simp only [Bool.and_eq_true] at h
 have hk:=List.all_eq_true.1 h.2 b (List.mem_range.2 hb)
 unfold YL at hk
 cases hs:Yv m.smiths (b:Int) m.smiths.length with
 | none=>rw [hs] at hk;cases hk
 | some r=>
  obtain ⟨wk,wt⟩:=r
  rw [hs] at hk
  simp only [Bool.and_eq_true,beq_iff_eq] at hk
  rw [hk.1]
  exact KG hs
theorem Py {m:Z6} (h:Loose m) {k:Nat} (hk:k<m.smiths.length) (hs:(Z8 m.smiths k).1 ≠ 0):∃ bn:Nat,(Z8 m.smiths k).2.1=(bn:Int)/\bn<m.desks.length:=by
 obtain ⟨p,_,hb⟩:=h.limits hk hs
 obtain ⟨⟨st,be,rk,my,gu,lo,hi,hd,ca,ut,wk⟩,hrk⟩:∃ d,Z8 m.smiths k=d:=⟨_,rfl⟩
 rw [hrk] at p hb
 obtain ⟨_,⟨b0,b1⟩,_⟩:=Zu p
 refine ⟨be.toNat,?_,?_⟩
 ·rw [hrk];show be=_;omega
 ·have hb':be<(m.desks.length:Int):=hb
  omega
def chF (m:Z6) (n:Int) (s:Z3):Z3:=if s.1=3 then (ZH s (n*ZI m s.2.1)).1 else s
def chS (m:Z6) (n:Int) (b:Nat) (s:Z3):Z3:=if s.1=3/\s.2.1<(b:Int) then (ZH s (n*ZI m s.2.1)).1 else s
def fdS (m:Z6) (n:Int) (s:Z3):Z3:=Pl (chF m n s) (ZZ (Re (chF m n s)) (if s.1=3 then ZI m s.2.1 else 0) n)
structure Ch (m:Z6) (n:Int) (b:Nat) (ss:List Z3):Prop where
 len:ss.length=m.smiths.length
 one:∀ i,i<m.smiths.length->Z8 ss i=chS m n b (Z8 m.smiths i)
 ok:∀ i,i<m.smiths.length->(Z8 m.smiths i).1=3->(Z8 m.smiths i).2.1<(b:Int)->(ZH (Z8 m.smiths i) (n*ZI m (Z8 m.smiths i).2.1)).2=true
structure Fd (m:Z6) (n:Int) (k:Nat) (ss:List Z3):Prop where
 len:ss.length=m.smiths.length
 one:∀ i,i<m.smiths.length->Z8 ss i=if i<k then fdS m n (Z8 m.smiths i) else chF m n (Z8 m.smiths i)
 ok:∀ i,i<m.smiths.length->(Z8 m.smiths i).1=3->(ZH (Z8 m.smiths i) (n*ZI m (Z8 m.smiths i).2.1)).2=true
theorem CK {m:Z6} (hm:ZO m=true) (n:Int):Ch m n 0 m.smiths:=by
 have hb:∀ i,i<m.smiths.length->(Z8 m.smiths i).1=3-> ¬ (Z8 m.smiths i).2.1<((0:Nat):Int):=fun i hi h3=>by
  obtain ⟨bn,e,_⟩:=Py (ZT hm) hi (by omega)
  omega
 refine ⟨rfl,fun i hi=> ?_,fun i hi h3 hlt=>absurd hlt (hb i hi h3)⟩
 unfold chS
 rw [if_neg (fun h=>hb i hi h.1 h.2)]
theorem CI {m:Z6} (hm:ZO m=true) {n:Int} {b:Nat} (hb:b<m.desks.length) {ss:List Z3} (h:Ch m n b ss) (hw:(Z8 m.desks b).2.1= -1):Ch m n (b+1) ss:=by
 have hn:∀ i,i<m.smiths.length->(Z8 m.smiths i).1=3->((Z8 m.smiths i).2.1<((b+1:Nat):Int) ↔ (Z8 m.smiths i).2.1<(b:Int)):=fun i hi h3=>by
  have:=(N6 hm hb).1 i hi
  constructor
  ·intro hlt
   by_cases e:(Z8 m.smiths i).2.1=(b:Int)
   ·have:=this e h3;omega
   ·omega
  ·intro hlt;omega
 refine ⟨h.len,fun i hi=> ?_,fun i hi h3 hlt=>h.ok i hi h3 ((hn i hi h3).1 hlt)⟩
 rw [h.one i hi]
 unfold chS
 by_cases h3:(Z8 m.smiths i).1=3
 ·by_cases e:(Z8 m.smiths i).2.1<(b:Int)
  ·rw [if_pos ⟨h3,e⟩,if_pos ⟨h3,(hn i hi h3).2 e⟩]
  ·rw [if_neg (fun x=>e x.2),if_neg (fun x=>e ((hn i hi h3).1 x.2))]
 ·rw [if_neg (fun x=>h3 x.1),if_neg (fun x=>h3 x.1)]
theorem Bv {m:Z6} {n:Int} {b k:Nat} {ss:List Z3} (h:Ch m n b ss) (hk:k<m.smiths.length) (hbk:(Z8 m.smiths k).2.1=(b:Int)):Z8 ss k=Z8 m.smiths k:=by
 rw [h.one k hk]
 unfold chS
 rw [if_neg (fun x=>by have:=x.2;omega)]
theorem CJ {m:Z6} (hm:ZO m=true) {n:Int} {b k:Nat} (hb:b<m.desks.length) {ss:List Z3} (h:Ch m n b ss) (hk:k<m.smiths.length) (hw:(Z8 m.desks b).2.1=(k:Int)) (hbk:(Z8 m.smiths k).2.1=(b:Int)) (h3:(Z8 m.smiths k).1=3) {y:Z3} (hy:ZH (Z8 m.smiths k) (n*ZI m (b:Int))=(y,true)):Ch m n (b+1) (ss.set k y):=by
 have hu:∀ i,i<m.smiths.length->(Z8 m.smiths i).1=3->i ≠ k->((Z8 m.smiths i).2.1<((b+1:Nat):Int) ↔ (Z8 m.smiths i).2.1<(b:Int)):=fun i hi h3 hne=>by
  have:=(N6 hm hb).1 i hi
  constructor
  ·intro hlt
   by_cases e:(Z8 m.smiths i).2.1=(b:Int)
   ·have:=this e h3;omega
   ·omega
  ·intro hlt;omega
 refine ⟨by rw [List.length_set];exact h.len,fun i hi=> ?_,fun i hi h3' hlt=> ?_⟩
 ·rw [ZK (by rw [h.len];exact hk)]
  by_cases e:i=k
  ·subst e
   rw [if_pos rfl]
   unfold chS
   rw [if_pos ⟨h3,by omega⟩,hbk,hy]
  ·rw [if_neg e,h.one i hi]
   unfold chS
   by_cases h3':(Z8 m.smiths i).1=3
   ·by_cases e':(Z8 m.smiths i).2.1<(b:Int)
    ·rw [if_pos ⟨h3',e'⟩,if_pos ⟨h3',(hu i hi h3' e).2 e'⟩]
    ·rw [if_neg (fun x=>e' x.2),if_neg (fun x=>e' ((hu i hi h3' e).1 x.2))]
   ·rw [if_neg (fun x=>h3' x.1),if_neg (fun x=>h3' x.1)]
 ·by_cases e:i=k
  ·subst e;rw [hbk,hy]
  ·exact h.ok i hi h3' ((hu i hi h3' e).1 hlt)
theorem FH {m:Z6} {n:Int} {k:Nat} (hk:k<m.smiths.length) (h:WS m n (Z8 m.smiths k)=none):Zs m n m.smiths.length=none:=by
 have hn:Zs m n (k+1)=none:=by
  unfold Zs
  cases ht:Zs m n k with
  | none=>rfl
  | some ss=>rw [h]
 have:=Tx (m.smiths.length-(k+1)) hn
 rwa [show k+1+(m.smiths.length-(k+1))=m.smiths.length by omega] at this
theorem CH {m:Z6} {n:Int} {b k:Nat} (hk:k<m.smiths.length) (hbk:(Z8 m.smiths k).2.1=(b:Int)) (h3:(Z8 m.smiths k).1=3) {y:Z3} (hy:ZH (Z8 m.smiths k) (n*ZI m (b:Int))=(y,false)):Zs m n m.smiths.length=none:=by
 refine FH hk ?_
 unfold WS
 rw [if_neg (by omega),if_pos h3,hbk,hy]
 rfl
theorem CN {m:Z6} (hm:ZO m=true) {n:Int} {ss:List Z3} (h:Ch m n m.desks.length ss):Fd m n 0 ss:=by
 have hb:∀ i,i<m.smiths.length->(Z8 m.smiths i).1=3->(Z8 m.smiths i).2.1<(m.desks.length:Int):=fun i hi h3=>by
  obtain ⟨bn,e,_⟩:=Py (ZT hm) hi (by omega)
  omega
 refine ⟨h.len,fun i hi=> ?_,fun i hi h3=>h.ok i hi h3 (hb i hi h3)⟩
 rw [if_neg (by omega),h.one i hi]
 unfold chS chF
 by_cases h3:(Z8 m.smiths i).1=3
 ·rw [if_pos ⟨h3,hb i hi h3⟩,if_pos h3]
 ·rw [if_neg (fun x=>h3 x.1),if_neg h3]
theorem Bw {m:Z6} {n:Int} {k:Nat} {ss:List Z3} (h:Fd m n k ss) (hk:k<m.smiths.length):Z8 ss k=chF m n (Z8 m.smiths k):=by rw [h.one k hk,if_neg (by omega)]
theorem CM {m:Z6} {n:Int} {k:Nat} {ss:List Z3} (h:Fd m n k ss) (hk:k<m.smiths.length):Fd m n (k+1) (ss.set k (fdS m n (Z8 m.smiths k))):=by
 refine ⟨by rw [List.length_set];exact h.len,fun i hi=> ?_,h.ok⟩
 rw [ZK (by rw [h.len];exact hk)]
 by_cases e:i=k
 ·subst e;rw [if_pos rfl,if_pos (by omega)]
 ·rw [if_neg e,h.one i hi]
  by_cases e':i<k
  ·rw [if_pos e',if_pos (by omega)]
  ·rw [if_neg e',if_neg (by omega)]
theorem P7:∀ n:Nat,Vb 0 n 0=0
 | 0=>rfl
 | n+1=>by unfold Vb;exact P7 n
theorem Es {m:Z6} (hm:ZO m=true) {n:Int} (hn:inB n 1 20=true) {i:Nat} (hi:i<m.smiths.length) (hok:(Z8 m.smiths i).1=3->(ZH (Z8 m.smiths i) (n*ZI m (Z8 m.smiths i).2.1)).2=true):WS m n (Z8 m.smiths i)=some (fdS m n (Z8 m.smiths i)):=by
 have hn1:=ZU hn
 by_cases h0:(Z8 m.smiths i).1=0
 ·have hz:Z8 m.smiths i=XV:=by
   rcases Yl.1 ((ZT hm).here i hi) with e | e
   ·exact e
   ·have e1:=e.1
    rw [Tn h0] at e1
    cases e1
  rw [hz]
  unfold WS fdS chF
  rw [if_pos (show XV.1=0 from rfl),if_neg (show ¬ XV.1=3 by decide)]
  rw [show (if XV.1=3 then ZI m XV.2.1 else (0:Int))=0 from if_neg (by decide)]
  have:ZZ (Re XV) 0 n=0:=by
   unfold ZZ
   rw [show inB (Re XV) 0 1024=true from rfl,show inB 0 0 1024=true from rfl,Zp (x:=n) (by omega) (by omega)]
   exact P7 _
  rw [this]
  rfl
 by_cases h3:(Z8 m.smiths i).1=3
 ·have:=hok h3
  unfold WS fdS chF
  rw [if_neg h0,if_pos h3,if_pos this,if_pos h3,if_pos h3]
 ·unfold WS fdS chF
  rw [if_neg h0,if_neg h3,if_neg h3,if_neg h3]
theorem LK {m:Z6} (hm:ZO m=true) {n:Int} (hn:inB n 1 20=true) {ss:List Z3} (h:Fd m n m.smiths.length ss):Zs m n m.smiths.length=some ss:=by
 have hx:∀ k,k<=m.smiths.length-> ∃ ts,Zs m n k=some ts/\ ∀ i,i<k->Z8 ts i=fdS m n (Z8 m.smiths i):=by
  intro k
  induction k with
  | zero=>intro _;exact ⟨_,rfl,fun i hi=>by omega⟩
  | succ k ih=>
   intro hk
   obtain ⟨ts,e,ht⟩:=ih (by omega)
   have hl:=(Xv e).1
   refine ⟨ts.set k (fdS m n (Z8 m.smiths k)),?_,fun i hi=> ?_⟩
   ·unfold Zs
    rw [e]
    simp only
    rw [Es hm hn (by omega) (h.ok k (by omega))]
   ·rw [ZK (by omega)]
    by_cases e':i=k
    ·subst e';rw [if_pos rfl]
    ·rw [if_neg e',ht i (by omega)]
 obtain ⟨ts,e,ht⟩:=hx _ (Nat.le_refl _)
 rw [e]
 congr 1
 refine KE (by rw [h.len,(Xv e).1]) (fun i hi=> ?_)
 rw [(Xv e).1] at hi
 rw [ht i hi,h.one i hi,if_pos hi]
def Ww (m:Z6) (n:Int):Int:=if inB n 1 20 then (match Zs m n m.smiths.length with
 | none=>4
 | some ss=>if Ze (XT m n ss) then 0 else 4) else 3
def VU (m:Z6) (n:Int):Z6:=match Zs m n m.smiths.length with
 | none=>m
 | some ss=>XT m n ss
theorem Da (m:Z6) (n:Int):Xw m n=P6 m (VU m n) (Ww m n):=by
 cases h:ZO m
 ·rw [Jt h];unfold Xw;rw [h];rfl
 unfold Xw Ww VU
 rw [h]
 simp only [if_true]
 cases hn:inB n 1 20
 ·rw [if_neg (by simp),if_neg (by simp),Pu h _ (by omega)]
 rw [if_pos rfl,if_pos rfl]
 cases ht:Zs m n m.smiths.length with
 | none=>simp only;rw [Pu h _ (by omega)]
 | some ss=>
  simp only
  cases hl:Ze (XT m n ss)
  ·rw [if_neg (by simp),if_neg (by simp),Pu h _ (by omega)]
  ·rw [if_pos rfl,if_pos rfl,Ju h,FO (Th hl)]
open Go.ChangeShapes Go.WideShapes Go.ChangeAt Go.RowKit
set_option linter.unusedSimpArgs false
abbrev Zv (a:Addr):Value:= .iface 320 (.pointer (some a))
abbrev QV (b:Nat):Value:= .iface 122 (.pointer (some ⟨b,0,none⟩))
abbrev rty (t:Nat):Value:= .iface 222 (.agg #[.pointer (some ⟨6,t,none⟩)])
theorem tyE (v:Value) (w:World):(callFunc 199 #[.iface 320 v]).run Tryz.prog w= .ok (.value (rty 320)) w:=by
 rw [@run_callFunc_extern Tryz.prog 199 _ Extern.ReflectliteType.typeOf Tryz.func199 (by kernel_rfl) (by kernel_rfl) (by kernel_rfl) (by kernel_rfl)]
 kernel_rfl
theorem tyR (v:Value) (w:World):(callFunc 199 #[.iface 122 v]).run Tryz.prog w= .ok (.value (rty 122)) w:=by
 rw [@run_callFunc_extern Tryz.prog 199 _ Extern.ReflectliteType.typeOf Tryz.func199 (by kernel_rfl) (by kernel_rfl) (by kernel_rfl) (by kernel_rfl)]
 kernel_rfl
theorem BZ (v : Value) (w : World) : (method 464 222 v "Comparable").run Tryz.prog w = .ok (361, v) w := by kernel_rfl
theorem BN (w:World):(callFunc 361 #[.agg #[.pointer (some ⟨6,320,none⟩)]]).run Tryz.prog w= .ok (.value (.bool true)) w:=by
 rw [@run_callFunc_extern Tryz.prog 361 _ (Extern.ReflectliteType.method fun t => do Extern.Rtype.noPackHeld "Comparable" t; pure (.bool (← typeInfo t).comparable)) Tryz.func361 (by kernel_rfl) (by kernel_rfl) (by kernel_rfl) (by kernel_rfl)]
 kernel_rfl
theorem G5:(Tryz.prog.info? 320).map (·.comparable)=some true:=by kernel_rfl
theorem G6:(Tryz.prog.info? 351).map (·.size)=some 1:=by kernel_rfl
theorem Cx (v:Value) (xT:TypeId) (w:World):(Instr.typeAssert (.iface 320 v) xT 265 true).run Tryz.prog w= .ok (.tuple #[.nilIface,.bool false]) w:=run_typeAssert_lacksB Tryz.underlying265 (by kernel_rfl) (by kernel_rfl) v xT w
theorem QR (v:Value) (xT:TypeId) (w:World):(Instr.typeAssert (.iface 320 v) xT 230 true).run Tryz.prog w= .ok (.tuple #[.nilIface,.bool false]) w:=run_typeAssert_lacksB Tryz.underlying230 (by kernel_rfl) (by kernel_rfl) v xT w
theorem Sc (v:Value) (xT:TypeId) (w:World):(Instr.typeAssert (.iface 320 v) xT 232 true).run Tryz.prog w= .ok (.tuple #[.nilIface,.bool false]) w:=run_typeAssert_lacksB Tryz.underlying232 (by kernel_rfl) (by kernel_rfl) v xT w
theorem Cy (v:Value) (xT:TypeId) (w:World):(Instr.typeAssert (.iface 122 v) xT 265 true).run Tryz.prog w= .ok (.tuple #[.nilIface,.bool false]) w:=run_typeAssert_lacksB Tryz.underlying265 (by kernel_rfl) (by kernel_rfl) v xT w
theorem Oi (v:Value) (xT:TypeId) (w:World):(Instr.typeAssert (.iface 122 v) xT 230 true).run Tryz.prog w= .ok (.tuple #[.iface 122 v,.bool true]) w:=run_typeAssert_hasB Tryz.underlying230 (by kernel_rfl) v xT w
theorem Gq (v : Value) (w : World) : (method 464 122 v "Unwrap").run Tryz.prog w = .ok (343, v) w := by kernel_rfl
theorem Rx {a b:Addr} {ca cb:Array Value} {ta tb:TypeId} (w:World) (hne:a ≠ b) (ha:w.heap[a.block]?=some (.cells ca ta (0,0))) (hb:w.heap[b.block]?=some (.cells cb tb (0,0))):Calls Tryz.prog 146 #[Zv a,Zv b] w fun e w'=>e= .returned (.bool false)/\w'=w:=by
 obtain ⟨i,hi,hcmp⟩:=Option.map_eq_some_iff.1 G5
 obtain ⟨j,hj,hjs⟩:=Option.map_eq_some_iff.1 G6
 have tT:=tyE
 have cT:=BN
 have mR:=BZ
 have nE:=Cx
 have uE:=QR
 have vE:=Sc
 have heq:=run_eql_iface_ptr_other (P:=Tryz.prog) w Tryz.underlying74 Tryz.underlying320 hi hcmp hj (by rw [hjs];decide) hne ha hb
 go_enter Tryz.func146,Tryz.ntmps146
 go_wp2
 refine wp_loop_rounds 1 ?_
 rw [rounds_succ]
 go_wp2
 go_ret
 exact ⟨rfl,rfl⟩
theorem VM (pb:Nat) (b:Addr) (w:World) (h1:w.cell? ⟨pb,6,none⟩=some (Zv b)):Calls Tryz.prog 146 #[QV pb,Zv b] w fun e w'=>e= .returned (.bool true)/\w'=w:=by
 obtain ⟨i,hi,hcmp⟩:=Option.map_eq_some_iff.1 G5
 obtain ⟨j,hj,hjs⟩:=Option.map_eq_some_iff.1 G6
 have tT:=tyE
 have cT:=BN
 have mR:=BZ
 have nW:=Cy
 have uW:=Oi
 have mU:=Gq
 have heq:=run_eql_iface_ptr_same (P:=Tryz.prog) w b Tryz.underlying74 Tryz.underlying320 hi hcmp hj
 have hty:=run_eql_iface_types (P:=Tryz.prog) 122 320 (.pointer (some ⟨pb,0,none⟩)) (.pointer (some b)) Tryz.underlying74 (by decide) w
 go_enter Tryz.func146,Tryz.ntmps146
 go_wp2
 refine wp_loop_rounds 2 ?_
 rw [rounds_succ]
 go_wp2
 rw [rounds_succ]
 go_wp2
 go_ret
 exact ⟨rfl,rfl⟩
theorem YW (pb:Nat) {a b:Addr} {ca cb:Array Value} {ta tb:TypeId} (w:World) (h1:w.cell? ⟨pb,6,none⟩=some (Zv a)) (hne:a ≠ b) (ha:w.heap[a.block]?=some (.cells ca ta (0,0))) (hb:w.heap[b.block]?=some (.cells cb tb (0,0))):Calls Tryz.prog 146 #[QV pb,Zv b] w fun e w'=>e= .returned (.bool false)/\w'=w:=by
 obtain ⟨i,hi,hcmp⟩:=Option.map_eq_some_iff.1 G5
 obtain ⟨j,hj,hjs⟩:=Option.map_eq_some_iff.1 G6
 have tT:=tyE
 have cT:=BN
 have mR:=BZ
 have nE:=Cx
 have uE:=QR
 have vE:=Sc
 have nW:=Cy
 have uW:=Oi
 have mU:=Gq
 have heq:=run_eql_iface_ptr_other (P:=Tryz.prog) w Tryz.underlying74 Tryz.underlying320 hi hcmp hj (by rw [hjs];decide) hne ha hb
 have hty:=run_eql_iface_types (P:=Tryz.prog) 122 320 (.pointer (some ⟨pb,0,none⟩)) (.pointer (some b)) Tryz.underlying74 (by decide) w
 go_enter Tryz.func146,Tryz.ntmps146
 go_wp2
 refine wp_loop_rounds 2 ?_
 rw [rounds_succ]
 go_wp2
 rw [rounds_succ]
 go_wp2
 go_ret
 exact ⟨rfl,rfl⟩
abbrev tgt (b:Nat):Value:= .iface 124 (.pointer (some ⟨b,0,none⟩))
abbrev Le (b:Nat):Value:= .agg #[.pointer (some ⟨6,124,none⟩),.pointer (some ⟨b,0,none⟩),.int .u64 150]
abbrev FQ (b:Nat):Value:= .agg #[.pointer (some ⟨6,122,none⟩),.pointer (some ⟨b,0,none⟩),.int .u64 406]
abbrev Ey (b:Nat):Value:= .agg #[.pointer (some ⟨6,122,none⟩),.pointer (some ⟨b,0,none⟩),.int .u64 150]
open Extern.ReflectliteValue in
theorem BH (b:Nat) (w:World):(callFunc 142 #[tgt b]).run Tryz.prog w= .ok (.value (Le w.heap.size)) (w.alloc (.cells #[.pointer (some ⟨b,0,none⟩)] 124)):=by
 rw [@run_callFunc_extern Tryz.prog 142 _ (fun args=>unpack (args.getD 0 (.tuple #[]))) Tryz.func142 (by kernel_rfl) (by kernel_rfl) (by kernel_rfl) (by kernel_rfl)]
 kernel_rfl
open Extern.ReflectliteValue in
theorem Bq (b:Nat) (w:World):(callFunc 142 #[QV b]).run Tryz.prog w= .ok (.value (Ey w.heap.size)) (w.alloc (.cells #[.pointer (some ⟨b,0,none⟩)] 122)):=by
 rw [@run_callFunc_extern Tryz.prog 142 _ (fun args=>unpack (args.getD 0 (.tuple #[]))) Tryz.func142 (by kernel_rfl) (by kernel_rfl) (by kernel_rfl) (by kernel_rfl)]
 kernel_rfl
open Extern.ReflectliteValue in
theorem CA (b:Nat) (w:World):(callFunc 143 #[Le b]).run Tryz.prog w= .ok (.value (rty 124)) w:=by
 rw [@run_callFunc_extern Tryz.prog 143 _ (methodAny (valueError "reflectlite.Value.Type" 0) fun t _ _ _ => Extern.ReflectliteType.toType t) Tryz.func143 (by kernel_rfl) (by kernel_rfl) (by kernel_rfl) (by kernel_rfl)]
 kernel_rfl
theorem Cv (p : Value) (w : World) : (method 464 222 (.agg #[p]) "Kind").run Tryz.prog w = .ok (338, p) w := by kernel_rfl
theorem Ct (v : Value) (w : World) : (method 464 222 v "Elem").run Tryz.prog w = .ok (362, v) w := by kernel_rfl
theorem Cu (v : Value) (w : World) : (method 464 222 v "Implements").run Tryz.prog w = .ok (363, v) w := by kernel_rfl
theorem Cs (v : Value) (w : World) : (method 464 222 v "AssignableTo").run Tryz.prog w = .ok (360, v) w := by kernel_rfl
theorem Cq (w:World):(callFunc 338 #[.pointer (some ⟨6,124,none⟩)]).run Tryz.prog w= .ok (.value (.int .u8 22)) w:=by
 rw [@run_callFunc_extern Tryz.prog 338 _ (Extern.ReflectliteType.abiMethod fun t=>do pure (.int .u8 (<-Extern.Rtype.kind t))) Tryz.func338 (by kernel_rfl) (by kernel_rfl) (by kernel_rfl) (by kernel_rfl)]
 kernel_rfl
theorem Cr (w:World):(callFunc 338 #[.pointer (some ⟨6,122,none⟩)]).run Tryz.prog w= .ok (.value (.int .u8 22)) w:=by
 rw [@run_callFunc_extern Tryz.prog 338 _ (Extern.ReflectliteType.abiMethod fun t=>do pure (.int .u8 (<-Extern.Rtype.kind t))) Tryz.func338 (by kernel_rfl) (by kernel_rfl) (by kernel_rfl) (by kernel_rfl)]
 kernel_rfl
theorem Cn (w:World):(callFunc 362 #[.agg #[.pointer (some ⟨6,124,none⟩)]]).run Tryz.prog w= .ok (.value (rty 122)) w:=by
 rw [@run_callFunc_extern Tryz.prog 362 _ (Extern.ReflectliteType.method Extern.ReflectliteType.elem) Tryz.func362 (by kernel_rfl) (by kernel_rfl) (by kernel_rfl) (by kernel_rfl)]
 kernel_rfl
theorem Cp (w:World):(callFunc 363 #[.agg #[.pointer (some ⟨6,122,none⟩)],rty 74]).run Tryz.prog w= .ok (.value (.bool true)) w:=by
 rw [@run_callFunc_extern Tryz.prog 363 _ (Extern.ReflectliteType.relation "Implements" Extern.ReflectliteType.implements_) Tryz.func363 (by kernel_rfl) (by kernel_rfl) (by kernel_rfl) (by kernel_rfl)]
 kernel_rfl
theorem Bt (w:World):(callFunc 360 #[.agg #[.pointer (some ⟨6,320,none⟩)],rty 122]).run Tryz.prog w= .ok (.value (.bool false)) w:=by
 rw [@run_callFunc_extern Tryz.prog 360 _ (Extern.ReflectliteType.relation "AssignableTo" Extern.ReflectliteType.assignableTo) Tryz.func360 (by kernel_rfl) (by kernel_rfl) (by kernel_rfl) (by kernel_rfl)]
 kernel_rfl
theorem Bu (w:World):(callFunc 360 #[.agg #[.pointer (some ⟨6,122,none⟩)],rty 122]).run Tryz.prog w= .ok (.value (.bool true)) w:=by
 rw [@run_callFunc_extern Tryz.prog 360 _ (Extern.ReflectliteType.relation "AssignableTo" Extern.ReflectliteType.assignableTo) Tryz.func360 (by kernel_rfl) (by kernel_rfl) (by kernel_rfl) (by kernel_rfl)]
 kernel_rfl
theorem BA (v:Value) (xT:TypeId) (w:World):(Instr.typeAssert (.iface 320 v) xT 227 true).run Tryz.prog w= .ok (.tuple #[.nilIface,.bool false]) w:=run_typeAssert_lacksB Tryz.underlying227 (by kernel_rfl) (by kernel_rfl) v xT w
open Extern.ReflectliteValue in
theorem BG (b:Nat) (x:Addr) (w:World) (hc:w.cell? ⟨b,0,none⟩=some (.pointer (some x))):(callFunc 144 #[Le b]).run Tryz.prog w= .ok (.value (.bool false)) w:=by
 rw [@run_callFunc_extern Tryz.prog 144 _ (Extern.ReflectliteValue.method (valueError "reflectlite.Value.IsNil" 0) isNil) Tryz.func144 (by kernel_rfl) (by kernel_rfl) (by kernel_rfl) (by kernel_rfl)]
 have hp:(parts (Le b)).run Tryz.prog w= .ok (some (124,⟨b,0,none⟩,150)) w:=by kernel_rfl
 have ha:(isAgg 124).run Tryz.prog w= .ok false w:=by kernel_rfl
 have hl:(loadVar 124 ⟨b,0,none⟩).run Tryz.prog w= .ok (.pointer (some x)) w:=by simp [loadVar,ha,run_load,hc]
 show ((do match ← parts (Le b) with | none => valueError "reflectlite.Value.IsNil" 0 | some (t, a, fl) => isNil t a fl (fl % 32) : Sem Value).run Tryz.prog w).andThen _ = _
 simp [hp,isNil,hl]
open Extern.ReflectliteValue in
theorem BF (b r:Nat) (w:World) (hc:w.cell? ⟨b,0,none⟩=some (.pointer (some ⟨r,0,none⟩))):(callFunc 200 #[Le b]).run Tryz.prog w= .ok (.value (FQ r)) w:=by
 rw [@run_callFunc_extern Tryz.prog 200 _ (Extern.ReflectliteValue.method (valueError "reflectlite.Value.Elem" 0) elem) Tryz.func200 (by kernel_rfl) (by kernel_rfl) (by kernel_rfl) (by kernel_rfl)]
 have hp:(parts (Le b)).run Tryz.prog w= .ok (some (124,⟨b,0,none⟩,150)) w:=by kernel_rfl
 have ha:(isAgg 124).run Tryz.prog w= .ok false w:=by kernel_rfl
 have hl:(loadVar 124 ⟨b,0,none⟩).run Tryz.prog w= .ok (.pointer (some ⟨r,0,none⟩)) w:=by simp [loadVar,ha,run_load,hc]
 have he:(Extern.Rtype.elem? 124).run Tryz.prog w= .ok (some 122) w:=by kernel_rfl
 have hm:(mk 122 ⟨r,0,none⟩ flagAddr).run Tryz.prog w= .ok (FQ r) w:=by kernel_rfl
 show ((do match ← parts (Le b) with | none => valueError "reflectlite.Value.Elem" 0 | some (t, a, fl) => elem t a fl (fl % 32) : Sem Value).run Tryz.prog w).andThen _ = _
 simp [hp,elem,hl,he,hm]
open Extern.ReflectliteValue in
theorem Br (b r p:Nat) (w:World) (hc:w.cell? ⟨b,0,none⟩=some (.pointer (some ⟨p,0,none⟩))) (hr:w.cell? ⟨r,0,none⟩=some (.pointer none)) (hzr:w.frozen? ⟨r,0,none⟩=false):(callFunc 201 #[FQ r,Ey b]).run Tryz.prog w= .ok (.value (.tuple #[])) (w.setCell ⟨r,0,none⟩ (.pointer (some ⟨p,0,none⟩))):=by
 rw [@run_callFunc_extern Tryz.prog 201 _ Extern.ReflectliteValue.set Tryz.func201 (by kernel_rfl) (by kernel_rfl) (by kernel_rfl) (by kernel_rfl)]
 have hp:(parts (FQ r)).run Tryz.prog w= .ok (some (122,⟨r,0,none⟩,406)) w:=by kernel_rfl
 have hq:(parts (Ey b)).run Tryz.prog w= .ok (some (122,⟨b,0,none⟩,150)) w:=by kernel_rfl
 have ha:(isAgg 122).run Tryz.prog w= .ok false w:=by kernel_rfl
 have hl:(loadVar 122 ⟨b,0,none⟩).run Tryz.prog w= .ok (.pointer (some ⟨p,0,none⟩)) w:=by simp [loadVar,ha,run_load,hc]
 have hd:(Extern.Rtype.directlyAssignable 122 122).run Tryz.prog w= .ok true w:=by kernel_rfl
 have hs:(storeVar 122 ⟨r,0,none⟩ (.pointer (some ⟨p,0,none⟩))).run Tryz.prog w= .ok () (w.setCell ⟨r,0,none⟩ (.pointer (some ⟨p,0,none⟩))):=by
  have hz:(sizeOf 122).run Tryz.prog w= .ok 1 w:=by kernel_rfl
  simp [storeVar,hz,storeCells,Value.cells]
  show (store ⟨r,0,none⟩ (.pointer (some ⟨p,0,none⟩))).run Tryz.prog w=_
  rw [run_store _ _ _ _ _ rfl,hr]
  simp [hzr]
 have h0:(Extern.ReflectliteValue.set #[FQ r,Ey b]).run Tryz.prog w= .ok (.tuple #[]) (w.setCell ⟨r,0,none⟩ (.pointer (some ⟨p,0,none⟩))):=by
  unfold Extern.ReflectliteValue.set
  show Sem.run Tryz.prog (parts (FQ r) >>=_) w=_
  rw [Sem.run_bind,hp]
  simp only [Result.andThen_ok]
  show Sem.run Tryz.prog (parts (Ey b) >>=_) w=_
  rw [Sem.run_bind,hq]
  simp only [Result.andThen_ok]
  simp [hl,hd,hs,flagAddr]
 rw [h0];rfl
theorem BI (v:Value) (w:World):Calls Tryz.prog 93 #[.nilIface,v] w fun e w'=>e= .returned (.bool false)/\w'=w:=by
 go_enter Tryz.func93,Tryz.ntmps93
 go_wp2
 go_ret
 exact ⟨rfl,rfl⟩
abbrev asW (b:Nat) (w:World):World:=(w.alloc (.cells #[.pointer (some ⟨b,0,none⟩)] 124)).alloc (.cells #[.pointer (some ⟨6,124,none⟩),.pointer (some ⟨w.heap.size,0,none⟩),.int .u64 150] 175)
theorem Ja (b:Nat) (w:World):(asW b w).cell? ⟨w.heap.size,0,none⟩=some (.pointer (some ⟨b,0,none⟩)):=by go_simp
theorem Sy (b:Nat) (w:World):Below w.heap.size w (asW b w):=((ba _ _)).alloc (by simp) _
theorem Bs (a:Addr) (b:Nat) (w:World) (hT:w.cell? ⟨2,0,none⟩=some (rty 74)):Calls Tryz.prog 93 #[Zv a,tgt b] w fun e w'=>e= .returned (.bool false)/\Below w.heap.size w w':=by
 have h1:=BH
 have h2:=CA
 have h3:=Cv
 have h4:=Cq
 have h5:=Cr
 have h6:=Ct
 have h7:=Cn
 have h8:=Cu
 have h9:=Cp
 have h10:=BG w.heap.size ⟨b,0,none⟩ (asW b w) (Ja b w)
 have hT2:(asW b w).cell? ⟨2,0,none⟩=some (rty 74):=((Sy b w).cell (World.block_lt_of_cell? _ _ hT)).trans hT
 have t1:=tyE
 have t2:=Cs
 have t3:=Bt
 have t4:=BA
 have uE:=QR
 have vE:=Sc
 go_enter Tryz.func93,Tryz.ntmps93
 go_wp2
 refine wp_loop_rounds 1 ?_
 rw [rounds_succ]
 go_wp2
 go_ret
 exact ⟨rfl,((Sy b w).alloc (by simp;omega) _)⟩
theorem EF {n:Nat} {w W:World} {b:Nat} {v:Value} (h:Below n w W) (hn:n<=b):Below n w (W.setCell ⟨b,0,none⟩ v):=Below.setCell h hn v
abbrev asX (b:Nat) (w:World):World:=(asW b w).alloc (.cells #[.pointer (some ⟨6,124,none⟩),.pointer (some ⟨w.heap.size,0,none⟩),.int .u64 150] 175)
abbrev asY (b p:Nat) (w:World):World:=(asX b w).alloc (.cells #[.pointer (some ⟨p,0,none⟩)] 122)
theorem De (b:Nat) (w:World):(asX b w).cell? ⟨w.heap.size,0,none⟩=some (.pointer (some ⟨b,0,none⟩)):=by go_simp
theorem Df (b:Nat) (w:World):(asX b w).heap.size=w.heap.size+1+1+1:=by simp
theorem Dg (b p:Nat) (w:World):(asY b p w).cell? ⟨w.heap.size+1+1+1,0,none⟩=some (.pointer (some ⟨p,0,none⟩)):=by go_simp
theorem Qx (b p:Nat) (w:World):Below w.heap.size w (asY b p w):=((Sy b w).alloc (by simp;omega) _).alloc (by simp;omega) _
theorem BJ (b p:Nat) (w:World) (hT:w.cell? ⟨2,0,none⟩=some (rty 74)) (hb:w.cell? ⟨b,0,none⟩=some (.pointer none)) (hz:w.frozen? ⟨b,0,none⟩=false):Calls Tryz.prog 93 #[QV p,tgt b] w fun e w'=>e= .returned (.bool true)/\w'.cell? ⟨b,0,none⟩=some (.pointer (some ⟨p,0,none⟩))/\ ∀ n,n<=b->n<=w.heap.size->Below n w w':=by
 have h1:=BH
 have h2:=CA
 have h3:=Cv
 have h4:=Cq
 have h5:=Cr
 have h6:=Ct
 have h7:=Cn
 have h8:=Cu
 have h9:=Cp
 have h10:=BG w.heap.size ⟨b,0,none⟩ (asW b w) (Ja b w)
 have hT2:(asW b w).cell? ⟨2,0,none⟩=some (rty 74):=((Sy b w).cell (World.block_lt_of_cell? _ _ hT)).trans hT
 have t1:=tyR
 have t2:=Cs
 have t3:=Bu
 have k1:=Bq p (asX b w)
 rw [Df] at k1
 have k2:=BF w.heap.size b (asX b w) (De b w)
 have hlt:=World.block_lt_of_cell? _ _ hb
 have hb2:(asY b p w).cell? ⟨b,0,none⟩=some (.pointer none):=((Qx b p w).cell hlt).trans hb
 have hz2:(asY b p w).frozen? ⟨b,0,none⟩=false:=((Qx b p w).frozen hlt).trans hz
 have k3:=Br (w.heap.size+1+1+1) b p (asY b p w) (Dg b p w) hb2 hz2
 go_enter Tryz.func93,Tryz.ntmps93
 go_wp2
 refine wp_loop_rounds 1 ?_
 rw [rounds_succ]
 go_wp2
 go_ret
 exact ⟨rfl,World.cell?_setCell_same _ _ _ hb2,fun n hn hnw=>EF ((Qx b p w).mono hnw) hn⟩
set_option maxRecDepth 100000
structure Errs (w:World) (q:Int->Addr):Prop where
 c1:w.cell? ⟨1,0,none⟩=some (Zv (q 1))
 c2:w.cell? ⟨3,0,none⟩=some (Zv (q 2))
 c3:w.cell? ⟨0,0,none⟩=some (Zv (q 3))
 c4:w.cell? ⟨4,0,none⟩=some (Zv (q 4))
 c5:w.cell? ⟨5,0,none⟩=some (Zv (q 5))
 ct:w.cell? ⟨2,0,none⟩=some (rty 74)
 b1:∃ c t,w.heap[(q 1).block]?=some (.cells c t (0,0))
 b2:∃ c t,w.heap[(q 2).block]?=some (.cells c t (0,0))
 b3:∃ c t,w.heap[(q 3).block]?=some (.cells c t (0,0))
 b4:∃ c t,w.heap[(q 4).block]?=some (.cells c t (0,0))
 b5:∃ c t,w.heap[(q 5).block]?=some (.cells c t (0,0))
 n12:q 1 ≠ q 2
 n13:q 1 ≠ q 3
 n14:q 1 ≠ q 4
 n15:q 1 ≠ q 5
 n23:q 2 ≠ q 3
 n24:q 2 ≠ q 4
 n25:q 2 ≠ q 5
 n34:q 3 ≠ q 4
 n35:q 3 ≠ q 5
 n45:q 4 ≠ q 5
theorem Uk {w w':World} {k:Nat} (h:∃ c t,w.heap[k]?=some (.cells c t (0,0))) (hb:Below w.heap.size w w'):∃ c t,w'.heap[k]?=some (.cells c t (0,0)):=by
 obtain ⟨c,t,e⟩:=h
 exact ⟨c,t,(hb.block k (Array.getElem?_eq_some_iff.1 e).1).trans e⟩
theorem Errs.below {w w':World} {q:Int->Addr} (h:Errs w q) (hb:Below w.heap.size w w'):Errs w' q:=
 ⟨(hb.cell (World.block_lt_of_cell? _ _ h.c1)).trans h.c1,(hb.cell (World.block_lt_of_cell? _ _ h.c2)).trans h.c2,(hb.cell (World.block_lt_of_cell? _ _ h.c3)).trans h.c3,(hb.cell (World.block_lt_of_cell? _ _ h.c4)).trans h.c4,(hb.cell (World.block_lt_of_cell? _ _ h.c5)).trans h.c5,(hb.cell (World.block_lt_of_cell? _ _ h.ct)).trans h.ct,Uk h.b1 hb,Uk h.b2 hb,Uk h.b3 hb,Uk h.b4 hb,Uk h.b5 hb,h.n12,h.n13,h.n14,h.n15,h.n23,h.n24,h.n25,h.n34,h.n35,h.n45⟩
theorem GN (w:World):Calls Tryz.prog 94 #[.nilIface] w fun e w'=>e= .returned (.int .i64 0)/\w'=w:=by
 go_enter Tryz.func94,Tryz.ntmps94
 go_wp2_with fail
 go_ret
 exact ⟨rfl,rfl⟩
theorem LD (p:Nat) {w:World} {q:Int->Addr} (h:Errs w q) (hp:w.cell? ⟨p,6,none⟩=some (Zv (q 1))):Calls Tryz.prog 94 #[QV p] w fun e w'=>e= .returned (.int .i64 1)/\w'=w:=by
 have HE:=Z9 h
 have Hp:=Z9 hp
 clear hp
 obtain ⟨x1,x2,x3,x4,x5,_⟩:=h
 go_enter Tryz.func94,Tryz.ntmps94
 go_wp2_with fail
 refine (VM p (q 1) _ (uh Hp)).mono ?_
 rintro e w' ⟨rfl,h9⟩
 subst w'
 go_wp2_with fail
 go_ret
 exact ⟨rfl,rfl⟩
theorem LF (p:Nat) {w:World} {q:Int->Addr} (h:Errs w q) (hp:w.cell? ⟨p,6,none⟩=some (Zv (q 2))):Calls Tryz.prog 94 #[QV p] w fun e w'=>e= .returned (.int .i64 2)/\w'=w:=by
 have HE:=Z9 h
 have Hp:=Z9 hp
 clear hp
 obtain ⟨x1,x2,x3,x4,x5,_⟩:=h
 go_enter Tryz.func94,Tryz.ntmps94
 go_wp2_with fail
 obtain ⟨ca,ta,ha⟩:=(uh HE).b2
 obtain ⟨cb,tb,hb⟩:=(uh HE).b1
 refine (YW p _ (uh Hp) ((uh HE).n12.symm) ha hb).mono ?_
 clear ha hb
 rintro e w' ⟨rfl,h9⟩
 subst w'
 go_wp2_with fail
 refine (VM p (q 2) _ (uh Hp)).mono ?_
 rintro e w' ⟨rfl,h9⟩
 subst w'
 go_wp2_with fail
 go_ret
 exact ⟨rfl,rfl⟩
theorem LH (p:Nat) {w:World} {q:Int->Addr} (h:Errs w q) (hp:w.cell? ⟨p,6,none⟩=some (Zv (q 3))):Calls Tryz.prog 94 #[QV p] w fun e w'=>e= .returned (.int .i64 3)/\w'=w:=by
 have HE:=Z9 h
 have Hp:=Z9 hp
 clear hp
 obtain ⟨x1,x2,x3,x4,x5,_⟩:=h
 go_enter Tryz.func94,Tryz.ntmps94
 go_wp2_with fail
 obtain ⟨ca,ta,ha⟩:=(uh HE).b3
 obtain ⟨cb,tb,hb⟩:=(uh HE).b1
 refine (YW p _ (uh Hp) ((uh HE).n13.symm) ha hb).mono ?_
 clear ha hb
 rintro e w' ⟨rfl,h9⟩
 subst w'
 go_wp2_with fail
 obtain ⟨ca,ta,ha⟩:=(uh HE).b3
 obtain ⟨cb,tb,hb⟩:=(uh HE).b2
 refine (YW p _ (uh Hp) ((uh HE).n23.symm) ha hb).mono ?_
 clear ha hb
 rintro e w' ⟨rfl,h9⟩
 subst w'
 go_wp2_with fail
 obtain ⟨ca,ta,ha⟩:=(uh HE).b3
 obtain ⟨cb,tb,hb⟩:=(uh HE).b4
 refine (YW p _ (uh Hp) ((uh HE).n34) ha hb).mono ?_
 clear ha hb
 rintro e w' ⟨rfl,h9⟩
 subst w'
 go_wp2_with fail
 obtain ⟨ca,ta,ha⟩:=(uh HE).b3
 obtain ⟨cb,tb,hb⟩:=(uh HE).b5
 refine (YW p _ (uh Hp) ((uh HE).n35) ha hb).mono ?_
 clear ha hb
 rintro e w' ⟨rfl,h9⟩
 subst w'
 go_wp2_with fail
 go_ret
 exact ⟨rfl,rfl⟩
theorem LI (p:Nat) {w:World} {q:Int->Addr} (h:Errs w q) (hp:w.cell? ⟨p,6,none⟩=some (Zv (q 4))):Calls Tryz.prog 94 #[QV p] w fun e w'=>e= .returned (.int .i64 4)/\w'=w:=by
 have HE:=Z9 h
 have Hp:=Z9 hp
 clear hp
 obtain ⟨x1,x2,x3,x4,x5,_⟩:=h
 go_enter Tryz.func94,Tryz.ntmps94
 go_wp2_with fail
 obtain ⟨ca,ta,ha⟩:=(uh HE).b4
 obtain ⟨cb,tb,hb⟩:=(uh HE).b1
 refine (YW p _ (uh Hp) ((uh HE).n14.symm) ha hb).mono ?_
 clear ha hb
 rintro e w' ⟨rfl,h9⟩
 subst w'
 go_wp2_with fail
 obtain ⟨ca,ta,ha⟩:=(uh HE).b4
 obtain ⟨cb,tb,hb⟩:=(uh HE).b2
 refine (YW p _ (uh Hp) ((uh HE).n24.symm) ha hb).mono ?_
 clear ha hb
 rintro e w' ⟨rfl,h9⟩
 subst w'
 go_wp2_with fail
 refine (VM p (q 4) _ (uh Hp)).mono ?_
 rintro e w' ⟨rfl,h9⟩
 subst w'
 go_wp2_with fail
 go_ret
 exact ⟨rfl,rfl⟩
theorem LJ (p:Nat) {w:World} {q:Int->Addr} (h:Errs w q) (hp:w.cell? ⟨p,6,none⟩=some (Zv (q 5))):Calls Tryz.prog 94 #[QV p] w fun e w'=>e= .returned (.int .i64 5)/\w'=w:=by
 have HE:=Z9 h
 have Hp:=Z9 hp
 clear hp
 obtain ⟨x1,x2,x3,x4,x5,_⟩:=h
 go_enter Tryz.func94,Tryz.ntmps94
 go_wp2_with fail
 obtain ⟨ca,ta,ha⟩:=(uh HE).b5
 obtain ⟨cb,tb,hb⟩:=(uh HE).b1
 refine (YW p _ (uh Hp) ((uh HE).n15.symm) ha hb).mono ?_
 clear ha hb
 rintro e w' ⟨rfl,h9⟩
 subst w'
 go_wp2_with fail
 obtain ⟨ca,ta,ha⟩:=(uh HE).b5
 obtain ⟨cb,tb,hb⟩:=(uh HE).b2
 refine (YW p _ (uh Hp) ((uh HE).n25.symm) ha hb).mono ?_
 clear ha hb
 rintro e w' ⟨rfl,h9⟩
 subst w'
 go_wp2_with fail
 obtain ⟨ca,ta,ha⟩:=(uh HE).b5
 obtain ⟨cb,tb,hb⟩:=(uh HE).b4
 refine (YW p _ (uh Hp) ((uh HE).n45.symm) ha hb).mono ?_
 clear ha hb
 rintro e w' ⟨rfl,h9⟩
 subst w'
 go_wp2_with fail
 refine (VM p (q 5) _ (uh Hp)).mono ?_
 rintro e w' ⟨rfl,h9⟩
 subst w'
 go_wp2_with fail
 go_ret
 exact ⟨rfl,rfl⟩
theorem Jo {w:World} {q:Int->Addr} (h:Errs w q):Calls Tryz.prog 94 #[Zv (q 3)] w fun e w'=>e= .returned (.int .i64 3)/\w'=w:=by
 have HE:=Z9 h
 obtain ⟨x1,x2,x3,x4,x5,_⟩:=h
 go_enter Tryz.func94,Tryz.ntmps94
 go_wp2_with fail
 obtain ⟨ca,ta,ha⟩:=(uh HE).b3
 obtain ⟨cb,tb,hb⟩:=(uh HE).b1
 refine (Rx _ ((uh HE).n13.symm) ha hb).mono ?_
 clear ha hb
 rintro e w' ⟨rfl,h9⟩
 subst w'
 go_wp2_with fail
 obtain ⟨ca,ta,ha⟩:=(uh HE).b3
 obtain ⟨cb,tb,hb⟩:=(uh HE).b2
 refine (Rx _ ((uh HE).n23.symm) ha hb).mono ?_
 clear ha hb
 rintro e w' ⟨rfl,h9⟩
 subst w'
 go_wp2_with fail
 obtain ⟨ca,ta,ha⟩:=(uh HE).b3
 obtain ⟨cb,tb,hb⟩:=(uh HE).b4
 refine (Rx _ ((uh HE).n34) ha hb).mono ?_
 clear ha hb
 rintro e w' ⟨rfl,h9⟩
 subst w'
 go_wp2_with fail
 obtain ⟨ca,ta,ha⟩:=(uh HE).b3
 obtain ⟨cb,tb,hb⟩:=(uh HE).b5
 refine (Rx _ ((uh HE).n35) ha hb).mono ?_
 clear ha hb
 rintro e w' ⟨rfl,h9⟩
 subst w'
 go_wp2_with fail
 go_ret
 exact ⟨rfl,rfl⟩
theorem Jp {c:Int} (hc:c=1\/c=2\/c=3\/c=4\/c=5) (p:Nat) {w:World} {q:Int->Addr} (h:Errs w q) (hp:w.cell? ⟨p,6,none⟩=some (Zv (q c))):Calls Tryz.prog 94 #[QV p] w fun e w'=>e= .returned (.int .i64 c)/\w'=w:=by
 rcases hc with rfl | rfl | rfl | rfl | rfl
 ·exact LD p h hp
 ·exact LF p h hp
 ·exact LH p h hp
 ·exact LI p h hp
 ·exact LJ p h hp
open Go.ChangeShapes Go.WideShapes Go.ChangeAt Go.RowKit Go.Sort Go.Shelf
set_option maxRecDepth 100000
structure Nx (w W:World) (R:Nat) (v0 v1 v2 v3 v4:Value) (m:Z6) (qs:List (Z2 × Value)):Prop where
 full:FullSmy w.heap.size W v0 v1 v2 v3 v4 m qs
 blk:Blk W R 32 #[v0,v1,v2,v3,v4,.int .i64 m.now]
 own:∀ k,Xb v0 v1 v2 v3 v4 qs k->k ≠ R
 bb:Below w.heap.size w W
 hR:w.heap.size<=R
section
variable {w W X : World} {R : Nat} {v0 v1 v2 v3 v4 : Value} {m : Z6} {qs : List (Z2 × Value)}
theorem Nx.next (h:Nx w W R v0 v1 v2 v3 v4 m qs) (hb:Below W.heap.size W X):Nx w X R v0 v1 v2 v3 v4 m qs:=⟨h.full.below hb,h.blk.below hb h.blk.lt,h.own,h.bb.trans (hb.mono h.bb.size),h.hR⟩
theorem Nx.cells (h:Nx w W R v0 v1 v2 v3 v4 m qs):W.cell? ⟨R,0,none⟩=some v0/\W.cell? ⟨R,1,none⟩=some v1/\W.cell? ⟨R,2,none⟩=some v2/\W.cell? ⟨R,3,none⟩=some v3/\W.cell? ⟨R,4,none⟩=some v4/\W.cell? ⟨R,5,none⟩=some (.int .i64 m.now):=h.blk.c6
theorem Nx.putS {g n cap:Nat} (h:Nx w W R v0 v1 (.slice (some ⟨g,0,none⟩) n cap) v3 v4 m qs) (hn:n=m.smiths.length) {j i:Nat} (hj:j<m.smiths.length) (hi:i<11) (u:Value) (x:Z3) (hx:ZX x=(ZX (Z8 m.smiths j)).set i u):Nx w (W.setCell ⟨g,j*11+i,none⟩ u) R v0 v1 (.slice (some ⟨g,0,none⟩) n cap) v3 v4 (setS m j x) qs:=by
 have hg:=h.full.own (k:=g) (.inr (.inr (.inr (.inl rfl))))
 have hgR:=h.own g (.inr (.inr (.inr (.inl rfl))))
 exact ⟨h.full.putS hn hj hi u x hx,h.blk.other (a:=⟨g,j*11+i,none⟩) (fun e=>hgR e.symm) u,h.own,h.bb.setCell (p:=⟨g,j*11+i,none⟩) hg.1 u,h.hR⟩
theorem Nx.putW {g n cap:Nat} (h:Nx w W R v0 v1 (.slice (some ⟨g,0,none⟩) n cap) v3 v4 m qs) (hn:n=m.smiths.length) {j:Nat} (hj:j<m.smiths.length) (x:Z3):Nx w (OX W g (j*11) (ZX x)) R v0 v1 (.slice (some ⟨g,0,none⟩) n cap) v3 v4 (setS m j x) qs:=by
 have hg:=h.full.own (k:=g) (.inr (.inr (.inr (.inl rfl))))
 have hgR:=h.own g (.inr (.inr (.inr (.inl rfl))))
 obtain ⟨_,hgr⟩:=RecAt.put ZW (by omega) h.full.smiths hn hj x
 exact ⟨h.full.putW hn hj x,h.blk.same (hgr.block R h.blk.lt (fun e=>hgR (by cases e;rfl))),h.own,h.bb.grown hgr h.bb.size (fun k e=>by cases e;exact hg.1),h.hR⟩
end
def Chg (w:World) (R:Nat) (q:Int->Addr) (X:Z6) (c:Int) (e:Ending) (W':World):Prop:=
 Below w.heap.size w W'/\((c=0/\e= .returned .nilIface/\ ∃ u0 u1 u2 u3 u4 rs,Nx w W' R u0 u1 u2 u3 u4 X rs)\/((c=1\/c=2\/c=3\/c=4\/c=5)/\e= .returned (Zv (q c))))
theorem Chg.no {w W':World} {R:Nat} {q:Int->Addr} {X:Z6} {c d:Int} (h:Below w.heap.size w W') (e:c=d) (hd:d=1\/d=2\/d=3\/d=4\/d=5):Chg w R q X c (.returned (Zv (q d))) W':=by
 subst e
 exact ⟨h,.inr ⟨hd,rfl⟩⟩
theorem Chg.yes {w W':World} {R:Nat} {q:Int->Addr} {X Y:Z6} {c:Int} {u0 u1 u2 u3 u4:Value} {rs:List (Z2 × Value)} (h:Nx w W' R u0 u1 u2 u3 u4 Y rs) (e:c=0) (hX:X=Y):Chg w R q X c (.returned .nilIface) W':=by
 subst e hX
 exact ⟨h.bb,.inl ⟨rfl,rfl,_,_,_,_,_,_,h⟩⟩
structure Ny (F:Nat->TypeId->Array Value->Prop) (w W:World) (R:Nat) (v0 v1 v2 v3 v4:Value) (m:Z6) (qs:List (Z2 × Value)):Prop where
 nx:Nx w W R v0 v1 v2 v3 v4 m qs
 fx:∀ k t cs,F k t cs->Blk W k t cs/\k ≠ R/\ ¬ Xb v0 v1 v2 v3 v4 qs k
section
variable {F : Nat → TypeId → Array Value → Prop} {w W X : World} {R : Nat} {v0 v1 v2 v3 v4 : Value} {m : Z6} {qs : List (Z2 × Value)}
theorem Ny.full (h:Ny F w W R v0 v1 v2 v3 v4 m qs):FullSmy w.heap.size W v0 v1 v2 v3 v4 m qs:=h.nx.full
theorem Ny.blk (h:Ny F w W R v0 v1 v2 v3 v4 m qs):Blk W R 32 #[v0,v1,v2,v3,v4,.int .i64 m.now]:=h.nx.blk
theorem Ny.bb (h:Ny F w W R v0 v1 v2 v3 v4 m qs):Below w.heap.size w W:=h.nx.bb
theorem Ny.fb (h:Ny F w W R v0 v1 v2 v3 v4 m qs):∀ k t cs,F k t cs->Blk W k t cs:=fun k t cs e=>(h.fx k t cs e).1
theorem Ny.next (h:Ny F w W R v0 v1 v2 v3 v4 m qs) (hb:Below W.heap.size W X):Ny F w X R v0 v1 v2 v3 v4 m qs:=⟨h.nx.next hb,fun k t cs e=>⟨(h.fx k t cs e).1.below hb (h.fx k t cs e).1.lt,(h.fx k t cs e).2⟩⟩
theorem Ny.cells (h:Ny F w W R v0 v1 v2 v3 v4 m qs):W.cell? ⟨R,0,none⟩=some v0/\W.cell? ⟨R,1,none⟩=some v1/\W.cell? ⟨R,2,none⟩=some v2/\W.cell? ⟨R,3,none⟩=some v3/\W.cell? ⟨R,4,none⟩=some v4/\W.cell? ⟨R,5,none⟩=some (.int .i64 m.now):=h.nx.cells
theorem Ny.putS {g n cap:Nat} (h:Ny F w W R v0 v1 (.slice (some ⟨g,0,none⟩) n cap) v3 v4 m qs) (hn:n=m.smiths.length) {j i:Nat} (hj:j<m.smiths.length) (hi:i<11) (u:Value) (x:Z3) (hx:ZX x=(ZX (Z8 m.smiths j)).set i u):Ny F w (W.setCell ⟨g,j*11+i,none⟩ u) R v0 v1 (.slice (some ⟨g,0,none⟩) n cap) v3 v4 (setS m j x) qs:=
 ⟨h.nx.putS hn hj hi u x hx,fun k t cs e=>⟨(h.fx k t cs e).1.other (a:=⟨g,j*11+i,none⟩) (fun e2=>(h.fx k t cs e).2.2 (.inr (.inr (.inr (.inl (by rw [e2];rfl)))))) u,(h.fx k t cs e).2⟩⟩
theorem Ny.putW {g n cap:Nat} (h:Ny F w W R v0 v1 (.slice (some ⟨g,0,none⟩) n cap) v3 v4 m qs) (hn:n=m.smiths.length) {j:Nat} (hj:j<m.smiths.length) (x:Z3):Ny F w (OX W g (j*11) (ZX x)) R v0 v1 (.slice (some ⟨g,0,none⟩) n cap) v3 v4 (setS m j x) qs:=by
 obtain ⟨_,hgr⟩:=RecAt.put ZW (by omega) h.nx.full.smiths hn hj x
 exact ⟨h.nx.putW hn hj x,fun k t cs e=>⟨(h.fx k t cs e).1.same (hgr.block k (h.fx k t cs e).1.lt (fun e2=>(h.fx k t cs e).2.2 (.inr (.inr (.inr (.inl e2.symm)))))),(h.fx k t cs e).2⟩⟩
end
theorem Ny.of {w W:World} {R:Nat} {v0 v1 v2 v3 v4:Value} {m:Z6} {qs:List (Z2 × Value)} (h:Nx w W R v0 v1 v2 v3 v4 m qs):Ny (fun _ _ _=>False) w W R v0 v1 v2 v3 v4 m qs:=⟨h,fun _ _ _ e=>e.elim⟩
end Go.Proofs.YtffcgajndmhpkaaGreatDoor
