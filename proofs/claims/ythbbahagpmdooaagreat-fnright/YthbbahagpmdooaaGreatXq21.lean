/- Part 21 of what the proof rests on. No condition but those that a theorem names. -/
import Derived.Test.YthbbahagpmdooaaGreatXq20
set_option maxHeartbeats 8000000
set_option maxRecDepth 100000
namespace Go.Proofs.YthbbahagpmdooaaGreat
open Go.ChangeShapes Go.WideShapes Go.ChangeAt Go.RowKit Go.Sort
set_option linter.unusedVariables false
variable {w w' w0 w1 w2 w3 w₀ wr W W' X A B C : World} {v v0 v1 v2 v3 v4 u u0 u1 u2 u3 u4 : Value} {m : Z4}
structure SZ (m:Z4) (k:Nat):Prop where
 lt:k<m.smiths.length
 st:(Z8 m.smiths k).1 ≠ 0
 y0:0<=(Z8 m.smiths k).2.2.2.1
 y1:(Z8 m.smiths k).2.2.2.1<=255
theorem Fu {who:Int} {k:Nat} (h:NX m who k=false):Vm m who (k+1)=Vm m who k:=by show (if _ then _ else _)=_;rw [h];rfl
theorem GJ {who:Int} {k:Nat} (h:NX m who k=true):Vm m who (k+1)=Vm m who k++[(k:Int)]:=by show (if _ then _ else _)=_;rw [h];rfl
theorem TD  {who:Nat} (h:Smy w v0 v1 v2 v3 v4 m) (hS:Sane m) (hA:SZ m who) :
  Calls Tryz.prog 222 #[.agg #[v0,v1,v2,v3,v4,.int .i64 m.now],.int .i64 (who:Int)] w fun e w'=> ∃ v',e= .returned v'/\NumsAt w.heap.size w' v' (Yc m (who:Int))/\Below w.heap.size w w':=by
 have Hv:=Z9 (h.alloc (.cells #[v0,v1,v2,v3,v4,.int .i64 m.now] 32))
 obtain ⟨a0,p0,a1,p1,a2,p2,a3,p3,a4,p4,rfl,rfl,rfl,rfl,rfl,_,_,_,_,_,_,_,_,_,_⟩:=h.five
 have HW:=Z9 h
 clear h
 obtain ⟨BB0,kb0⟩:=Xj w 32 (S6 a0 p0 a1 p1 a2 p2 a3 p3 a4 p4 m)
 have HS:=Z9 hS
 have HA:=Z9 hA
 have h8:=hS.eight
 clear hS hA
 have kb1:Hid (Blk ((w.alloc (.cells #[.slice a0 m.rooms.length p0,.slice a1 m.guilds.length p1,.slice a2 m.smiths.length p2,.slice a3 m.desks.length p3,.slice a4 m.paces.length p4,.int .i64 m.now] 32)).alloc (.cells #[] 2)) w.heap.size 32 #[.slice a0 m.rooms.length p0,.slice a1 m.guilds.length p1,.slice a2 m.smiths.length p2,.slice a3 m.desks.length p3,.slice a4 m.paces.length p4,.int .i64 m.now]):=Z9 ((uh kb0).alloc _)
 have BB1:Hid (Below w.heap.size w ((w.alloc (.cells #[.slice a0 m.rooms.length p0,.slice a1 m.guilds.length p1,.slice a2 m.smiths.length p2,.slice a3 m.desks.length p3,.slice a4 m.paces.length p4,.int .i64 m.now] 32)).alloc (.cells #[] 2))):=Z9 ((uh BB0).alloc (uh BB0).size _)
 have Hv0:=Z9 ((uh Hv).alloc (.cells #[] 2))
 have E0:Hid (NumsAt (w.heap.size+1) ((w.alloc (.cells #[.slice a0 m.rooms.length p0,.slice a1 m.guilds.length p1,.slice a2 m.smiths.length p2,.slice a3 m.desks.length p3,.slice a4 m.paces.length p4,.int .i64 m.now] 32)).alloc (.cells #[] 2)) (.slice (some ⟨w.heap.size+1,0,none⟩) 0 0) []):=Z9 (Ym (by simp) (by simp))
 clear kb0 BB0 Hv
 go_enter Tryz.func222,Tryz.ntmps222
 go_wp2_with fail
 go_loopw [5,6] (fun l i wr=> ∃ k:Nat,k<=m.desks.length/\i= .int .i64 k/\NumsAt (w.heap.size+1) wr l (Vm m (who:Int) k)/\Blk wr w.heap.size 32 #[.slice a0 m.rooms.length p0,.slice a1 m.guilds.length p1,.slice a2 m.smiths.length p2,.slice a3 m.desks.length p3,.slice a4 m.paces.length p4,.int .i64 m.now]/\Smy wr (.slice a0 m.rooms.length p0) (.slice a1 m.guilds.length p1) (.slice a2 m.smiths.length p2) (.slice a3 m.desks.length p3) (.slice a4 m.paces.length p4) m/\Below w.heap.size w wr) (fun _ i _=>m.desks.length-(intOf i).toNat)
 case atStart=>exact ⟨0,Nat.zero_le _,rfl,uh E0,uh kb1,uh Hv0,uh BB1⟩
 case round=>
  obtain ⟨k,hk,rfl,hl,hkb,hv,hb0⟩:=hrel
  obtain ⟨la,lc,rfl⟩:=RecAt.shape hl
  have HL:=Z9 hl
  have kb:=Z9 hkb
  have Hv1:=Z9 hv
  have BB:=Z9 hb0
  have hbl:=(uh kb).lt
  have hfl:=Rq m (who:Int) k
  clear hkb hv hb0 kb1 BB1 Hv0 E0 hl
  obtain ⟨c0,c1,c2,c3,c4,c5⟩:=(uh kb).c6
  by_cases hlt:k<m.desks.length
  ·have hlt1:(k:Int)<(m.desks.length:Int):=by omega
   have Hc:Hid (NX m (who:Int) k=(Ye m (who:Int) k && VR (Zv m (who:Int)) (Yn m (k:Int) (who:Int)) (YU m.rooms (k:Int)))):=Z9 rfl
   have Hno:=Z9 (fun hh=>Fu (m:=m) (who:=(who:Int)) (k:=k) hh)
   have Hyes:=Z9 (fun hh=>GJ (m:=m) (who:=(who:Int)) (k:=k) hh)
   have hfo:=Tr ((uh HS).bench hlt)
   have Hma:=Z9 (fun (W:World) (hW:Below wr.heap.size wr W)=>Un ((uh Hv1).below hW) (uh HA).lt hlt (by omega) (uh HA).y0 (uh HA).y1)
   have Hwa:=Z9 (fun (W:World) (hW:Below wr.heap.size wr W)=>Vb ((uh Hv1).below hW) (uh HS).guilded.guilds (uh HA).lt ((uh HS).guilded.lo who (uh HA).lt (uh HA).st) ((uh HS).guilded.hi who (uh HA).lt (uh HA).st))
   have Hu:=Z9 (fun (W:World) (hW:Below wr.heap.size wr W)=>V8 (k:Int) (who:Int) ((uh Hv1).below hW) (uh HS).guilded (by have:=(uh HS).few;omega))
   have Hf:=Z9 (fun (W:World) (hW:Below wr.heap.size wr W)=>Wa (k:Int) ((uh Hv1).below hW).rooms ((uh HS).bench hlt))
   rw [<-hfo] at Hf
   clear hfo
   have Ht:=Z9 (fun (W:World)=>Calls.same_below (Vy (Zv m (who:Int)) (Yn m (k:Int) (who:Int)) (YU m.rooms (k:Int)) W))
   generalize Ye m (who:Int) k=ma at *
   generalize Zv m (who:Int)=wa at *
   generalize Yn m (k:Int) (who:Int)=us at *
   generalize YU m.rooms (k:Int)=fo at *
   generalize VR wa us fo=fi at *
   have y0:=cell_regrown c0
   have y1:=cell_regrown c1
   have y2:=cell_regrown c2
   have y3:=cell_regrown c3
   have y4:=cell_regrown c4
   have y5:=cell_regrown c5
   cases ma
   ·go_wp2_with fail
    refine wp_region_quiet_below (by kernel_rfl) (by kernel_rfl) ?_
    repeat (go_big_quiet_step (first | exact Calls.regrown_of (uh Hma _ (below_regrown _ _ _)) | exact Calls.regrown_of (uh Hwa _ (below_regrown _ _ _)) | exact Calls.regrown_of (uh Hu _ (below_regrown _ _ _)) | exact Calls.regrown_of (uh Hf _ (below_regrown _ _ _)) | exact Calls.regrown_of (uh Ht _)))
    refine wpQuiet_nil ?_
    intro _ hw'
    obtain ⟨⟨dq,osq⟩,hw''⟩:=hw'
    subst hw''
    go_wp2_with fail
    go_roundw
    case rel=>exact ⟨k+1,by omega,by go_num,by rw [uh Hno (uh Hc)];exact RecAt.later (uh HL) (below_regrown _ _ _),(uh kb).below (below_regrown _ _ _) (uh kb).lt,(uh Hv1).below (below_regrown _ _ _),(uh BB).trans ((below_regrown _ _ _).mono (uh BB).size)⟩
    case measure=>simp [intOf];omega
   cases fi
   ·go_wp2_with fail
    refine wp_region_quiet_below (by kernel_rfl) (by kernel_rfl) ?_
    repeat (go_big_quiet_step (first | exact Calls.regrown_of (uh Hma _ (below_regrown _ _ _)) | exact Calls.regrown_of (uh Hwa _ (below_regrown _ _ _)) | exact Calls.regrown_of (uh Hu _ (below_regrown _ _ _)) | exact Calls.regrown_of (uh Hf _ (below_regrown _ _ _)) | exact Calls.regrown_of (uh Ht _)))
    refine wpQuiet_nil ?_
    intro _ hw'
    obtain ⟨⟨dq,osq⟩,hw''⟩:=hw'
    subst hw''
    go_wp2_with fail
    go_roundw
    case rel=>exact ⟨k+1,by omega,by go_num,by rw [uh Hno (uh Hc)];exact RecAt.later (uh HL) (below_regrown _ _ _),(uh kb).below (below_regrown _ _ _) (uh kb).lt,(uh Hv1).below (below_regrown _ _ _),(uh BB).trans ((below_regrown _ _ _).mono (uh BB).size)⟩
    case measure=>simp [intOf];omega
   ·go_wp2_with fail
    refine wp_region_quiet_below (by kernel_rfl) (by kernel_rfl) ?_
    repeat (go_big_quiet_step (first | exact Calls.regrown_of (uh Hma _ (below_regrown _ _ _)) | exact Calls.regrown_of (uh Hwa _ (below_regrown _ _ _)) | exact Calls.regrown_of (uh Hu _ (below_regrown _ _ _)) | exact Calls.regrown_of (uh Hf _ (below_regrown _ _ _)) | exact Calls.regrown_of (uh Ht _)))
    refine wpQuiet_nil ?_
    intro _ hw'
    obtain ⟨⟨dq,osq⟩,hw''⟩:=hw'
    subst hw''
    clear c0 c1 c2 c3 c4 c5 y0 y1 y2 y3 y4 y5 Hma Hwa Hu Hf Ht
    have hb9:=below_regrown wr dq osq
    replace HL:=Z9 (RecAt.later (uh HL) hb9)
    replace kb:=Z9 ((uh kb).below hb9 (uh kb).lt)
    replace Hv1:=Z9 ((uh Hv1).below hb9)
    replace BB:=Z9 ((uh BB).trans (hb9.mono (uh BB).size))
    clear hb9
    generalize grow (redrawn wr dq) osq=X at *
    have hsx:=(uh BB).size
    go_wp2_with (at_builtin;refine ZF tyN rfl (.tmp 33) (.tmp 35) 30 Tryz.underlying30 rfl (w.heap.size+1) _ _ (Vm m (who:Int) k) [(k:Int)] rfl rfl (RecAt.later (uh HL) ((Below.refl _ _).alloc (Nat.le_refl _) _)) (We (k:Int) rfl (Nat.le_refl _) (by omega)) (by simp;omega) (by simp;omega) ?_;intro u9 w9 hp9 hg9 hat9;have HP9:=Z9 hp9;have HG9:=Z9 hg9;clear hp9 hg9 hat9)
    have hlx:=(uh kb).lt
    have hgo:∀ i,(Value.slice la (Vm m (who:Int) k).length lc).ownBlock=some i->w.heap.size+1<=i:=fun i e=>(RecAt.lt (uh HL) e).1
    have hb9:Below (w.heap.size+1) X w9:=((Below.refl _ _).alloc hlx _).trans ((Below.refl _ _).grown (uh HG9) (by simp;omega) hgo)
    have hb8:=(uh BB).trans (hb9.mono (Nat.le_succ _))
    go_wp2_with fail
    go_roundw
    case rel=>exact ⟨k+1,by omega,by go_num,by rw [uh Hyes (uh Hc)];exact uh HP9,(uh kb).below hb9 (Nat.lt_succ_self _),(uh HW).below hb8,hb8⟩
    case measure=>simp [intOf];omega
  ·obtain rfl:k=m.desks.length:=by omega
   go_wp2_with fail
   go_ret
   exact ⟨_,rfl,RecAt.mono (uh HL) (Nat.le_succ _),uh BB⟩
def Zo (m:Z4) (b:Nat):Nat->Nat
 | 0=>0
 | k+1=>if (Z8 m.desks k).1 && !(k ==b) then Zo m b k ||| 2 ^ k else Zo m b k
theorem Te (m:Z4) (b:Nat):∀ k j:Nat,(Zo m b k).testBit j=(decide (j<k) && ((Z8 m.desks j).1 && !(j ==b)))
 | 0,j=>by simp [Zo]
 | k+1,j=>by
  have ih:=Te m b k j
  unfold Zo
  by_cases e:j=k
  ·subst e
   have hj:(Zo m b j).testBit j=false:=by rw [ih];simp
   split
   ·rename_i h
    rw [Nat.testBit_or,hj,Nat.testBit_two_pow_self,h];simp
   ·rename_i h
    rw [hj]
    have:((Z8 m.desks j).1 && !(j ==b))=false:=by simpa using h
    rw [this];simp
  ·have hd:decide (j<k+1)=decide (j<k):=by
    by_cases h:j<k
    ·rw [decide_eq_true h,decide_eq_true (by omega)]
    ·rw [decide_eq_false h,decide_eq_false (by omega)]
   rw [hd]
   split
   ·rw [Nat.testBit_or,ih,Nat.testBit_two_pow_of_ne (by omega),Bool.or_false]
   ·exact ih
theorem PG (m:Z4) (b:Nat):∀ k:Nat,Zo m b k<2 ^ k
 | 0=>by simp [Zo]
 | k+1=>by
  have ih:=PG m b k
  have hp:2 ^ (k+1)=2*2 ^ k:=by rw [Nat.pow_succ];omega
  unfold Zo
  split
  ·exact Nat.or_lt_two_pow (by omega) (by omega)
  ·omega
theorem O8 {x:Nat} (h:x ≠ 0):∃ j,x.testBit j=true:=by
 refine Classical.byContradiction fun hn=>h ?_
 apply Nat.eq_of_testBit_eq
 intro i
 rw [Nat.zero_testBit]
 cases hi:x.testBit i
 ·rfl
 ·exact absurd ⟨i,hi⟩ hn
theorem Le {s:Int} (h:0<=s) (j:Nat):V4 s (j:Int)=s.toNat.testBit j:=by
 obtain ⟨n,rfl⟩:=Int.eq_ofNat_of_zero_le h
 unfold V4
 rw [Nat.testBit_eq_decide_div_mod_eq]
 simp only [Int.toNat_natCast]
 congr 1
 apply propext
 constructor
 ·intro h
  exact_mod_cast h
 ·intro h
  exact_mod_cast h
def YS (n:Nat):Int:=(2:Int) ^ n-1
theorem QQ (n:Nat):YS n=((2 ^ n-1:Nat):Int):=by
 have h:1<=2 ^ n:=Nat.one_le_two_pow
 unfold YS
 rw [Int.natCast_sub h]
 push_cast
 rfl
theorem KY {n j:Nat} (h:j<n):V4 (YS n) (j:Int)=true:=by
 rw [Le (by rw [QQ];omega),QQ,Int.toNat_natCast,Nat.testBit_two_pow_sub_one]
 exact decide_eq_true h
theorem O0 {n:Nat} (h1:1<=n) (h8:n<=8):1<=YS n/\YS n<=255:=by
 have key:∀ k:Fin 8,1<=YS (k.val+1)/\YS (k.val+1)<=255:=by unfold YS;decide
 have:=key ⟨n-1,by omega⟩
 rwa [show n-1+1=n by omega] at this
def TK (op n:Nat) (may:Int):Int:=if may.toNat &&& op=0 then YS n else may
theorem J6 {op n:Nat} {may:Int} (h0:0<=may) (hop:op ≠ 0) (hn:∀ j,op.testBit j=true->j<n):∃ j,op.testBit j=true/\V4 (TK op n may) (j:Int)=true:=by
 unfold TK
 split
 ·obtain ⟨j,hj⟩:=O8 hop
  exact ⟨j,hj,KY (hn j hj)⟩
 ·rename_i h
  obtain ⟨j,hj⟩:=O8 h
  rw [Nat.testBit_and] at hj
  simp only [Bool.and_eq_true] at hj
  exact ⟨j,hj.2,by rw [Le h0];exact hj.1⟩
theorem FM {op n:Nat} {may:Int} (h1:1<=n) (h8:n<=8) (m0:1<=may) (m1:may<=255):1<=TK op n may/\TK op n may<=255:=by
 unfold TK
 split
 ·exact O0 h1 h8
 ·exact ⟨m0,m1⟩
def closeX (op:Nat) (m:Z4) (w:Nat):Z4:=X7 m w (TK op m.desks.length (Z8 m.smiths w).2.2.2.1)
def Nj (op:Nat) (m:Z4) (w:Nat):Int:=YB (closeX op m w) (w:Int)
def Wn (op:Nat) (m:Z4) (w:Nat):Z4:=setS (closeX op m w) w (putS (closeX op m w) (Z8 (closeX op m w).smiths w) (Nj op m w))
def YI (op:Nat) (m:Z4) (q:List Z5):Nat->Z4
 | 0=>m
 | k+1=>Wn op (YI op m q k) (Z7 q k).2.toNat
structure Shut (m0:Z4) (b:Nat) (P:Nat->Prop) (m:Z4):Prop where
 rooms:m.rooms=m0.rooms
 guilds:m.guilds=m0.guilds
 paces:m.paces=m0.paces
 now:m.now=m0.now
 desks:m.desks=(YH m0 b false).desks
 len:m.smiths.length=m0.smiths.length
 here:∀ i,i<m.smiths.length->Yx m (Z8 m.smiths i)=true
 seat:∀ i,i<m.smiths.length-> ¬ P i->Yi m (Z8 m.smiths i)=true
 left:∀ i,P i->i<m.smiths.length/\ZR (Z8 m.smiths i)=true/\(Z8 m.smiths i).2.1=(b:Int)/\Xw (Xo (Z8 m.smiths i)) (XO m (b:Int))=true
theorem Qr {b:Nat} (hb:b<m.desks.length) (o:Bool) (j:Nat):Z8 (YH m b o).desks j=if j=b then (o,(Z8 m.desks b).2) else Z8 m.desks j:=ZC hb j
theorem Vx (m:Z4) (b:Nat) (o:Bool):(YH m b o).desks.length=m.desks.length:=by unfold YH;simp
theorem RF {b:Nat} (hb:b<m.desks.length) (o:Bool) (j:Nat):(Z8 (YH m b o).desks j).2=(Z8 m.desks j).2:=by
 rw [Qr hb]
 by_cases e:j=b
 ·rw [if_pos e,e]
 ·rw [if_neg e]
theorem Ku {m0:Z4} (h:Loose m0) {b:Nat} (hb:b<m0.desks.length):Shut m0 b (fun i=>i<m0.smiths.length/\(Z8 m0.smiths i).2.1=(b:Int)/\ZR (Z8 m0.smiths i)=true) (YH m0 b false):=by
 refine ⟨rfl,rfl,rfl,rfl,rfl,rfl,fun i hi=> ?_,fun i hi hn=> ?_,fun i hp=> ?_⟩
 ·rw [Xc (m:=m0) (m':=YH m0 b false) rfl (Vx _ _ _)]
  exact h.here i hi
 ·cases hp:ZR (Z8 m0.smiths i)
  ·exact VG hp
  ·obtain ⟨a0,a1,a2,a3,a4⟩:=h.at (i:=i) hi hp
   have hne:(Z8 m0.smiths i).2.1.toNat ≠ b:=by
    intro e
    exact hn ⟨hi,by omega,hp⟩
   refine Qq (m:=YH m0 b false) (s:=Z8 m0.smiths i) ?_ a3 ?_
   ·rw [Qr hb,if_neg hne];exact a2
   ·rw [RF hb];exact a4
 ·obtain ⟨hi,e,hp⟩:=hp
  obtain ⟨a0,a1,a2,a3,a4⟩:=h.at (i:=i) hi hp
  refine ⟨hi,hp,e,?_⟩
  rw [e] at a4
  show Xw _ (Z8 (YH m0 b false).desks ((b:Int)).toNat).2.2=true
  rw [RF hb]
  exact a4
theorem Shut.bare {m0 m:Z4} {b:Nat} {P:Nat->Prop} (h:Shut m0 b P m) (h0:Loose m0) (hb:b<m0.desks.length) (hop:Zo m0 b m0.desks.length ≠ 0):Loose { m with smiths:=[] }:=by
 have hl:m.desks.length=m0.desks.length:=by rw [h.desks,Vx]
 refine ⟨?_,?_,?_,fun i hi=>absurd hi (Nat.not_lt_zero _),fun i hi=>absurd hi (Nat.not_lt_zero _),?_⟩
 ·have:=h0.head
  unfold YY at this ⊢
  simp only [Bool.and_eq_true,decide_eq_true_eq] at this ⊢
  rw [h.rooms,h.guilds,h.paces,h.now,hl]
  exact ⟨this.1,this.2.1,by simp,this.2.2.2⟩
 ·intro j hj
  show Wz (Z8 m.desks j)=true
  have hj':j<m.desks.length:=hj
  have:=h0.desk j (by omega)
  unfold Wz at this ⊢
  rw [h.desks,RF hb]
  exact this
 ·intro j hj
  have:=h0.pace j (by rw [<-h.paces];exact hj)
  unfold WI at this ⊢
  simp only
  rw [h.paces,h.rooms]
  exact this
 ·obtain ⟨j,hj⟩:=O8 hop
  rw [Te] at hj
  simp only [Bool.and_eq_true,decide_eq_true_eq,Bool.not_eq_true',beq_eq_false_iff_ne] at hj
  refine ⟨j,(by show j<m.desks.length;omega),?_⟩
  show (Z8 m.desks j).1=true
  rw [h.desks,Qr hb,if_neg hj.2.2]
  exact hj.2.1
theorem Shut.pres {m0 m:Z4} {b:Nat} {P:Nat->Prop} (h:Shut m0 b P m) {i:Nat} (hp:P i):Zh (Z8 m.smiths i)=true/\(Z8 m.smiths i).2.2.2.2.1<m.guilds.length:=by
 obtain ⟨hi,hp1,_⟩:=h.left i hp
 rcases XV.1 (h.here i hi) with e | e
 ·rw [e] at hp1;cases hp1
 ·exact ⟨e.1,e.2.1⟩
theorem Shut.sane {m0 m:Z4} {b:Nat} {P:Nat->Prop} (h:Shut m0 b P m) (h0:Loose m0):Sane m:=by
 have s0:=h0.sane
 have lim:∀ i,i<m.smiths.length->(Z8 m.smiths i).1 ≠ 0->Zh (Z8 m.smiths i)=true/\(Z8 m.smiths i).2.2.2.2.1<m.guilds.length:=fun i hi hs=>by
  rcases XV.1 (h.here i hi) with e | e
  ·rw [e] at hs;exact absurd rfl hs
  ·exact ⟨e.1,e.2.1⟩
 refine ⟨by rw [h.rooms];exact s0.hall,by rw [h.rooms,h.desks,Vx];exact s0.desks,⟨by rw [h.guilds];exact s0.guilded.guilds,fun i hi hs=> ?_,fun i hi hs=>(lim i hi hs).2⟩,by rw [h.len];exact s0.few⟩
 have hp:=(lim i hi hs).1
 generalize Z8 m.smiths i=s at *
 obtain ⟨st,be,rk,my,gu,lo',hi',hd,ca,ut,wk⟩:=s
 exact (Zk hp).2.2.2.2.1.1
theorem Qp {k:Nat} (hk:k<m.smiths.length) (may:Int) (i:Nat):Z8 (X7 m k may).smiths i=if i=k then Ur (Z8 m.smiths k) may else Z8 m.smiths i:=ZC hk i
theorem Shut.may {m0 m:Z4} {b:Nat} {P:Nat->Prop} (h:Shut m0 b P m) {w:Nat} (hw:P w) {may:Int} (y0:1<=may) (y1:may<=255):Shut m0 b P (X7 m w may):=by
 obtain ⟨hwl,hp,hbe,hba⟩:=h.left w hw
 obtain ⟨hpb,hg⟩:=h.pres hw
 have hlen:(X7 m w may).smiths.length=m.smiths.length:=by unfold X7 setS;simp
 refine ⟨h.rooms,h.guilds,h.paces,h.now,h.desks,by rw [hlen];exact h.len,fun i hi=> ?_,fun i hi hn=> ?_,fun i hi=> ?_⟩
 ·rw [Xc (m:=m) (m':=X7 m w may) rfl rfl,Qp hwl]
  split
  ·refine XV.2 (.inr ⟨Oe hpb y0 y1,hg,?_⟩)
   rcases XV.1 (h.here w hwl) with e | e
   ·rw [e] at hp;cases hp
   ·exact e.2.2
  ·exact h.here i (by omega)
 ·rw [Qp hwl,if_neg (fun e=>hn (by rw [e];exact hw))]
  exact h.seat i (by omega) hn
 ·obtain ⟨a,b1,c,d⟩:=h.left i hi
  refine ⟨by omega,?_⟩
  rw [Qp hwl]
  split
  ·rename_i e
   subst e
   exact ⟨b1,c,d⟩
  ·exact ⟨b1,c,d⟩
theorem Shut.chosen {m0 m:Z4} {b:Nat} {P:Nat->Prop} (h:Shut m0 b P m) (h0:Loose m0) (hb:b<m0.desks.length) (hop:Zo m0 b m0.desks.length ≠ 0) {w:Nat} (hw:P w):∃ j:Nat,j<m.desks.length/\Nj (Zo m0 b m0.desks.length) m w=(j:Int)/\Ye (closeX (Zo m0 b m0.desks.length) m w) (w:Int) j=true:=by
 obtain ⟨hwl,hp,hbe,hba⟩:=h.left w hw
 obtain ⟨hpb,hg⟩:=h.pres hw
 have hl:m.desks.length=m0.desks.length:=by rw [h.desks,Vx]
 rcases VD (closeX (Zo m0 b m0.desks.length) m w) (w:Int) with ⟨_,hn⟩ | ⟨j,hj,e,hm⟩
 ·exfalso
  have hy:0<=(Z8 m.smiths w).2.2.2.1:=by
   generalize Z8 m.smiths w=s at *
   obtain ⟨st,be,rk,my,gu,lo',hi',hd,ca,ut,wk⟩:=s
   have:=(Zk hpb).2.2.2.1.1
   show 0<=my
   omega
  obtain ⟨j,hj,hbit⟩:=J6 (op:=Zo m0 b m0.desks.length) (n:=m.desks.length) hy hop (fun j hj=>by
   rw [Te] at hj
   simp only [Bool.and_eq_true,decide_eq_true_eq] at hj
   omega)
  rw [Te] at hj
  simp only [Bool.and_eq_true,decide_eq_true_eq,Bool.not_eq_true',beq_eq_false_iff_ne] at hj
  have:=hn j (by show j<m.desks.length;omega)
  unfold Ye at this
  rw [show (Z8 (closeX (Zo m0 b m0.desks.length) m w).desks j).1=true from by
   show (Z8 m.desks j).1=true
   rw [h.desks,Qr hb,if_neg hj.2.2]
   exact hj.2.1,Int.toNat_natCast,show Z8 (closeX (Zo m0 b m0.desks.length) m w).smiths w=Ur (Z8 m.smiths w) (TK (Zo m0 b m0.desks.length) m.desks.length (Z8 m.smiths w).2.2.2.1) from by
    unfold closeX
    rw [Qp hwl,if_pos rfl]] at this
  rw [show (Ur (Z8 m.smiths w) (TK (Zo m0 b m0.desks.length) m.desks.length (Z8 m.smiths w).2.2.2.1)).2.2.2.1=TK (Zo m0 b m0.desks.length) m.desks.length (Z8 m.smiths w).2.2.2.1 from rfl,hbit] at this
  cases this
 ·exact ⟨j,hj,e,hm⟩
theorem Shut.closeX {m0 m:Z4} {b:Nat} {P:Nat->Prop} (h:Shut m0 b P m) (h0:Loose m0) {w:Nat} (hw:P w) (op:Nat):Shut m0 b P (closeX op m w):=by
 obtain ⟨hpb,hg⟩:=h.pres hw
 have hl:m.desks.length=m0.desks.length:=by rw [h.desks,Vx]
 have h8:=WU h0
 obtain ⟨j,hj,_⟩:=h0.openD
 have hy:1<=(Z8 m.smiths w).2.2.2.1/\(Z8 m.smiths w).2.2.2.1<=255:=by
  generalize Z8 m.smiths w=s at *
  obtain ⟨st,be,rk,my,gu,lo',hi',hd,ca,ut,wk⟩:=s
  exact (Zk hpb).2.2.2.1
 obtain ⟨y0,y1⟩:=FM (op:=op) (n:=m.desks.length) (by omega) (by omega) hy.1 hy.2
 exact h.may hw y0 y1
theorem Shut.step {m0 m:Z4} {b:Nat} {P:Nat->Prop} (h:Shut m0 b P m) (h0:Loose m0) (hb:b<m0.desks.length) (hop:Zo m0 b m0.desks.length ≠ 0) {w:Nat} (hw:P w) :
  Shut m0 b (fun i=>P i/\i ≠ w) (Wn (Zo m0 b m0.desks.length) m w):=by
 obtain ⟨j,hj,ej,hm⟩:=h.chosen h0 hb hop hw
 have hx:=h.closeX h0 hw (Zo m0 b m0.desks.length)
 unfold Wn
 rw [ej]
 generalize Go.Proofs.YthbbahagpmdooaaGreat.closeX (Zo m0 b m0.desks.length) m w=x at *
 have hjx:j<x.desks.length:=by rw [hx.desks,<-h.desks];exact hj
 obtain ⟨hwl,hp,hbe,hba⟩:=hx.left w hw
 obtain ⟨hpb,hg⟩:=hx.pres hw
 unfold Ye at hm
 simp only [Bool.and_eq_true,Int.toNat_natCast] at hm
 have hbl:b<x.desks.length:=by rw [hx.desks,Vx];exact hb
 have hk:=Pv (m:={ x with smiths:=[] }) (hx.bare h0 hb hop) (s:=Z8 x.smiths w) (b:=j) hpb hp hg (by omega) (by rw [hbe];show (b:Int)<x.desks.length;omega) (by rw [hbe];exact hba) hjx hm.1 hm.2
 have k1:Yx x (putS x (Z8 x.smiths w) (j:Int))=true:=hk.1
 have k2:Yi x (putS x (Z8 x.smiths w) (j:Int))=true:=hk.2
 have hat:∀ i,Z8 (setS x w (putS x (Z8 x.smiths w) (j:Int))).smiths i=if i=w then putS x (Z8 x.smiths w) (j:Int) else Z8 x.smiths i:=fun i=>ZC hwl i
 have hlen:(setS x w (putS x (Z8 x.smiths w) (j:Int))).smiths.length=x.smiths.length:=by unfold setS;simp
 refine ⟨hx.rooms,hx.guilds,hx.paces,hx.now,hx.desks,by rw [hlen];exact hx.len,fun i hi=> ?_,fun i hi hn=> ?_,fun i hi=> ?_⟩
 ·rw [Xc (m:=x) (m':=setS x w (putS x (Z8 x.smiths w) (j:Int))) rfl rfl,hat]
  split
  ·exact k1
  ·exact hx.here i (by omega)
 ·show Yi x (Z8 (setS x w (putS x (Z8 x.smiths w) (j:Int))).smiths i)=true
  rw [hat]
  split
  ·exact k2
  ·rename_i e
   exact hx.seat i (by omega) (fun hpi=>hn ⟨hpi,e⟩)
 ·obtain ⟨hpi,e⟩:=hi
  obtain ⟨a,b1,c,d⟩:=hx.left i hpi
  refine ⟨by omega,?_⟩
  rw [hat,if_neg e]
  exact ⟨b1,c,d⟩
theorem Shut.weak {m0 m:Z4} {b:Nat} {P Q:Nat->Prop} (h:Shut m0 b P m) (h1:∀ i,P i->Q i) (h2:∀ i,Q i->P i):Shut m0 b Q m:=
 ⟨h.rooms,h.guilds,h.paces,h.now,h.desks,h.len,h.here,fun i hi hn=>h.seat i hi (fun hp=>hn (h1 i hp)),fun i hi=>h.left i (h2 i hi)⟩
def M0 (q:List Z5) (k:Nat) (i:Nat):Prop:= ∃ j,k<=j/\j<q.length/\(Z7 q j).2=(i:Int)
theorem NI {m0:Z4} (h0:Loose m0) {b:Nat} (hb:b<m0.desks.length) (hop:Zo m0 b m0.desks.length ≠ 0):∀ k,k<=(atV m0.smiths b m0.smiths.length).length->
  Shut m0 b (M0 (atV m0.smiths b m0.smiths.length) k) (YI (Zo m0 b m0.desks.length) (YH m0 b false) (atV m0.smiths b m0.smiths.length) k)
 | 0,_=>by
  refine (Ku h0 hb).weak (fun i hi=> ?_) (fun i hi=> ?_)
  ·have hm:(Xo (Z8 m0.smiths i),(i:Int)) ∈ atV m0.smiths b m0.smiths.length:=(Yk m0.smiths b _ m0.smiths.length).2 ⟨i,hi.1,hi.2.1,hi.2.2,rfl⟩
   obtain ⟨j,hj,e⟩:=Us hm
   exact ⟨j,Nat.zero_le _,hj,by rw [e]⟩
  ·obtain ⟨j,_,hj,e⟩:=hi
   obtain ⟨i',hi',h1,h2,e2⟩:=(Yk m0.smiths b _ m0.smiths.length).1 (XQ hj)
   rw [e2] at e
   have:i'=i:=by
    have e3:(i':Int)=(i:Int):=e
    omega
   subst this
   exact ⟨hi',h1,h2⟩
 | k+1,hk=>by
  have ih:=NI h0 hb hop k (by omega)
  obtain ⟨i',hi',h1,h2,e2⟩:=(Yk m0.smiths b _ m0.smiths.length).1 (XQ (show k<(atV m0.smiths b m0.smiths.length).length by omega))
  have hw:M0 (atV m0.smiths b m0.smiths.length) k i':=⟨k,Nat.le_refl _,by omega,by rw [e2]⟩
  have:=ih.step h0 hb hop hw
  unfold YI
  rw [e2]
  show Shut m0 b _ (Wn _ _ ((i':Int)).toNat)
  rw [Int.toNat_natCast]
  refine this.weak (fun i hi=> ?_) (fun i hi=> ?_)
  ·obtain ⟨⟨j,hj,hjl,e⟩,hne⟩:=hi
   refine ⟨j,?_,hjl,e⟩
   rcases Nat.lt_or_ge k j with hlt | hge
   ·omega
   ·exfalso
    have:j=k:=by omega
    subst this
    rw [e2] at e
    apply hne
    have:(i':Int)=(i:Int):=e
    omega
  ·obtain ⟨j,hj,hjl,e⟩:=hi
   refine ⟨⟨j,by omega,hjl,e⟩,fun hii=> ?_⟩
   subst hii
   have hpw:=Tk m0.smiths b m0.smiths.length
   have hat:∀ n (hn:n<(atV m0.smiths b m0.smiths.length).length),Z7 (atV m0.smiths b m0.smiths.length) n=(atV m0.smiths b m0.smiths.length)[n]:=fun n hn=>by unfold Z7;simp [List.getD,hn]
   have:=List.pairwise_iff_getElem.1 hpw k j (by omega) hjl (by omega)
   rw [<-hat k (by omega),<-hat j hjl] at this
   apply this
   rw [e2,e]
theorem Kt {m0:Z4} (h0:Loose m0) {b:Nat} (hb:b<m0.desks.length) (hop:Zo m0 b m0.desks.length ≠ 0):Loose (YI (Zo m0 b m0.desks.length) (YH m0 b false) (atV m0.smiths b m0.smiths.length) (atV m0.smiths b m0.smiths.length).length):=by
 have h:=NI h0 hb hop _ (Nat.le_refl _)
 have hno:∀ i,¬ M0 (atV m0.smiths b m0.smiths.length) (atV m0.smiths b m0.smiths.length).length i:=fun i hi=>by
  obtain ⟨j,h1,h2,_⟩:=hi
  omega
 generalize YI (Zo m0 b m0.desks.length) (YH m0 b false) (atV m0.smiths b m0.smiths.length) (atV m0.smiths b m0.smiths.length).length=x at *
 have hb':=h.bare h0 hb hop
 refine ⟨?_,hb'.desk,hb'.pace,h.here,fun i hi=>h.seat i hi (hno i),hb'.openD⟩
 have:=hb'.head
 unfold YY at this ⊢
 simp only [Bool.and_eq_true,decide_eq_true_eq] at this ⊢
 exact ⟨this.1,this.2.1,by rw [h.len];exact YL h0,this.2.2.2⟩
def XM (m:Z4) (b:Int):Z4 × Int:=
 if ZO m then (if YZ m b then (if (Z8 m.desks b.toNat).1 then (if Zo m b.toNat m.desks.length=0 then (m,5) else
  (ZP (YI (Zo m b.toNat m.desks.length) (YH m b.toNat false) (atV m.smiths b m.smiths.length) (atV m.smiths b m.smiths.length).length),0)) else (m,2)) else (m,1)) else (Yp,3)
theorem Lb {b:Int} (h:YZ m b=true):∃ k:Nat,b=(k:Int)/\k<m.desks.length:=by
 have:=ZU (show inB b 0 ((m.desks.length:Int)-1)=true from h)
 exact ⟨b.toNat,by omega,by omega⟩
theorem Nk (h:ZO m=true) (b:Int):ZO (XM m b).1=true:=by
 unfold XM
 rw [h]
 simp only [if_true]
 split
 ·rename_i hb
  obtain ⟨k,rfl,hk⟩:=Lb hb
  rw [Int.toNat_natCast]
  split
  ·split
   ·exact h
   ·rename_i hop
    exact Y0 (Kt (ZW h) hk hop)
  ·exact h
 ·exact h
def cnt (p:Nat->Bool):Nat->Nat
 | 0=>0
 | n+1=>cnt p n+(if p n then 1 else 0)
theorem Fo (p:Nat->Bool):∀ n,cnt p n<=n
 | 0=>Nat.le_refl _
 | n+1=>by
  have:=Fo p n
  unfold cnt
  split<;>omega
theorem Pa {p q:Nat->Bool} : ∀ n,(∀ i,i<n->p i=true->q i=true)->cnt p n<=cnt q n
 | 0,_=>Nat.le_refl _
 | n+1,h=>by
  have ih:=Pa n (fun i hi=>h i (by omega))
  have hn:=h n (by omega)
  unfold cnt
  cases hp:p n
  ·simp;omega
  ·rw [hn hp];simp;exact ih
theorem RW {p q:Nat->Bool} {x:Nat} (hp:p x=true) (hq:q x=false):∀ n,x<n->(∀ i,i<n->q i=true->p i=true)->cnt q n+1<=cnt p n
 | 0,hx,_=>by omega
 | n+1,hx,h=>by
  unfold cnt
  by_cases e:x=n
  ·subst e
   have:=Pa (p:=q) (q:=p) x (fun i hi=>h i (by omega))
   rw [hp,hq];simp;exact this
  ·have ih:=RW hp hq n (by omega) (fun i hi=>h i (by omega))
   have hn:=h n (by omega)
   cases hqn:q n
   ·simp;omega
   ·rw [hn hqn];simp;exact ih
theorem IT (q:Nat->Bool) (y:Nat):∀ n,cnt q n<=cnt (fun i=>q i && !(i ==y)) n+1
 | 0=>by simp [cnt]
 | n+1=>by
  unfold cnt
  by_cases e:n=y
  ·subst e
   have:=Pa (p:=q) (q:=fun i=>q i && !(i ==n)) n (fun i hi hqi=>by
    simp only [hqi,Bool.true_and,Bool.not_eq_true',beq_eq_false_iff_ne];omega)
   simp only [beq_self_eq_true,Bool.not_true,Bool.and_false]
   split<;>simp<;>omega
  ·have ih:=IT q y n
   have he:(n ==y)=false:=by simpa using e
   simp only [he,Bool.not_false,Bool.and_true]
   omega
theorem Fp {p q:Nat->Bool} {x y n:Nat} (hx:x<n) (hp:p x=true) (hq:q x=false) (h:∀ i,i<n->i ≠ y->q i=true->p i=true):cnt q n<=cnt p n:=by
 have h1:=IT q y n
 have h2:=RW (p:=p) (q:=fun i=>q i && !(i ==y)) hp (by simp [hq]) n hx (fun i hi hqi=>by
  simp only [Bool.and_eq_true,Bool.not_eq_true',beq_eq_false_iff_ne] at hqi
  exact h i hi hqi.2 hqi.1)
 omega
def WE (m:Z4) (b:Nat):Bool:=(Z8 m.desks b).1 && decide ((atV m.smiths b m.smiths.length).length=0)
def SY (m:Z4) (i:Nat):Bool:=ZR (Z8 m.smiths i) && !VR (Zv m (i:Int)) 0 (YU m.rooms (Z8 m.smiths i).2.1)
def Pk (m:Z4) (w b:Nat):Bool:=WE m b && (Ye m (w:Int) b && VR (Zv m (w:Int)) 0 (YU m.rooms (b:Int)))
def Wo (m:Z4) (w:Nat):Nat->Option Nat
 | 0=>none
 | k+1=>match Wo m w k with
  | some b=>some b
  | none=>if Pk m w k then some k else none
def Se (m:Z4) (w:Nat):Option Nat:=if SY m w then Wo m w m.desks.length else none
def UI (m:Z4):Nat->Option (Nat × Nat)
 | 0=>none
 | k+1=>match UI m k with
  | some r=>some r
  | none=>(Se m k).map fun b=>(k,b)
def VJ (m:Z4):Option (Nat × Nat):=if ZO m then UI m m.smiths.length else none
def Rh (m:Z4) (w b:Nat):Bool:=(Z8 m.smiths w).1 ==2 && Ye m (w:Int) b
def V1 (m:Z4) (b:Nat):Nat->Option Nat
 | 0=>none
 | k+1=>match V1 m b k with
  | some w=>some w
  | none=>if Rh m k b then some k else none
def RN (m:Z4) (b:Nat):Option Nat:=if WE m b then V1 m b m.smiths.length else none
def Xu (m:Z4):Nat->Option (Nat × Nat)
 | 0=>none
 | k+1=>match Xu m k with
  | some r=>some r
  | none=>(RN m k).map fun w=>(w,k)
def Wg (m:Z4):Option (Nat × Nat):=if ZO m then Xu m m.desks.length else none
def Vt (m:Z4):Option (Nat × Nat):=match VJ m with
 | some r=>some r
 | none=>Wg m
theorem NZ {w b:Nat} : ∀ {k},Wo m w k=some b->b<k/\Pk m w b=true
 | 0,h=>by cases h
 | k+1,h=>by
  unfold Wo at h
  cases hg:Wo m w k with
  | some b'=>
   rw [hg] at h
   cases h
   have:=NZ hg
   exact ⟨by omega,this.2⟩
  | none=>
   rw [hg] at h
   simp only at h
   split at h
   ·rename_i hh
    cases h
    exact ⟨by omega,hh⟩
   ·cases h
theorem L9 {w b:Nat} : ∀ {k},UI m k=some (w,b)->w<k/\SY m w=true/\b<m.desks.length/\Pk m w b=true
 | 0,h=>by cases h
 | k+1,h=>by
  unfold UI at h
  cases hg:UI m k with
  | some r=>
   rw [hg] at h
   cases h
   have:=L9 hg
   exact ⟨by omega,this.2⟩
  | none=>
   rw [hg] at h
   simp only [Option.map_eq_some_iff,Prod.mk.injEq] at h
   obtain ⟨b',hb',rfl,rfl⟩:=h
   unfold Se at hb'
   split at hb'
   ·rename_i hh
    have:=NZ hb'
    exact ⟨by omega,hh,this⟩
   ·cases hb'
theorem Oz {w b:Nat} : ∀ {k},V1 m b k=some w->w<k/\Rh m w b=true
 | 0,h=>by cases h
 | k+1,h=>by
  unfold V1 at h
  cases hg:V1 m b k with
  | some w'=>
   rw [hg] at h
   cases h
   have:=Oz hg
   exact ⟨by omega,this.2⟩
  | none=>
   rw [hg] at h
   simp only at h
   split at h
   ·rename_i hh
    cases h
    exact ⟨by omega,hh⟩
   ·cases h
theorem Qi {w b:Nat} : ∀ {k},Xu m k=some (w,b)->b<k/\WE m b=true/\w<m.smiths.length/\Rh m w b=true
 | 0,h=>by cases h
 | k+1,h=>by
  unfold Xu at h
  cases hg:Xu m k with
  | some r=>
   rw [hg] at h
   cases h
   have:=Qi hg
   exact ⟨by omega,this.2⟩
  | none=>
   rw [hg] at h
   simp only [Option.map_eq_some_iff,Prod.mk.injEq] at h
   obtain ⟨b',hb',rfl,rfl⟩:=h
   unfold RN at hb'
   split at hb'
   ·rename_i hh
    have:=Oz hb'
    exact ⟨by omega,hh,this⟩
   ·cases hb'
def U4 (m:Z4) (w b:Nat):Z4:=setS m w (putS m (Z8 m.smiths w) (b:Int))
def Vu (m:Z4) (w b:Nat):Z4:=ZP (U4 m w b)
structure Moves (m:Z4) (w b:Nat):Prop where
 right:ZO m=true
 who:w<m.smiths.length
 bench:b<m.desks.length
 pres:ZR (Z8 m.smiths w)=true
 may:Ye m (w:Int) b=true
 idle:WE m b=true
 why:(SY m w=true/\VR (Zv m (w:Int)) 0 (YU m.rooms (b:Int))=true)\/(Z8 m.smiths w).1=2
theorem Ib {w b:Nat} (h:VJ m=some (w,b)):Moves m w b:=by
 unfold VJ at h
 split at h
 ·rename_i hr
  obtain ⟨h1,h2,h3,h4⟩:=L9 h
  unfold Pk at h4
  simp only [Bool.and_eq_true] at h4
  have h2':=h2
  unfold SY at h2'
  simp only [Bool.and_eq_true] at h2'
  exact ⟨hr,h1,h3,h2'.1,h4.2.1,h4.1,.inl ⟨h2,h4.2.2⟩⟩
 ·cases h
theorem J9 {w b:Nat} (h:Wg m=some (w,b)):Moves m w b:=by
 unfold Wg at h
 split at h
 ·rename_i hr
  obtain ⟨h1,h2,h3,h4⟩:=Qi h
  unfold Rh at h4
  simp only [Bool.and_eq_true,beq_iff_eq] at h4
  exact ⟨hr,h3,h1,by unfold ZR;rw [h4.1];rfl,h4.2,h2,.inr h4.1⟩
 ·cases h
theorem TL {w b:Nat} (h:Vt m=some (w,b)):Moves m w b:=by
 unfold Vt at h
 cases hm:VJ m with
 | some r=>rw [hm] at h;cases h;exact Ib hm
 | none=>rw [hm] at h;exact J9 h
theorem Moves.loose {w b:Nat} (h:Moves m w b):Loose (U4 m w b):=by
 have hlo:=ZW h.right
 obtain ⟨p,g1,b1⟩:=hlo.limits h.who (by intro e;have:=h.pres;unfold ZR at this;rw [e] at this;cases this)
 obtain ⟨a0,a1,a2,a3,a4⟩:=hlo.at h.who h.pres
 have hm:=h.may
 unfold Ye at hm
 simp only [Bool.and_eq_true,Int.toNat_natCast] at hm
 have:=Pv (m:=m) hlo (s:=Z8 m.smiths w) (b:=b) p h.pres g1 a0 a1 a4 h.bench hm.1 hm.2
 exact hlo.setS h.who this.1 this.2
theorem Moves.keeps {w b:Nat} (h:Moves m w b):ZO (Vu m w b)=true:=Y0 h.loose
theorem Nc {ss:List Z3} {b:Int} {n:Nat} : (atV ss b n).length=0 ↔ ∀ i,i<n-> ¬ ((Z8 ss i).2.1=b/\ZR (Z8 ss i)=true):=by
 constructor
 ·intro h i hi hp
  have hm:(Xo (Z8 ss i),(i:Int)) ∈ atV ss b n:=(Yk ss b _ n).2 ⟨i,hi,hp.1,hp.2,rfl⟩
  rw [List.length_eq_zero_iff.1 h] at hm
  cases hm
 ·intro h
  rw [List.length_eq_zero_iff]
  refine List.eq_nil_iff_forall_not_mem.2 fun e he=> ?_
  obtain ⟨i,hi,h1,h2,_⟩:=(Yk ss b e n).1 he
  exact h i hi ⟨h1,h2⟩
theorem Sj {w b:Nat} (hw:w<m.smiths.length) (i:Nat):Z8 (U4 m w b).smiths i=if i=w then putS m (Z8 m.smiths w) (b:Int) else Z8 m.smiths i:=ZC hw i
theorem Vw (m:Z4) (w b:Nat):(U4 m w b).smiths.length=m.smiths.length:=by unfold U4 setS;simp
theorem Ow {i:Nat} (hi:i<m.smiths.length):(Z8 (ZP m).smiths i).2=(Z8 m.smiths i).2:=by
 unfold ZP
 rw [Wf m hi]
 split<;>rfl
theorem IG {i:Nat} (hi:i<m.smiths.length):ZR (Z8 (ZP m).smiths i)=ZR (Z8 m.smiths i):=(W6 m m.desks.length i hi).2.1
theorem IE (m:Z4) {b:Nat} (hb:b<m.desks.length):WE (ZP m) b=WE m b:=by
 unfold WE ZP
 rw [RL,UB m b _ (Nat.le_refl _),if_pos hb]
 congr 1
 unfold WM
 split<;>rfl
theorem Gu (m:Z4) {i:Nat} (hi:i<m.smiths.length):SY (ZP m) i=SY m i:=by
 have h1:Zv (ZP m) (i:Int)=Zv m (i:Int):=by
  unfold Zv SX
  rw [Int.toNat_natCast,Ow hi,show (ZP m).guilds=m.guilds from (ZL m m.desks.length).2.1]
 unfold SY
 rw [IG hi,h1,Ow hi,show (ZP m).rooms=m.rooms from (ZL m m.desks.length).1]
def Q2 (m:Z4):Nat:=cnt (WE m) m.desks.length
def Ny (m:Z4):Nat:=cnt (SY m) m.smiths.length
def T0 (m:Z4):Nat:=13*Q2 m+Ny m
theorem Lj {p q:Nat->Bool} (n:Nat) (h:∀ i,i<n->p i=q i):cnt p n=cnt q n:=
 Nat.le_antisymm (Pa n fun i hi hp=>by rw [<-h i hi];exact hp) (Pa n fun i hi hp=>by rw [h i hi];exact hp)
theorem KI (m:Z4):Q2 (ZP m)=Q2 m:=by
 unfold Q2
 rw [show (ZP m).desks.length=m.desks.length from (ZL m m.desks.length).2.2.2.2.2]
 exact Lj _ fun i hi=>IE m hi
theorem IF (m:Z4):Ny (ZP m)=Ny m:=by
 unfold Ny
 rw [show (ZP m).smiths.length=m.smiths.length from (ZL m m.desks.length).2.2.2.2.1]
 exact Lj _ fun i hi=>Gu m hi
theorem FZ {w b:Nat} (hw:w<m.smiths.length) (hp:ZR (Z8 m.smiths w)=true):WE (U4 m w b) b=false:=by
 unfold WE
 rw [decide_eq_false,Bool.and_false]
 intro h
 refine Nc.1 h w (by rw [Vw];exact hw) ?_
 rw [Sj hw,if_pos rfl]
 exact ⟨rfl,hp⟩
theorem Mw {w b j:Nat} (hw:w<m.smiths.length) (hj:(Z8 m.smiths w).2.1 ≠ (j:Int)) (h:WE (U4 m w b) j=true):WE m j=true:=by
 unfold WE at h ⊢
 simp only [Bool.and_eq_true,decide_eq_true_eq] at h ⊢
 refine ⟨h.1,Nc.2 fun i hi hp=> ?_⟩
 have:=Nc.1 h.2 i (by rw [Vw];exact hi)
 rw [Sj hw] at this
 by_cases e:i=w
 ·subst e;exact hj hp.1
 ·rw [if_neg e] at this;exact this hp
theorem EZ {w b i:Nat} (hw:w<m.smiths.length) (hi:i ≠ w):SY (U4 m w b) i=SY m i:=by
 unfold SY Zv
 rw [Int.toNat_natCast,Sj hw,if_neg hi]
 rfl
theorem F0 {w b:Nat} (hw:w<m.smiths.length) (h:VR (Zv m (w:Int)) 0 (YU m.rooms (b:Int))=true):SY (U4 m w b) w=false:=by
 unfold SY Zv
 rw [Int.toNat_natCast,Sj hw,if_pos rfl]
 have e:SX (U4 m w b).guilds (putS m (Z8 m.smiths w) (b:Int))=Zv m (w:Int):=by
  unfold Zv
  rw [Int.toNat_natCast]
  rfl
 rw [e]
 show (_ && !VR _ 0 (YU m.rooms (b:Int)))=false
 rw [h];simp
theorem KR (h:ZO m=true) {w:Nat} (hw:w<m.smiths.length) (h2:(Z8 m.smiths w).1=2):∃ i,i<m.smiths.length/\i ≠ w/\(Z8 m.smiths i).2.1=(Z8 m.smiths w).2.1/\ZR (Z8 m.smiths i)=true:=by
 have hlo:=ZW h
 have hp:ZR (Z8 m.smiths w)=true:=by unfold ZR;rw [h2];rfl
 obtain ⟨a0,a1,_⟩:=hlo.at hw hp
 obtain ⟨b,hb⟩:∃ b:Nat,(Z8 m.smiths w).2.1=(b:Int):=⟨(Z8 m.smiths w).2.1.toNat,by omega⟩
 have hbl:b<m.desks.length:=by omega
 have hok:YE m b=true:=by
  unfold ZO at h
  simp only [Bool.and_eq_true] at h
  exact Na h.2 hbl
 rw [<-Ov] at hok
 unfold V0 at hok
 split at hok
 ·simp only [decide_eq_true_eq,List.length_eq_zero_iff] at hok
  have:(w:Int) ∈ ZX (atB (b:Int)) m.smiths m.smiths.length:=(XD _ _ _ _).2 ⟨w,hw,rfl,by unfold atB;rw [h2,hb];simp⟩
  rw [hok] at this
  cases this
 ·simp only [Bool.and_eq_true,decide_eq_true_eq] at hok
  have hx:Z8 (ZX (Zn (b:Int)) m.smiths m.smiths.length) 0 ∈ ZX (Zn (b:Int)) m.smiths m.smiths.length:=UR (by omega)
  obtain ⟨i,hi,_,hwk⟩:=(XD _ _ _ _).1 hx
  unfold Zn at hwk
  simp only [Bool.and_eq_true,beq_iff_eq] at hwk
  exact ⟨i,hi,fun e=>by subst e;omega,by rw [hb];exact hwk.2,by unfold ZR;rw [hwk.1];rfl⟩
theorem Moves.falls {w b:Nat} (h:Moves m w b):T0 (Vu m w b)<T0 m:=by
 unfold T0 Vu
 rw [KI,IF]
 have hlo:=ZW h.right
 have h12:=YL hlo
 obtain ⟨a0,a1,_⟩:=hlo.at h.who h.pres
 have hmb:=Fo (SY (U4 m w b)) m.smiths.length
 have hbusy:=FZ (b:=b) h.who h.pres
 rcases h.why with ⟨hmis,hfit⟩ | hwait
 ·have e1:Q2 (U4 m w b)<=Q2 m:=Fp (y:=(Z8 m.smiths w).2.1.toNat) h.bench h.idle hbusy fun i hi hne hq=>Mw h.who (by omega) hq
  have e2:Ny (U4 m w b)+1<=Ny m:=by
   unfold Ny
   rw [Vw]
   refine RW hmis (F0 h.who hfit) _ h.who fun i hi hq=> ?_
   by_cases e:i=w
   ·subst e;exact hmis
   ·rw [EZ h.who e] at hq;exact hq
  omega
 ·have e1:Q2 (U4 m w b)+1<=Q2 m:=by
   refine RW h.idle hbusy _ h.bench fun j hj hq=> ?_
   by_cases e:(Z8 m.smiths w).2.1=(j:Int)
   ·exfalso
    obtain ⟨i,hi,hiw,hbe,hpr⟩:=KR h.right h.who hwait
    unfold WE at hq
    simp only [Bool.and_eq_true,decide_eq_true_eq] at hq
    have:=Nc.1 hq.2 i (by rw [Vw];exact hi)
    rw [Sj h.who,if_neg hiw] at this
    exact this ⟨by rw [hbe,e],hpr⟩
   ·exact Mw h.who e hq
  have e2:Ny (U4 m w b)<=12:=by
   unfold Ny
   rw [Vw]
   omega
  omega
def Vs:Nat->Z4->Z4
 | 0,m=>m
 | k+1,m=>match Vt m with
  | none=>m
  | some (w,b)=>Vs k (Vu m w b)
def U3 (m:Z4):Z4:=Vs (T0 m+1) m
theorem Q9:∀ (j k:Nat) (m:Z4),T0 m<j->T0 m<k->Vs j m=Vs k m
 | 0,_,_,h,_=>by omega
 | _+1,0,_,_,h=>by omega
 | j+1,k+1,m,hj,hk=>by
  show (match Vt m with | none=>m | some (w,b)=>Vs j (Vu m w b))=(match Vt m with | none=>m | some (w,b)=>Vs k (Vu m w b))
  cases hm:Vt m with
  | none=>rfl
  | some r=>
   obtain ⟨w,b⟩:=r
   have hf:=(TL hm).falls
   exact Q9 j k (Vu m w b) (by omega) (by omega)
theorem LY (h:Vt m=none):U3 m=m:=by
 unfold U3 Vs
 rw [h]
theorem N9 {w b:Nat} (h:Vt m=some (w,b)):U3 m=U3 (Vu m w b):=by
 have hf:=(TL h).falls
 have:U3 m=Vs (T0 m) (Vu m w b):=by
  show (match Vt m with | none=>m | some (w,b)=>Vs (T0 m) (Vu m w b))=_
  rw [h]
 rw [this]
 exact Q9 _ _ _ (by omega) (by omega)
theorem Sc:∀ (k:Nat) (m:Z4),ZO m=true->ZO (Vs k m)=true
 | 0,m,h=>h
 | k+1,m,h=>by
  unfold Vs
  cases hm:Vt m with
  | none=>exact h
  | some r=>
   obtain ⟨w,b⟩:=r
   exact Sc k (Vu m w b) (TL hm).keeps
theorem LZ (h:ZO m=true):ZO (U3 m)=true:=Sc _ m h
def XW (m:Z4):Z4:=if ZO m then U3 m else Yp
end Go.Proofs.YthbbahagpmdooaaGreat
