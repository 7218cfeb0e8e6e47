/- Part 10 of what the proof rests on. No condition but those that a theorem names. -/
import Derived.Test.YtffcgajndmhpkaaGreatDoorXt08
import Derived.Deep.RegionHeld3
set_option maxHeartbeats 8000000
set_option maxRecDepth 100000
namespace Go.Proofs.YtffcgajndmhpkaaGreatDoor
open Go.ChangeShapes Go.WideShapes Go.ChangeAt Go.RowKit Go.Sort
set_option linter.unusedVariables false
variable {w w' w0 w1 w2 w3 w₀ wr W W' X A B C : World} {v v0 v1 v2 v3 v4 u u0 u1 u2 u3 u4 : Value} {m : Z6}
theorem K6 (h:Loose m) (k:Nat) (hk:k<=m.desks.length):Loose (Zg m k):=by
 obtain ⟨e1,e2,e3,e4,e5,e6⟩:=ZM m k
 have hd:=fun j=>VB m j k hk
 have hopen:∀ j,(Z8 (Zg m k).desks j).1=(Z8 m.desks j).1:=by
  intro j
  rw [hd j]
  split
  ·unfold Xk;split<;>rfl
  ·rfl
 have hmark:∀ j,j<m.desks.length->(-900000000000<=(Z8 (Zg m k).desks j).2.2/\(Z8 (Zg m k).desks j).2.2<=900000000000)/\(Z8 m.desks j).2.2<=(Z8 (Zg m k).desks j).2.2/\((Z8 (Zg m k).desks j).2.2<=(Z8 m.desks j).2.2\/ ∀ i,i<m.smiths.length->(Z8 m.smiths i).2.1=(j:Int)->ZP (Z8 m.smiths i)=true->(Z8 (Zg m k).desks j).2.2<=XL (Z8 m.smiths i)):=by
  intro j hj
  obtain ⟨k0,k1⟩:=SW (h.desk j hj)
  rw [hd j]
  split
  ·unfold Xk
   split
   ·exact ⟨⟨k0,k1⟩,Int.le_refl _,.inl (Int.le_refl _)⟩
   ·rename_i e t hq
    obtain ⟨_,i,hi,hib,hip,rfl⟩:=TL hq
    obtain ⟨_,_,_,_,hband⟩:=h.at hi hip
    obtain ⟨a0,a1,_⟩:=U7 hband
    have hm:=MI (m:=(Z8 m.desks j).2.2) (f:=XL (Z8 m.smiths i)) (by omega) (by omega) a0 a1
    show (-900000000000<=ZG _ _/\ZG _ _<=900000000000)/\_<=ZG _ _/\(ZG _ _<=_\/_)
    rw [hm]
    refine ⟨by omega,by omega,?_⟩
    by_cases hc:XL (Z8 m.smiths i)<=(Z8 m.desks j).2.2
    ·left;omega
    ·right
     intro i' hi' hb' hp'
     have:=P9 hq hi' hb' hp'
     simp only at this
     show min (max (Z8 m.desks j).2.2 (XL (Z8 m.smiths i))) 900000000000<=_
     omega
  ·exact ⟨⟨k0,k1⟩,Int.le_refl _,.inl (Int.le_refl _)⟩
 refine ⟨?_,?_,?_,?_,?_,?_⟩
 ·have:=h.head
  unfold YY at this ⊢
  rw [e1,e2,e3,e4,e5,e6]
  exact this
 ·intro j hj
  have hj':j<m.desks.length:=by omega
  exact Zp (hmark j hj').1.1 (hmark j hj').1.2
 ·intro j hj
  have hj':j<m.paces.length:=by rw [e3] at hj;exact hj
  have:=h.pace j hj'
  unfold WY at this ⊢
  rw [e1,e3]
  exact this
 ·intro i hi
  have hi':i<m.smiths.length:=by omega
  rw [Xq (m:=m) (by rw [e2]) (by rw [e6])]
  rw [Xy m hi']
  split
  ·rename_i hp
   exact Oj (h.here i hi') hp.2 (by split<;>omega) (by split<;>omega)
  ·exact h.here i hi'
 ·intro i hi
  have hi':i<m.smiths.length:=by omega
  have ha:=Xx m k i hi'
  unfold Ym
  show (!ZP (Z8 (Zg m k).smiths i) || _)=true
  rw [ha.2.1]
  cases hp:ZP (Z8 m.smiths i)
  ·rfl
  ·obtain ⟨b0,b1,ho,hm,hband⟩:=h.at hi' hp
   obtain ⟨a0,a1,a2,a3,a4,a5⟩:=U7 hband
   obtain ⟨⟨q0,q1⟩,q2,q3⟩:=hmark (Z8 m.smiths i).2.1.toNat (by omega)
   have hmay:(Z8 (Zg m k).smiths i).2.2.2.1=(Z8 m.smiths i).2.2.2.1:=by
    rw [Xy m hi'];split<;>rfl
   show (!true || ((Z8 (Zg m k).desks (Z8 (Zg m k).smiths i).2.1.toNat).1 && (Wf (Z8 (Zg m k).smiths i).2.2.2.1 (Z8 (Zg m k).smiths i).2.1 && Xz (XL (Z8 (Zg m k).smiths i)) (Z8 (Zg m k).desks (Z8 (Zg m k).smiths i).2.1.toNat).2.2)))=true
   rw [ha.1,ha.2.2,hmay,hopen,ho,hm]
   rw [Pt a0 a1 (by omega) (by omega) ?_ (by omega)]
   ·rfl
   ·rcases q3 with q3 | q3
    ·omega
    ·have:=q3 i hi' (by omega) hp
     omega
 ·obtain ⟨j,hj,ho⟩:=h.openD
  exact ⟨j,by omega,by rw [hopen];exact ho⟩
theorem KE {α:Type} [Inhabited α] {xs ys:List α} (hl:xs.length=ys.length) (h:∀ i,i<xs.length->Z8 xs i=Z8 ys i):xs=ys:=by
 apply List.ext_getElem hl
 intro i h1 h2
 have:=h i h1
 unfold Z8 at this
 rwa [List.getD_eq_getElem?_getD,List.getD_eq_getElem?_getD,List.getElem?_eq_getElem h1,List.getElem?_eq_getElem h2] at this
theorem Ev {ss:List Z3} {b:Int} {e:Z4} {t:List Z4} (h:atV ss b ss.length=e::t):(ZL ss (e::t)).set e.2.toNat (stS (Z8 (ZL ss (e::t)) e.2.toNat) 3)=ZL (ss.set e.2.toNat (stS (Z8 ss e.2.toNat) 3)) t:=by
 have hmem:∀ x ∈ e::t,0<=x.2/\x.2<ss.length:=fun x hx=>by
  rw [<-h] at hx
  obtain ⟨i,hi,_,_,rfl⟩:=(Yc ss b x ss.length).1 hx
  exact ⟨by show (0:Int)<=(i:Int);omega,by show (i:Int)<_;omega⟩
 have hw:=Uj ss b ss.length
 rw [h,List.pairwise_cons] at hw
 obtain ⟨he0,he1⟩:=hmem e (List.mem_cons_self ..)
 have hel:e.2.toNat<ss.length:=by omega
 have hse:∀ x ∈ t,0<=x.2/\x.2<(ss.set e.2.toNat (stS (Z8 ss e.2.toNat) 3)).length:=fun x hx=>by rw [List.length_set];exact hmem x (List.mem_cons_of_mem _ hx)
 refine KE (by rw [List.length_set,Yi,Yi,List.length_set]) fun i hi=> ?_
 rw [List.length_set,Yi] at hi
 rw [ZK (by rw [Yi];exact hel)]
 obtain ⟨p1,p2⟩:=Sj (e::t) ss i hmem
 obtain ⟨r1,r2⟩:=Sj t (ss.set e.2.toNat (stS (Z8 ss e.2.toNat) 3)) i hse
 by_cases hie:i=e.2.toNat
 ·subst hie
  have hn:∀ x ∈ t,x.2 ≠ ((e.2.toNat:Nat):Int):=fun x hx e9=>hw.1 x hx (by omega)
  rw [if_pos rfl,r2 hn,ZK hel,if_pos rfl,p1 ⟨e,List.mem_cons_self ..,by omega⟩]
  rfl
 ·rw [if_neg hie]
  by_cases hx:∃ x ∈ t,x.2=(i:Int)
  ·obtain ⟨x,hx,hxi⟩:=hx
   rw [p1 ⟨x,List.mem_cons_of_mem _ hx,hxi⟩,r1 ⟨x,hx,hxi⟩,ZK hel,if_neg hie]
  ·have hn:∀ x ∈ t,x.2 ≠ (i:Int):=fun x hx' e9=>hx ⟨x,hx',e9⟩
   rw [p2 (fun x hx'=>by
    rcases List.mem_cons.1 hx' with rfl | hx'
    ·omega
    ·exact hn x hx'),r2 hn,ZK hel,if_neg hie]
def Zh (m:Z6):Z6:=if Ze m then ZQ m else YF
theorem Wl:(Tryz.prog.info? 151).map (fun i=>(i.zero,i.size,i.bytes))=some (some (.agg #[.int .i64 0,.int .i64 0]),2,16):=by kernel_rfl
theorem Ua (ps:List Z4):(Zj ps).length=ps.length*2:=by unfold Zj;exact ML ps
theorem Ss (ps qs:List Z4):Zj (ps++qs)=Zj ps++Zj qs:=by unfold Zj;rw [List.flatMap_append]
theorem Qk:∀ (ps:List Z4) (n:Nat),Zj (ps.take n)=(Zj ps).take (n*2)
 | [],n=>by simp [Zj]
 | p::ps,0=>by simp [Zj]
 | p::ps,n+1=>by
  have ih:=Qk ps n
  unfold Zj at ih ⊢
  rw [show (n+1)*2=n*2+2 by omega]
  simpa using ih
def EntsAt (n₀:Nat) (w:World) (v:Value) (ps:List Z4):Prop:=w.ownsRow n₀ 151 2 v ps.length (Zj ps)
theorem EntsAt.lt {n₀:Nat}  {ps:List Z4} (h:EntsAt n₀ w v ps) {k:Nat} (hk:v.ownBlock=some k):n₀<=k/\k<w.heap.size:=World.ownsRow.lt h k hk
theorem EntsAt.mono {n₀ n₁:Nat}  {ps:List Z4} (h:EntsAt n₀ w v ps) (hn:n₁<=n₀):EntsAt n₁ w v ps:=Ut h hn
theorem EntsAt.same {n₀:Nat}  {ps:List Z4} (h:EntsAt n₀ w v ps) (hs:∀ k,v.ownBlock=some k->w'.heap[k]?=w.heap[k]?):EntsAt n₀ w' v ps:=XX h hs
theorem EntsAt.later {n₀:Nat}  {ps:List Z4} (h:EntsAt n₀ w v ps) (hb:Below w.heap.size w w'):EntsAt n₀ w' v ps:=h.same fun k hk=>hb.block k (h.lt hk).2
theorem EntsAt.paces {n₀:Nat}  {ps:List Z4} (h:EntsAt n₀ w v ps):IsPaces w v ps:=by
 have h':=h
 rcases h.2 with ⟨rfl,hz⟩ | ⟨g,cap,cur,rfl,hb,hg,hnc,hcm,r⟩
 ·exact ⟨none,0,by rw [hz],by omega,by omega,.inl (List.eq_nil_of_length_eq_zero hz)⟩
 ·refine ⟨_,cap,rfl,hnc,by unfold maxLen at hcm;omega,.inr ⟨g,0,rfl,(Array.getElem?_eq_some_iff.1 hg).1,fun k hk=> ?_⟩⟩
  have hp:=VF (f:=fun p:Z4=>Value.int .i64 p.1) (g:=fun p:Z4=>Value.int .i64 p.2) ps k hk
  have hat:Z7 ps k=ps[k]:=by unfold Z7;simp [List.getD,hk]
  rw [Nat.zero_add,hat]
  exact ⟨(World.ownsRow.cellAt h' (k*2) (by omega)).trans hp.1,(World.ownsRow.cellAt h' (k*2+1) (by omega)).trans hp.2⟩
theorem EntsAt.shape {n₀:Nat}  {ps:List Z4} (h:EntsAt n₀ w v ps):∃ a cap,v= .slice a ps.length cap:=by
 rcases h.2 with ⟨rfl,hz⟩ | ⟨g,cap,cur,rfl,_⟩
 ·exact ⟨none,0,by rw [hz]⟩
 ·exact ⟨_,cap,rfl⟩
theorem EntsAt.cut {n₀:Nat} {a:Option Addr} {len cap:Nat} {ps:List Z4} (h:EntsAt n₀ w (.slice a len cap) ps) {n:Nat} (hn:n<=ps.length) (ha:a ≠ none):EntsAt n₀ w (.slice a n cap) (ps.take n):=by
 have hl:(ps.take n).length=n:=by simp;omega
 unfold EntsAt
 rw [hl,Qk]
 rcases h.2 with ⟨hv,hz⟩ | ⟨g,cap',cur,hv,hb,hg,hnc,hcm,hs,ht⟩
 ·cases hv;exact absurd rfl ha
 ·cases hv
  refine ⟨by rw [List.length_take,Ua];omega,.inr ⟨g,cap,cur,rfl,hb,hg,by omega,hcm,hs,?_⟩⟩
  rw [<-ht,List.take_take];congr 1;omega
theorem IsPaces.cut {a:Option Addr} {len cap:Nat} {ps:List Z4} (h:IsPaces w (.slice a len cap) ps) {n:Nat} (hn:n<=ps.length):IsPaces w (.slice a n cap) (ps.take n):=by
 obtain ⟨a',cap',he,hc,hm,hr⟩:=h
 cases he
 have hl:(ps.take n).length=n:=by simp;omega
 refine ⟨a,cap,by rw [hl],by omega,hm,?_⟩
 rcases hr with hr | ⟨b,off,rfl,hlt,hcl⟩
 ·exact .inl (by rw [hr];simp)
 ·refine .inr ⟨b,off,rfl,hlt,fun k hk=> ?_⟩
  rw [V7 (by omega)]
  exact hcl k (by omega)
theorem Gn {a b c d:Int} (h:a ≠ c):ltB (a,b) (c,d)=decide (a<c):=by unfold ltB;simp;omega
theorem Gp {a b d:Int} : ltB (a,b) (a,d)=decide (b<d):=by unfold ltB;simp
theorem Uf (a b c d:Int) (w:World):Calls Tryz.prog 234 #[.agg #[.int .i64 a,.int .i64 b],.agg #[.int .i64 c,.int .i64 d]] w fun e w'=>e= .returned (.bool (ltB (a,b) (c,d)))/\Below w.heap.size w w':=by
 by_cases h:a=c
 ·subst h
  rw [Gp]
  go_enter Tryz.func234,Tryz.ntmps234
  go_wp2_with fail
  go_ret
  exact ⟨rfl,((ba _ _)).alloc (by simp) _⟩
 ·rw [Gn h]
  have h':(a ==c)=false:=by simpa using h
  have h2:(a !=c)=true:=by simpa using h
  clear h
  go_enter Tryz.func234,Tryz.ntmps234
  go_wp2_with fail
  go_ret
  exact ⟨rfl,((ba _ _)).alloc (by simp) _⟩
theorem Xh (a b c d:Int) (w:World):Calls Tryz.prog 290 #[.agg #[.int .i64 a,.int .i64 b],.agg #[.int .i64 c,.int .i64 d]] w fun e w'=>e= .returned (.bool (ltB (a,b) (c,d)))/\Below w.heap.size w w':=by
 by_cases h:a=c
 ·subst h
  rw [Gp]
  go_enter Tryz.func290,Tryz.ntmps290
  go_wp2_with fail
  go_ret
  exact ⟨rfl,((ba _ _)).alloc (by simp) _⟩
 ·rw [Gn h]
  have h':(a ==c)=false:=by simpa using h
  have h2:(a !=c)=true:=by simpa using h
  clear h
  go_enter Tryz.func290,Tryz.ntmps290
  go_wp2_with fail
  go_ret
  exact ⟨rfl,((ba _ _)).alloc (by simp) _⟩
theorem MA (n:Int) (w:World):Calls Tryz.prog 310 #[.int .i64 n] w fun e w'=>e= .returned (.bool (inB n (-1000000000000) 1000000000000))/\w'=w:=by
 go_enter Tryz.func310,Tryz.ntmps310
 go_wp2_with (go_at_call 117;refine (ZC _ _ _ _).mono ?_;rintro e w' ⟨rfl,rfl⟩)
 go_ret
 exact ⟨rfl,rfl⟩
theorem V5 (f c:Int) (w:World):Calls Tryz.prog 289 #[.agg #[.int .i64 f,.int .i64 c]] w fun e w'=>e= .returned (.bool (N9 (f,c)))/\Below w.heap.size w w':=by
 cases h1:inB f (-1000000000000) 1000000000000
 ·go_enter Tryz.func289,Tryz.ntmps289
  go_wp2_with fail
  refine (MA _ _).mono ?_
  rintro e w' ⟨rfl,rfl⟩
  go_wp2_with fail
  go_ret
  exact ⟨Z5 (by unfold N9;simp [h1]),(ba _ _)⟩
 ·go_enter Tryz.func289,Tryz.ntmps289
  go_wp2_with fail
  refine (MA _ _).mono ?_
  rintro e w' ⟨rfl,rfl⟩
  go_wp2_with fail
  refine (ZC _ _ _ _).mono ?_
  rintro e w' ⟨rfl,rfl⟩
  go_wp2_with fail
  go_ret
  exact ⟨Z5 (by unfold N9;simp [h1]),(ba _ _)⟩
theorem MB (f c who:Int) (B:Nat) (w:World) (hc:w.cell? ⟨B,0,none⟩=some (.int .i64 who)) (hB:B<w.heap.size) :
  Calls Tryz.prog 312 #[.agg #[.int .i64 f,.int .i64 c],.pointer (some ⟨B,0,none⟩)] w fun e w'=>e= .returned (.bool (c ==who))/\Below w.heap.size w w':=by
 have hne:B ≠ w.heap.size:=Nat.ne_of_lt hB
 go_enter Tryz.func312,Tryz.ntmps312
 go_wp2_with fail
 go_ret
 exact ⟨rfl,(ba _ _)⟩
theorem JR  {ps:List Z4} (who:Int) (B:Nat) (h:IsPaces w v ps) (hc:w.cell? ⟨B,0,none⟩=some (.int .i64 who)) (hB:B<w.heap.size) :
  Calls Tryz.prog 311 #[v,.func (Fn.func 312) #[] #[.pointer (some ⟨B,0,none⟩)]] w fun e w'=>e= .returned (.int .i64 (WA ps who))/\Below w.heap.size w w':=by
 obtain ⟨a,cap,rfl,hcc,hm,hr⟩:=h
 have Hr:=Z9 hr
 have Hc:=Z9 hc
 clear hr hc
 go_enter Tryz.func311,Tryz.ntmps311
 go_wp2_with fail
 go_loopw [5,8] (fun _ i wr=> ∃ k:Nat,k<=ps.length/\i= .int .i64 k/\Hid (∀ j,j<k->(Z7 ps j).2 ≠ who)/\Below w.heap.size w wr) (fun _ i _=>ps.length-(intOf i).toNat)
 case atStart=>exact ⟨0,Nat.zero_le _,rfl,Z9 (fun j hj=>by omega),Below.refl _ _⟩
 case round=>
  obtain ⟨k,hk,rfl,hno,hb⟩:=hrel
  have Hb:=Z9 hb
  by_cases hlt:k<ps.length
  ·rcases uh Hr with h0 | ⟨b,off,rfl,hbw,hcl⟩
   ·rw [h0] at hlt;simp at hlt
   obtain ⟨c0,c1⟩:=hcl k hlt
   rw [<-hb.cell (p:=⟨b,off+k*2,none⟩) hbw] at c0
   rw [<-hb.cell (p:=⟨b,off+k*2+1,none⟩) hbw] at c1
   generalize hz:Z7 ps k=p at *
   obtain ⟨f,z⟩:=p
   simp only at c0 c1
   have hcb:=(hb.cell (p:=⟨B,0,none⟩) hB).trans (uh Hc)
   have hBr:B<wr.heap.size:=Nat.lt_of_lt_of_le hB hb.size
   have Hz:=Z9 hz
   have Hcb:=Z9 hcb
   clear hz hcl hb hcb
   by_cases hx:z=who
   ·subst hx
    go_wp2_with fail
    refine ck (MB _ _ _ _ _ (uh Hcb) hBr) fun w1 hb1=> ?_
    have Hb1:=Z9 hb1
    clear hb1
    go_wp2_with fail
    go_ret
    exact ⟨ZD (GS hlt (by rw [uh Hz]) (uh hno)).symm,(uh Hb).trans ((uh Hb1).mono (uh Hb).size)⟩
   ·have hx':(z ==who)=false:=by simpa using hx
    have Hx:=Z9 hx
    clear hx
    go_wp2_with fail
    refine (MB _ _ _ _ _ (uh Hcb) hBr).mono ?_
    rw [hx']
    rintro e w1 ⟨rfl,hb1⟩
    have Hb1:=Z9 hb1
    clear hb1
    go_wp2_with fail
    go_roundw
    case rel=>exact ⟨k+1,by omega,by go_num,Z9 (Yu (uh hno) (by rw [uh Hz];exact uh Hx)),(uh Hb).trans ((uh Hb1).mono (uh Hb).size)⟩
    case measure=>exact ms
  ·obtain rfl:k=ps.length:=by omega
   go_wp2_with fail
   go_ret
   exact ⟨ZD (Ob (uh hno)).symm,hb⟩
theorem Kv  {ps:List Z4} (who:Int) (h:IsPaces w v ps) :
  Calls Tryz.prog 291 #[v,.int .i64 who] w fun e w'=>e= .returned (.int .i64 (WA ps who))/\Below w.heap.size w w':=by
 have Hv:=Z9 h
 obtain ⟨a,cap,rfl,hcc,hm,hr⟩:=h
 clear hr
 go_enter Tryz.func291,Tryz.ntmps291
 go_wp2_with fail
 refine ck (JR who w.heap.size ((uh Hv).below ((ba _ _))) (by simp) (by simp)) fun w1 hb=> ?_
 have Hb:=Z9 hb
 clear hb
 go_wp2_with fail
 go_ret
 exact ⟨rfl,((ba _ _)).trans ((uh Hb).mono (by simp))⟩
structure Fr (bx:Nat) (r:Option Nat) (w w':World):Prop where
 os:w'.os=w.os
 tape:w'.tape=w.tape
 output:w'.output=w.output
 size:w.heap.size<=w'.heap.size
 block:∀ k,k<w.heap.size->k ≠ bx->r ≠ some k->w'.heap[k]?=w.heap[k]?
theorem Fr.refl (bx:Nat) (r:Option Nat) (w:World):Fr bx r w w:=⟨rfl,rfl,rfl,Nat.le_refl _,fun _ _ _ _=>rfl⟩
theorem Fr.trans {bx:Nat} {r:Option Nat} {a b c:World} (h:Fr bx r a b) (k:Fr bx r b c):Fr bx r a c:=
 ⟨k.os.trans h.os,k.tape.trans h.tape,k.output.trans h.output,Nat.le_trans h.size k.size,fun i hi hn hr=>(k.block i (Nat.lt_of_lt_of_le hi h.size) hn hr).trans (h.block i hi hn hr)⟩
theorem Fr.of_below {bx:Nat} {r:Option Nat} (h:Below w.heap.size w w'):Fr bx r w w':=⟨h.os,h.tape,h.output,h.size,fun k hk _ _=>h.block k hk⟩
theorem Fr.of_grown {bx:Nat} {r:Option Nat} (h:w.grownBy w' r):Fr bx r w w':=⟨h.os,h.tape,h.output,h.size,fun k hk _ hr=>h.block k hk (fun e=>hr e.symm)⟩
theorem Fr.box {bx:Nat} {r:Option Nat} (w:World) (v:Value):Fr bx r w (w.setCell ⟨bx,0,none⟩ v):=⟨rfl,rfl,rfl,by simp,fun k hk hn _=>Below.heap_setCell w ⟨bx,0,none⟩ v k hn⟩
theorem Fr.below {bx B:Nat} {r:Option Nat} (h:Fr bx r w w') (hx:B<=bx) (hr:∀ k,r=some k->B<=k) (hs:B<=w.heap.size):Below B w w':=
 ⟨h.os,h.tape,h.output,h.size,fun k hk=>h.block k (by omega) (by omega) (fun e=>by have:=hr k e;omega)⟩
theorem EntsAt.fr {n₀ bx:Nat} {r:Option Nat}  {ps:List Z4} (h:EntsAt n₀ w v ps) (hf:Fr bx r w w') (h1:v.ownBlock ≠ some bx) (h2:∀ k,v.ownBlock=some k->r ≠ some k):EntsAt n₀ w' v ps:=
 h.same fun k hk=>hf.block k (h.lt hk).2 (fun e=>h1 (by rw [hk,e])) (h2 k hk)
structure HeapIs (n₀ bx:Nat) (v:Value) (w:World) (ps:List Z4):Prop where
 cell:w.cell? ⟨bx,0,none⟩=some v
 free:w.frozen? ⟨bx,0,none⟩=false
 lt:bx<w.heap.size
 row:EntsAt n₀ w v ps
 off:v.ownBlock ≠ some bx
theorem HeapIs.later {n₀ bx:Nat}  {ps:List Z4} (h:HeapIs n₀ bx v w ps) (hb:Below w.heap.size w w'):HeapIs n₀ bx v w' ps:=
 ⟨(hb.cell (p:=⟨bx,0,none⟩) h.lt).trans h.cell,(hb.frozen (p:=⟨bx,0,none⟩) h.lt).trans h.free,Nat.lt_of_lt_of_le h.lt hb.size,h.row.later hb,h.off⟩
theorem HeapIs.view {n₀ bx:Nat}  {ps:List Z4} (h:HeapIs n₀ bx v w ps) (hl:0<ps.length):∃ g cap,v= .slice (some ⟨g,0,none⟩) ps.length cap/\g ≠ bx/\g<w.heap.size/\n₀<=g/\ps.length<=cap/\cap<=9223372036854775807/\
  (∀ k,k<ps.length->w.cell? ⟨g,k*2,none⟩=some (.int .i64 (Z7 ps k).1)/\w.cell? ⟨g,k*2+1,none⟩=some (.int .i64 (Z7 ps k).2))/\(∀ k,w.frozen? ⟨g,k,none⟩=false):=by
 have hr:=h.row
 rcases h.row.2 with ⟨hv,hz⟩ | ⟨g,cap,cur,rfl,hb,hg,hnc,hcm,r⟩
 ·omega
 ·obtain ⟨a,cap',he,_,_,hrr⟩:=hr.paces
  cases he
  refine ⟨g,cap,rfl,fun e=>h.off (by rw [e];rfl),(Array.getElem?_eq_some_iff.1 hg).1,hb,hnc,by unfold maxLen at hcm;omega,?_,fun k=>World.ownsRow.frozenAt hr k⟩
  rcases hrr with h0 | ⟨b,off,he,_,hcl⟩
  ·rw [h0] at hl;simp at hl
  ·cases he
   intro k hk
   have:=hcl k hk
   simpa using this
theorem Rz {n₀ bx:Nat}  {ps:List Z4} (h:HeapIs n₀ bx v w ps):Calls Tryz.prog 308 #[.pointer (some ⟨bx,0,none⟩)] w fun e w'=>e= .returned (.int .i64 ps.length)/\w'=w:=by
 have hc:=h.cell
 obtain ⟨a,cap,rfl⟩:=h.row.shape
 go_enter Tryz.func308,Tryz.ntmps308
 go_wp2_with fail
 go_ret
 exact ⟨rfl,rfl⟩
theorem Tf {n₀ bx:Nat}  {ps:List Z4} (h:HeapIs n₀ bx v w ps) {i j:Nat} (hi:i<ps.length) (hj:j<ps.length) :
  Calls Tryz.prog 373 #[.pointer (some ⟨bx,0,none⟩),.int .i64 i,.int .i64 j] w fun e w'=>e= .returned (.bool (ltB (Z7 ps i) (Z7 ps j)))/\Below w.heap.size w w':=by
 obtain ⟨g,cap,rfl,hne,hlt,_,hnc,hcm,hcl,_⟩:=h.view (by omega)
 have hc:=h.cell
 obtain ⟨a0,a1⟩:=hcl i hi
 obtain ⟨b0,b1⟩:=hcl j hj
 generalize Z7 ps i=p at *
 generalize Z7 ps j=q at *
 obtain ⟨f,z⟩:=p
 obtain ⟨f',z'⟩:=q
 simp only at a0 a1 b0 b1
 have hi0:(0:Int)<=(i:Int):=by omega
 have hj0:(0:Int)<=(j:Int):=by omega
 have hi1:(i:Int)<(ps.length:Int):=by omega
 have hj1:(j:Int)<(ps.length:Int):=by omega
 have k0:=cell_regrown a0
 have k1:=cell_regrown a1
 have k2:=cell_regrown b0
 have k3:=cell_regrown b1
 have k4:=cell_regrown hc
 clear hcl h hc a0 a1 b0 b1
 go_enter Tryz.func373,Tryz.ntmps373
 go_wp2_with fail
 refine wq ?_
 repeat (go_big_quiet_step (exact Calls.regrown_of (Xh _ _ _ _ _)))
 refine wpQuiet_nil ?_
 intro _ hw'
 obtain ⟨⟨dq,osq⟩,hw''⟩:=hw'
 subst hw''
 go_wp2_with fail
 go_ret
 exact ⟨rfl,below_regrown _ _ _⟩
theorem Tq {a p:Addr} (h:w.cell? p=some v):∃ c,(w.setCell a u).cell? p=some c:=by
 by_cases e:p=a
 ·subst e;exact ⟨_,World.cell?_setCell_same _ _ _ h⟩
 ·exact ⟨v,by rw [World.cell?_setCell_other _ _ _ _ (fun e2=>e e2.symm)];exact h⟩
theorem HeapIs.swapped {n₀ bx g cap n:Nat} {ps:List Z4} (h:HeapIs n₀ bx (.slice (some ⟨g,0,none⟩) n cap) w ps) (hn:n=ps.length) (hne:g ≠ bx) {i j:Nat} (hi:i<ps.length) (hj:j<ps.length) (f z f' z':Int) (W:World) (hW:W=((((w.setCell ⟨g,i*2,none⟩ (.int .i64 f')).setCell ⟨g,i*2+1,none⟩ (.int .i64 z')).setCell ⟨g,j*2,none⟩ (.int .i64 f)).setCell ⟨g,j*2+1,none⟩ (.int .i64 z))) :
  HeapIs n₀ bx (.slice (some ⟨g,0,none⟩) n cap) W ((ps.set i (f',z')).set j (f,z))/\Fr bx (some g) w W:=by
 subst hn
 have r1:=Kh h.row (i*2) (.int .i64 f') (.int .i64 z')
 rw [Cg _ _ _ _ hi] at r1
 have r2:=Kh r1.1 (j*2) (.int .i64 f) (.int .i64 z)
 rw [Cg _ _ _ _ (by simpa using hj),<-hW] at r2
 have hg:=SZ r1.2 r2.2
 clear r1 hW
 have hlt:=h.lt
 have hb:=hg.block bx hlt (by simpa using Ne.symm hne)
 refine ⟨⟨?_,?_,Nat.lt_of_lt_of_le hlt hg.size,?_,h.off⟩,Fr.of_grown hg⟩
 ·exact (World.cell?_of_block (w:=w) (a:=⟨bx,0,none⟩) hb).trans h.cell
 ·exact (World.frozen?_of_block (w:=w) (a:=⟨bx,0,none⟩) hb).trans h.free
 ·unfold EntsAt
  rw [List.length_set,List.length_set]
  exact r2.1
theorem Tt {n₀ bx:Nat}  {ps:List Z4} (h:HeapIs n₀ bx v w ps) {i j:Nat} (hi:i<ps.length) (hj:j<ps.length) :
  Calls Tryz.prog 376 #[.pointer (some ⟨bx,0,none⟩),.int .i64 i,.int .i64 j] w fun e w'=>e= .returned (.tuple #[])/\HeapIs n₀ bx v w' (swp ps i j)/\Fr bx v.ownBlock w w':=by
 have H:=Z9 h
 obtain ⟨g,cap,rfl,hne,hlt,hn0,hnc,hcm,hcl,hfz⟩:=h.view (by omega)
 have hc:=h.cell
 obtain ⟨a0,a1⟩:=hcl i hi
 obtain ⟨b0,b1⟩:=hcl j hj
 have z0:=hfz (i*2)
 have z1:=hfz (i*2+1)
 have z2:=hfz (j*2)
 have z3:=hfz (j*2+1)
 have HX:Hid (swp ps i j=(ps.set i (Z7 ps j)).set j (Z7 ps i)):=Z9 rfl
 generalize Z7 ps i=p at *
 generalize Z7 ps j=q at *
 obtain ⟨f,z⟩:=p
 obtain ⟨f',z'⟩:=q
 simp only at a0 a1 b0 b1
 have hi0:(0:Int)<=(i:Int):=by omega
 have hj0:(0:Int)<=(j:Int):=by omega
 have hi1:(i:Int)<(ps.length:Int):=by omega
 have hj1:(j:Int)<(ps.length:Int):=by omega
 obtain ⟨c1,y1⟩:∃ c,(w.setCell ⟨g,i*2,none⟩ (.int .i64 f')).cell? ⟨g,j*2,none⟩=some c:=Tq b0
 obtain ⟨c2,y2⟩:∃ c,((w.setCell ⟨g,i*2,none⟩ (.int .i64 f')).setCell ⟨g,i*2+1,none⟩ (.int .i64 z')).cell? ⟨g,j*2+1,none⟩=some c:=by
  obtain ⟨c,hc9⟩:=Tq (a:=⟨g,i*2,none⟩) (u:= .int .i64 f') b1
  exact Tq hc9
 obtain ⟨c3,y3⟩:∃ c,((w.setCell ⟨g,i*2,none⟩ (.int .i64 f')).setCell ⟨g,i*2+1,none⟩ (.int .i64 z')).cell? ⟨g,j*2,none⟩=some c:=by
  obtain ⟨c,hc9⟩:=Tq (a:=⟨g,i*2,none⟩) (u:= .int .i64 f') b0
  exact Tq hc9
 clear hcl h hfz
 go_enter Tryz.func376,Tryz.ntmps376
 go_wp2_with fail
 go_region
 go_end0
 generalize hW:((((w.setCell ⟨g,i*2,none⟩ (.int .i64 f')).setCell ⟨g,i*2+1,none⟩ (.int .i64 z')).setCell ⟨g,j*2,none⟩ (.int .i64 f)).setCell ⟨g,j*2+1,none⟩ (.int .i64 z))=W
 obtain ⟨h1,h2⟩:=(uh H).swapped rfl hne hi hj f z f' z' W hW.symm
 exact ⟨rfl,by rw [uh HX];exact h1.later ((Below.refl _ _).drew),h2.trans (Fr.of_below ((Below.refl _ _).drew))⟩
theorem Ee {n₀ bx:Nat} {v v':Value} {ps qs:List Z4} (h:HeapIs n₀ bx v w ps) (hb:Fr bx v.ownBlock w W) (hc:W.cell? ⟨bx,0,none⟩=some v) (hf:W.frozen? ⟨bx,0,none⟩=false) (hr:EntsAt n₀ W v' qs) (ho:v'.ownBlock ≠ some bx) :
  HeapIs n₀ bx v' (W.setCell ⟨bx,0,none⟩ v') qs/\Fr bx v.ownBlock w (W.setCell ⟨bx,0,none⟩ v'):=by
 refine ⟨⟨World.cell?_setCell_same _ _ _ hc,by rw [World.frozen?_setCell];exact hf,by simpa using Nat.lt_of_lt_of_le h.lt hb.size,hr.same fun k hk=>Below.heap_setCell W ⟨bx,0,none⟩ v' k (fun e=>ho (by rw [hk];exact congrArg some e)),ho⟩,hb.trans (Fr.box W v')⟩
theorem DW {n₀ bx:Nat}  {ps:List Z4} {m:Nat} (h:HeapIs n₀ bx v w ps) (hm:ps.length=m+1) :
  Calls Tryz.prog 374 #[.pointer (some ⟨bx,0,none⟩)] w fun e w'=>e= .returned (.iface 151 (.agg #[.int .i64 (Z7 ps m).1,.int .i64 (Z7 ps m).2]))/\ ∃ v',HeapIs n₀ bx v' w' (ps.take m)/\v'.ownBlock=v.ownBlock/\Fr bx v.ownBlock w w':=by
 have H:=Z9 h
 obtain ⟨g,cap,rfl,hne,hlt,hn0,hnc,hcm,hcl,hfz⟩:=h.view (by omega)
 have hc:=h.cell
 have hbf:=h.free
 have hbx:=h.lt
 obtain ⟨a0,a1⟩:=hcl m (by omega)
 have HL:=Z9 (Rz h)
 clear hcl h hfz
 rw [hm] at hnc hc
 generalize Z7 ps m=p at *
 obtain ⟨f,z⟩:=p
 simp only at a0 a1
 have hn1:g ≠ w.heap.size:=Nat.ne_of_lt hlt
 have hn2:bx ≠ w.heap.size:=Nat.ne_of_lt hbx
 go_enter Tryz.func374,Tryz.ntmps374
 go_wp2_with fail
 refine (uh HL).mono ?_
 rw [hm]
 rintro e w' ⟨rfl,h1⟩
 subst w'
 go_wp2_with fail
 go_ret
 have hcut:=(uh H).row.cut (n:=m) (by omega) (by simp)
 obtain ⟨r1,r2⟩:=Ee (uh H) (Fr.refl _ _ _) (uh H).cell (uh H).free hcut (by simpa [Value.ownBlock] using hne)
 exact ⟨rfl,.slice (some ⟨g,0,none⟩) m cap,r1.later ((ba _ _)),rfl,r2.trans (Fr.of_below ((ba _ _)))⟩
theorem PV {ops:Array Oper} {o:Oper} {a:Act} {K:Act->World->Prop} {Q:Exit->Act->World->Prop} {E:Prop} (hgd:o.guard=none) (s x:Operand) (t:TypeId) (ht:Tryz.prog.underlying t=some (.slice 151))
  (ho:o.op= .call { callee:= .builtin .append,args:=#[s,x],argTypes:=#[t,t] }) (base:Nat)
  (v:Value) (ps:List Z4) (hs:a.eval s=v) (hown:EntsAt base w v ps)
  (ad:Addr) (c:Nat) (f z:Int) (hx:a.eval x= .slice (some ad) 1 c) (hnews:∀ (j:Nat) (u:Value),([.int .i64 f,.int .i64 z]:List Value)[j]?=some u->w.cell? (ad.add j)=some u)
  (hb:ps.length<=4000) (hbase:base<=w.heap.size)
  (h:∀ v' w',EntsAt base w' v' (ps++[(f,z)])->w.grownBy w' v.ownBlock->(v'.ownBlock=v.ownBlock\/v'.ownBlock=some w.heap.size)->K (a.put o.dst v') w') :
  if Region.wanted o (yielded ops a.tmps)=true then Oper.wp Tryz.prog o a w K Q else E:=by
 have hw:Region.wanted o (yielded ops a.tmps)=true:=by simp [Region.wanted,hgd]
 rw [if_pos hw]
 obtain ⟨i0,hi,hz0,hz1,hz2⟩:=info_parts Wl
 obtain ⟨v',w',hr,h2,h3,_,h5⟩:=run_append_own_at (P:=Tryz.prog) w base t o.type 151 i0 (.agg #[.int .i64 0,.int .i64 0]) 2 16 ht hi hz0 hz1 hz2 rfl (by decide) v ps.length _ hown ad 1 c [.int .i64 f,.int .i64 z] rfl
  hnews (by simp [Value.oneCell']) (by simp only [maxLen];omega) (by omega) hbase
 unfold Oper.wp execOp
 simp only [ho,resolve,invoke,builtin,Sem.run_bind,Sem.run_pure,Result.andThen_ok,List.map_toArray,List.map_cons,List.map_nil,hs,hx,hr]
 refine h v' w' ?_ h3 h5
 unfold EntsAt
 rw [Ss,List.length_append]
 exact h2
theorem Db (w:World) (u u':Value) (t:TypeId) (b:Nat) (hb:b=w.heap.size):∀ (j:Nat) (x:Value),([u,u']:List Value)[j]?=some x->(w.alloc (.cells #[u,u'] t)).cell? ((⟨b,0,none⟩:Addr).add j)=some x:=by
 subst hb
 intro j x hj
 match j,hj with
 | 0,hj=>simp at hj;subst hj;simp [Addr.add]
 | 1,hj=>simp at hj;subst hj;simp [Addr.add]
theorem NN (f z:Int) (w:World):(Instr.typeAssert (.iface 151 (.agg #[.int .i64 f,.int .i64 z])) 20 151 false).run Tryz.prog w= .ok (.agg #[.int .i64 f,.int .i64 z]) w:=by kernel_rfl
theorem HeapIs.after {n₀ bx:Nat} {w W W1:World} {ps:List Z4} (h:HeapIs n₀ bx v w ps) (hb:Below w.heap.size w W) (hg:W.grownBy W1 v.ownBlock) :
  W1.cell? ⟨bx,0,none⟩=some v/\W1.frozen? ⟨bx,0,none⟩=false/\Fr bx v.ownBlock w W1:=by
 have hk:=hg.block bx (Nat.lt_of_lt_of_le h.lt hb.size) (fun e=>h.off e.symm)
 exact ⟨(World.cell?_of_block (w:=W) (a:=⟨bx,0,none⟩) hk).trans ((hb.cell (p:=⟨bx,0,none⟩) h.lt).trans h.cell),(World.frozen?_of_block (w:=W) (a:=⟨bx,0,none⟩) hk).trans ((hb.frozen (p:=⟨bx,0,none⟩) h.lt).trans h.free),(Fr.of_below hb).trans (Fr.of_grown hg)⟩
theorem Fs {n₀ bx:Nat}  {ps:List Z4} (f z:Int) (h:HeapIs n₀ bx v w ps) (hl:ps.length<=1000) (hn:n₀<=w.heap.size) :
  Calls Tryz.prog 375 #[.pointer (some ⟨bx,0,none⟩),.iface 151 (.agg #[.int .i64 f,.int .i64 z])] w fun e w'=>e= .returned (.tuple #[])/\ ∃ v',HeapIs n₀ bx v' w' (ps++[(f,z)])/\(v'.ownBlock=v.ownBlock\/ ∃ k,v'.ownBlock=some k/\w.heap.size<=k)/\Fr bx v.ownBlock w w':=by
 have H:=Z9 h
 obtain ⟨a,cap,rfl⟩:=h.row.shape
 have hc:=h.cell
 have hbf:=h.free
 have hbx:=h.lt
 clear h
 have hn2:bx ≠ w.heap.size:=Nat.ne_of_lt hbx
 have hta:=NN f z
 go_enter Tryz.func375,Tryz.ntmps375
 go_wp2_with fail
 go_region_law (refine PV rfl (.tmp 7) (.tmp 10) 303 Tryz.underlying303 rfl n₀ _ ps rfl ((uh H).row.later (((ba _ _)).drew)) ⟨w.heap.size,0,none⟩ _ f z rfl (Db _ _ _ _ _ rfl) (by omega) (by simp;omega) ?_;intro v' w1 hown hgrow hat;obtain ⟨hc1,hf1,hfr⟩:=(uh H).after (((ba _ _)).drew) hgrow;obtain ⟨a1,cap1,rfl⟩:=hown.shape)
 all_goals
  go_end0
  have hoff:(Value.slice a1 (ps++[(f,z)]).length cap1).ownBlock ≠ some bx:=by
   rcases hat with e | e
   ·rw [e];exact (uh H).off
   ·rw [e];simp;omega
  obtain ⟨r1,r2⟩:=Ee (uh H) hfr hc1 hf1 hown hoff
  have hle:(ps++[(f,z)]).length=ps.length+1:=by simp
  rw [hle] at r1 r2 hat
  refine ⟨rfl,_,r1,?_,r2⟩
  rcases hat with e | e
  ·exact .inl e
  ·exact .inr ⟨_,e,by simp⟩
theorem Cw (a : Addr) (w : World) : (method 464 286 (.pointer (some a)) "Len").run Tryz.prog w = .ok (308, .pointer (some a)) w := by kernel_rfl
theorem DM (a : Addr) (w : World) : (method 464 286 (.pointer (some a)) "Less").run Tryz.prog w = .ok (373, .pointer (some a)) w := by kernel_rfl
theorem Ik (a : Addr) (w : World) : (method 464 286 (.pointer (some a)) "Swap").run Tryz.prog w = .ok (376, .pointer (some a)) w := by kernel_rfl
theorem Ca (a : Addr) (w : World) : (method 464 286 (.pointer (some a)) "Push").run Tryz.prog w = .ok (375, .pointer (some a)) w := by kernel_rfl
theorem Bz (a : Addr) (w : World) : (method 464 286 (.pointer (some a)) "Pop").run Tryz.prog w = .ok (374, .pointer (some a)) w := by kernel_rfl
theorem Cl {n₀ bx:Nat}  {ps:List Z4} {n j0:Nat} (h:HeapIs n₀ bx v w ps) (hu:UpTo ps n j0) (hj0:j0<n) (hn:n<=ps.length) (hl:ps.length<=1000) :
  Calls Tryz.prog 307 #[.iface 286 (.pointer (some ⟨bx,0,none⟩)),.int .i64 j0] w fun e w'=>e= .returned (.tuple #[])/\ ∃ qs,HeapIs n₀ bx v w' qs/\HeapTo qs n/\qs.Perm ps/\(∀ k,n<=k->Z7 qs k=Z7 ps k)/\Fr bx v.ownBlock w w':=by
 have H:=Z9 h
 have HU:=Z9 hu
 clear h hu
 go_enter Tryz.func307,Tryz.ntmps307
 go_wp2_with fail
 go_loopw [1,4] (fun q _ wr=> ∃ (j:Nat) (qs:List Z4),j<n/\q= .int .i64 j/\HeapIs n₀ bx v wr qs/\UpTo qs n j/\qs.Perm ps/\(∀ k,n<=k->Z7 qs k=Z7 ps k)/\Fr bx v.ownBlock w wr) (fun q _ _=>(intOf q).toNat)
 case atStart=>exact ⟨j0,ps,hj0,rfl,uh H,uh HU,List.Perm.refl _,fun _ _=>rfl,Fr.refl _ _ _⟩
 case round=>
  obtain ⟨j,qs,hj,rfl,hh,hup,hperm,hsame,hfr⟩:=hrel
  have hql:qs.length=ps.length:=hperm.length_eq
  have Hh:=Z9 hh
  have Hup:=Z9 hup
  have Hpe:=Z9 hperm
  have Hsa:=Z9 hsame
  have Hfr:=Z9 hfr
  clear hh hup hperm hsame hfr
  by_cases hz:j=0
  ·subst hz
   go_wp2_with fail
   go_end0
   exact ⟨rfl,qs,uh Hh,(uh Hup).done (.inl rfl),uh Hpe,uh Hsa,uh Hfr⟩
  ·obtain ⟨i,hi⟩:∃ i,i=(j-1) / 2:=⟨_,rfl⟩
   have hj1:(0:Int)<=(j:Int)-1:=by omega
   have hpar:((j:Int)-1) / 2=(i:Int):=by omega
   have hij:((i:Int) ==(j:Int))=false:=beq_eq_false_iff_ne.2 (by omega)
   have hm1:=DM ⟨bx,0,none⟩
   have hm2:=Ik ⟨bx,0,none⟩
   have hjl:j<qs.length:=by omega
   have hil:i<qs.length:=by omega
   have Hless:=Z9 (Tf (uh Hh) hjl hil)
   have Hi:=Z9 hi
   clear hi
   cases hlt:ltB (Z7 qs j) (Z7 qs i)
   ·go_wp2_with fail
    refine (uh Hless).mono ?_
    rw [hlt]
    rintro e w1 ⟨rfl,hb1⟩
    have H1:=Z9 ((uh Hh).later hb1)
    have F1:=Z9 ((uh Hfr).trans (Fr.of_below hb1))
    clear hb1
    go_wp2_with fail
    go_end0
    exact ⟨rfl,qs,uh H1,(uh Hup).done (.inr (by rw [<-uh Hi];exact hlt)),uh Hpe,uh Hsa,uh F1⟩
   ·go_wp2_with fail
    refine (uh Hless).mono ?_
    rw [hlt]
    rintro e w1 ⟨rfl,hb1⟩
    have H1:=Z9 ((uh Hh).later hb1)
    have F1:=Z9 ((uh Hfr).trans (Fr.of_below hb1))
    clear hb1
    go_wp2_with fail
    refine (Tt (uh H1) hil hjl).mono ?_
    rintro e w2 ⟨rfl,hh2,hf2⟩
    have H2:=Z9 hh2
    have F2:=Z9 ((uh F1).trans hf2)
    clear hh2 hf2
    have HS:Hid (UpTo (swp qs i j) n i):=Z9 (by rw [uh Hi];exact (uh Hup).step (by omega) hj (by omega) (by rw [<-uh Hi];exact hlt))
    have HA:Hid (∀ k,n<=k->Z7 (swp qs i j) k=Z7 ps k):=Z9 (fun k hk=>by rw [Tu hil hjl,if_neg (by omega),if_neg (by omega)];exact uh Hsa k hk)
    go_wp2_with fail
    go_roundw
    case rel=>exact ⟨i,swp qs i j,by omega,rfl,uh H2,uh HS,(Tv hil hjl).trans (uh Hpe),uh HA,uh F2⟩
    case measure=>exact ms
def DownPost (n₀ bx:Nat) (v:Value) (w:World) (ps:List Z4) (n i0:Nat) (e:Ending) (w':World):Prop:=
 ∃ (b:Bool) (qs:List Z4),e= .returned (.bool b)/\HeapIs n₀ bx v w' qs/\qs.Perm ps/\(∀ k,n<=k->Z7 qs k=Z7 ps k)/\Fr bx v.ownBlock w w'/\(b=true->HeapTo qs n)/\(b=false->UpTo qs n i0)
theorem Ru {n₀ bx:Nat}  {ps qs:List Z4} {n i0 i:Nat} (hi:i0<=i) (hh:HeapIs n₀ bx v wr qs) (hdn:DnTo qs n i0 i) (hp:qs.Perm ps) (hs:∀ k,n<=k->Z7 qs k=Z7 ps k) (hf:Fr bx v.ownBlock w wr)
  (hd:∀ k,0<k->k<n->(k-1) / 2=i->ltB (Z7 qs k) (Z7 qs i)=false):DownPost n₀ bx v w ps n i0 (.returned (.bool (decide (i0<i)))) wr:=by
 refine ⟨_,qs,rfl,hh,hp,hs,hf,fun h=> ?_,fun h=> ?_⟩
 ·have:=of_decide_eq_true h
  exact hdn.moved (by omega) hd
 ·have:=of_decide_eq_false h
  obtain rfl:i=i0:=by omega
  exact hdn.still hd
theorem kid {k i:Nat} (h0:0<k) (h:(k-1) / 2=i):k=2*i+1\/k=2*i+2:=by omega
theorem Dr {n₀ bx:Nat}  {ps:List Z4} {n i0:Nat} (h:HeapIs n₀ bx v w ps) (hu:DnTo ps n i0 i0) (hi0:i0<=n) (hn:n<=ps.length) (hl:ps.length<=1000) :
  Calls Tryz.prog 318 #[.iface 286 (.pointer (some ⟨bx,0,none⟩)),.int .i64 i0,.int .i64 n] w (DownPost n₀ bx v w ps n i0):=by
 have H:=Z9 h
 have HU:=Z9 hu
 have hm1:=DM ⟨bx,0,none⟩
 have hm2:=Ik ⟨bx,0,none⟩
 clear h hu
 go_enter Tryz.func318,Tryz.ntmps318
 go_wp2_with fail
 go_loopw [7] (fun q wr=> ∃ (i:Nat) (qs:List Z4),i0<=i/\i<=n/\q= .int .i64 i/\HeapIs n₀ bx v wr qs/\DnTo qs n i0 i/\qs.Perm ps/\(∀ k,n<=k->Z7 qs k=Z7 ps k)/\Fr bx v.ownBlock w wr) (fun q _=>n-(intOf q).toNat)
 case atStart=>exact ⟨i0,ps,Nat.le_refl _,hi0,rfl,uh H,uh HU,List.Perm.refl _,fun _ _=>rfl,Fr.refl _ _ _⟩
 case round=>
  obtain ⟨i,qs,hii,hin,rfl,hh,hdn,hperm,hsame,hfr⟩:=hrel
  have hql:qs.length=ps.length:=hperm.length_eq
  have Hh:=Z9 hh
  have Hdn:=Z9 hdn
  have Hpe:=Z9 hperm
  have Hsa:=Z9 hsame
  have Hfr:=Z9 hfr
  clear hh hdn hperm hsame hfr
  obtain ⟨j1,hj1⟩:∃ j1,j1=2*i+1:=⟨_,rfl⟩
  obtain ⟨j2,hj2⟩:∃ j2,j2=2*i+2:=⟨_,rfl⟩
  have e1:2*(i:Int)+1=(j1:Int):=by omega
  have e2:(j1:Int)+1=(j2:Int):=by omega
  have Hj1:=Z9 hj1
  have Hj2:=Z9 hj2
  by_cases hn1:n<=j1
  ·have hg1:(n:Int)<=(j1:Int):=by omega
   clear hj1 hj2
   go_wp2_with fail
   go_ret
   exact Ru hii (uh Hh) (uh Hdn) (uh Hpe) (uh Hsa) (uh Hfr) (fun k k0 kn kp=>by have:=kid k0 kp;have:=uh Hj1;omega)
  ·have hg1:¬ (n:Int)<=(j1:Int):=by omega
   have hg2:¬ (j1:Int)<0:=by omega
   have hil:i<qs.length:=by omega
   have hjl:j1<qs.length:=by omega
   have hij1:i<j1:=by omega
   by_cases hn2:j2<n
   ·have hg3:(j2:Int)<(n:Int):=by omega
    have hkl:j2<qs.length:=by omega
    have hij2:i<j2:=by omega
    clear hj1 hj2
    have HL:=Z9 (Tf (uh Hh) hkl hjl)
    cases hlt:ltB (Z7 qs j2) (Z7 qs j1)
    ·have HM:Hid (∀ k,0<k->k<n->(k-1) / 2=i->ltB (Z7 qs k) (Z7 qs j1)=false):=Z9 (fun k k0 kn kp=>by
      have e3:=uh Hj1;have e4:=uh Hj2
      rcases kid k0 kp with e | e
      ·rw [show k=j1 by omega];exact RC _
      ·rw [show k=j2 by omega];exact hlt)
     have HP:Hid ((j1-1) / 2=i):=Z9 (by have:=uh Hj1;omega)
     go_wp2_with fail
     refine (uh HL).mono ?_
     rw [hlt]
     rintro e w1 ⟨rfl,hb1⟩
     have H1:=Z9 ((uh Hh).later hb1)
     have F1:=Z9 ((uh Hfr).trans (Fr.of_below hb1))
     clear hb1 hlt HL Hh Hfr
     have HL2:=Z9 (Tf (uh H1) hjl hil)
     cases hlt2:ltB (Z7 qs j1) (Z7 qs i)
     ·go_wp2_with fail
      refine (uh HL2).mono ?_
      rw [hlt2]
      rintro e w2 ⟨rfl,hb2⟩
      have H2:=Z9 ((uh H1).later hb2)
      have F2:=Z9 ((uh F1).trans (Fr.of_below hb2))
      clear hb2 HL2
      go_wp2_with fail
      go_ret
      exact Ru hii (uh H2) (uh Hdn) (uh Hpe) (uh Hsa) (uh F2) (fun k k0 kn kp=>TX hlt2 (uh HM k k0 kn kp))
     ·go_wp2_with fail
      refine (uh HL2).mono ?_
      rw [hlt2]
      rintro e w2 ⟨rfl,hb2⟩
      have H2:=Z9 ((uh H1).later hb2)
      have F2:=Z9 ((uh F1).trans (Fr.of_below hb2))
      clear hb2 HL2
      go_wp2_with fail
      refine (Tt (uh H2) hil hjl).mono ?_
      rintro e w3 ⟨rfl,hh3,hf3⟩
      have H3:=Z9 hh3
      have F3:=Z9 ((uh F2).trans hf3)
      clear hh3 hf3
      have HS:Hid (DnTo (swp qs i j1) n i0 j1):=Z9 ((uh Hdn).step hii (by omega) (uh HP) (by omega) (by omega) hlt2 (uh HM))
      have HA:Hid (∀ k,n<=k->Z7 (swp qs i j1) k=Z7 ps k):=Z9 (fun k hk=>by rw [Tu hil hjl,if_neg (by omega),if_neg (by omega)];exact uh Hsa k hk)
      go_wp2_with fail
      go_roundw
      case rel=>exact ⟨j1,swp qs i j1,by omega,by omega,rfl,uh H3,uh HS,(Tv hil hjl).trans (uh Hpe),uh HA,uh F3⟩
      case measure=>exact ms
    ·have HM:Hid (∀ k,0<k->k<n->(k-1) / 2=i->ltB (Z7 qs k) (Z7 qs j2)=false):=Z9 (fun k k0 kn kp=>by
      have e3:=uh Hj1;have e4:=uh Hj2
      rcases kid k0 kp with e | e
      ·rw [show k=j1 by omega];exact SK hlt
      ·rw [show k=j2 by omega];exact RC _)
     have HP:Hid ((j2-1) / 2=i):=Z9 (by have:=uh Hj2;omega)
     go_wp2_with fail
     refine (uh HL).mono ?_
     rw [hlt]
     rintro e w1 ⟨rfl,hb1⟩
     have H1:=Z9 ((uh Hh).later hb1)
     have F1:=Z9 ((uh Hfr).trans (Fr.of_below hb1))
     clear hb1 hlt HL Hh Hfr
     have HL2:=Z9 (Tf (uh H1) hkl hil)
     cases hlt2:ltB (Z7 qs j2) (Z7 qs i)
     ·go_wp2_with fail
      refine (uh HL2).mono ?_
      rw [hlt2]
      rintro e w2 ⟨rfl,hb2⟩
      have H2:=Z9 ((uh H1).later hb2)
      have F2:=Z9 ((uh F1).trans (Fr.of_below hb2))
      clear hb2 HL2
      go_wp2_with fail
      go_ret
      exact Ru hii (uh H2) (uh Hdn) (uh Hpe) (uh Hsa) (uh F2) (fun k k0 kn kp=>TX hlt2 (uh HM k k0 kn kp))
     ·go_wp2_with fail
      refine (uh HL2).mono ?_
      rw [hlt2]
      rintro e w2 ⟨rfl,hb2⟩
      have H2:=Z9 ((uh H1).later hb2)
      have F2:=Z9 ((uh F1).trans (Fr.of_below hb2))
      clear hb2 HL2
      go_wp2_with fail
      refine (Tt (uh H2) hil hkl).mono ?_
      rintro e w3 ⟨rfl,hh3,hf3⟩
      have H3:=Z9 hh3
      have F3:=Z9 ((uh F2).trans hf3)
      clear hh3 hf3
      have HS:Hid (DnTo (swp qs i j2) n i0 j2):=Z9 ((uh Hdn).step hii (by omega) (uh HP) (by omega) (by omega) hlt2 (uh HM))
      have HA:Hid (∀ k,n<=k->Z7 (swp qs i j2) k=Z7 ps k):=Z9 (fun k hk=>by rw [Tu hil hkl,if_neg (by omega),if_neg (by omega)];exact uh Hsa k hk)
      go_wp2_with fail
      go_roundw
      case rel=>exact ⟨j2,swp qs i j2,by omega,by omega,rfl,uh H3,uh HS,(Tv hil hkl).trans (uh Hpe),uh HA,uh F3⟩
      case measure=>exact ms
   ·have hg3:¬ (j2:Int)<(n:Int):=by omega
    have HM:Hid (∀ k,0<k->k<n->(k-1) / 2=i->ltB (Z7 qs k) (Z7 qs j1)=false):=Z9 (fun k k0 kn kp=>by
      have e3:=uh Hj1;have e4:=uh Hj2
      rcases kid k0 kp with e | e
      ·rw [show k=j1 by omega];exact RC _
      ·omega)
    have HP:Hid ((j1-1) / 2=i):=Z9 (by have:=uh Hj1;omega)
    clear hj1 hj2
    have HL2:=Z9 (Tf (uh Hh) hjl hil)
    cases hlt2:ltB (Z7 qs j1) (Z7 qs i)
    ·go_wp2_with fail
     refine (uh HL2).mono ?_
     rw [hlt2]
     rintro e w2 ⟨rfl,hb2⟩
     have H2:=Z9 ((uh Hh).later hb2)
     have F2:=Z9 ((uh Hfr).trans (Fr.of_below hb2))
     clear hb2 HL2
     go_wp2_with fail
     go_ret
     exact Ru hii (uh H2) (uh Hdn) (uh Hpe) (uh Hsa) (uh F2) (fun k k0 kn kp=>TX hlt2 (uh HM k k0 kn kp))
    ·go_wp2_with fail
     refine (uh HL2).mono ?_
     rw [hlt2]
     rintro e w2 ⟨rfl,hb2⟩
     have H2:=Z9 ((uh Hh).later hb2)
     have F2:=Z9 ((uh Hfr).trans (Fr.of_below hb2))
     clear hb2 HL2
     go_wp2_with fail
     refine (Tt (uh H2) hil hjl).mono ?_
     rintro e w3 ⟨rfl,hh3,hf3⟩
     have H3:=Z9 hh3
     have F3:=Z9 ((uh F2).trans hf3)
     clear hh3 hf3
     have HS:Hid (DnTo (swp qs i j1) n i0 j1):=Z9 ((uh Hdn).step hii (by omega) (uh HP) (by omega) (by omega) hlt2 (uh HM))
     have HA:Hid (∀ k,n<=k->Z7 (swp qs i j1) k=Z7 ps k):=Z9 (fun k hk=>by rw [Tu hil hjl,if_neg (by omega),if_neg (by omega)];exact uh Hsa k hk)
     go_wp2_with fail
     go_roundw
     case rel=>exact ⟨j1,swp qs i j1,by omega,by omega,rfl,uh H3,uh HS,(Tv hil hjl).trans (uh Hpe),uh HA,uh F3⟩
     case measure=>exact ms
end Go.Proofs.YtffcgajndmhpkaaGreatDoor
