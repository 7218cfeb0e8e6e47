/- Part 15 of what the proof rests on. No condition but those that a theorem names. -/
import Derived.Test.YtjhijildaceadaaGreatDoorXa14
import Derived.Defers
import Derived.Recover
import Derived.WalkLawsBesides
import Derived.Laws.StructEq
set_option maxHeartbeats 8000000
set_option maxRecDepth 100000
namespace Go.Proofs.YtjhijildaceadaaGreatDoor
open Go.ChangeShapes Go.WideShapes Go.ChangeAt Go.RowKit Go.Sort
set_option linter.unusedVariables false
theorem Kl {m:Z4} (h:Loose m) (k:Nat) (hk:k<=m.desks.length):Loose (Zz m k):=by
 obtain ⟨e1,e2,e3,e4,e5,e6⟩:=ZA m k
 have hd:=fun j=>V3 m j k hk
 have hopen:∀ j,(Z8 (Zz m k).desks j).1=(Z8 m.desks j).1:=by
  intro j
  rw [hd j]
  split
  ·unfold Xd;split<;>rfl
  ·rfl
 have hmark:∀ j,j<m.desks.length->(-900000000000<=(Z8 (Zz m k).desks j).2.2/\(Z8 (Zz m k).desks j).2.2<=900000000000)/\(Z8 m.desks j).2.2<=(Z8 (Zz m k).desks j).2.2/\((Z8 (Zz m k).desks j).2.2<=(Z8 m.desks j).2.2\/ ∀ i,i<m.smiths.length->(Z8 m.smiths i).2.1=(j:Int)->ZW (Z8 m.smiths i)=true->(Z8 (Zz m k).desks j).2.2<=XS (Z8 m.smiths i)):=by
  intro j hj
  obtain ⟨k0,k1⟩:=QQ (h.desk j hj)
  rw [hd j]
  split
  ·unfold Xd
   split
   ·exact ⟨⟨k0,k1⟩,Int.le_refl _,.inl (Int.le_refl _)⟩
   ·rename_i e t hq
    obtain ⟨_,i,hi,hib,hip,rfl⟩:=TJ hq
    obtain ⟨_,_,_,_,hband⟩:=h.at hi hip
    obtain ⟨a0,a1,_⟩:=UM hband
    have hm:=Md (m:=(Z8 m.desks j).2.2) (f:=XS (Z8 m.smiths i)) (by omega) (by omega) a0 a1
    show (-900000000000<=ZM _ _/\ZM _ _<=900000000000)/\_<=ZM _ _/\(ZM _ _<=_\/_)
    rw [hm]
    refine ⟨by omega,by omega,?_⟩
    by_cases hc:XS (Z8 m.smiths i)<=(Z8 m.desks j).2.2
    ·left;omega
    ·right
     intro i' hi' hb' hp'
     have:=Pw hq hi' hb' hp'
     simp only at this
     show min (max (Z8 m.desks j).2.2 (XS (Z8 m.smiths i))) 900000000000<=_
     omega
  ·exact ⟨⟨k0,k1⟩,Int.le_refl _,.inl (Int.le_refl _)⟩
 refine ⟨?_,?_,?_,?_,?_,?_⟩
 ·have:=h.head
  unfold Yc at this ⊢
  rw [e1,e2,e3,e4,e5,e6]
  exact this
 ·intro j hj
  have hj':j<m.desks.length:=by omega
  exact Zj (hmark j hj').1.1 (hmark j hj').1.2
 ·intro j hj
  have hj':j<m.paces.length:=by rw [e3] at hj;exact hj
  have:=h.pace j hj'
  unfold Wl at this ⊢
  rw [e1,e3]
  exact this
 ·intro i hi
  have hi':i<m.smiths.length:=by omega
  rw [WD (m:=m) (by rw [e2]) (by rw [e6])]
  rw [XN m hi']
  split
  ·rename_i hp
   exact I6 (h.here i hi') hp.2 (by split<;>omega) (by split<;>omega)
  ·exact h.here i hi'
 ·intro i hi
  have hi':i<m.smiths.length:=by omega
  have ha:=WA m k i hi'
  unfold Ye
  show (!ZW (Z8 (Zz m k).smiths i) || _)=true
  rw [ha.2.1]
  cases hp:ZW (Z8 m.smiths i)
  ·rfl
  ·obtain ⟨b0,b1,ho,hm,hband⟩:=h.at hi' hp
   obtain ⟨a0,a1,a2,a3,a4,a5⟩:=UM hband
   obtain ⟨⟨q0,q1⟩,q2,q3⟩:=hmark (Z8 m.smiths i).2.1.toNat (by omega)
   have hmay:(Z8 (Zz m k).smiths i).2.2.2.1=(Z8 m.smiths i).2.2.2.1:=by
    rw [XN m hi'];split<;>rfl
   show (!true || ((Z8 (Zz m k).desks (Z8 (Zz m k).smiths i).2.1.toNat).1 && (Xp (Z8 (Zz m k).smiths i).2.2.2.1 (Z8 (Zz m k).smiths i).2.1 && Xe (XS (Z8 (Zz m k).smiths i)) (Z8 (Zz m k).desks (Z8 (Zz m k).smiths i).2.1.toNat).2.2)))=true
   rw [ha.1,ha.2.2,hmay,hopen,ho,hm]
   rw [KH a0 a1 (by omega) (by omega) ?_ (by omega)]
   ·rfl
   ·rcases q3 with q3 | q3
    ·omega
    ·have:=q3 i hi' (by omega) hp
     omega
 ·obtain ⟨j,hj,ho⟩:=h.openD
  exact ⟨j,by omega,by rw [hopen];exact ho⟩
theorem S9 {α:Type} [Inhabited α] {xs ys:List α} (hl:xs.length=ys.length) (h:∀ i,i<xs.length->Z8 xs i=Z8 ys i):xs=ys:=by
 apply List.ext_getElem hl
 intro i h1 h2
 have:=h i h1
 unfold Z8 at this
 rwa [List.getD_eq_getElem?_getD,List.getD_eq_getElem?_getD,List.getElem?_eq_getElem h1,List.getElem?_eq_getElem h2] at this
theorem DT {ss:List Z2} {b:Int} {e:Z6} {t:List Z6} (h:atV ss b ss.length=e::t):(ZQ ss (e::t)).set e.2.toNat (stS (Z8 (ZQ ss (e::t)) e.2.toNat) 3)=ZQ (ss.set e.2.toNat (stS (Z8 ss e.2.toNat) 3)) t:=by
 have hmem:∀ x ∈ e::t,0<=x.2/\x.2<ss.length:=fun x hx=>by
  rw [<-h] at hx
  obtain ⟨i,hi,_,_,rfl⟩:=(Yl ss b x ss.length).1 hx
  exact ⟨by show (0:Int)<=(i:Int);omega,by show (i:Int)<_;omega⟩
 have hw:=Ub ss b ss.length
 rw [h,List.pairwise_cons] at hw
 obtain ⟨he0,he1⟩:=hmem e (List.mem_cons_self ..)
 have hel:e.2.toNat<ss.length:=by omega
 have hse:∀ x ∈ t,0<=x.2/\x.2<(ss.set e.2.toNat (stS (Z8 ss e.2.toNat) 3)).length:=fun x hx=>by rw [List.length_set];exact hmem x (List.mem_cons_of_mem _ hx)
 refine S9 (by rw [List.length_set,Yf,Yf,List.length_set]) fun i hi=> ?_
 rw [List.length_set,Yf] at hi
 rw [ZV (by rw [Yf];exact hel)]
 obtain ⟨p1,p2⟩:=RS (e::t) ss i hmem
 obtain ⟨r1,r2⟩:=RS t (ss.set e.2.toNat (stS (Z8 ss e.2.toNat) 3)) i hse
 by_cases hie:i=e.2.toNat
 ·subst hie
  have hn:∀ x ∈ t,x.2 ≠ ((e.2.toNat:Nat):Int):=fun x hx e9=>hw.1 x hx (by omega)
  rw [if_pos rfl,r2 hn,ZV hel,if_pos rfl,p1 ⟨e,List.mem_cons_self ..,by omega⟩]
  rfl
 ·rw [if_neg hie]
  by_cases hx:∃ x ∈ t,x.2=(i:Int)
  ·obtain ⟨x,hx,hxi⟩:=hx
   rw [p1 ⟨x,List.mem_cons_of_mem _ hx,hxi⟩,r1 ⟨x,hx,hxi⟩,ZV hel,if_neg hie]
  ·have hn:∀ x ∈ t,x.2 ≠ (i:Int):=fun x hx' e9=>hx ⟨x,hx',e9⟩
   rw [p2 (fun x hx'=>by
    rcases List.mem_cons.1 hx' with rfl | hx'
    ·omega
    ·exact hn x hx'),r2 hn,ZV hel,if_neg hie]
def Zq (m:Z4):Z4:=if YF m then ZL m else WV
theorem FullSmy.set_off {n₀:Nat} {w:World} {v0 v1 v2 v3 v4:Value} {m:Z4} {qs:List (Z3 × Value)} (h:FullSmy n₀ w v0 v1 v2 v3 v4 m qs) {g:Nat} (ho:∀ k,(v0.ownBlock=some k\/(∃ q ∈ qs,q.2.ownBlock=some k)\/v1.ownBlock=some k\/v2.ownBlock=some k\/v3.ownBlock=some k\/v4.ownBlock=some k)->k ≠ g) (o:Nat) (u:Value):FullSmy n₀ (w.setCell ⟨g,o,none⟩ u) v0 v1 v2 v3 v4 m qs:=by
 have hne:∀ k,k ≠ g->(w.setCell ⟨g,o,none⟩ u).heap[k]?=w.heap[k]?:=fun k hk=>heap_setCell_other w _ k u hk
 exact ⟨h.hall.same2 fun k e=>hne k (ho k (by rcases e with e | e;exact .inl e;exact .inr (.inl e))),h.rooms,RecAt.same h.guilds fun k e=>hne k (ho k (.inr (.inr (.inl e)))),RecAt.same h.smiths fun k e=>hne k (ho k (.inr (.inr (.inr (.inl e))))),RecAt.same h.desks fun k e=>hne k (ho k (.inr (.inr (.inr (.inr (.inl e)))))),RecAt.same h.paces fun k e=>hne k (ho k (.inr (.inr (.inr (.inr (.inr e)))))),h.h1,h.h2,h.h3,h.h4,h.a12,h.a13,h.a14,h.a23,h.a24,h.a34⟩
theorem VT (n₀:Nat) (w:World):FullSmy n₀ w (.slice none 0 0) (.slice none 0 0) (.slice none 0 0) (.slice none 0 0) (.slice none 0 0) WV []:=by
 have hz:Off2 (.slice none 0 0) (.slice none 0 0):=fun b e=>by cases e
 exact ⟨OwnHall.nil _ _,rfl,World.ownsRow_nil _ _ _ _,World.ownsRow_nil _ _ _ _,World.ownsRow_nil _ _ _ _,World.ownsRow_nil _ _ _ _,⟨hz,fun q hq=>by cases hq⟩,⟨hz,fun q hq=>by cases hq⟩,⟨hz,fun q hq=>by cases hq⟩,⟨hz,fun q hq=>by cases hq⟩,hz,hz,hz,hz,hz,hz⟩
open Go.ChangeShapes Go.WideShapes Go.ChangeAt Go.RowKit Go.Sort Go.Shelf
set_option linter.unusedSimpArgs false
set_option maxRecDepth 100000
theorem DS {a0 a1 a2 a3 a4:Option Addr} {n0 n1 n2 n3 n4 p0 p1 p2 p3 p4:Nat} {now:Int} {W:World} : Calls Tryz.prog 94 #[.agg #[.slice a0 n0 p0,.slice a1 n1 p1,.slice a2 n2 p2,.slice a3 n3 p3,.slice a4 n4 p4,.int .i64 now],.nilIface] W fun e w'=>e= .returned (.tuple #[.agg #[.slice a0 n0 p0,.slice a1 n1 p1,.slice a2 n2 p2,.slice a3 n3 p3,.slice a4 n4 p4,.int .i64 now],.int .i64 0])/\Below W.heap.size W w':=by
 have kb:Hid (Blk (((W.alloc (.cells #[.slice a0 n0 p0,.slice a1 n1 p1,.slice a2 n2 p2,.slice a3 n3 p3,.slice a4 n4 p4,.int .i64 now] 32)).alloc (.cells #[.slice none 0 0,.slice none 0 0,.slice none 0 0,.slice none 0 0,.slice none 0 0,.int .i64 0] 32)).alloc (.cells #[.pointer none] 159)) W.heap.size 32 #[.slice a0 n0 p0,.slice a1 n1 p1,.slice a2 n2 p2,.slice a3 n3 p3,.slice a4 n4 p4,.int .i64 now]):=Z9 (((Blk.new W _ _).alloc _).alloc _)
 have kr:Hid (Blk (((W.alloc (.cells #[.slice a0 n0 p0,.slice a1 n1 p1,.slice a2 n2 p2,.slice a3 n3 p3,.slice a4 n4 p4,.int .i64 now] 32)).alloc (.cells #[.slice none 0 0,.slice none 0 0,.slice none 0 0,.slice none 0 0,.slice none 0 0,.int .i64 0] 32)).alloc (.cells #[.pointer none] 159)) (W.heap.size+1) 32 #[.slice none 0 0,.slice none 0 0,.slice none 0 0,.slice none 0 0,.slice none 0 0,.int .i64 0]):=Z9 (by
  have k:=Blk.new (W.alloc (.cells #[.slice a0 n0 p0,.slice a1 n1 p1,.slice a2 n2 p2,.slice a3 n3 p3,.slice a4 n4 p4,.int .i64 now] 32)) 32 #[.slice none 0 0,.slice none 0 0,.slice none 0 0,.slice none 0 0,.slice none 0 0,.int .i64 0]
  rw [World.size_alloc] at k
  exact k.alloc _)
 have kv:Hid (Blk (((W.alloc (.cells #[.slice a0 n0 p0,.slice a1 n1 p1,.slice a2 n2 p2,.slice a3 n3 p3,.slice a4 n4 p4,.int .i64 now] 32)).alloc (.cells #[.slice none 0 0,.slice none 0 0,.slice none 0 0,.slice none 0 0,.slice none 0 0,.int .i64 0] 32)).alloc (.cells #[.pointer none] 159)) (W.heap.size+1+1) 159 #[.pointer none]):=Z9 (by
  have k:=Blk.new ((W.alloc (.cells #[.slice a0 n0 p0,.slice a1 n1 p1,.slice a2 n2 p2,.slice a3 n3 p3,.slice a4 n4 p4,.int .i64 now] 32)).alloc (.cells #[.slice none 0 0,.slice none 0 0,.slice none 0 0,.slice none 0 0,.slice none 0 0,.int .i64 0] 32)) 159 #[.pointer none]
  rw [World.size_alloc,World.size_alloc] at k
  exact k)
 have BB:Hid (Below W.heap.size W (((W.alloc (.cells #[.slice a0 n0 p0,.slice a1 n1 p1,.slice a2 n2 p2,.slice a3 n3 p3,.slice a4 n4 p4,.int .i64 now] 32)).alloc (.cells #[.slice none 0 0,.slice none 0 0,.slice none 0 0,.slice none 0 0,.slice none 0 0,.int .i64 0] 32)).alloc (.cells #[.pointer none] 159))):=Z9 ((((Below.refl _ _).alloc (Nat.le_refl _) _).alloc (by simp) _).alloc (by simp;omega) _)
 have hsz:(((W.alloc (.cells #[.slice a0 n0 p0,.slice a1 n1 p1,.slice a2 n2 p2,.slice a3 n3 p3,.slice a4 n4 p4,.int .i64 now] 32)).alloc (.cells #[.slice none 0 0,.slice none 0 0,.slice none 0 0,.slice none 0 0,.slice none 0 0,.int .i64 0] 32)).alloc (.cells #[.pointer none] 159)).heap.size=W.heap.size+1+1+1:=by simp
 go_enter Tryz.func94,Tryz.ntmps94
 go_wp2_with fail
 generalize (((W.alloc (.cells #[.slice a0 n0 p0,.slice a1 n1 p1,.slice a2 n2 p2,.slice a3 n3 p3,.slice a4 n4 p4,.int .i64 now] 32)).alloc (.cells #[.slice none 0 0,.slice none 0 0,.slice none 0 0,.slice none 0 0,.slice none 0 0,.int .i64 0] 32)).alloc (.cells #[.pointer none] 159))=W1 at *
 refine (Bc _ _).mono ?_
 rintro e w1 ⟨rfl,h9⟩
 subst w1
 obtain ⟨t0,t1,t2,t3,t4,t5⟩:=(uh kb).c6
 go_wp2_with fail
 refine ZU (S:=fun w'=>w'.cell? ⟨W.heap.size,0,none⟩=some (.slice a0 n0 p0)/\w'.cell? ⟨W.heap.size,1,none⟩=some (.slice a1 n1 p1)/\w'.cell? ⟨W.heap.size,2,none⟩=some (.slice a2 n2 p2)/\w'.cell? ⟨W.heap.size,3,none⟩=some (.slice a3 n3 p3)/\w'.cell? ⟨W.heap.size,4,none⟩=some (.slice a4 n4 p4)/\w'.cell? ⟨W.heap.size,5,none⟩=some (.int .i64 now)) (by kernel_rfl) (List.cons_ne_nil _ _) (by kernel_rfl) ⟨t0,t1,t2,t3,t4,t5⟩ (fun hHeld=> ?_)
 simp only [List.dropLast_cons_cons,List.dropLast_singleton,List.length_cons,List.length_nil,Nat.zero_add,Nat.reduceAdd]
 have hbd:Below W1.heap.size W1 W1.drew:=(Below.refl _ _).drew
 replace kr:=bl kr hbd
 replace BB:=bt BB hbd
 replace kb:=bl kb hbd
 clear t0 t1 t2 t3 t4 t5
 clear hbd
 generalize W1.drew=W5 at *
 obtain ⟨t0,t1,t2,t3,t4,t5⟩:=(uh kb).c6
 (refine tk 0 rfl (by assumption) ?_;(try simp only [Act.put,sA,sZ,sS]))
 (refine tk 1 rfl (by assumption) ?_;(try simp only [Act.put,sA,sZ,sS]))
 refine wpAnyH_ready (rs:=[2]) (by kernel_rfl) (by simp) ?_
 refine AllReadyH.cons rfl (fun K0 hK=> ?_) AllReadyH.nil
 go_simp
 refine (F5 _).mono ?_
 rintro e9 w9 ⟨rfl,h9⟩
 subst w9
 refine hK.out _ _ ⟨t0,t1,t2,t3,t4,t5⟩ (fun hHeld=> ?_)
 clear hK K0
 (try simp only [Act.put,sA,sZ,sS])
 obtain ⟨o0,o1,o2,o3,o4,o5⟩:=(uh kr).c6
 obtain ⟨f0,f1,f2,f3,f4,f5⟩:=(uh kr).f6
 have kbN:Blk ((((((W5.setCell ⟨W.heap.size+1,0,none⟩ (.slice a0 n0 p0)).setCell ⟨W.heap.size+1,1,none⟩ (.slice a1 n1 p1)).setCell ⟨W.heap.size+1,2,none⟩ (.slice a2 n2 p2)).setCell ⟨W.heap.size+1,3,none⟩ (.slice a3 n3 p3)).setCell ⟨W.heap.size+1,4,none⟩ (.slice a4 n4 p4)).setCell ⟨W.heap.size+1,5,none⟩ (.int .i64 now)) W.heap.size 32 #[.slice a0 n0 p0,.slice a1 n1 p1,.slice a2 n2 p2,.slice a3 n3 p3,.slice a4 n4 p4,.int .i64 now]:=(((((((uh kb).other (a:=⟨W.heap.size+1,0,none⟩) (by show W.heap.size ≠ W.heap.size+1;omega) (.slice a0 n0 p0)).other (a:=⟨W.heap.size+1,1,none⟩) (by show W.heap.size ≠ W.heap.size+1;omega) (.slice a1 n1 p1)).other (a:=⟨W.heap.size+1,2,none⟩) (by show W.heap.size ≠ W.heap.size+1;omega) (.slice a2 n2 p2)).other (a:=⟨W.heap.size+1,3,none⟩) (by show W.heap.size ≠ W.heap.size+1;omega) (.slice a3 n3 p3)).other (a:=⟨W.heap.size+1,4,none⟩) (by show W.heap.size ≠ W.heap.size+1;omega) (.slice a4 n4 p4)).other (a:=⟨W.heap.size+1,5,none⟩) (by show W.heap.size ≠ W.heap.size+1;omega) (.int .i64 now))
 refine wpAnyH_ready (rs:=[3]) (by kernel_rfl) (by simp) ?_
 refine AllReadyH.cons rfl (fun K0 hK=> ?_) AllReadyH.nil
 go_simp
 refine hK.out _ _ ⟨kbN.cell (i:=0) rfl,kbN.cell (i:=1) rfl,kbN.cell (i:=2) rfl,kbN.cell (i:=3) rfl,kbN.cell (i:=4) rfl,kbN.cell (i:=5) rfl⟩ (fun hHeld=> ?_)
 clear hK K0
 (try simp only [Act.put,sA,sZ,sS])
 refine wpAnyH_done (by kernel_rfl) ?_ _
 refine ZF rfl rfl ?_
 go_simp
 clear hHeld
 go_wp2_with fail
 refine bodyPost_ret (v:= .tuple #[.agg #[.slice a0 n0 p0,.slice a1 n1 p1,.slice a2 n2 p2,.slice a3 n3 p3,.slice a4 n4 p4,.int .i64 now],.int .i64 0]) (by simp [results,Tryz.results94,go_sem, *]) rfl ⟨rfl,?_⟩
 iterate 6 (refine Below.setCell ?_ (by show _<=W.heap.size+1;omega) _)
 exact uh BB
theorem EY {a0 a1 a2 a3 a4:Option Addr} {n0 n1 n2 n3 n4 p0 p1 p2 p3 p4:Nat} {now:Int} {W:World} {q:Int->Addr} (he:Errs W q):Calls Tryz.prog 94 #[.agg #[.slice a0 n0 p0,.slice a1 n1 p1,.slice a2 n2 p2,.slice a3 n3 p3,.slice a4 n4 p4,.int .i64 now],Zv (q 3)] W fun e w'=>e= .returned (.tuple #[.agg #[.slice a0 n0 p0,.slice a1 n1 p1,.slice a2 n2 p2,.slice a3 n3 p3,.slice a4 n4 p4,.int .i64 now],.int .i64 3])/\Below W.heap.size W w':=by
 have HE:=Z9 he
 clear he
 have kb:Hid (Blk (((W.alloc (.cells #[.slice a0 n0 p0,.slice a1 n1 p1,.slice a2 n2 p2,.slice a3 n3 p3,.slice a4 n4 p4,.int .i64 now] 32)).alloc (.cells #[.slice none 0 0,.slice none 0 0,.slice none 0 0,.slice none 0 0,.slice none 0 0,.int .i64 0] 32)).alloc (.cells #[.pointer none] 159)) W.heap.size 32 #[.slice a0 n0 p0,.slice a1 n1 p1,.slice a2 n2 p2,.slice a3 n3 p3,.slice a4 n4 p4,.int .i64 now]):=Z9 (((Blk.new W _ _).alloc _).alloc _)
 have kr:Hid (Blk (((W.alloc (.cells #[.slice a0 n0 p0,.slice a1 n1 p1,.slice a2 n2 p2,.slice a3 n3 p3,.slice a4 n4 p4,.int .i64 now] 32)).alloc (.cells #[.slice none 0 0,.slice none 0 0,.slice none 0 0,.slice none 0 0,.slice none 0 0,.int .i64 0] 32)).alloc (.cells #[.pointer none] 159)) (W.heap.size+1) 32 #[.slice none 0 0,.slice none 0 0,.slice none 0 0,.slice none 0 0,.slice none 0 0,.int .i64 0]):=Z9 (by
  have k:=Blk.new (W.alloc (.cells #[.slice a0 n0 p0,.slice a1 n1 p1,.slice a2 n2 p2,.slice a3 n3 p3,.slice a4 n4 p4,.int .i64 now] 32)) 32 #[.slice none 0 0,.slice none 0 0,.slice none 0 0,.slice none 0 0,.slice none 0 0,.int .i64 0]
  rw [World.size_alloc] at k
  exact k.alloc _)
 have kv:Hid (Blk (((W.alloc (.cells #[.slice a0 n0 p0,.slice a1 n1 p1,.slice a2 n2 p2,.slice a3 n3 p3,.slice a4 n4 p4,.int .i64 now] 32)).alloc (.cells #[.slice none 0 0,.slice none 0 0,.slice none 0 0,.slice none 0 0,.slice none 0 0,.int .i64 0] 32)).alloc (.cells #[.pointer none] 159)) (W.heap.size+1+1) 159 #[.pointer none]):=Z9 (by
  have k:=Blk.new ((W.alloc (.cells #[.slice a0 n0 p0,.slice a1 n1 p1,.slice a2 n2 p2,.slice a3 n3 p3,.slice a4 n4 p4,.int .i64 now] 32)).alloc (.cells #[.slice none 0 0,.slice none 0 0,.slice none 0 0,.slice none 0 0,.slice none 0 0,.int .i64 0] 32)) 159 #[.pointer none]
  rw [World.size_alloc,World.size_alloc] at k
  exact k)
 have BB:Hid (Below W.heap.size W (((W.alloc (.cells #[.slice a0 n0 p0,.slice a1 n1 p1,.slice a2 n2 p2,.slice a3 n3 p3,.slice a4 n4 p4,.int .i64 now] 32)).alloc (.cells #[.slice none 0 0,.slice none 0 0,.slice none 0 0,.slice none 0 0,.slice none 0 0,.int .i64 0] 32)).alloc (.cells #[.pointer none] 159))):=Z9 ((((Below.refl _ _).alloc (Nat.le_refl _) _).alloc (by simp) _).alloc (by simp;omega) _)
 have hsz:(((W.alloc (.cells #[.slice a0 n0 p0,.slice a1 n1 p1,.slice a2 n2 p2,.slice a3 n3 p3,.slice a4 n4 p4,.int .i64 now] 32)).alloc (.cells #[.slice none 0 0,.slice none 0 0,.slice none 0 0,.slice none 0 0,.slice none 0 0,.int .i64 0] 32)).alloc (.cells #[.pointer none] 159)).heap.size=W.heap.size+1+1+1:=by simp
 have HX:=Z9 ((uh HE).below (uh BB))
 go_enter Tryz.func94,Tryz.ntmps94
 go_wp2_with fail
 generalize (((W.alloc (.cells #[.slice a0 n0 p0,.slice a1 n1 p1,.slice a2 n2 p2,.slice a3 n3 p3,.slice a4 n4 p4,.int .i64 now] 32)).alloc (.cells #[.slice none 0 0,.slice none 0 0,.slice none 0 0,.slice none 0 0,.slice none 0 0,.int .i64 0] 32)).alloc (.cells #[.pointer none] 159))=W1 at *
 refine (AZ (q 3) _ _ (uh HX).ct).mono ?_
 rintro e w1 ⟨rfl,hb⟩
 replace kb:=bl kb hb
 replace kr:=bl kr hb
 replace BB:=bt BB hb
 replace HX:=Z9 ((uh HX).below hb)
 clear hb
 obtain ⟨t0,t1,t2,t3,t4,t5⟩:=(uh kb).c6
 go_wp2_with fail
 refine ZU (S:=fun w'=>w'.cell? ⟨W.heap.size,0,none⟩=some (.slice a0 n0 p0)/\w'.cell? ⟨W.heap.size,1,none⟩=some (.slice a1 n1 p1)/\w'.cell? ⟨W.heap.size,2,none⟩=some (.slice a2 n2 p2)/\w'.cell? ⟨W.heap.size,3,none⟩=some (.slice a3 n3 p3)/\w'.cell? ⟨W.heap.size,4,none⟩=some (.slice a4 n4 p4)/\w'.cell? ⟨W.heap.size,5,none⟩=some (.int .i64 now)) (by kernel_rfl) (List.cons_ne_nil _ _) (by kernel_rfl) ⟨t0,t1,t2,t3,t4,t5⟩ (fun hHeld=> ?_)
 simp only [List.dropLast_cons_cons,List.dropLast_singleton,List.length_cons,List.length_nil,Nat.zero_add,Nat.reduceAdd]
 have hbd:Below w1.heap.size w1 w1.drew:=(Below.refl _ _).drew
 replace kr:=bl kr hbd
 replace BB:=bt BB hbd
 replace kb:=bl kb hbd
 clear t0 t1 t2 t3 t4 t5
 replace HX:=Z9 ((uh HX).below hbd)
 clear hbd
 generalize w1.drew=W5 at *
 obtain ⟨t0,t1,t2,t3,t4,t5⟩:=(uh kb).c6
 (refine tk 0 rfl (by assumption) ?_;(try simp only [Act.put,sA,sZ,sS]))
 (refine tk 1 rfl (by assumption) ?_;(try simp only [Act.put,sA,sZ,sS]))
 refine wpAnyH_ready (rs:=[2]) (by kernel_rfl) (by simp) ?_
 refine AllReadyH.cons rfl (fun K0 hK=> ?_) AllReadyH.nil
 go_simp
 refine (IK (uh HX)).mono ?_
 rintro e9 w9 ⟨rfl,h9⟩
 subst w9
 refine hK.out _ _ ⟨t0,t1,t2,t3,t4,t5⟩ (fun hHeld=> ?_)
 clear hK K0
 (try simp only [Act.put,sA,sZ,sS])
 obtain ⟨o0,o1,o2,o3,o4,o5⟩:=(uh kr).c6
 obtain ⟨f0,f1,f2,f3,f4,f5⟩:=(uh kr).f6
 have kbN:Blk ((((((W5.setCell ⟨W.heap.size+1,0,none⟩ (.slice a0 n0 p0)).setCell ⟨W.heap.size+1,1,none⟩ (.slice a1 n1 p1)).setCell ⟨W.heap.size+1,2,none⟩ (.slice a2 n2 p2)).setCell ⟨W.heap.size+1,3,none⟩ (.slice a3 n3 p3)).setCell ⟨W.heap.size+1,4,none⟩ (.slice a4 n4 p4)).setCell ⟨W.heap.size+1,5,none⟩ (.int .i64 now)) W.heap.size 32 #[.slice a0 n0 p0,.slice a1 n1 p1,.slice a2 n2 p2,.slice a3 n3 p3,.slice a4 n4 p4,.int .i64 now]:=(((((((uh kb).other (a:=⟨W.heap.size+1,0,none⟩) (by show W.heap.size ≠ W.heap.size+1;omega) (.slice a0 n0 p0)).other (a:=⟨W.heap.size+1,1,none⟩) (by show W.heap.size ≠ W.heap.size+1;omega) (.slice a1 n1 p1)).other (a:=⟨W.heap.size+1,2,none⟩) (by show W.heap.size ≠ W.heap.size+1;omega) (.slice a2 n2 p2)).other (a:=⟨W.heap.size+1,3,none⟩) (by show W.heap.size ≠ W.heap.size+1;omega) (.slice a3 n3 p3)).other (a:=⟨W.heap.size+1,4,none⟩) (by show W.heap.size ≠ W.heap.size+1;omega) (.slice a4 n4 p4)).other (a:=⟨W.heap.size+1,5,none⟩) (by show W.heap.size ≠ W.heap.size+1;omega) (.int .i64 now))
 refine wpAnyH_ready (rs:=[3]) (by kernel_rfl) (by simp) ?_
 refine AllReadyH.cons rfl (fun K0 hK=> ?_) AllReadyH.nil
 go_simp
 refine hK.out _ _ ⟨kbN.cell (i:=0) rfl,kbN.cell (i:=1) rfl,kbN.cell (i:=2) rfl,kbN.cell (i:=3) rfl,kbN.cell (i:=4) rfl,kbN.cell (i:=5) rfl⟩ (fun hHeld=> ?_)
 clear hK K0
 (try simp only [Act.put,sA,sZ,sS])
 refine wpAnyH_done (by kernel_rfl) ?_ _
 refine ZF rfl rfl ?_
 go_simp
 clear hHeld
 go_wp2_with fail
 refine bodyPost_ret (v:= .tuple #[.agg #[.slice a0 n0 p0,.slice a1 n1 p1,.slice a2 n2 p2,.slice a3 n3 p3,.slice a4 n4 p4,.int .i64 now],.int .i64 3]) (by simp [results,Tryz.results94,go_sem, *]) rfl ⟨rfl,?_⟩
 iterate 6 (refine Below.setCell ?_ (by show _<=W.heap.size+1;omega) _)
 exact uh BB
theorem EZ {a0 a1 a2 a3 a4:Option Addr} {n0 n1 n2 n3 n4 p0 p1 p2 p3 p4:Nat} {now:Int} {b0 b1 b2 b3 b4:Option Addr} {l0 l1 l2 l3 l4 r0 r1 r2 r3 r4:Nat} {nw:Int} {W:World} {q:Int->Addr} (he:Errs W q) {p:Nat} {c:Int} (hcc:c=1\/c=2\/c=3\/c=4\/c=5) (hp:Blk W p 163 #[.slice b0 l0 r0,.slice b1 l1 r1,.slice b2 l2 r2,.slice b3 l3 r3,.slice b4 l4 r4,.int .i64 nw,Zv (q c)]):Calls Tryz.prog 94 #[.agg #[.slice a0 n0 p0,.slice a1 n1 p1,.slice a2 n2 p2,.slice a3 n3 p3,.slice a4 n4 p4,.int .i64 now],Qm p] W fun e w'=>e= .returned (.tuple #[.agg #[.slice b0 l0 r0,.slice b1 l1 r1,.slice b2 l2 r2,.slice b3 l3 r3,.slice b4 l4 r4,.int .i64 nw],.int .i64 c])/\Below W.heap.size W w':=by
 have HE:=Z9 he
 have Hp:=Z9 hp
 clear he hp
 have kb:Hid (Blk (((W.alloc (.cells #[.slice a0 n0 p0,.slice a1 n1 p1,.slice a2 n2 p2,.slice a3 n3 p3,.slice a4 n4 p4,.int .i64 now] 32)).alloc (.cells #[.slice none 0 0,.slice none 0 0,.slice none 0 0,.slice none 0 0,.slice none 0 0,.int .i64 0] 32)).alloc (.cells #[.pointer none] 159)) W.heap.size 32 #[.slice a0 n0 p0,.slice a1 n1 p1,.slice a2 n2 p2,.slice a3 n3 p3,.slice a4 n4 p4,.int .i64 now]):=Z9 (((Blk.new W _ _).alloc _).alloc _)
 have kr:Hid (Blk (((W.alloc (.cells #[.slice a0 n0 p0,.slice a1 n1 p1,.slice a2 n2 p2,.slice a3 n3 p3,.slice a4 n4 p4,.int .i64 now] 32)).alloc (.cells #[.slice none 0 0,.slice none 0 0,.slice none 0 0,.slice none 0 0,.slice none 0 0,.int .i64 0] 32)).alloc (.cells #[.pointer none] 159)) (W.heap.size+1) 32 #[.slice none 0 0,.slice none 0 0,.slice none 0 0,.slice none 0 0,.slice none 0 0,.int .i64 0]):=Z9 (by
  have k:=Blk.new (W.alloc (.cells #[.slice a0 n0 p0,.slice a1 n1 p1,.slice a2 n2 p2,.slice a3 n3 p3,.slice a4 n4 p4,.int .i64 now] 32)) 32 #[.slice none 0 0,.slice none 0 0,.slice none 0 0,.slice none 0 0,.slice none 0 0,.int .i64 0]
  rw [World.size_alloc] at k
  exact k.alloc _)
 have kv:Hid (Blk (((W.alloc (.cells #[.slice a0 n0 p0,.slice a1 n1 p1,.slice a2 n2 p2,.slice a3 n3 p3,.slice a4 n4 p4,.int .i64 now] 32)).alloc (.cells #[.slice none 0 0,.slice none 0 0,.slice none 0 0,.slice none 0 0,.slice none 0 0,.int .i64 0] 32)).alloc (.cells #[.pointer none] 159)) (W.heap.size+1+1) 159 #[.pointer none]):=Z9 (by
  have k:=Blk.new ((W.alloc (.cells #[.slice a0 n0 p0,.slice a1 n1 p1,.slice a2 n2 p2,.slice a3 n3 p3,.slice a4 n4 p4,.int .i64 now] 32)).alloc (.cells #[.slice none 0 0,.slice none 0 0,.slice none 0 0,.slice none 0 0,.slice none 0 0,.int .i64 0] 32)) 159 #[.pointer none]
  rw [World.size_alloc,World.size_alloc] at k
  exact k)
 have BB:Hid (Below W.heap.size W (((W.alloc (.cells #[.slice a0 n0 p0,.slice a1 n1 p1,.slice a2 n2 p2,.slice a3 n3 p3,.slice a4 n4 p4,.int .i64 now] 32)).alloc (.cells #[.slice none 0 0,.slice none 0 0,.slice none 0 0,.slice none 0 0,.slice none 0 0,.int .i64 0] 32)).alloc (.cells #[.pointer none] 159))):=Z9 ((((Below.refl _ _).alloc (Nat.le_refl _) _).alloc (by simp) _).alloc (by simp;omega) _)
 have hsz:(((W.alloc (.cells #[.slice a0 n0 p0,.slice a1 n1 p1,.slice a2 n2 p2,.slice a3 n3 p3,.slice a4 n4 p4,.int .i64 now] 32)).alloc (.cells #[.slice none 0 0,.slice none 0 0,.slice none 0 0,.slice none 0 0,.slice none 0 0,.int .i64 0] 32)).alloc (.cells #[.pointer none] 159)).heap.size=W.heap.size+1+1+1:=by simp
 have HX:=Z9 ((uh HE).below (uh BB))
 have kp:=Z9 ((uh Hp).below (uh BB) (uh Hp).lt)
 go_enter Tryz.func94,Tryz.ntmps94
 go_wp2_with fail
 generalize (((W.alloc (.cells #[.slice a0 n0 p0,.slice a1 n1 p1,.slice a2 n2 p2,.slice a3 n3 p3,.slice a4 n4 p4,.int .i64 now] 32)).alloc (.cells #[.slice none 0 0,.slice none 0 0,.slice none 0 0,.slice none 0 0,.slice none 0 0,.int .i64 0] 32)).alloc (.cells #[.pointer none] 159))=W1 at *
 refine (Bd _ p _ (uh HX).ct ((uh kv).cell (i:=0) rfl) ((uh kv).free 0)).mono ?_
 rintro e w1 ⟨rfl,hc,hall⟩
 have hb:=hall (W.heap.size+1+1) (Nat.le_refl _) (by omega)
 have hpl:=(uh Hp).lt
 replace kb:=Z9 ((uh kb).below hb (by omega))
 replace kr:=Z9 ((uh kr).below hb (by omega))
 replace kp:=Z9 ((uh kp).below hb (by omega))
 have hE0:=(uh HE).below ((uh BB).trans (hb.mono (by omega)))
 replace BB:=Z9 ((uh BB).trans (hb.mono (by omega)))
 replace HX:=Z9 hE0
 clear hb hall hE0 kv hsz hpl
 obtain ⟨t0,t1,t2,t3,t4,t5⟩:w1.cell? ⟨p,0,none⟩=some (.slice b0 l0 r0)/\w1.cell? ⟨p,1,none⟩=some (.slice b1 l1 r1)/\w1.cell? ⟨p,2,none⟩=some (.slice b2 l2 r2)/\w1.cell? ⟨p,3,none⟩=some (.slice b3 l3 r3)/\w1.cell? ⟨p,4,none⟩=some (.slice b4 l4 r4)/\w1.cell? ⟨p,5,none⟩=some (.int .i64 nw):=⟨(uh kp).cell (i:=0) rfl,(uh kp).cell (i:=1) rfl,(uh kp).cell (i:=2) rfl,(uh kp).cell (i:=3) rfl,(uh kp).cell (i:=4) rfl,(uh kp).cell (i:=5) rfl⟩
 go_wp2_with fail
 refine ZU (S:=fun w'=>w'.cell? ⟨W.heap.size+1+1,0,none⟩=some (.pointer (some ⟨p,0,none⟩))/\w'.cell? ⟨p,0,none⟩=some (.slice b0 l0 r0)/\w'.cell? ⟨p,1,none⟩=some (.slice b1 l1 r1)/\w'.cell? ⟨p,2,none⟩=some (.slice b2 l2 r2)/\w'.cell? ⟨p,3,none⟩=some (.slice b3 l3 r3)/\w'.cell? ⟨p,4,none⟩=some (.slice b4 l4 r4)/\w'.cell? ⟨p,5,none⟩=some (.int .i64 nw)) (by kernel_rfl) (List.cons_ne_nil _ _) (by kernel_rfl) ⟨hc,t0,t1,t2,t3,t4,t5⟩ (fun hHeld=> ?_)
 simp only [List.dropLast_cons_cons,List.dropLast_singleton,List.length_cons,List.length_nil,Nat.zero_add,Nat.reduceAdd]
 have hbd:Below w1.heap.size w1 w1.drew:=(Below.refl _ _).drew
 replace kr:=bl kr hbd
 replace BB:=bt BB hbd
 replace kp:=bl kp hbd
 replace hc:=(hbd.cell (World.block_lt_of_cell? _ _ hc)).trans hc
 replace HX:=Z9 ((uh HX).below hbd)
 clear t0 t1 t2 t3 t4 t5
 clear hbd
 generalize w1.drew=W5 at *
 obtain ⟨t0,t1,t2,t3,t4,t5⟩:W5.cell? ⟨p,0,none⟩=some (.slice b0 l0 r0)/\W5.cell? ⟨p,1,none⟩=some (.slice b1 l1 r1)/\W5.cell? ⟨p,2,none⟩=some (.slice b2 l2 r2)/\W5.cell? ⟨p,3,none⟩=some (.slice b3 l3 r3)/\W5.cell? ⟨p,4,none⟩=some (.slice b4 l4 r4)/\W5.cell? ⟨p,5,none⟩=some (.int .i64 nw):=⟨(uh kp).cell (i:=0) rfl,(uh kp).cell (i:=1) rfl,(uh kp).cell (i:=2) rfl,(uh kp).cell (i:=3) rfl,(uh kp).cell (i:=4) rfl,(uh kp).cell (i:=5) rfl⟩
 (refine tk 0 rfl (by assumption) ?_;(try simp only [Act.put,sA,sZ,sS]))
 (refine tk 1 rfl (by assumption) ?_;(try simp only [Act.put,sA,sZ,sS]))
 (refine tk 2 rfl (by assumption) ?_;(try simp only [Act.put,sA,sZ,sS]))
 (refine tk 3 rfl (by assumption) ?_;(try simp only [Act.put,sA,sZ,sS]))
 (refine tk 4 rfl (by assumption) ?_;(try simp only [Act.put,sA,sZ,sS]))
 refine wpAnyH_ready (rs:=[5]) (by kernel_rfl) (by simp) ?_
 refine AllReadyH.cons rfl (fun K0 hK=> ?_) AllReadyH.nil
 go_simp
 refine (IL hcc p (uh HX) ((uh kp).cell (i:=6) rfl)).mono ?_
 rintro e9 w9 ⟨rfl,h9⟩
 subst w9
 refine hK.out _ _ ⟨hc,t0,t1,t2,t3,t4,t5⟩ (fun hHeld=> ?_)
 clear hK K0
 (try simp only [Act.put,sA,sZ,sS])
 obtain ⟨o0,o1,o2,o3,o4,o5⟩:=(uh kr).c6
 obtain ⟨f0,f1,f2,f3,f4,f5⟩:=(uh kr).f6
 have hpl:=(uh Hp).lt
 have hne:p ≠ W.heap.size+1:=by omega
 have hcN:((((((W5.setCell ⟨W.heap.size+1,0,none⟩ (.slice b0 l0 r0)).setCell ⟨W.heap.size+1,1,none⟩ (.slice b1 l1 r1)).setCell ⟨W.heap.size+1,2,none⟩ (.slice b2 l2 r2)).setCell ⟨W.heap.size+1,3,none⟩ (.slice b3 l3 r3)).setCell ⟨W.heap.size+1,4,none⟩ (.slice b4 l4 r4)).setCell ⟨W.heap.size+1,5,none⟩ (.int .i64 nw)).cell? ⟨W.heap.size+1+1,0,none⟩=some (.pointer (some ⟨p,0,none⟩)):=by
  rw [World.cell?_setCell_far _ _ _ _ (by show W.heap.size+1 ≠ W.heap.size+1+1;omega),World.cell?_setCell_far _ _ _ _ (by show W.heap.size+1 ≠ W.heap.size+1+1;omega),World.cell?_setCell_far _ _ _ _ (by show W.heap.size+1 ≠ W.heap.size+1+1;omega),World.cell?_setCell_far _ _ _ _ (by show W.heap.size+1 ≠ W.heap.size+1+1;omega),World.cell?_setCell_far _ _ _ _ (by show W.heap.size+1 ≠ W.heap.size+1+1;omega),World.cell?_setCell_far _ _ _ _ (by show W.heap.size+1 ≠ W.heap.size+1+1;omega)]
  exact hc
 have kpN:Blk ((((((W5.setCell ⟨W.heap.size+1,0,none⟩ (.slice b0 l0 r0)).setCell ⟨W.heap.size+1,1,none⟩ (.slice b1 l1 r1)).setCell ⟨W.heap.size+1,2,none⟩ (.slice b2 l2 r2)).setCell ⟨W.heap.size+1,3,none⟩ (.slice b3 l3 r3)).setCell ⟨W.heap.size+1,4,none⟩ (.slice b4 l4 r4)).setCell ⟨W.heap.size+1,5,none⟩ (.int .i64 nw)) p 163 #[.slice b0 l0 r0,.slice b1 l1 r1,.slice b2 l2 r2,.slice b3 l3 r3,.slice b4 l4 r4,.int .i64 nw,Zv (q c)]:=(((((((uh kp).other (a:=⟨W.heap.size+1,0,none⟩) hne (.slice b0 l0 r0)).other (a:=⟨W.heap.size+1,1,none⟩) hne (.slice b1 l1 r1)).other (a:=⟨W.heap.size+1,2,none⟩) hne (.slice b2 l2 r2)).other (a:=⟨W.heap.size+1,3,none⟩) hne (.slice b3 l3 r3)).other (a:=⟨W.heap.size+1,4,none⟩) hne (.slice b4 l4 r4)).other (a:=⟨W.heap.size+1,5,none⟩) hne (.int .i64 nw))
 refine wpAnyH_ready (rs:=[6]) (by kernel_rfl) (by simp) ?_
 refine AllReadyH.cons rfl (fun K0 hK=> ?_) AllReadyH.nil
 go_simp
 refine hK.out _ _ ⟨hcN,kpN.cell (i:=0) rfl,kpN.cell (i:=1) rfl,kpN.cell (i:=2) rfl,kpN.cell (i:=3) rfl,kpN.cell (i:=4) rfl,kpN.cell (i:=5) rfl⟩ (fun hHeld=> ?_)
 clear hK K0
 (try simp only [Act.put,sA,sZ,sS])
 refine wpAnyH_done (by kernel_rfl) ?_ _
 refine ZF rfl rfl ?_
 go_simp
 clear hHeld
 go_wp2_with fail
 refine bodyPost_ret (v:= .tuple #[.agg #[.slice b0 l0 r0,.slice b1 l1 r1,.slice b2 l2 r2,.slice b3 l3 r3,.slice b4 l4 r4,.int .i64 nw],.int .i64 c]) (by simp [results,Tryz.results94,go_sem, *]) rfl ⟨rfl,?_⟩
 iterate 6 (refine Below.setCell ?_ (by show _<=W.heap.size+1;omega) _)
 exact uh BB
def Tr (w:World) (q:Int->Addr) (m X:Z4) (c:Int) (e:Ending) (w':World):Prop:=
 Below w.heap.size w w'/\((Zo m=false/\e= .returned (.tuple #[.agg #[.slice none 0 0,.slice none 0 0,.slice none 0 0,.slice none 0 0,.slice none 0 0,.int .i64 0],Zv (q 3)]))\/(Zo m=true/\c=0/\ ∃ a0 p0 a1 p1 a2 p2 a3 p3 a4 p4 rs,e= .returned (.tuple #[.agg #[.slice a0 (Zq X).rooms.length p0,.slice a1 (Zq X).guilds.length p1,.slice a2 (Zq X).smiths.length p2,.slice a3 (Zq X).desks.length p3,.slice a4 (Zq X).paces.length p4,.int .i64 (Zq X).now],.nilIface])/\FullSmy w.heap.size w' (.slice a0 (Zq X).rooms.length p0) (.slice a1 (Zq X).guilds.length p1) (.slice a2 (Zq X).smiths.length p2) (.slice a3 (Zq X).desks.length p3) (.slice a4 (Zq X).paces.length p4) (Zq X) rs)\/(Zo m=true/\(c=1\/c=2\/c=3\/c=4\/c=5)/\ ∃ p a0 p0 a1 p1 a2 p2 a3 p3 a4 p4 rs,e= .returned (.tuple #[.agg #[.slice none 0 0,.slice none 0 0,.slice none 0 0,.slice none 0 0,.slice none 0 0,.int .i64 0],Qm p])/\Blk w' p 163 #[.slice a0 m.rooms.length p0,.slice a1 m.guilds.length p1,.slice a2 m.smiths.length p2,.slice a3 m.desks.length p3,.slice a4 m.paces.length p4,.int .i64 m.now,Zv (q c)]/\FullSmy w.heap.size w' (.slice a0 m.rooms.length p0) (.slice a1 m.guilds.length p1) (.slice a2 m.smiths.length p2) (.slice a3 m.desks.length p3) (.slice a4 m.paces.length p4) m rs))
theorem YQ {n:Nat} {w:World} {v0 v1 v2 v3 v4:Value} {m:Z4} {qs:List (Z3 × Value)} (h:FullSmy n w v0 v1 v2 v3 v4 m qs):∃ a0 p0 a1 p1 a2 p2 a3 p3 a4 p4,v0= .slice a0 m.rooms.length p0/\v1= .slice a1 m.guilds.length p1/\v2= .slice a2 m.smiths.length p2/\v3= .slice a3 m.desks.length p3/\v4= .slice a4 m.paces.length p4:=by
 obtain ⟨a0,p0,a1,p1,a2,p2,a3,p3,a4,p4,e0,e1,e2,e3,e4,_⟩:=h.smy.five
 exact ⟨a0,p0,a1,p1,a2,p2,a3,p3,a4,p4,e0,e1,e2,e3,e4⟩
set_option maxRecDepth 100000
theorem XA (y:Value) (w:World):Calls Tryz.prog 143 #[.bool true,y] w fun e w'=>e= .returned (.tuple #[])/\w'=w:=by
 go_enter Tryz.func143,Tryz.ntmps143
 go_wp2_with fail
 go_end0
 exact ⟨rfl,rfl⟩
theorem WZ (a:Addr) (w:World):Calls Tryz.prog 143 #[.bool false,Zv a] w fun e w'=>e= .panicked [{ v:=Zv a,recovered:=false }]/\w'=w:=by
 unfold Zv
 go_enter Tryz.func143,Tryz.ntmps143
 go_wp2_with fail
 exact ⟨rfl,rfl,rfl⟩
structure Ny (F:Nat->TypeId->Array Value->Prop) (w W:World) (R:Nat) (v0 v1 v2 v3 v4:Value) (m:Z4) (qs:List (Z3 × Value)):Prop where
 nx:Nx w W R v0 v1 v2 v3 v4 m qs
 fx:∀ k t cs,F k t cs->Blk W k t cs/\k ≠ R/\ ¬ XW v0 v1 v2 v3 v4 qs k
section
variable {F : Nat → TypeId → Array Value → Prop} {w W X : World} {R : Nat} {v0 v1 v2 v3 v4 : Value} {m : Z4} {qs : List (Z3 × Value)}
theorem Ny.full (h:Ny F w W R v0 v1 v2 v3 v4 m qs):FullSmy w.heap.size W v0 v1 v2 v3 v4 m qs:=h.nx.full
theorem Ny.blk (h:Ny F w W R v0 v1 v2 v3 v4 m qs):Blk W R 32 #[v0,v1,v2,v3,v4,.int .i64 m.now]:=h.nx.blk
theorem Ny.bb (h:Ny F w W R v0 v1 v2 v3 v4 m qs):Below w.heap.size w W:=h.nx.bb
theorem Ny.fb (h:Ny F w W R v0 v1 v2 v3 v4 m qs):∀ k t cs,F k t cs->Blk W k t cs:=fun k t cs e=>(h.fx k t cs e).1
theorem Ny.next (h:Ny F w W R v0 v1 v2 v3 v4 m qs) (hb:Below W.heap.size W X):Ny F w X R v0 v1 v2 v3 v4 m qs:=⟨h.nx.next hb,fun k t cs e=>⟨(h.fx k t cs e).1.below hb (h.fx k t cs e).1.lt,(h.fx k t cs e).2⟩⟩
theorem Ny.cells (h:Ny F w W R v0 v1 v2 v3 v4 m qs):W.cell? ⟨R,0,none⟩=some v0/\W.cell? ⟨R,1,none⟩=some v1/\W.cell? ⟨R,2,none⟩=some v2/\W.cell? ⟨R,3,none⟩=some v3/\W.cell? ⟨R,4,none⟩=some v4/\W.cell? ⟨R,5,none⟩=some (.int .i64 m.now):=h.nx.cells
theorem Ny.putS {g n cap:Nat} (h:Ny F w W R v0 v1 (.slice (some ⟨g,0,none⟩) n cap) v3 v4 m qs) (hn:n=m.smiths.length) {j i:Nat} (hj:j<m.smiths.length) (hi:i<11) (u:Value) (x:Z2) (hx:ZR x=(ZR (Z8 m.smiths j)).set i u):Ny F w (W.setCell ⟨g,j*11+i,none⟩ u) R v0 v1 (.slice (some ⟨g,0,none⟩) n cap) v3 v4 (setS m j x) qs:=
 ⟨h.nx.putS hn hj hi u x hx,fun k t cs e=>⟨(h.fx k t cs e).1.other (a:=⟨g,j*11+i,none⟩) (fun e2=>(h.fx k t cs e).2.2 (.inr (.inr (.inr (.inl (by rw [e2];rfl)))))) u,(h.fx k t cs e).2⟩⟩
theorem Ny.putW {g n cap:Nat} (h:Ny F w W R v0 v1 (.slice (some ⟨g,0,none⟩) n cap) v3 v4 m qs) (hn:n=m.smiths.length) {j:Nat} (hj:j<m.smiths.length) (x:Z2):Ny F w (Re W g (j*11) (ZR x)) R v0 v1 (.slice (some ⟨g,0,none⟩) n cap) v3 v4 (setS m j x) qs:=by
 obtain ⟨_,hgr⟩:=RecAt.put Z1 (by omega) h.nx.full.smiths hn hj x
 exact ⟨h.nx.putW hn hj x,fun k t cs e=>⟨(h.fx k t cs e).1.same (hgr.block k (h.fx k t cs e).1.lt (fun e2=>(h.fx k t cs e).2.2 (.inr (.inr (.inr (.inl e2.symm)))))),(h.fx k t cs e).2⟩⟩
theorem Nx.putD {g n cap:Nat} (h:Nx w W R v0 v1 v2 (.slice (some ⟨g,0,none⟩) n cap) v4 m qs) (hn:n=m.desks.length) {j i:Nat} (hj:j<m.desks.length) (hi:i<3) (u:Value) (x:YG) (hx:YB x=(YB (Z8 m.desks j)).set i u):Nx w (W.setCell ⟨g,j*3+i,none⟩ u) R v0 v1 v2 (.slice (some ⟨g,0,none⟩) n cap) v4 { m with desks:=m.desks.set j x } qs:=by
 have hg:=h.full.own (k:=g) (.inr (.inr (.inr (.inr (.inl rfl)))))
 have hgR:=h.own g (.inr (.inr (.inr (.inr (.inl rfl)))))
 exact ⟨h.full.putD hn hj hi u x hx,h.blk.other (a:=⟨g,j*3+i,none⟩) (fun e=>hgR e.symm) u,h.own,h.bb.setCell (p:=⟨g,j*3+i,none⟩) hg.1 u,h.hR⟩
theorem Ny.putD {g n cap:Nat} (h:Ny F w W R v0 v1 v2 (.slice (some ⟨g,0,none⟩) n cap) v4 m qs) (hn:n=m.desks.length) {j i:Nat} (hj:j<m.desks.length) (hi:i<3) (u:Value) (x:YG) (hx:YB x=(YB (Z8 m.desks j)).set i u):Ny F w (W.setCell ⟨g,j*3+i,none⟩ u) R v0 v1 v2 (.slice (some ⟨g,0,none⟩) n cap) v4 { m with desks:=m.desks.set j x } qs:=
 ⟨h.nx.putD hn hj hi u x hx,fun k t cs e=>⟨(h.fx k t cs e).1.other (a:=⟨g,j*3+i,none⟩) (fun e2=>(h.fx k t cs e).2.2 (.inr (.inr (.inr (.inr (.inl (by rw [e2];rfl))))))) u,(h.fx k t cs e).2⟩⟩
end
def PChg (F:Nat->TypeId->Array Value->Prop) (w:World) (R:Nat) (q:Int->Addr) (X:Z4) (c:Int) (e:Ending) (W':World):Prop:=
 Below w.heap.size w W'/\(∀ k t cs,F k t cs->Blk W' k t cs)/\((c=0/\e= .returned (.tuple #[])/\ ∃ u0 u1 u2 u3 u4 rs,Ny F w W' R u0 u1 u2 u3 u4 X rs)\/((c=1\/c=2\/c=3\/c=4\/c=5)/\e= .panicked [{ v:=Zv (q c),recovered:=false }]))
theorem PChg.no {F:Nat->TypeId->Array Value->Prop} {w W':World} {R:Nat} {q:Int->Addr} {X:Z4} {c d:Int} (h:Below w.heap.size w W') (hF:∀ k t cs,F k t cs->Blk W' k t cs) (e:c=d) (hd:d=1\/d=2\/d=3\/d=4\/d=5):PChg F w R q X c (.panicked [{ v:=Zv (q d),recovered:=false }]) W':=by
 subst e
 exact ⟨h,hF,.inr ⟨hd,rfl⟩⟩
theorem PChg.yes {F:Nat->TypeId->Array Value->Prop} {w W':World} {R:Nat} {q:Int->Addr} {X Y:Z4} {c:Int} {u0 u1 u2 u3 u4:Value} {rs:List (Z3 × Value)} (h:Ny F w W' R u0 u1 u2 u3 u4 Y rs) (e:c=0) (hX:X=Y):PChg F w R q X c (.returned (.tuple #[])) W':=by
 subst e hX
 exact ⟨h.bb,h.fb,.inl ⟨rfl,rfl,_,_,_,_,_,_,h⟩⟩
theorem BX (w:World):(Instr.typeAssert .nilIface 20 97 true).run Tryz.prog w= .ok (.tuple #[.nilIface,.bool false]) w:=by kernel_rfl
theorem CC (a:Addr) (w:World):(Instr.typeAssert (Zv a) 20 97 true).run Tryz.prog w= .ok (.tuple #[Zv a,.bool true]) w:=by kernel_rfl
theorem UO (p:Addr) (w:World) :
  CallsD Tryz.prog 140 #[.pointer (some p)] .returning w fun e u' w'=>e= .returned (.tuple #[])/\u'= .returning/\w'=w:=by
 have h1:=BX
 refine callsD_of_wpS Tryz.func140 rfl fun c₀ cs hu=> ?_
 apply wpS_seq
 apply wpS_region
 simp [wpOpsS,go_sem,recoverD,hu,Tryz.ntmps140,Exit.thenS,h1]
 apply wpS_seq
 apply wpS_region
 simp [wpOpsS,go_sem,Exit.thenS]
 refine wpS_cond (t:=false) (by simp [Act.eval,Array.replicate]) ?_
 simp only [Bool.false_eq_true,if_false]
 refine wpS_of_wp (wp_skip ?_)
 cases c₀
 simp_all [bodyPostS,results,Tryz.results140]
theorem Ue (b:Nat) (a:Addr) (w:World) (hc:w.cell? ⟨b,0,none⟩=some .nilIface) (hf:w.frozen? ⟨b,0,none⟩=false) :
  CallsD Tryz.prog 140 #[.pointer (some ⟨b,0,none⟩)] (.panicking [{ v:=Zv a,recovered:=false }]) w fun e u' w'=>e= .returned (.tuple #[])/\u'= .panicking [{ v:=Zv a,recovered:=true }]/\w'=w.setCell ⟨b,0,none⟩ (Zv a):=by
 have h1:=CC a
 have hs:∃ v,Zv a= .iface 344 v:=⟨_,rfl⟩
 obtain ⟨v,hv⟩:=hs
 rw [hv] at h1 ⊢
 refine callsD_of_wpS Tryz.func140 rfl fun c₀ cs hu=> ?_
 apply wpS_seq
 apply wpS_region
 simp [wpOpsS,go_sem,recoverD,hu,Tryz.ntmps140,Exit.thenS,h1]
 apply wpS_seq
 apply wpS_region
 simp [wpOpsS,go_sem,Exit.thenS]
 refine wpS_cond (t:=true) (by simp [Act.eval,Array.replicate]) ?_
 simp only [if_true]
 apply wpS_region
 simp [wpOpsS,go_sem,hc,hf,bodyPostS,results,Tryz.results140]
end Go.Proofs.YtjhijildaceadaaGreatDoor
namespace Go.Proofs.YtjhijildaceadaaGreatDoor
open Go.ChangeShapes Go.WideShapes Go.ChangeAt Go.RowKit Go.Sort
set_option linter.unusedVariables false
theorem PK (x0 x1 x2 x3 x4 x5 x6 x7 x8 x9 x10 y0 y1 y2 y3 y4 y5 y6 y7 y8 y9 y10:Int) (w:World):(Op.equalIn 10000 43 (.agg #[.int .i64 x0,.int .i64 x1,.int .i64 x2,.int .i64 x3,.int .i64 x4,.int .i64 x5,.int .i64 x6,.int .i64 x7,.int .i64 x8,.int .i64 x9,.int .i64 x10]) (.agg #[.int .i64 y0,.int .i64 y1,.int .i64 y2,.int .i64 y3,.int .i64 y4,.int .i64 y5,.int .i64 y6,.int .i64 y7,.int .i64 y8,.int .i64 y9,.int .i64 y10])).run Tryz.prog w= .ok (Ur (x0,x1,x2,x3,x4,x5,x6,x7,x8,x9,x10) (y0,y1,y2,y3,y4,y5,y6,y7,y8,y9,y10)) w:=by
 have u:=Tryz.underlying2
 have a:=Tryz.isAgg2
 have z:=Tryz.sizeOf2
 have hS:Tryz.prog.underlying 43=some (.struct (Tryz.prog.fieldsOf 43)):=by kernel_rfl
 have hp:Tryz.prog.stoodInHeld 43=false:=by kernel_rfl
 rw [show (10000:Nat)=9999+1 from rfl,run_equalIn_agg w 9999 43 _ _ hS hp]
 simp only [Program.fieldsOf,Tryz.underlying43]
 go_simp
 unfold Ur
 by_cases h0:x0=y0
 rotate_left
 ·simp [h0]
 subst h0
 by_cases h1:x1=y1
 rotate_left
 ·simp [h1]
 subst h1
 by_cases h2:x2=y2
 rotate_left
 ·simp [h2]
 subst h2
 by_cases h3:x3=y3
 rotate_left
 ·simp [h3]
 subst h3
 by_cases h4:x4=y4
 rotate_left
 ·simp [h4]
 subst h4
 by_cases h5:x5=y5
 rotate_left
 ·simp [h5]
 subst h5
 by_cases h6:x6=y6
 rotate_left
 ·simp [h6]
 subst h6
 by_cases h7:x7=y7
 rotate_left
 ·simp [h7]
 subst h7
 by_cases h8:x8=y8
 rotate_left
 ·simp [h8]
 subst h8
 by_cases h9:x9=y9
 rotate_left
 ·simp [h9]
 subst h9
 by_cases h10:x10=y10
 rotate_left
 ·simp [h10]
 subst h10
 simp
theorem Mn (x0 x1 x2 x3 x4 x5 x6 x7 x8 x9 x10 y0 y1 y2 y3 y4 y5 y6 y7 y8 y9 y10:Int) (w:World):(binOp .eql 43 (.agg #[.int .i64 x0,.int .i64 x1,.int .i64 x2,.int .i64 x3,.int .i64 x4,.int .i64 x5,.int .i64 x6,.int .i64 x7,.int .i64 x8,.int .i64 x9,.int .i64 x10]) (.agg #[.int .i64 y0,.int .i64 y1,.int .i64 y2,.int .i64 y3,.int .i64 y4,.int .i64 y5,.int .i64 y6,.int .i64 y7,.int .i64 y8,.int .i64 y9,.int .i64 y10])).run Tryz.prog w= .ok (.bool (Ur (x0,x1,x2,x3,x4,x5,x6,x7,x8,x9,x10) (y0,y1,y2,y3,y4,y5,y6,y7,y8,y9,y10))) w:=by
 rw [run_eql_struct,PK];rfl
theorem Mo (x0 x1 x2 x3 x4 x5 x6 x7 x8 x9 x10 y0 y1 y2 y3 y4 y5 y6 y7 y8 y9 y10:Int) (w:World):(binOp .neq 43 (.agg #[.int .i64 x0,.int .i64 x1,.int .i64 x2,.int .i64 x3,.int .i64 x4,.int .i64 x5,.int .i64 x6,.int .i64 x7,.int .i64 x8,.int .i64 x9,.int .i64 x10]) (.agg #[.int .i64 y0,.int .i64 y1,.int .i64 y2,.int .i64 y3,.int .i64 y4,.int .i64 y5,.int .i64 y6,.int .i64 y7,.int .i64 y8,.int .i64 y9,.int .i64 y10])).run Tryz.prog w= .ok (.bool (!Ur (x0,x1,x2,x3,x4,x5,x6,x7,x8,x9,x10) (y0,y1,y2,y3,y4,y5,y6,y7,y8,y9,y10))) w:=by
 rw [run_neq_struct,PK];rfl
theorem UU {r x:Int} (h:Zr r=x) (w:World):Calls Tryz.prog 210 #[.int .i64 r] w fun e w'=>e= .returned (.int .i64 x)/\w'=w:=by
 have:=P9 r w;rw [h] at this;exact this
theorem XV {r x:Int} (h:Zr r=x) (w:World):Calls Tryz.prog 154 #[.int .i64 r] w fun e w'=>e= .returned (.int .i64 x)/\w'=w:=by
 have:=Qx r w;rw [h] at this;exact this
end Go.Proofs.YtjhijildaceadaaGreatDoor
