/- Part 7 of what the proof rests on. No condition but those that a theorem names. -/
import Derived.Test.YtjhijildaceadaaGreatDoorXa06
set_option maxHeartbeats 8000000
set_option maxRecDepth 100000
namespace Go.Proofs.YtjhijildaceadaaGreatDoor
open Go.ChangeShapes Go.WideShapes Go.ChangeAt Go.RowKit Go.Sort
set_option linter.unusedVariables false
variable {w w' w0 w1 w2 w3 w₀ wr W W' X A B C : World} {v v0 v1 v2 v3 v4 u u0 u1 u2 u3 u4 : Value}
theorem BQ (x:List Z6):∀ (qs:List (Z3 × Value)) (j:Nat) (h:j<qs.length),WR (qs.set j ((qs[j].1.1,x),qs[j].2))=WR qs
 | q::qs,0,_=>by simp [WR]
 | q::qs,j+1,h=>by
  have ih:=BQ x qs j (by simpa using h)
  unfold WR at ih ⊢
  simpa using ih
theorem Js {qs:List (Z3 × Value)} {j:Nat} (hj:j<qs.length) (r:Z3):(qs.set j (r,qs[j].2)).map (·.2)=qs.map (·.2):=by
 rw [List.map_set]
 simp only
 have:(qs.map (·.2))[j]'(by simpa using hj)=qs[j].2:=by simp
 rw [<-this,List.set_getElem_self]
theorem Lt {qs:List (Z3 × Value)} {j:Nat} (hj:j<qs.length) {r:Z3} {q:Z3 × Value} (h:q ∈ qs.set j (r,qs[j].2)):(q ∈ qs)\/q=(r,qs[j].2):=List.mem_or_eq_of_mem_set h
theorem OwnHall.bench {n₀ g cap:Nat} {qs:List (Z3 × Value)} (h:OwnHall n₀ w (.slice (some ⟨g,0,none⟩) qs.length cap) qs) {j:Nat} (hj:j<qs.length) (b:Int) :
  OwnHall n₀ (w.setCell ⟨g,j*2,none⟩ (.int .i64 b)) (.slice (some ⟨g,0,none⟩) qs.length cap) (qs.set j ((b,qs[j].1.2),qs[j].2)):=by
 have hst:=(World.ownsRow.stored h.row (j*2) (.int .i64 b)).1
 rw [A5 b qs[j].1.2 qs j hj] at hst
 have hold:∀ q ∈ qs,PacesAt n₀ (w.setCell ⟨g,j*2,none⟩ (.int .i64 b)) q.2 q.1.2:=fun q hq=>YM (h.paces q hq) (fun k e=>Below.heap_setCell w ⟨g,j*2,none⟩ _ k (fun e'=>h.off q hq k e (by show some g=some k;rw [e'])))
 refine ⟨by simpa using hst,fun q hq=> ?_,fun q hq b' e=> ?_,by rw [Js hj];exact h.apart⟩
 ·rcases Lt hj hq with hq | rfl
  ·exact hold q hq
  ·exact hold qs[j] (List.getElem_mem hj)
 ·rcases Lt hj hq with hq | rfl
  ·exact h.off q hq b' e
  ·exact h.off qs[j] (List.getElem_mem hj) b' e
theorem Cx {qs:List (Z3 × Value)} (h:(qs.map (·.2)).Pairwise fun x y=> ∀ b,x.ownBlock=some b->y.ownBlock ≠ some b) {i j:Nat} (hi:i<qs.length) (hj:j<qs.length) (hne:i ≠ j) {b:Nat} (e:qs[i].2.ownBlock=some b):qs[j].2.ownBlock ≠ some b:=by
 rw [List.pairwise_iff_getElem] at h
 rcases Nat.lt_or_gt_of_ne hne with hlt | hgt
 ·have:=h i j (by simpa using hi) (by simpa using hj) hlt b (by simpa using e)
  simpa using this
 ·intro e'
  have:=h j i (by simpa using hj) (by simpa using hi) hgt b (by simpa using e')
  simp at this
  exact this e
theorem OwnHall.repace {n₀:Nat}  {qs:List (Z3 × Value)} (h:OwnHall n₀ w v qs) {j:Nat} (hj:j<qs.length) {ps:List Z6} (hp:PacesAt n₀ w' qs[j].2 ps) (hg:w.grownBy w' qs[j].2.ownBlock) :
  OwnHall n₀ w' v (qs.set j ((qs[j].1.1,ps),qs[j].2)):=by
 have hs:∀ k,k<w.heap.size->qs[j].2.ownBlock ≠ some k->w'.heap[k]?=w.heap[k]?:=fun k hk hn=>hg.block k hk (fun e=>hn e.symm)
 refine ⟨?_,fun q hq=> ?_,fun q hq b' e=> ?_,by rw [Js hj];exact h.apart⟩
 ·have:=YM h.row (fun k e=>hs k (h.lt (.inl e)).2 (fun e'=>h.off qs[j] (List.getElem_mem hj) k e' e))
  rw [List.length_set,BQ ps qs j hj];exact this
 ·obtain ⟨i,hi,rfl⟩:=List.getElem_of_mem hq
  have hi':i<qs.length:=by simpa using hi
  by_cases hij:i=j
  ·subst hij;simpa using hp
  ·rw [List.getElem_set_ne (fun e=>hij e.symm)]
   exact YM (h.paces qs[i] (List.getElem_mem hi')) (fun k e=>hs k (h.lt (.inr ⟨qs[i],List.getElem_mem hi',e⟩)).2 (Cx h.apart hi' hj hij e))
 ·rcases Lt hj hq with hq | rfl
  ·exact h.off q hq b' e
  ·exact h.off qs[j] (List.getElem_mem hj) b' e
structure OwnOnly (v:Value) (qs:List (Z3 × Value)) (w w':World):Prop where
 os:w'.os=w.os
 tape:w'.tape=w.tape
 output:w'.output=w.output
 size:w.heap.size<=w'.heap.size
 block:∀ k,k<w.heap.size->v.ownBlock ≠ some k->(∀ q ∈ qs,q.2.ownBlock ≠ some k)->w'.heap[k]?=w.heap[k]?
theorem OwnOnly.refl (v:Value) (qs:List (Z3 × Value)) (w:World):OwnOnly v qs w w:=⟨rfl,rfl,rfl,Nat.le_refl _,fun _ _ _ _=>rfl⟩
theorem OwnOnly.trans {qs:List (Z3 × Value)} {a b c:World} (h:OwnOnly v qs a b) (k:OwnOnly v qs b c):OwnOnly v qs a c:=
 ⟨k.os.trans h.os,k.tape.trans h.tape,k.output.trans h.output,Nat.le_trans h.size k.size,fun i hi h1 h2=>(k.block i (Nat.lt_of_lt_of_le hi h.size) h1 h2).trans (h.block i hi h1 h2)⟩
theorem OwnOnly.set {g n cap o:Nat} {qs:List (Z3 × Value)} (x:Value):OwnOnly (.slice (some ⟨g,0,none⟩) n cap) qs w (w.setCell ⟨g,o,none⟩ x):=
 ⟨rfl,rfl,rfl,by simp,fun k hk h1 _=>Below.heap_setCell w ⟨g,o,none⟩ x k (fun e=>h1 (by show some g=some k;rw [e]))⟩
theorem OwnOnly.grown {qs:List (Z3 × Value)} {q:Z3 × Value} (hq:q ∈ qs) (hg:w.grownBy w' q.2.ownBlock):OwnOnly v qs w w':=
 ⟨hg.os,hg.tape,hg.output,hg.size,fun k hk _ h2=>hg.block k hk (fun e=>h2 q hq e.symm)⟩
theorem OwnOnly.alloc (v:Value) (qs:List (Z3 × Value)) (w:World) (o:Obj):OwnOnly v qs w (w.alloc o):=⟨rfl,rfl,rfl,by simp,fun k hk _ _=>Below.heap_alloc w o k hk⟩
def Yd:Int->List (Z3 × Value)->Int
 | k,[]=>k
 | k,q::qs=>Yd (k+1+2*(q.1.2.length:Int)) qs
def YL:Int->List (Z3 × Value)->List (Z3 × Value)
 | _,[]=>[]
 | k,q::qs=>((k,mps (k+1) q.1.2.length),q.2)::YL (k+1+2*(q.1.2.length:Int)) qs
theorem Jc:∀ (a:List (Z3 × Value)) (k:Int) (b:List (Z3 × Value)),Yd k (a++b)=Yd (Yd k a) b
 | [],_,_=>rfl
 | q::a,k,b=>Jc a _ b
theorem Qd:∀ (a:List (Z3 × Value)) (k:Int) (b:List (Z3 × Value)),YL k (a++b)=YL k a++YL (Yd k a) b
 | [],_,_=>rfl
 | q::a,k,b=>by simp only [List.cons_append,YL,Yd];rw [Qd a _ b]
theorem Xc:∀ (a:List (Z3 × Value)) (k:Int),(YL k a).length=a.length
 | [],_=>rfl
 | q::a,k=>by simp [YL,Xc a]
theorem DR {α:Type} {l:List α} {j:Nat} (h:j<l.length):l.take (j+1)=l.take j++[l[j]]:=List.take_succ_eq_append_getElem h
theorem Gm {qs:List (Z3 × Value)} {k:Int} {j:Nat} (h:j<qs.length):Yd k (qs.take (j+1))=Yd k (qs.take j)+1+2*(qs[j].1.2.length:Int):=by rw [DR h,Jc];rfl
theorem QW {qs:List (Z3 × Value)} (hp:∀ q ∈ qs,q.1.2.length<=1048576) (k:Int):∀ j,j<=qs.length->k<=Yd k (qs.take j)/\Yd k (qs.take j)<=k+2097153*j
 | 0,_=>by simp [Yd]
 | j+1,hj=>by
  have ih:=QW hp k j (by omega)
  have hq:=hp qs[j] (List.getElem_mem (by omega))
  rw [Gm (by omega)];omega
def Y1 (k:Int) (qs:List (Z3 × Value)) (j:Nat):List (Z3 × Value):=YL k (qs.take j)++qs.drop j
theorem Lr {k:Int} {qs:List (Z3 × Value)} {j:Nat} (h:j<=qs.length):(Y1 k qs j).length=qs.length:=by unfold Y1;rw [List.length_append,Xc];simp;omega
theorem markedTo_at? {k:Int} {qs:List (Z3 × Value)} {j:Nat} (h:j<qs.length):(Y1 k qs j)[j]?=some qs[j]:=by
 have hl:(YL k (qs.take j)).length=j:=by rw [Xc];simp;omega
 unfold Y1
 rw [List.getElem?_append_right (by omega),hl,Nat.sub_self,List.drop_eq_getElem_cons h];rfl
theorem Jt {k:Int} {qs:List (Z3 × Value)} {j:Nat} (h:j<qs.length) (h':j<(Y1 k qs j).length):(Y1 k qs j)[j]=qs[j]:=by
 have h1:=markedTo_at? (k:=k) h
 rw [List.getElem?_eq_getElem h'] at h1
 exact Option.some.inj h1
theorem Gw {k:Int} {qs:List (Z3 × Value)} {j:Nat} (h:j<qs.length):(Y1 k qs j).set j ((Yd k (qs.take j),mps (Yd k (qs.take j)+1) qs[j].1.2.length),qs[j].2)=Y1 k qs (j+1):=by
 unfold Y1
 have hl:(YL k (qs.take j)).length=j:=by rw [Xc];simp;omega
 rw [List.set_append_right _ _ (by omega),hl,Nat.sub_self,List.drop_eq_getElem_cons h,List.set_cons_zero,DR h,Qd]
 simp [YL]
theorem Lq (k:Int) (qs:List (Z3 × Value)):Y1 k qs qs.length=YL k qs:=by simp [Y1]
theorem Db {k:Int} {qs:List (Z3 × Value)} {j:Nat} (h:j<qs.length):ZY ((YL k qs).map (·.1)) j=(Yd k (qs.take j),mps (Yd k (qs.take j)+1) qs[j].1.2.length):=by
 have e:YL k qs=YL k (qs.take j)++YL (Yd k (qs.take j)) (qs.drop j):=by rw [<-Qd,List.take_append_drop]
 have hl:(YL k (qs.take j)).length=j:=by rw [Xc];simp;omega
 unfold ZY
 rw [e,List.drop_eq_getElem_cons h]
 simp only [YL,List.map_append,List.map_cons,List.getD]
 rw [List.getElem?_append_right (by rw [List.length_map,hl];omega),List.length_map,hl,Nat.sub_self]
 rfl
theorem MS {n₀:Nat}  {qs:List (Z3 × Value)} (k:Int) (h:OwnHall n₀ w v qs) (hn:n₀<=w.heap.size) (hk0:0<=k) (hk1:k<=1000000000) (hl:qs.length<=1048576) (hp:∀ q ∈ qs,q.1.2.length<=1048576) :
  Calls Tryz.prog 203 #[v,.int .i64 k] w fun e w'=>e= .returned (.int .i64 (Yd k qs))/\OwnHall n₀ w' v (YL k qs)/\OwnOnly v qs w w':=by
 have Hv:=Z9 h
 obtain ⟨a,cap,rfl⟩:=h.shape
 have Hp:=Z9 hp
 clear h hp
 go_enter Tryz.func203,Tryz.ntmps203
 go_wp2_with fail
 go_loopw [5,1] (fun i q wr=> ∃ j:Nat,j<=qs.length/\i= .int .i64 j/\q= .int .i64 (Yd k (qs.take j))/\OwnHall n₀ wr (.slice a qs.length cap) (Y1 k qs j)/\OwnOnly (.slice a qs.length cap) qs w wr) (fun i _ _=>qs.length-(intOf i).toNat)
 case atStart=>exact ⟨0,Nat.zero_le _,rfl,rfl,by simpa [Y1,YL] using uh Hv,OwnOnly.refl _ _ _⟩
 case round=>
  obtain ⟨j,hj,rfl,rfl,hin,hbl⟩:=hrel
  by_cases hlt:j<qs.length
  ·have hml:=Lr (k:=k) (Nat.le_of_lt hlt)
   have hjm:j<(Y1 k qs j).length:=by rw [hml];exact hlt
   have hat:=Jt (k:=k) hlt hjm
   have hkb:=QW (uh Hp) k j hj
   have hks:=Gm (k:=k) hlt
   have Hms:=Z9 (Gw (k:=k) hlt)
   have hpl:=uh Hp qs[j] (List.getElem_mem hlt)
   obtain ⟨g,rfl⟩:∃ g,a=some ⟨g,0,none⟩:=by
    rcases hin.row.2 with ⟨h9,h8⟩ | ⟨g,c',cur,h9,_⟩
    ·omega
    ·simp only [Value.slice.injEq] at h9;exact ⟨g,h9.1⟩
   have hin0:=hin
   rw [<-hml] at hin
   have hb1:=hin.bench hjm (Yd k (qs.take j))
   rw [hml] at hb1
   have hrow:=hin0.row
   rw [hml] at hrow
   have hc0:=World.ownsRow.cellAt hrow (j*2) (by omega)
   have hc1:=World.ownsRow.cellAt hrow (j*2+1) (by omega)
   have hpg:=Wy (f:=fun q:Z3 × Value=>Value.int .i64 q.1.1) (g:=fun q:Z3 × Value=>q.2) (Y1 k qs j) j hjm
   have hc0':=hc0.trans hpg.1
   have hc1':=hc1.trans hpg.2
   have f0:=World.ownsRow.frozenAt hrow (j*2)
   rw [hat] at hc0' hc1' hb1
   have HW1:Hid (OwnOnly (.slice (some ⟨g,0,none⟩) qs.length cap) qs w (wr.setCell ⟨g,j*2,none⟩ (.int .i64 (Yd k (qs.take j))))):=Z9 (hbl.trans (OwnOnly.set _))
   have hjs:j<((Y1 k qs j).set j ((Yd k (qs.take j),qs[j].1.2),qs[j].2)).length:=by rw [List.length_set];exact hjm
   have hpa:=hb1.paces _ (List.getElem_mem hjs)
   rw [List.getElem_set_self] at hpa
   simp only at hpa
   have Hb1:=Z9 hb1
   have Hpa:=Z9 hpa
   have hd1:(wr.setCell ⟨g,j*2,none⟩ (.int .i64 (Yd k (qs.take j)))).cell? ⟨g,j*2+1,none⟩=some qs[j].2:=by rw [World.cell?_setCell_other _ _ _ _ (by simp)];exact hc1'
   obtain ⟨pa,pcap,hps⟩:=hpa.shape
   rw [hps] at hd1
   have Hps:=Z9 hps
   generalize Yd k (qs.take j)=kj at *
   generalize hk':Yd k (qs.take (j+1))=kj' at *
   have Hk':=Z9 hk'
   clear hin hin0 hb1 hrow hc0 hc1 hpg hc1' hpa hps hat hk'
   generalize hbb:qs[j].1.1=bb at *
   clear hbb
   generalize hll:qs[j].1.2.length=ll at *
   have Hll:=Z9 hll
   clear hll
   go_wp2_with fail
   refine (MR (n₀:=n₀) (ps:=qs[j].1.2) (kj+1) (by have h2:=uh Hpa;rw [uh Hps] at h2;exact h2) (by omega) (by omega) (by rw [uh Hll];omega)).mono ?_
   rw [uh Hll]
   rintro e w2 ⟨rfl,hpa2,hgr⟩
   have Hrep:Hid (OwnHall n₀ w2 (.slice (some ⟨g,0,none⟩) qs.length cap) (Y1 k qs (j+1))/\OwnOnly (.slice (some ⟨g,0,none⟩) qs.length cap) qs w w2):=Z9 (by
    have hj2:j<((Y1 k qs j).set j ((kj,qs[j].1.2),qs[j].2)).length:=hjs
    have e2:(((Y1 k qs j).set j ((kj,qs[j].1.2),qs[j].2))[j]'hj2)=((kj,qs[j].1.2),qs[j].2):=List.getElem_set_self _
    have h3:=OwnHall.repace (uh Hb1) hj2 (ps:=mps (kj+1) ll) (w':=w2) (by rw [e2];simp only;rw [uh Hps];exact hpa2) (by rw [e2];simp only;rw [uh Hps];exact hgr)
    rw [e2,List.set_set] at h3
    simp only at h3
    have h4:=uh Hms
    rw [h4] at h3
    exact ⟨h3,(uh HW1).trans (OwnOnly.grown (List.getElem_mem hlt) (by rw [uh Hps];exact hgr))⟩)
   clear hpa2 hgr
   go_wp2_with fail
   go_roundw
   case rel=>exact ⟨j+1,by omega,by go_num,by rw [uh Hk',hks],(uh Hrep).1,(uh Hrep).2⟩
   case measure=>simp [intOf];omega
  ·obtain rfl:j=qs.length:=by omega
   rw [Lq] at hin
   rw [List.take_length]
   go_wp2_with fail
   go_ret
   exact ⟨rfl,hin,hbl⟩
theorem ML  {qs:List (Z3 × Value)} (k:Int) (h:IsRooms w v ((YL k qs).map (·.1))) (hk0:0<=k) (hk1:k<=1000000000) (hl:qs.length<=1048576) (hp:∀ q ∈ qs,q.1.2.length<=1048576) :
  Calls Tryz.prog 204 #[v,.int .i64 k] w fun e w'=>e= .returned (.int .i64 (Yd k qs))/\w'=w:=by
 have hlen:((YL k qs).map (·.1)).length=qs.length:=by rw [List.length_map,Xc]
 obtain ⟨a,cap,rfl,hc,hm,hrow⟩:=h
 rw [hlen] at hc hrow ⊢
 have Hrow:=Z9 hrow
 have Hp:=Z9 hp
 clear hrow hp
 go_enter Tryz.func204,Tryz.ntmps204
 go_wp2_with fail
 go_loop [5,1] (fun i q=> ∃ j:Nat,j<=qs.length/\i= .int .i64 j/\q= .int .i64 (Yd k (qs.take j))) (fun i _=>qs.length-(intOf i).toNat)
 case atStart=>exact ⟨0,Nat.zero_le _,rfl,rfl⟩
 case round=>
  obtain ⟨j,hj,rfl,rfl⟩:=hrel
  by_cases hlt:j<qs.length
  ·have hkb:=QW (uh Hp) k j hj
   have hks:=Gm (k:=k) hlt
   have hpl:=uh Hp qs[j] (List.getElem_mem hlt)
   have hma:=Db (k:=k) hlt
   rcases uh Hrow with h0 | ⟨bk,off,rfl,hbw,hcl⟩
   ·have h7:=congrArg List.length h0;rw [List.length_map,Xc,List.length_nil] at h7;omega
   obtain ⟨c0,pv,c1,hip⟩:=hcl j hlt
   rw [hma] at c0 hip
   simp only at c0 hip
   have hsh:∃ pa pcap,pv= .slice pa qs[j].1.2.length pcap:=by obtain ⟨pa,pcap,rfl,_⟩:=hip;exact ⟨pa,pcap,by rw [Sr]⟩
   obtain ⟨pa,pcap,rfl⟩:=hsh
   have Hip:=Z9 hip
   generalize qs[j].1.2.length=ll at *
   generalize Yd k (qs.take j)=kj at *
   generalize hk':Yd k (qs.take (j+1))=kj' at *
   have Hk':=Z9 hk'
   clear hcl hip hma hk'
   have hneg:¬ kj+1+2*(ll:Int)<0:=by omega
   go_wp2_with fail
   refine (MK (kj+1) ll (uh Hip) (by omega) (by omega) (by omega)).mono ?_
   rintro e w2 ⟨rfl,hw2⟩
   subst w2
   go_wp2_with fail
   go_round
   case rel=>exact ⟨j+1,by omega,by go_num,by rw [uh Hk',hks]⟩
   case measure=>simp [intOf];omega
  ·obtain rfl:j=qs.length:=by omega
   rw [List.take_length]
   go_wp2_with fail
   go_ret
   exact ⟨rfl,rfl⟩
theorem Lm {n₀:Nat}  {qs:List (Z3 × Value)} (k:Int) (h:OwnHall n₀ w v qs) (hn:n₀<=w.heap.size) (hk0:0<=k) (hk1:k<=1000000000) (hl:qs.length<=1048576) (hp:∀ q ∈ qs,q.1.2.length<=1048576) :
  Calls Tryz.prog 125 #[.agg #[v],.int .i64 k] w fun e w'=>e= .returned (.int .i64 (Yd k qs))/\OwnHall n₀ w' v (YL k qs)/\OwnOnly v qs w w':=by
 have Hv:=Z9 h
 obtain ⟨a,cap,rfl⟩:=h.shape
 have Hp:=Z9 hp
 clear h hp
 go_enter Tryz.func125,Tryz.ntmps125
 go_wp2_with fail
 refine (MS k ((uh Hv).later ((Below.refl _ _).alloc (Nat.le_refl _) _)) (by simp;omega) hk0 hk1 hl (uh Hp)).mono ?_
 rintro e w1 ⟨rfl,ho,hb⟩
 have Ho:=Z9 ho
 have Hb:=Z9 hb
 clear ho hb
 go_wp2_with fail
 go_ret
 exact ⟨rfl,uh Ho,(OwnOnly.alloc _ _ _ _).trans (uh Hb)⟩
theorem Lb  {qs:List (Z3 × Value)} (k:Int) (h:IsRooms w v ((YL k qs).map (·.1))) (hk0:0<=k) (hk1:k<=1000000000) (hl:qs.length<=1048576) (hp:∀ q ∈ qs,q.1.2.length<=1048576) :
  Calls Tryz.prog 130 #[.agg #[v],.int .i64 k] w fun e w'=>e= .returned (.int .i64 (Yd k qs))/\Below w.heap.size w w':=by
 have Hv:=Z9 h
 obtain ⟨a,cap,rfl⟩:∃ a cap,v= .slice a qs.length cap:=by obtain ⟨a,cap,rfl,_⟩:=h;exact ⟨a,cap,by rw [List.length_map,Xc]⟩
 have hb:=QW hp k qs.length (Nat.le_refl _)
 rw [List.take_length] at hb
 have Hp:=Z9 hp
 have hneg:¬ Yd k qs<0:=by omega
 clear h hp
 go_enter Tryz.func130,Tryz.ntmps130
 go_wp2_with fail
 refine (ML (qs:=qs) k ((uh Hv).below ((Below.refl _ _).alloc (Nat.le_refl _) _)) hk0 hk1 hl (uh Hp)).mono ?_
 rintro e w1 ⟨rfl,hw1⟩
 subst w1
 go_wp2_with fail
 go_ret
 exact ⟨rfl,(Below.refl _ _).alloc (Nat.le_refl _) _⟩
def Vh (c:Int):ZH:=(c,c+1,c+1+1)
theorem N9 {n₀:Nat}  {ps:List ZH} (c:Int) (h:GuildsAt n₀ w v ps) (hk0:0<=c) (hk1:c<=1000000000000000) (hl:ps.length<=10000000) :
  Calls Tryz.prog 126 #[v,.int .i64 c] w fun e w'=>e= .returned (.int .i64 (c+3*(ps.length:Int)))/\GuildsAt n₀ w' v (Wv Vh 3 c ps.length)/\w.grownBy w' v.ownBlock:=by
 have Hv:=Z9 h
 obtain ⟨a,cap,rfl⟩:=RecAt.shape h
 clear h
 go_enter Tryz.func126,Tryz.ntmps126
 go_wp2_with fail
 go_loopw [5,1] (fun i q wr=> ∃ j:Nat,j<=ps.length/\i= .int .i64 j/\q= .int .i64 (c+3*(j:Int))/\GuildsAt n₀ wr (.slice a ps.length cap) (XD Vh 3 c ps j)/\w.grownBy wr (Value.ownBlock (.slice a ps.length cap))) (fun i _ _=>ps.length-(intOf i).toNat)
 case atStart=>exact ⟨0,Nat.zero_le _,rfl,by simp,by rw [TP];exact uh Hv,Xh _ _⟩
 case round=>
  obtain ⟨j,hj,rfl,rfl,hin,hgr⟩:=hrel
  by_cases hlt:j<ps.length
  ·have hfl:=SV (mk:=Vh) (d:=3) (c:=c) hj
   obtain ⟨g,rfl,_,_,hcells,hfz⟩:=RecAt.view Xy (by omega) hin hfl.symm (by omega)
   have hq:=fun i u hu=>hcells j (by omega) i u hu
   generalize Z8 (XD Vh 3 c ps j) j=old at hq
   have o0:=hq 0 _ rfl
   have f0:=hfz (j*3)
   have o1:=hq 1 _ rfl
   have f1:=hfz (j*3+1)
   have o2:=hq 2 _ rfl
   have f2:=hfz (j*3+2)
   simp only [Nat.add_zero] at o0
   have hp:=RecAt.put Xy (by omega) hin hfl.symm (j:=j) (by omega) (Vh (c+3*(j:Int)))
   have hs9:=SW (mk:=Vh) (d:=3) (c:=c) hlt
   rw [show ((3:Nat):Int)=3 from rfl] at hs9
   have HS:=Z9 hs9
   clear hs9
   have H1:=Z9 hp.1
   have H2:=Z9 (XK hgr hp.2)
   clear hin hgr hcells hq hfz hp hfl
   go_wp2_with fail
   go_roundw
   case rel=>exact ⟨j+1,by omega,by go_num,by go_num,by have h9:=uh H1;rw [uh HS] at h9;exact h9,uh H2⟩
   case measure=>simp [intOf];omega
  ·obtain rfl:j=ps.length:=by omega
   rw [SU] at hin
   go_wp2_with fail
   go_ret
   exact ⟨rfl,hin,hgr⟩
theorem Nw  (c:Int) (n:Nat) (h:Y5 w v (Wv Vh 3 c n)) (hk0:0<=c) (hk1:c<=1000000000000000) (hl:n<=10000000) :
  Calls Tryz.prog 131 #[v,.int .i64 c] w fun e w'=>e= .returned (.int .i64 (c+3*(n:Int)))/\w'=w:=by
 obtain ⟨a,cap,rfl,hc,hm,hrow⟩:=h
 rw [Yh] at *
 have Hrow:=Z9 hrow
 clear hrow
 go_enter Tryz.func131,Tryz.ntmps131
 go_wp2_with fail
 go_loop [5,1] (fun i q=> ∃ j:Nat,j<=n/\i= .int .i64 j/\q= .int .i64 (c+3*(j:Int))) (fun i _=>n-(intOf i).toNat)
 case atStart=>exact ⟨0,Nat.zero_le _,rfl,by simp⟩
 case round=>
  obtain ⟨j,hj,rfl,rfl⟩:=hrel
  by_cases hlt:j<n
  ·rcases uh Hrow with h0 | ⟨bk,off,rfl,hbw,hcl⟩
   ·have:=congrArg List.length h0;rw [Yh] at this;simp at this;omega
   have hq:=fun i u hu=>hcl j hlt i u hu
   rw [Oa _ _ _ hlt,show ((3:Nat):Int)=3 from rfl] at hq
   have c0:w.cell? ⟨bk,off+j*3,none⟩=some (.int .i64 ((c+3*(j:Int)))):=hq 0 _ rfl
   have c1:w.cell? ⟨bk,off+j*3+1,none⟩=some (.int .i64 ((c+3*(j:Int))+1)):=hq 1 _ rfl
   have c2:w.cell? ⟨bk,off+j*3+2,none⟩=some (.int .i64 ((c+3*(j:Int))+1+1)):=hq 2 _ rfl
   clear hcl hq
   go_wp2_with fail
   go_round
   case rel=>exact ⟨j+1,by omega,by go_num,by go_num⟩
   case measure=>simp [intOf];omega
  ·obtain rfl:j=n:=by omega
   go_wp2_with fail
   go_ret
   exact ⟨rfl,rfl⟩
def Vi (c:Int):Z2:=(c,c+1,c+1+1,c+1+1+1,c+1+1+1+1,c+1+1+1+1+1,c+1+1+1+1+1+1,c+1+1+1+1+1+1+1,c+1+1+1+1+1+1+1+1,c+1+1+1+1+1+1+1+1+1,c+1+1+1+1+1+1+1+1+1+1)
theorem Oc {n₀:Nat}  {ps:List Z2} (c:Int) (h:SmithsAt n₀ w v ps) (hk0:0<=c) (hk1:c<=1000000000000000) (hl:ps.length<=10000000) :
  Calls Tryz.prog 127 #[v,.int .i64 c] w fun e w'=>e= .returned (.int .i64 (c+11*(ps.length:Int)))/\SmithsAt n₀ w' v (Wv Vi 11 c ps.length)/\w.grownBy w' v.ownBlock:=by
 have Hv:=Z9 h
 obtain ⟨a,cap,rfl⟩:=RecAt.shape h
 clear h
 go_enter Tryz.func127,Tryz.ntmps127
 go_wp2_with fail
 go_loopw [5,1] (fun i q wr=> ∃ j:Nat,j<=ps.length/\i= .int .i64 j/\q= .int .i64 (c+11*(j:Int))/\SmithsAt n₀ wr (.slice a ps.length cap) (XD Vi 11 c ps j)/\w.grownBy wr (Value.ownBlock (.slice a ps.length cap))) (fun i _ _=>ps.length-(intOf i).toNat)
 case atStart=>exact ⟨0,Nat.zero_le _,rfl,by simp,by rw [TP];exact uh Hv,Xh _ _⟩
 case round=>
  obtain ⟨j,hj,rfl,rfl,hin,hgr⟩:=hrel
  by_cases hlt:j<ps.length
  ·have hfl:=SV (mk:=Vi) (d:=11) (c:=c) hj
   obtain ⟨g,rfl,_,_,hcells,hfz⟩:=RecAt.view Z1 (by omega) hin hfl.symm (by omega)
   have hq:=fun i u hu=>hcells j (by omega) i u hu
   generalize Z8 (XD Vi 11 c ps j) j=old at hq
   have o0:=hq 0 _ rfl
   have f0:=hfz (j*11)
   have o1:=hq 1 _ rfl
   have f1:=hfz (j*11+1)
   have o2:=hq 2 _ rfl
   have f2:=hfz (j*11+2)
   have o3:=hq 3 _ rfl
   have f3:=hfz (j*11+3)
   have o4:=hq 4 _ rfl
   have f4:=hfz (j*11+4)
   have o5:=hq 5 _ rfl
   have f5:=hfz (j*11+5)
   have o6:=hq 6 _ rfl
   have f6:=hfz (j*11+6)
   have o7:=hq 7 _ rfl
   have f7:=hfz (j*11+7)
   have o8:=hq 8 _ rfl
   have f8:=hfz (j*11+8)
   have o9:=hq 9 _ rfl
   have f9:=hfz (j*11+9)
   have o10:=hq 10 _ rfl
   have f10:=hfz (j*11+10)
   simp only [Nat.add_zero] at o0
   have hp:=RecAt.put Z1 (by omega) hin hfl.symm (j:=j) (by omega) (Vi (c+11*(j:Int)))
   have hs9:=SW (mk:=Vi) (d:=11) (c:=c) hlt
   rw [show ((11:Nat):Int)=11 from rfl] at hs9
   have HS:=Z9 hs9
   clear hs9
   have H1:=Z9 hp.1
   have H2:=Z9 (XK hgr hp.2)
   clear hin hgr hcells hq hfz hp hfl
   go_wp2_with fail
   go_roundw
   case rel=>exact ⟨j+1,by omega,by go_num,by go_num,by have h9:=uh H1;rw [uh HS] at h9;exact h9,uh H2⟩
   case measure=>simp [intOf];omega
  ·obtain rfl:j=ps.length:=by omega
   rw [SU] at hin
   go_wp2_with fail
   go_ret
   exact ⟨rfl,hin,hgr⟩
theorem Nz  (c:Int) (n:Nat) (h:Ym w v (Wv Vi 11 c n)) (hk0:0<=c) (hk1:c<=1000000000000000) (hl:n<=10000000) :
  Calls Tryz.prog 132 #[v,.int .i64 c] w fun e w'=>e= .returned (.int .i64 (c+11*(n:Int)))/\w'=w:=by
 obtain ⟨a,cap,rfl,hc,hm,hrow⟩:=h
 rw [Yh] at *
 have Hrow:=Z9 hrow
 clear hrow
 go_enter Tryz.func132,Tryz.ntmps132
 go_wp2_with fail
 go_loop [5,1] (fun i q=> ∃ j:Nat,j<=n/\i= .int .i64 j/\q= .int .i64 (c+11*(j:Int))) (fun i _=>n-(intOf i).toNat)
 case atStart=>exact ⟨0,Nat.zero_le _,rfl,by simp⟩
 case round=>
  obtain ⟨j,hj,rfl,rfl⟩:=hrel
  by_cases hlt:j<n
  ·rcases uh Hrow with h0 | ⟨bk,off,rfl,hbw,hcl⟩
   ·have:=congrArg List.length h0;rw [Yh] at this;simp at this;omega
   have hq:=fun i u hu=>hcl j hlt i u hu
   rw [Oa _ _ _ hlt,show ((11:Nat):Int)=11 from rfl] at hq
   have c0:w.cell? ⟨bk,off+j*11,none⟩=some (.int .i64 ((c+11*(j:Int)))):=hq 0 _ rfl
   have c1:w.cell? ⟨bk,off+j*11+1,none⟩=some (.int .i64 ((c+11*(j:Int))+1)):=hq 1 _ rfl
   have c2:w.cell? ⟨bk,off+j*11+2,none⟩=some (.int .i64 ((c+11*(j:Int))+1+1)):=hq 2 _ rfl
   have c3:w.cell? ⟨bk,off+j*11+3,none⟩=some (.int .i64 ((c+11*(j:Int))+1+1+1)):=hq 3 _ rfl
   have c4:w.cell? ⟨bk,off+j*11+4,none⟩=some (.int .i64 ((c+11*(j:Int))+1+1+1+1)):=hq 4 _ rfl
   have c5:w.cell? ⟨bk,off+j*11+5,none⟩=some (.int .i64 ((c+11*(j:Int))+1+1+1+1+1)):=hq 5 _ rfl
   have c6:w.cell? ⟨bk,off+j*11+6,none⟩=some (.int .i64 ((c+11*(j:Int))+1+1+1+1+1+1)):=hq 6 _ rfl
   have c7:w.cell? ⟨bk,off+j*11+7,none⟩=some (.int .i64 ((c+11*(j:Int))+1+1+1+1+1+1+1)):=hq 7 _ rfl
   have c8:w.cell? ⟨bk,off+j*11+8,none⟩=some (.int .i64 ((c+11*(j:Int))+1+1+1+1+1+1+1+1)):=hq 8 _ rfl
   have c9:w.cell? ⟨bk,off+j*11+9,none⟩=some (.int .i64 ((c+11*(j:Int))+1+1+1+1+1+1+1+1+1)):=hq 9 _ rfl
   have c10:w.cell? ⟨bk,off+j*11+10,none⟩=some (.int .i64 ((c+11*(j:Int))+1+1+1+1+1+1+1+1+1+1)):=hq 10 _ rfl
   clear hcl hq
   go_wp2_with fail
   go_round
   case rel=>exact ⟨j+1,by omega,by go_num,by go_num⟩
   case measure=>simp [intOf];omega
  ·obtain rfl:j=n:=by omega
   go_wp2_with fail
   go_ret
   exact ⟨rfl,rfl⟩
def UZ (c:Int):YG:=((c%3 ==0),c+1,c+1+1)
theorem MQ {n₀:Nat}  {ps:List YG} (c:Int) (h:DesksAt n₀ w v ps) (hk0:0<=c) (hk1:c<=1000000000000000) (hl:ps.length<=10000000) :
  Calls Tryz.prog 128 #[v,.int .i64 c] w fun e w'=>e= .returned (.int .i64 (c+3*(ps.length:Int)))/\DesksAt n₀ w' v (Wv UZ 3 c ps.length)/\w.grownBy w' v.ownBlock:=by
 have Hv:=Z9 h
 obtain ⟨a,cap,rfl⟩:=RecAt.shape h
 clear h
 go_enter Tryz.func128,Tryz.ntmps128
 go_wp2_with fail
 go_loopw [5,1] (fun i q wr=> ∃ j:Nat,j<=ps.length/\i= .int .i64 j/\q= .int .i64 (c+3*(j:Int))/\DesksAt n₀ wr (.slice a ps.length cap) (XD UZ 3 c ps j)/\w.grownBy wr (Value.ownBlock (.slice a ps.length cap))) (fun i _ _=>ps.length-(intOf i).toNat)
 case atStart=>exact ⟨0,Nat.zero_le _,rfl,by simp,by rw [TP];exact uh Hv,Xh _ _⟩
 case round=>
  obtain ⟨j,hj,rfl,rfl,hin,hgr⟩:=hrel
  by_cases hlt:j<ps.length
  ·have hfl:=SV (mk:=UZ) (d:=3) (c:=c) hj
   obtain ⟨g,rfl,_,_,hcells,hfz⟩:=RecAt.view ZT (by omega) hin hfl.symm (by omega)
   have hq:=fun i u hu=>hcells j (by omega) i u hu
   generalize Z8 (XD UZ 3 c ps j) j=old at hq
   have hmod:(c+3*(j:Int))%3=c%3:=by omega
   have o0:=hq 0 _ rfl
   have f0:=hfz (j*3)
   have o1:=hq 1 _ rfl
   have f1:=hfz (j*3+1)
   have o2:=hq 2 _ rfl
   have f2:=hfz (j*3+2)
   simp only [Nat.add_zero] at o0
   have hp:=RecAt.put ZT (by omega) hin hfl.symm (j:=j) (by omega) (UZ (c+3*(j:Int)))
   have hs9:=SW (mk:=UZ) (d:=3) (c:=c) hlt
   rw [show ((3:Nat):Int)=3 from rfl] at hs9
   have HS:=Z9 hs9
   clear hs9
   have H1:=Z9 hp.1
   have H2:=Z9 (XK hgr hp.2)
   clear hin hgr hcells hq hfz hp hfl
   go_wp2_with fail
   go_roundw
   case rel=>exact ⟨j+1,by omega,by go_num,by go_num,by have h9:=uh H1;rw [uh HS] at h9;simpa [Re,YB,UZ,hmod] using h9,by have h9:=uh H2;simpa [Re,YB,UZ,hmod] using h9⟩
   case measure=>simp [intOf];omega
  ·obtain rfl:j=ps.length:=by omega
   rw [SU] at hin
   go_wp2_with fail
   go_ret
   exact ⟨rfl,hin,hgr⟩
theorem MJ  (c:Int) (n:Nat) (h:Xx w v (Wv UZ 3 c n)) (hk0:0<=c) (hk1:c<=1000000000000000) (hl:n<=10000000) :
  Calls Tryz.prog 133 #[v,.int .i64 c] w fun e w'=>e= .returned (.int .i64 (c+3*(n:Int)))/\w'=w:=by
 obtain ⟨a,cap,rfl,hc,hm,hrow⟩:=h
 rw [Yh] at *
 have Hrow:=Z9 hrow
 clear hrow
 go_enter Tryz.func133,Tryz.ntmps133
 go_wp2_with fail
 go_loop [5,1] (fun i q=> ∃ j:Nat,j<=n/\i= .int .i64 j/\q= .int .i64 (c+3*(j:Int))) (fun i _=>n-(intOf i).toNat)
 case atStart=>exact ⟨0,Nat.zero_le _,rfl,by simp⟩
 case round=>
  obtain ⟨j,hj,rfl,rfl⟩:=hrel
  by_cases hlt:j<n
  ·rcases uh Hrow with h0 | ⟨bk,off,rfl,hbw,hcl⟩
   ·have:=congrArg List.length h0;rw [Yh] at this;simp at this;omega
   have hq:=fun i u hu=>hcl j hlt i u hu
   rw [Oa _ _ _ hlt,show ((3:Nat):Int)=3 from rfl] at hq
   have c0:w.cell? ⟨bk,off+j*3,none⟩=some (.bool ((c+3*(j:Int))%3 ==0)):=hq 0 _ rfl
   have c1:w.cell? ⟨bk,off+j*3+1,none⟩=some (.int .i64 ((c+3*(j:Int))+1)):=hq 1 _ rfl
   have c2:w.cell? ⟨bk,off+j*3+2,none⟩=some (.int .i64 ((c+3*(j:Int))+1+1)):=hq 2 _ rfl
   clear hcl hq
   go_wp2_with fail
   go_round
   case rel=>exact ⟨j+1,by omega,by go_num,by go_num⟩
   case measure=>simp [intOf];omega
  ·obtain rfl:j=n:=by omega
   go_wp2_with fail
   go_ret
   exact ⟨rfl,rfl⟩
open Go.ChangeShapes Go.WideShapes Go.ChangeAt Go.RowKit
def IntsAt (n₀:Nat) (w:World) (v:Value) (zs:List Int):Prop:=w.ownsRow n₀ 2 1 v zs.length (zs.map (Value.int .i64))
theorem IntsAt.view {n₀:Nat}  {zs:List Int} (h:IntsAt n₀ w v zs) :
  ∃ (a:Option Addr) (cap:Nat),v= .slice a zs.length cap/\zs.length<=9223372036854775807/\(zs=[]\/ ∃ g,a=some ⟨g,0,none⟩/\n₀<=g/\g<w.heap.size/\
   (∀ k,k<zs.length->w.cell? ⟨g,k,none⟩=some (.int .i64 (zs.getD k 0)))/\(∀ k,w.frozen? ⟨g,k,none⟩=false)):=by
 have h':=h
 rcases h.2 with ⟨rfl,hz⟩ | ⟨g,cap,cur,rfl,hb,hg,hnc,hcm,r⟩
 ·exact ⟨none,0,by rw [hz],by omega,.inl (List.eq_nil_of_length_eq_zero hz)⟩
 ·refine ⟨_,cap,rfl,by unfold maxLen at hcm;omega,.inr ⟨g,rfl,hb,(Array.getElem?_eq_some_iff.1 hg).1,fun k hk=> ?_,fun k=>World.ownsRow.frozenAt h' k⟩⟩
  rw [World.ownsRow.cellAt h' k (by omega)]
  simp [List.getElem?_eq_getElem hk]
theorem MI {a b c:World} {row:Option Nat} (h:a.grownBy b row) (k:b.grownBy c row):a.grownBy c row:=
 ⟨k.os.trans h.os,k.tape.trans h.tape,k.output.trans h.output,Nat.le_trans h.size k.size,fun i hi hn=>(k.block i (Nat.lt_of_lt_of_le hi h.size) hn).trans (h.block i hi hn)⟩
theorem KZ (a:World) (row:Option Nat):a.grownBy a row:=⟨rfl,rfl,rfl,Nat.le_refl _,fun _ _ _=>rfl⟩
theorem IntsAt.stored {n₀:Nat} {g n cap:Nat} {zs:List Int} (h:IntsAt n₀ w (.slice (some ⟨g,0,none⟩) n cap) zs) (hn:zs.length=n) (j:Nat) (u:Int) :
  IntsAt n₀ (w.setCell ⟨g,j,none⟩ (.int .i64 u)) (.slice (some ⟨g,0,none⟩) n cap) (zs.set j u)/\w.grownBy (w.setCell ⟨g,j,none⟩ (.int .i64 u)) (some g):=by
 subst hn
 have:=World.ownsRow.stored h j (.int .i64 u)
 refine ⟨?_,this.2⟩
 unfold IntsAt
 rw [List.length_set,List.map_set]
 exact this.1
def Ul (k:Int) (n:Nat):List Int:=(List.range n).map fun i:Nat=>k+(i:Int)
theorem U8 (k:Int) (n:Nat):(Ul k n).length=n:=by simp [Ul]
theorem Ev (k:Int) (n i:Nat) (h:i<n):(Ul k n).getD i 0=k+i:=by simp [Ul,h]
def marked (zs:List Int) (k:Int) (j:Nat):List Int:=Ul k j++zs.drop j
theorem UY {zs:List Int} {k:Int} {j:Nat} (h:j<=zs.length):(marked zs k j).length=zs.length:=by simp [marked,U8];omega
theorem Ju {zs:List Int} {k:Int} {j:Nat} (h:j<zs.length):(marked zs k j).set j (k+j)=marked zs k (j+1):=by
 unfold marked
 rw [List.set_append_right _ _ (by simp [U8]),U8,Nat.sub_self,List.drop_eq_getElem_cons h,List.set_cons_zero]
 simp [Ul,List.range_succ]
theorem Gx (zs:List Int) (k:Int):marked zs k zs.length=Ul k zs.length:=by simp [marked]
theorem Lo {n₀:Nat}  {zs:List Int} (k:Int) (hv:IntsAt n₀ w v zs) (hk0:0<=k) (hk1:k<=1000000000000000) (hl:zs.length<=1000000000) :
  Calls Tryz.prog 129 #[v,.int .i64 k] w fun e w'=>e= .returned (.int .i64 (k+zs.length))/\IntsAt n₀ w' v (Ul k zs.length)/\w.grownBy w' v.ownBlock:=by
 have hv0:=Z9 hv
 obtain ⟨a,cap,rfl,hlen,hca⟩:=hv.view
 clear hv
 go_enter Tryz.func129,Tryz.ntmps129
 go_wp2_with fail
 go_loopw [5,1] (fun i q wr=> ∃ j:Nat,j<=zs.length/\i= .int .i64 j/\q= .int .i64 (k+j)/\IntsAt n₀ wr (.slice a zs.length cap) (marked zs k j)/\w.grownBy wr (Value.ownBlock (.slice a zs.length cap))) (fun i _ _=>zs.length-(intOf i).toNat)
 case atStart=>exact ⟨0,Nat.zero_le _,rfl,by simp,uh hv0,KZ _ _⟩
 case round=>
  obtain ⟨j,hj,rfl,rfl,hin,hgr⟩:=hrel
  by_cases hlt:j<zs.length
  ·rcases hca with rfl | ⟨g,rfl,_,_,_,_⟩
   ·simp at hlt
   obtain ⟨hs1,hs2⟩:=hin.stored (UY hj) j (k+j)
   rw [Ju hlt] at hs1
   have H1:=Z9 hs1
   have H2:=Z9 (MI hgr hs2)
   have hfz:=World.ownsRow.frozenAt (show wr.ownsRow n₀ 2 1 (.slice (some ⟨g,0,none⟩) (marked zs k j).length cap) (marked zs k j).length _ by rw [UY hj];have h9:=hin;unfold IntsAt at h9;rwa [UY hj] at h9) j
   have hcl:∃ c,wr.cell? ⟨g,j,none⟩=some c:=by
    have h9:=hin
    unfold IntsAt at h9
    rw [UY hj] at h9
    have:=World.ownsRow.cellAt h9 j (by omega)
    rw [List.getElem?_eq_getElem (by simp [UY hj];omega)] at this
    exact ⟨_,this⟩
   obtain ⟨c,hcl⟩:=hcl
   clear hin hgr hs1 hs2
   go_wp2_with fail
   go_roundw
   case rel=>exact ⟨j+1,by omega,by go_num,by go_num,uh H1,uh H2⟩
   case measure=>simp [intOf];omega
  ·obtain rfl:j=zs.length:=by omega
   rw [Gx] at hin
   go_wp2_with fail
   go_ret
   exact ⟨rfl,hin,hgr⟩
theorem Lc {n₀:Nat}  (k:Int) (n:Nat) (hv:IntsAt n₀ w v (Ul k n)) (hk0:0<=k) (hk1:k<=1000000000000000) (hl:n<=1000000000) :
  Calls Tryz.prog 134 #[v,.int .i64 k] w fun e w'=>e= .returned (.int .i64 (k+n))/\w'=w:=by
 obtain ⟨a,cap,rfl,hlen,hca⟩:=hv.view
 clear hv
 rw [U8] at *
 go_enter Tryz.func134,Tryz.ntmps134
 go_wp2_with fail
 go_loop [5,1] (fun i q=> ∃ j:Nat,j<=n/\i= .int .i64 j/\q= .int .i64 (k+j)) (fun i _=>n-(intOf i).toNat)
 case atStart=>exact ⟨0,Nat.zero_le _,rfl,by simp⟩
 case round=>
  obtain ⟨j,hj,rfl,rfl⟩:=hrel
  by_cases hlt:j<n
  ·rcases hca with hz | ⟨g,rfl,_,_,hc,_⟩
   ·have:=congrArg List.length hz;rw [U8] at this;simp at this;omega
   have h1:=hc j hlt
   rw [Ev k n j hlt] at h1
   clear hc
   go_wp2_with fail
   go_round
   case rel=>exact ⟨j+1,by omega,by go_num,by go_num⟩
   case measure=>simp [intOf];omega
  ·obtain rfl:j=n:=by omega
   go_wp2_with fail
   go_ret
   exact ⟨rfl,rfl⟩
theorem IX:∀ zs:List Int,Vr Vq zs=zs.map (Value.int .i64)
 | []=>rfl
 | z::zs=>by
  have:=IX zs
  unfold Vr at this ⊢
  rw [List.flatMap_cons,this]
  rfl
theorem Qh {n₀:Nat}  {zs:List Int} : NumsAt n₀ w v zs ↔ IntsAt n₀ w v zs:=by
 unfold NumsAt RecAt IntsAt
 rw [IX]
theorem Lp {n₀:Nat}  {zs:List Int} (k:Int) (h:NumsAt n₀ w v zs) (hk0:0<=k) (hk1:k<=1000000000000000) (hl:zs.length<=1000000000) :
  Calls Tryz.prog 129 #[v,.int .i64 k] w fun e w'=>e= .returned (.int .i64 (k+zs.length))/\NumsAt n₀ w' v (Ul k zs.length)/\w.grownBy w' v.ownBlock:=
 (Lo k (Qh.1 h) hk0 hk1 hl).mono fun e w' ⟨h1,h2,h3⟩=>⟨h1,Qh.2 h2,h3⟩
theorem Ld {n₀:Nat}  (k:Int) (n:Nat) (h:NumsAt n₀ w v (Ul k n)) (hk0:0<=k) (hk1:k<=1000000000000000) (hl:n<=1000000000) :
  Calls Tryz.prog 134 #[v,.int .i64 k] w fun e w'=>e= .returned (.int .i64 (k+n))/\w'=w:=
 Lc k n (Qh.1 h) hk0 hk1 hl
end Go.Proofs.YtjhijildaceadaaGreatDoor
