/- Part 22 of what the proof rests on. No condition but those that a theorem names. -/
import Derived.Test.YtjhijildaceadaaGreatDoorXa21
import Derived.RangeFuncNested
import Derived.RangeFuncBound
import Derived.RangeFuncCalls
import Derived.RangeFuncLeaves
import Derived.RangeFuncBox
import Derived.Shelf.Abstract
import Derived.OwnWalkIn
import Derived.TacticsInMore
import Derived.LoopNIn
import Derived.LoopIn
set_option maxHeartbeats 8000000
set_option maxRecDepth 100000
namespace Go.Proofs.YtjhijildaceadaaGreatDoor
open Go.ChangeShapes Go.WideShapes Go.ChangeAt Go.RowKit Go.Sort
set_option linter.unusedVariables false
set_option linter.unusedSimpArgs false
def WS (m:Z4) (b:Int):Z4 × Int:=
 if Zo m then (if Yp m b then (if (Z8 m.desks b.toNat).1 then (m,2) else (ZL (Zt m b.toNat true),0)) else (m,1)) else (WV,3)
theorem Uc {m:Z4} {b:Int} (h:Yp m b=true):∃ k:Nat,b=(k:Int)/\k<m.desks.length:=by
 have:=ZP (show inB b 0 ((m.desks.length:Int)-1)=true from h)
 exact ⟨b.toNat,by omega,by omega⟩
theorem GD {m:Z4} (h:Zo m=true) (b:Int):Zo (WS m b).1=true:=by
 unfold WS
 rw [h]
 simp only [if_true]
 split
 ·rename_i hw
  obtain ⟨k,rfl,hk⟩:=Uc hw
  rw [show ((k:Int)).toNat=k by simp]
  split
  ·exact h
  ·exact V4 (L8 (Ze h) hk)
 ·exact h
theorem OG {w:World} {v0 v1 v2 v3 v4:Value} {m:Z4} (bench:Int) (h:Smy w v0 v1 v2 v3 v4 m) :
  Calls Tryz.prog 31 #[.agg #[v0,v1,v2,v3,v4,.int .i64 m.now],.int .i64 bench] w fun e w'=>Uz w.heap.size (WS m bench).1 (WS m bench).2 e w'/\Below w.heap.size w w':=by
 obtain ⟨X,hX⟩:∃ x,WS m bench=x:=⟨_,rfl⟩
 rw [hX]
 have HX:=Z9 hX
 clear hX
 have Hv0:=Z9 h
 obtain ⟨a0,p0,a1,p1,a2,p2,a3,p3,a4,p4,rfl,rfl,rfl,rfl,rfl,_,_,_,_,_,_,_,_,_,_⟩:=h.five
 clear h
 obtain ⟨ok,hok⟩:∃ q,Zo m=q:=⟨_,rfl⟩
 have Hok:=Z9 hok
 clear hok
 go_enter Tryz.func31,Tryz.ntmps31
 go_wp2_with fail
 obtain ⟨W,hW,kb,kr,BB⟩:=Xu w 32 (S6 a0 p0 a1 p1 a2 p2 a3 p3 a4 p4 m) 32 E6
 have Hv:=Z9 ((uh Hv0).below (uh BB))
 clear Hv0
 rw [hW]
 clear hW
 refine (OJ (uh Hok) (uh Hv)).mono ?_
 rintro e w1 ⟨rfl,hb⟩
 replace kb:=bl kb hb
 replace kr:=bl kr hb
 replace Hv:=Z9 ((uh Hv).below hb)
 replace BB:=bt BB hb
 clear hb
 cases ok
 ·
  obtain ⟨c0,c1,c2,c3,c4,c5⟩:=(uh kb).c6
  go_wp2_with fail
  clear c0 c1 c2 c3 c4 c5
  refine (UW (uh Hv)).mono ?_
  rintro e w2 ⟨rfl,hb⟩
  replace kb:=bl kb hb
  replace kr:=bl kr hb
  replace Hv:=Z9 ((uh Hv).below hb)
  replace BB:=bt BB hb
  clear hb
  obtain ⟨o0,o1,o2,o3,o4,o5⟩:=(uh kr).c6
  obtain ⟨f0,f1,f2,f3,f4,f5⟩:=(uh kr).f6
  go_wp2_with fail
  have hX0:X=(WV,3):=by rw [<-uh HX];unfold WS;rw [uh Hok];rfl
  refine bodyPost_ret (v:= .tuple #[.agg #[.slice none 0 0,.slice none 0 0,.slice none 0 0,.slice none 0 0,.slice none 0 0,.int .i64 0],.int .i64 3]) (by simp [results,Tryz.results31,go_sem, *]) rfl ⟨?_,?_⟩
  ·rw [hX0];exact ⟨_,_,_,_,_,[],rfl,VT _ _⟩
  ·iterate 6 (refine Below.setCell ?_ (by show _<=w.heap.size+1;omega) _)
   exact uh BB
 have hlo:=Ze (uh Hok)
 have HLo:=Z9 hlo
 have HFew:=Z9 (TH hlo)
 clear hlo
 obtain ⟨c0,c1,c2,c3,c4,c5⟩:=(uh kb).c6
 go_wp2_with fail
 clear c0 c1 c2 c3 c4 c5
 have hWs:w.heap.size+2<=w1.heap.size:=by have:=(uh kr).lt;omega
 refine (Xk (uh Hv) (uh HFew)).mono ?_
 rintro e w2 ⟨y0,y1,y2,y3,y4,oq,rfl,ho,hb⟩
 have k9:=ho.smy
 obtain ⟨b0,q0,b1,q1,b2,q2,b3,q3,b4,q4,rfl,rfl,rfl,rfl,rfl,_,_,_,_,_,_,_,_,_,_⟩:=k9.five
 clear k9
 replace kb:=bl kb hb
 replace kr:=bl kr hb
 replace Hv:=Z9 ((uh Hv).below hb)
 replace BB:=bt BB hb
 have HO:=Z9 (ho.mono hWs)
 have LO:Hid (∀ k,XW (.slice b0 m.rooms.length q0) (.slice b1 m.guilds.length q1) (.slice b2 m.smiths.length q2) (.slice b3 m.desks.length q3) (.slice b4 m.paces.length q4) oq k->w.heap.size+2<=k/\k<w2.heap.size):=Z9 (fun k e=>(uh HO).own e)
 have hsz9:=hb.size
 clear ho hb
 go_upto_region 4 with fail
 obtain ⟨W2,hW2,hba,ko⟩:=WH w2 32 (S6 b0 q0 b1 q1 b2 q2 b3 q3 b4 q4 m)
 replace kb:=bl kb hba
 replace kr:=bl kr hba
 replace Hv:=Z9 ((uh Hv).below hba)
 replace HO:=Z9 ((uh HO).below hba)
 replace BB:=bt BB hba
 have hob:w.heap.size+2<=w2.heap.size:=Nat.le_trans hWs hsz9
 clear hba hsz9 hWs
 rw [hW2]
 clear hW2
 generalize w2.heap.size=ob at *
 obtain ⟨qw,hqw⟩:∃ q,Yp m bench=q:=⟨_,rfl⟩
 have Hqw:=Z9 hqw
 clear hqw
 obtain ⟨c0,c1,c2,c3,c4,c5⟩:=(uh kb).c6
 go_wp2_with fail
 clear c0 c1 c2 c3 c4 c5
 refine (NV (uh Hqw) (uh Hv)).mono ?_
 rintro e w3 ⟨rfl,hb⟩
 replace kb:=bl kb hb
 replace kr:=bl kr hb
 replace Hv:=Z9 ((uh Hv).below hb)
 replace HO:=Z9 ((uh HO).below hb)
 replace ko:=bl ko hb
 replace BB:=bt BB hb
 clear hb
 cases qw
 ·
  obtain ⟨x0,x1,x2,x3,x4,x5⟩:=(uh ko).c6
  obtain ⟨o0,o1,o2,o3,o4,o5⟩:=(uh kr).c6
  obtain ⟨f0,f1,f2,f3,f4,f5⟩:=(uh kr).f6
  go_wp2_with fail
  have hX0:X=(m,1):=by rw [<-uh HX];unfold WS;rw [uh Hok,uh Hqw];rfl
  refine bodyPost_ret (v:= .tuple #[.agg #[.slice b0 m.rooms.length q0,.slice b1 m.guilds.length q1,.slice b2 m.smiths.length q2,.slice b3 m.desks.length q3,.slice b4 m.paces.length q4,.int .i64 m.now],.int .i64 1]) (by simp [results,Tryz.results31,go_sem, *]) rfl ⟨?_,?_⟩
  ·rw [hX0];refine ⟨_,_,_,_,_,oq,rfl,?_⟩
   iterate 6 (refine FullSmy.set_off ?_ (fun k e=>by have:=(uh LO k e).1;omega) _ _)
   exact (uh HO).mono (by omega)
  ·iterate 6 (refine Below.setCell ?_ (by show _<=w.heap.size+1;omega) _)
   exact uh BB
 obtain ⟨k,rfl,hk⟩:=Uc (uh Hqw)
 have hk1:(k:Int)<(m.desks.length:Int):=by omega
 obtain ⟨_,_,hde,_,_,r3⟩:=(uh Hv).desks
 cases hde
 rcases r3 with e0 | ⟨db,off,rfl,hbw,hcl⟩
 ·rw [e0] at hk;simp at hk
 obtain ⟨d0,_,_⟩:=Zh hcl hk
 clear hcl
 obtain ⟨op,hop⟩:∃ q,(Z8 m.desks k).1=q:=⟨_,rfl⟩
 rw [hop] at d0
 have Hop:=Z9 hop
 clear hop
 have c3:=(uh kb).cell (i:=3) (v:= .slice (some ⟨db,off,none⟩) m.desks.length p3) rfl
 cases op
 rotate_left
 ·
  obtain ⟨x0,x1,x2,x3,x4,x5⟩:=(uh ko).c6
  obtain ⟨o0,o1,o2,o3,o4,o5⟩:=(uh kr).c6
  obtain ⟨f0,f1,f2,f3,f4,f5⟩:=(uh kr).f6
  go_wp2_with fail
  have hX0:X=(m,2):=by rw [<-uh HX];unfold WS;rw [uh Hok,uh Hqw];simp only [if_true,Int.toNat_natCast];rw [uh Hop];rfl
  refine bodyPost_ret (v:= .tuple #[.agg #[.slice b0 m.rooms.length q0,.slice b1 m.guilds.length q1,.slice b2 m.smiths.length q2,.slice b3 m.desks.length q3,.slice b4 m.paces.length q4,.int .i64 m.now],.int .i64 2]) (by simp [results,Tryz.results31,go_sem, *]) rfl ⟨?_,?_⟩
  ·rw [hX0];refine ⟨_,_,_,_,_,oq,rfl,?_⟩
   iterate 6 (refine FullSmy.set_off ?_ (fun k e=>by have:=(uh LO k e).1;omega) _ _)
   exact (uh HO).mono (by omega)
  ·iterate 6 (refine Below.setCell ?_ (by show _<=w.heap.size+1;omega) _)
   exact uh BB
 obtain ⟨g3,hga,_,_,hc3,hz3⟩:=RecAt.view ZT (by omega) (uh HO).desks rfl (by omega)
 cases hga
 have s0:=hc3 k hk 0 _ rfl
 have f0:=hz3 (k*3)
 have x3:=(uh ko).cell (i:=3) (v:= .slice (some ⟨g3,0,none⟩) m.desks.length q3) rfl
 have hput:=(uh HO).putD rfl (j:=k) (i:=0) hk (by omega) (.bool true) (true,(Z8 m.desks k).2) rfl
 simp only [Nat.add_zero] at s0 hput
 have hg3o:=(uh LO g3 (.inr (.inr (.inr (.inr (.inl rfl))))))
 clear hc3 hz3
 go_upto_region 9 with fail
 clear s0 f0 x3 c3 d0
 have HP:=Z9 hput
 clear hput HO
 replace ko:Hid (Blk (w3.setCell ⟨g3,k*3,none⟩ (.bool true)) ob 32 #[.slice b0 m.rooms.length q0,.slice b1 m.guilds.length q1,.slice b2 m.smiths.length q2,.slice (some ⟨g3,0,none⟩) m.desks.length q3,.slice b4 m.paces.length q4,.int .i64 m.now]):=Z9 ((uh ko).other (a:=⟨g3,k*3,none⟩) (by show ob ≠ g3;omega) _)
 replace kr:Hid (Blk (w3.setCell ⟨g3,k*3,none⟩ (.bool true)) (w.heap.size+1) 32 #[.slice none 0 0,.slice none 0 0,.slice none 0 0,.slice none 0 0,.slice none 0 0,.int .i64 0]):=Z9 ((uh kr).other (a:=⟨g3,k*3,none⟩) (by show w.heap.size+1 ≠ g3;omega) _)
 replace BB:Hid (Below w.heap.size w (w3.setCell ⟨g3,k*3,none⟩ (.bool true))):=Z9 ((uh BB).setCell (p:=⟨g3,k*3,none⟩) (by show w.heap.size<=g3;omega) _)
 clear kb Hv
 generalize w3.setCell ⟨g3,k*3,none⟩ (.bool true)=W3 at *
 have hfw:=uh HFew
 go_wp2_with fail
 have hofR:∀ k,XW (.slice b0 m.rooms.length q0) (.slice b1 m.guilds.length q1) (.slice b2 m.smiths.length q2) (.slice (some ⟨g3,0,none⟩) m.desks.length q3) (.slice b4 m.paces.length q4) oq k->k ≠ ob:=fun k e=>by have:=(uh LO k e).2;omega
 refine (Xl (m:=Zt m k true) (uh ko) (uh HP) (fun e=>hofR _ (.inr (.inr (.inr (.inl e)))) rfl) (fun e=>hofR _ (.inr (.inr (.inr (.inr (.inl e))))) rfl) (by show m.smiths.length<=800;have:=hfw.smiths;omega) (by show (m.desks.set k _).length<=_;rw [List.length_set];exact hfw.desks)).mono ?_
 rintro e w4 ⟨rfl,hf9,ht9⟩
 replace kr:=Z9 ((uh kr).two ht9 (fun e=>by have:=(uh LO _ (.inr (.inr (.inr (.inl e))))).1;omega) (fun e=>by have:=(uh LO _ (.inr (.inr (.inr (.inr (.inl e)))))).1;omega))
 replace BB:=Z9 ((uh BB).trans (ht9.below (uh BB).size (fun k e=>by have:=(uh LO k (.inr (.inr (.inr (.inl e))))).1;omega) (fun k e=>by have:=(uh LO k (.inr (.inr (.inr (.inr (.inl e)))))).1;omega)))
 have HF9:=Z9 hf9
 clear hf9 ht9 hofR
 obtain ⟨o0,o1,o2,o3,o4,o5⟩:=(uh kr).c6
 obtain ⟨f0,f1,f2,f3,f4,f5⟩:=(uh kr).f6
 go_wp2_with fail
 have hX0:X=(ZL (Zt m k true),0):=by rw [<-uh HX];unfold WS;rw [uh Hok,uh Hqw];simp only [if_true,Int.toNat_natCast];rw [uh Hop];rfl
 have hnow:(ZL (Zt m k true)).now=m.now:=(ZA _ _).2.2.2.1
 refine bodyPost_ret (v:= .tuple #[.agg #[.slice b0 m.rooms.length q0,.slice b1 m.guilds.length q1,.slice b2 m.smiths.length q2,.slice (some ⟨g3,0,none⟩) m.desks.length q3,.slice b4 m.paces.length q4,.int .i64 m.now],.int .i64 0]) (by simp [results,Tryz.results31,go_sem,setS,Zt, *]) rfl ⟨?_,?_⟩
 ·rw [hX0];refine ⟨_,_,_,_,_,oq,by rw [hnow],?_⟩
  iterate 6 (refine FullSmy.set_off ?_ (fun k e=>by have:=(uh LO k e).1;omega) _ _)
  exact (uh HF9).mono (by omega)
 ·iterate 6 (refine Below.setCell ?_ (by show _<=w.heap.size+1;omega) _)
  exact uh BB
set_option maxRecDepth 100000
def Uk (m:Z4) (who lo hi:Int):Int:=if V7 m who then (if YU lo hi then 0 else 3) else 1
def Pf (m:Z4) (who lo hi:Int):Z4:=setS m who.toNat (Jl (Z8 m.smiths who.toNat) lo hi)
theorem C6 (m:Z4) (who lo hi:Int):Yj m who lo hi=Wb m (Pf m who lo hi) (Uk m who lo hi):=by
 cases h:Zo m
 ·rw [Uf h];unfold Yj;rw [h];rfl
 unfold Yj Uk
 rw [h]
 simp only [if_true]
 by_cases hw:V7 m who=true
 rotate_left
 ·rw [if_neg hw,if_neg hw,WX h _ (by omega)]
 rw [if_pos hw,if_pos hw]
 obtain ⟨k,rfl,hk,hs⟩:=WI hw
 by_cases hp:YU lo hi=true
 ·rw [if_pos hp,if_pos hp,UP h]
  unfold Pf
  rw [Int.toNat_natCast,Vb (Jd (Ze h) hk hs hp)]
 ·rw [if_neg hp,if_neg hp,WX h _ (by omega)]
def Wz (m:Z4) (who rank:Int):Int:=if V7 m who then (if (ZE (Z8 m.smiths who.toNat) rank).2 then 0 else 3) else 1
def Tt (m:Z4) (who rank:Int):Z4:=setS m who.toNat (ZE (Z8 m.smiths who.toNat) rank).1
theorem Ci (m:Z4) (who rank:Int):Yk m who rank=Wb m (Tt m who rank) (Wz m who rank):=by
 cases h:Zo m
 ·rw [Uf h];unfold Yk;rw [h];rfl
 unfold Yk Wz
 rw [h]
 simp only [if_true]
 by_cases hw:V7 m who=true
 rotate_left
 ·rw [if_neg hw,if_neg hw,WX h _ (by omega)]
 rw [if_pos hw,if_pos hw]
 obtain ⟨k,rfl,hk,hs⟩:=WI hw
 by_cases hp:(ZE (Z8 m.smiths ((k:Int)).toNat) rank).2=true
 ·rw [if_pos hp,if_pos hp,UP h]
  unfold Tt
  rw [Int.toNat_natCast] at hp ⊢
  rw [Vb (L9 (Ze h) hk (Prod.ext rfl hp))]
 ·rw [if_neg hp,if_neg hp,WX h _ (by omega)]
def Ww (m:Z4) (b:Int):Int:=if Yp m b then (if (Z8 m.desks b.toNat).1 then 2 else 0) else 1
def Ts (m:Z4) (b:Int):Z4:=Zt m b.toNat true
theorem Ce (m:Z4) (b:Int):WS m b=Wb m (Ts m b) (Ww m b):=by
 cases h:Zo m
 ·rw [Uf h];unfold WS;rw [h];rfl
 unfold WS Ww
 rw [h]
 simp only [if_true]
 by_cases hw:Yp m b=true
 rotate_left
 ·rw [if_neg hw,if_neg hw,WX h _ (by omega)]
 rw [if_pos hw,if_pos hw]
 obtain ⟨k,rfl,hk⟩:=Uc hw
 by_cases hp:(Z8 m.desks ((k:Int)).toNat).1=true
 ·rw [if_pos hp,if_pos hp,WX h _ (by omega)]
 ·rw [if_neg hp,if_neg hp,UP h]
  unfold Ts
  rw [Int.toNat_natCast,Vb (L8 (Ze h) hk)]
theorem LR (m:Z4) (b:Int):Yb m.desks.length b=Yp m b:=by
 unfold Yb Yp inB
 rw [show decide (b<(m.desks.length:Int))=decide (b<=(m.desks.length:Int)-1) from decide_eq_decide.2 (by omega)]
 exact (Bool.decide_and _ _).symm
open Go.ChangeShapes Go.WideShapes Go.ChangeAt Go.RowKit Go.Shelf
attribute [local go_sem] Oper.semAt_some
def KeepsBox (Bn:Nat) (t:TypeId) (W W':World):Prop:= ∀ v,Boxed W Bn t v->Boxed W' Bn t v
theorem KeepsBox.trans {Bn:Nat} {t:TypeId} {A B C:World} (h:KeepsBox Bn t A B) (k:KeepsBox Bn t B C):KeepsBox Bn t A C:=fun v hv=>k v (h v hv)
theorem KeepsBox.putObj {Bn:Nat} {t:TypeId} {n:Nat} (h:Bn<n) (W:World) (l:Nat) (o o':Obj) (hl:n<=l) (_:W.heap[l]?=some o) (_:o.isCells=false) (_:o.isWalk=false):KeepsBox Bn t W (W.putObj l o'):=
 fun v hv=>hv.kept (grownBy_putObj' W l o') (fun e=>by cases e;omega)
theorem Jw (n:Nat) (hn:1<=n) (l Bn:Nat) (s:Int) (J Jx:List Int->World->Prop)
  (hY:∀ pre x W,J pre W->pre.length<8->YieldAt Fence.wide (n-1) Tryz.prog l #[.int .i64 x] W fun e W'=>
   (e= .returned (.bool true)/\J (pre++[x]) W'/\KeepsBox Bn 2 W W')\/(e= .returned (.bool false)/\Jx (pre++[x]) W'))
  (W:World) (hBn:Boxed W Bn 2 (.int .i64 s)) (h0:J [] W) :
  CallsIn Fence.wide n Tryz.prog 323 #[.func (.yield l) #[] #[],.pointer (some ⟨Bn,0,none⟩)] W fun e W'=>(∃ v,e= .returned v)/\
   ((∃ ys,ys=TS s/\J ys W')\/(∃ pre,pre <+: TS s/\Jx pre W')):=by
 refine callsIn_of_wp Tryz.func323 rfl trivial ?_ rfl
 simp only [Tryz.ntmps323,List.size_toArray,List.length_cons,List.length_nil,Nat.reduceAdd,Nat.reduceSub,Array.replicate_succ,Array.replicate_zero,List.push_toArray,List.append_toArray,List.nil_append,List.cons_append]
 gi_wp2
 gi_loopw [4] (fun i wr=> ∃ k:Nat,k<=8/\i= .int .i64 k/\Boxed wr Bn 2 (.int .i64 s)/\J (Vm s k) wr)
  (fun i wr=>8-(intOf i).toNat)
 case atStart=>exact ⟨0,by omega,rfl,hBn,h0⟩
 case round=>
  obtain ⟨k,hk,rfl,hbx,hJ⟩:=hrel
  have hul:=Kn s k
  have hc:=hbx.cell
  have Hb:=Z9 hbx
  clear hbx
  by_cases hlt:(k:Int)<8
  ·cases hm:VY s k
   ·gi_wp2_with (refine ⟨trivial,?_⟩;gi_at_call 147;refine (callsIn_wide.2 (WL _ _ _)).mono ?_;rintro e w' ⟨rfl,rfl⟩)
    refine ⟨fun _ h=>(by cases h),?_⟩
    gi_wp2
    go_roundw
    case rel=>exact ⟨k+1,by omega,by go_num,uh Hb,by rw [Vc hm];exact hJ⟩
    case measure=>simp [intOf];omega
   ·obtain ⟨fn,tmps,assign,body,hy,hR⟩:=hY (Vm s k) k wr hJ (by omega)
    gi_wp2_with (refine ⟨trivial,?_⟩;gi_at_call 147;refine (callsIn_wide.2 (WL _ _ _)).mono ?_;rintro e w' ⟨rfl,rfl⟩)
    refine hR.mono ?_
    rintro e W3 (⟨rfl,hJ3,hk3⟩ | ⟨rfl,hJx3⟩)
    ·gi_wp2
     go_roundw
     case rel=>exact ⟨k+1,by omega,by go_num,hk3 _ (uh Hb),by rw [Ti hm];exact hJ3⟩
     case measure=>simp [intOf];omega
    ·gi_wp2
     refine bodyPost_ret (results_none rfl _ _ _) rfl ?_
     exact ⟨⟨_,rfl⟩,.inr ⟨Vm s k++[(k:Int)],by rw [<-Ti hm];exact DW s (k+1) (by omega),hJx3⟩⟩
  ·obtain rfl:k=8:=by omega
   gi_wp2
   go_end0
   exact ⟨⟨_,rfl⟩,.inl hJ⟩
theorem TR (n:Nat) (s:Int) (w:World) :
  CallsIn Fence.wide n Tryz.prog 274 #[.int .i64 s] w fun e w'=>e= .returned (.func (.func 323) #[] #[.pointer (some ⟨w.heap.size,0,none⟩)])/\w'=w.alloc (.cells #[.int .i64 s] 2):=by
 refine callsIn_of_wp Tryz.func274 rfl trivial ?_ rfl
 simp only [Tryz.ntmps274,List.size_toArray,List.length_cons,List.length_nil,Nat.reduceAdd,Nat.reduceSub,Array.replicate_succ,Array.replicate_zero,List.push_toArray,List.append_toArray,List.nil_append,List.cons_append]
 gi_wp2
 go_ret
 exact ⟨rfl,rfl⟩
theorem UE (n:Nat) (hn:1<=n) (Bn:Nat) (s:Int) (w:World) (hBn:Boxed w Bn 2 (.int .i64 s)) :
  SeqStopsK Fence.wide n Tryz.prog 323 #[.pointer (some ⟨Bn,0,none⟩)] (fun x:Int=>#[Value.int .i64 x]) (KeepsBox Bn 2) (fun ys=>ys=TS s) (fun pre=>pre <+: TS s) 8 w:=fun l J Jx W hW _ _ hY h0=>
 Jw n hn l Bn s J Jx hY W ((hW.block Bn hBn.lt).trans hBn) h0
theorem NB (n:Nat) (hn:3<=n) (s:Int) (w:World) :
  CallsIn Fence.wide n Tryz.prog 213 #[.int .i64 s] w fun e w'=>e= .returned (.int .i64 (Wd s))/\Below w.heap.size w w':=by
 have h1:1<=n:=by omega
 refine callsIn_of_wp_marks Tryz.func213 rfl trivial ?_ rfl
 simp only [Tryz.ntmps213,List.size_toArray,List.length_cons,List.length_nil,Nat.reduceAdd,Nat.reduceSub,Array.replicate_succ,Array.replicate_zero,List.push_toArray,List.append_toArray,List.nil_append,List.cons_append]
 gi_wp2_with (refine ⟨trivial,?_⟩;gi_at_call 274;refine (TR (n-1) _ _).mono ?_;rintro e w' ⟨rfl,rfl⟩)
 have bR:=Boxed.new w 2 (.int .i64 0)
 have bN:=Boxed.new (w.alloc (.cells #[.int .i64 0] 2)) 2 (.int .i64 s)
 simp only [World.size_alloc] at bN
 have hB0:Below w.heap.size w ((w.alloc (.cells #[.int .i64 0] 2)).alloc (.cells #[.int .i64 s] 2)):=((Below.refl _ w).alloc (Nat.le_refl _) _).alloc (by simp) _
 refine wpIn_rangeFunc_ownG rfl h1 (gf:=323) (lb:=#[.pointer (some ⟨w.heap.size+1,0,none⟩)]) rfl trivial (enters_of Tryz.func323 (by kernel_rfl) rfl)
  (UE (n-1) (by omega) (w.heap.size+1) s _ bN) (fun h k=>h.trans k) (KeepsBox.putObj (by simp)) (Below.refl _ _) (fun _=>rfl)
  (fun pre W=>(pre=[]/\Boxed W w.heap.size 2 (.int .i64 0))/\Below w.heap.size w W)
  (fun c pre W=>(c= .ret/\ ∃ x,pre=[x]/\Boxed W w.heap.size 2 (.int .i64 x))/\Below w.heap.size w W)
  (OwnFrom.and (Own.from (fun s A B row hs hg hr=>⟨hs.1,hs.2.kept hg (fun e=>by obtain ⟨o,ho,hc⟩:=hr _ e.symm;rw [show A.heap[w.heap.size]?=_ from hs.2] at ho;cases ho;cases hc)⟩) _) (ownFrom_below (Nat.le_refl _) (by simp;omega)))
  (fun c=>OwnFrom.and (Own.from (fun s A B row hs hg hr=>by obtain ⟨e1,x,e2,hb⟩:=hs;exact ⟨e1,x,e2,hb.kept hg (fun e=>by obtain ⟨o,ho,hc⟩:=hr _ e.symm;rw [show A.heap[w.heap.size]?=_ from hb] at ho;cases ho;cases hc)⟩) _) (ownFrom_below (Nat.le_refl _) (by simp;omega)))
  ⟨⟨rfl,bR.alloc _⟩,hB0⟩
  (fun x=>{ tmps:=#[.int .i64 s,undef,.pointer (some ⟨w.heap.size,0,none⟩),.int .i64 x,.int .i64 s,.func (.func 323) #[] #[.pointer (some ⟨w.heap.size+1,0,none⟩)],.int .i64 x,undef],defers:=[] }) ?assign ?body ?done ?stop
 case assign=>
  intro l x W K hK
  gi_wp2
  exact hK
 case body=>
  rintro l pre x W ⟨⟨rfl,hb⟩,hB⟩ _
  have hc:=hb.cell
  have hf:=hb.frozen
  gi_wp2
  exact ⟨(KeepsOthers.setCell _ _ _).from _,⟨rfl,x,rfl,hb.set _⟩,hB.setCell (p:=⟨w.heap.size,0,none⟩) (Nat.le_refl _) _⟩
 case done=>
  rintro D ys W hD hys ⟨⟨hp,hb⟩,hB⟩ hK
  have hc:=hb.cell
  have hf:=hb.frozen
  gi_wp2
  have hK':=(KeepsOthers.setCell W ⟨w.heap.size,0,none⟩ (.int .i64 (-1))).same D _ hK rfl
  refine ⟨by simp,.inl ⟨_,_,rfl,run_takeDeferred hK',?_⟩⟩
  have hc5:=cell_kept (hb.set (.int .i64 (-1))).cell (grownBy_putObj' _ D (.deferred none)) (fun r e=>by cases e;exact ⟨_,hK',rfl⟩)
  have hm:TS s=[]:=hys.symm.trans hp
  refine ⟨.int .i64 (-1),?_,ZS (by unfold Wd;rw [hm];rfl),(hB.setCell (p:=⟨w.heap.size,0,none⟩) (Nat.le_refl _) _).trans (belowK_b (w:=w) (Nat.le_refl _) _ D _ _ (by simp at hD;omega) hK' rfl rfl)⟩
  simp [results,Tryz.f213,go_sem,hc5]
 case stop=>
  rintro D c pre W hD hpre ⟨⟨rfl,x,rfl,hb⟩,hB⟩ hK
  gi_wp2
  refine ⟨by simp,.inl ⟨_,_,rfl,run_takeDeferred hK,?_⟩⟩
  have hc5:=cell_kept hb.cell (grownBy_putObj' _ D (.deferred none)) (fun r e=>by cases e;exact ⟨_,hK,rfl⟩)
  have hx:Wd s=x:=by obtain ⟨r,hr⟩:=hpre;unfold Wd;rw [<-hr];rfl
  refine ⟨.int .i64 x,?_,ZS hx.symm,hB.trans (belowK_b (w:=w) (Nat.le_refl _) W D _ _ (by simp at hD;omega) hK rfl rfl)⟩
  simp [results,Tryz.f213,go_sem,hc5]
theorem O9 (s:Int) (w:World):Calls Tryz.prog 213 #[.int .i64 s] w fun e w'=>e= .returned (.int .i64 (Wd s))/\Below w.heap.size w w':=
 callsIn_wide.1 (NB 3 (Nat.le_refl _) s w)
end Go.Proofs.YtjhijildaceadaaGreatDoor
namespace Go.Proofs.YtjhijildaceadaaGreatDoor
open Go.ChangeShapes Go.WideShapes Go.ChangeAt Go.RowKit Go.Sort
set_option linter.unusedVariables false
theorem Ek:∀ k:Fin 256,(Wd (k.val:Int) != -1)=inB (k.val:Int) 1 255:=by decide +kernel
theorem El (s:Int):(Wd s != -1)=inB s 1 255:=by
 cases h:inB s 0 255
 ·have hf:Wd s= -1:=by unfold Wd TS;rw [Mv h];rfl
  have h2:s<0\/255<s:=by
   rcases Int.lt_or_le s 0 with h1 | h1
   ·exact .inl h1
   ·rcases Int.lt_or_le 255 s with h2 | h2
    ·exact .inr h2
    ·rw [Zj h1 h2] at h;cases h
  rw [hf,Xj (by omega)];rfl
 ·obtain ⟨h0,h1⟩:=ZP h
  obtain ⟨n,rfl⟩:=Int.eq_ofNat_of_zero_le h0
  exact Ek ⟨n,by omega⟩
theorem MM {s f:Int} (h:Wd s=f) (w:World):Calls Tryz.prog 213 #[.int .i64 s] w fun e w'=>e= .returned (.int .i64 f)/\Below w.heap.size w w':=by
 have:=O9 s w;rw [h] at this;exact this
theorem LZ (s:Int) (w:World):Calls Tryz.prog 145 #[.int .i64 s] w fun e w'=>e= .returned (.bool (inB s 1 255))/\Below w.heap.size w w':=by
 have hf:=El s
 obtain ⟨f,hv⟩:∃ f,Wd s=f:=⟨_,rfl⟩
 have Hv:=Z9 hv
 rw [hv] at hf
 have Hf:=Z9 hf
 clear hf hv
 go_enter Tryz.func145,Tryz.ntmps145
 go_wp2_with fail
 refine (MM (uh Hv) _).mono ?_
 rintro e w1 ⟨rfl,hb⟩
 go_wp2_with fail
 go_ret
 exact ⟨Z5 (uh Hf),hb⟩
theorem Ja (c r:Int) (w:World):Calls Tryz.prog 341 #[.int .i64 c,.int .i64 r] w fun e w'=>e= .returned (.bool (inB c 0 (Zr r-1)))/\w'=w:=by
 obtain ⟨x,hv⟩:∃ x,Zr r=x:=⟨_,rfl⟩
 have Hv:=Z9 hv
 rw [hv]
 clear hv
 by_cases h0:0<=c
 ·by_cases h1:c<x
  ·rw [Zj (x:=c) (lo:=0) (hi:=x-1) h0 (by omega)]
   go_enter Tryz.func341,Tryz.ntmps341
   go_wp2_with (go_at_call 210;refine (UU (uh Hv) _).mono ?_;rintro e w' ⟨rfl,rfl⟩)
   go_ret
   exact ⟨rfl,rfl⟩
  ·rw [Xj (x:=c) (lo:=0) (hi:=x-1) (by omega)]
   go_enter Tryz.func341,Tryz.ntmps341
   go_wp2_with (go_at_call 210;refine (UU (uh Hv) _).mono ?_;rintro e w' ⟨rfl,rfl⟩)
   go_ret
   exact ⟨Z5 (b:=false) (by rw [decide_eq_false_iff_not];omega),rfl⟩
 ·rw [Xj (x:=c) (lo:=0) (hi:=x-1) (by omega)]
  go_enter Tryz.func341,Tryz.ntmps341
  go_wp2_with fail
  go_ret
  exact ⟨rfl,rfl⟩
theorem Rh (n:Int) (w:World):Calls Tryz.prog 340 #[.int .i64 n] w fun e w'=>e= .returned (.bool (inB n (-1000000000000) 1000000000000))/\w'=w:=by
 go_enter Tryz.func340,Tryz.ntmps340
 go_wp2_with (go_at_call 234;refine (ZN _ _ _ _).mono ?_;rintro e w' ⟨rfl,rfl⟩)
 go_ret
 exact ⟨rfl,rfl⟩
theorem LW {c r:Int} {q:Bool} (h:inB c 0 (Zr r-1)=q) (w:World):Calls Tryz.prog 341 #[.int .i64 c,.int .i64 r] w fun e w'=>e= .returned (.bool q)/\w'=w:=by
 have:=Ja c r w;rw [h] at this;exact this
theorem CW (x:Int):inB x 0 (0-1)=false:=by
 refine Xj ?_
 rcases Int.lt_or_le x 0 with h | h
 ·exact .inl h
 ·exact .inr (by omega)
theorem Dq (st be rk my gu lo hi hd ca ut wk:Int):Zg (st,be,rk,my,gu,lo,hi,hd,ca,ut,wk)=(inB st 1 3 && (inB be 0 7 && (inB my 1 255 && (inB gu (-1) 5 && (YU lo hi && (inB hd (-1000000000000) 1000000000000 && (inB ca 0 (Zr rk-1) && (inB ut 0 1024 && (inB wk 0 100000000000))))))))):=by
 unfold Zg
 simp only
 cases hr:inB rk (-5) 5
 ·rw [Wq hr,show inB ca 0 (0-1)=false from CW ca]
  simp
 ·simp only [Bool.true_and]
theorem RY (st be rk my gu lo hi hd ca ut wk:Int) (w:World):Calls Tryz.prog 309 #[.agg #[.int .i64 st,.int .i64 be,.int .i64 rk,.int .i64 my,.int .i64 gu,.int .i64 lo,.int .i64 hi,.int .i64 hd,.int .i64 ca,.int .i64 ut,.int .i64 wk]] w fun e w'=>e= .returned (.bool (Zg (st,be,rk,my,gu,lo,hi,hd,ca,ut,wk)))/\Below w.heap.size w w':=by
 rw [Dq]
 obtain ⟨qc,hqc⟩:∃ q,inB ca 0 (Zr rk-1)=q:=⟨_,rfl⟩
 have Hc:=Z9 hqc
 rw [hqc]
 clear hqc
 cases h_st:inB st 1 3
 rotate_left
 cases h_be:inB be 0 7
 rotate_left
 cases h_my:inB my 1 255
 rotate_left
 cases h_gu:inB gu (-1) 5
 rotate_left
 cases h_pr:YU lo hi
 rotate_left
 cases h_hd:inB hd (-1000000000000) 1000000000000
 rotate_left
 cases qc
 rotate_left
 cases h_ut:inB ut 0 1024
 rotate_left
 cases h_wk:inB wk 0 100000000000
 all_goals
  go_enter Tryz.func309,Tryz.ntmps309
  go_wp2_with (first | (go_at_call 234;refine (ZN _ _ _ _).mono ?_;rintro e w' ⟨rfl,rfl⟩) | (go_at_call 215;refine (VA _ _).mono ?_;rintro e w' ⟨rfl,rfl⟩) | (go_at_call 150;refine (VK _ _ _).mono ?_;rintro e w' ⟨rfl,rfl⟩) | (go_at_call 340;refine (Rh _ _).mono ?_;rintro e w' ⟨rfl,rfl⟩) | (go_at_call 341;refine (LW (uh Hc) _).mono ?_;rintro e w' ⟨rfl,rfl⟩) | (go_at_call 342;refine (NQ _ _).mono ?_;rintro e w' ⟨rfl,rfl⟩))
  try
   refine (LZ _ _).mono ?_
   rintro e w1 ⟨rfl,hb⟩
   have c2:w1.cell? ⟨w.heap.size,2,none⟩=some (.int .i64 rk):=(hb.cell (p:=⟨w.heap.size,2,none⟩) (by simp)).trans (Zy _ rfl)
   have c4:w1.cell? ⟨w.heap.size,4,none⟩=some (.int .i64 gu):=(hb.cell (p:=⟨w.heap.size,4,none⟩) (by simp)).trans (Zy _ rfl)
   have c5:w1.cell? ⟨w.heap.size,5,none⟩=some (.int .i64 lo):=(hb.cell (p:=⟨w.heap.size,5,none⟩) (by simp)).trans (Zy _ rfl)
   have c6:w1.cell? ⟨w.heap.size,6,none⟩=some (.int .i64 hi):=(hb.cell (p:=⟨w.heap.size,6,none⟩) (by simp)).trans (Zy _ rfl)
   have c7:w1.cell? ⟨w.heap.size,7,none⟩=some (.int .i64 hd):=(hb.cell (p:=⟨w.heap.size,7,none⟩) (by simp)).trans (Zy _ rfl)
   have c8:w1.cell? ⟨w.heap.size,8,none⟩=some (.int .i64 ca):=(hb.cell (p:=⟨w.heap.size,8,none⟩) (by simp)).trans (Zy _ rfl)
   have c9:w1.cell? ⟨w.heap.size,9,none⟩=some (.int .i64 ut):=(hb.cell (p:=⟨w.heap.size,9,none⟩) (by simp)).trans (Zy _ rfl)
   have c10:w1.cell? ⟨w.heap.size,10,none⟩=some (.int .i64 wk):=(hb.cell (p:=⟨w.heap.size,10,none⟩) (by simp)).trans (Zy _ rfl)
   have Hb:=Z9 (((Below.refl w.heap.size w).alloc (Nat.le_refl _) _).trans (hb.mono (by simp)))
   clear hb
   go_wp2_with (first | (go_at_call 234;refine (ZN _ _ _ _).mono ?_;rintro e w' ⟨rfl,rfl⟩) | (go_at_call 215;refine (VA _ _).mono ?_;rintro e w' ⟨rfl,rfl⟩) | (go_at_call 150;refine (VK _ _ _).mono ?_;rintro e w' ⟨rfl,rfl⟩) | (go_at_call 340;refine (Rh _ _).mono ?_;rintro e w' ⟨rfl,rfl⟩) | (go_at_call 341;refine (LW (uh Hc) _).mono ?_;rintro e w' ⟨rfl,rfl⟩) | (go_at_call 342;refine (NQ _ _).mono ?_;rintro e w' ⟨rfl,rfl⟩))
  go_ret
  first | exact ⟨rfl,uh Hb⟩ | exact ⟨rfl,(Below.refl _ _).alloc (Nat.le_refl _) _⟩
attribute [local go_sem ↓] Mn Mo
theorem Rf (w:World):Calls Tryz.prog 255 #[.agg #[.int .i64 0,.int .i64 0,.int .i64 0,.int .i64 0,.int .i64 0,.int .i64 0,.int .i64 0,.int .i64 0,.int .i64 0,.int .i64 0,.int .i64 0]] w fun e w'=>e= .returned (.iface 246 (.agg #[]))/\Below w.heap.size w w':=by
 have hz:Ur (0,0,0,0,0,0,0,0,0,0,0) (0,0,0,0,0,0,0,0,0,0,0)=true:=rfl
 go_enter Tryz.func255,Tryz.ntmps255
 go_wp2_with fail
 go_ret
 exact ⟨rfl,(Below.refl _ _).alloc (Nat.le_refl _) _⟩
theorem T0 {st be rk my gu lo hi hd ca ut wk:Int} (hg:Wh (st,be,rk,my,gu,lo,hi,hd,ca,ut,wk)=false) (hp:Zg (st,be,rk,my,gu,lo,hi,hd,ca,ut,wk)=true) (w:World):Calls Tryz.prog 255 #[.agg #[.int .i64 st,.int .i64 be,.int .i64 rk,.int .i64 my,.int .i64 gu,.int .i64 lo,.int .i64 hi,.int .i64 hd,.int .i64 ca,.int .i64 ut,.int .i64 wk]] w fun e w'=>e= .returned (.iface 244 (.agg #[.int .i64 st,.int .i64 be,.int .i64 rk,.int .i64 my,.int .i64 gu,.int .i64 lo,.int .i64 hi,.int .i64 hd,.int .i64 ca,.int .i64 ut,.int .i64 wk]))/\Below w.heap.size w w':=by
 have hz:Ur (st,be,rk,my,gu,lo,hi,hd,ca,ut,wk) (0,0,0,0,0,0,0,0,0,0,0)=false:=hg
 have Hp:=Z9 hp
 clear hg hp
 go_enter Tryz.func255,Tryz.ntmps255
 go_wp2_with fail
 refine (RY st be rk my gu lo hi hd ca ut wk _).mono ?_
 rw [uh Hp]
 rintro e w1 ⟨rfl,hb⟩
 have c0:w1.cell? ⟨w.heap.size,0,none⟩=some (.int .i64 st):=(hb.cell (p:=⟨w.heap.size,0,none⟩) (by simp)).trans (Zy _ rfl)
 have c1:w1.cell? ⟨w.heap.size,1,none⟩=some (.int .i64 be):=(hb.cell (p:=⟨w.heap.size,1,none⟩) (by simp)).trans (Zy _ rfl)
 have c2:w1.cell? ⟨w.heap.size,2,none⟩=some (.int .i64 rk):=(hb.cell (p:=⟨w.heap.size,2,none⟩) (by simp)).trans (Zy _ rfl)
 have c3:w1.cell? ⟨w.heap.size,3,none⟩=some (.int .i64 my):=(hb.cell (p:=⟨w.heap.size,3,none⟩) (by simp)).trans (Zy _ rfl)
 have c4:w1.cell? ⟨w.heap.size,4,none⟩=some (.int .i64 gu):=(hb.cell (p:=⟨w.heap.size,4,none⟩) (by simp)).trans (Zy _ rfl)
 have c5:w1.cell? ⟨w.heap.size,5,none⟩=some (.int .i64 lo):=(hb.cell (p:=⟨w.heap.size,5,none⟩) (by simp)).trans (Zy _ rfl)
 have c6:w1.cell? ⟨w.heap.size,6,none⟩=some (.int .i64 hi):=(hb.cell (p:=⟨w.heap.size,6,none⟩) (by simp)).trans (Zy _ rfl)
 have c7:w1.cell? ⟨w.heap.size,7,none⟩=some (.int .i64 hd):=(hb.cell (p:=⟨w.heap.size,7,none⟩) (by simp)).trans (Zy _ rfl)
 have c8:w1.cell? ⟨w.heap.size,8,none⟩=some (.int .i64 ca):=(hb.cell (p:=⟨w.heap.size,8,none⟩) (by simp)).trans (Zy _ rfl)
 have c9:w1.cell? ⟨w.heap.size,9,none⟩=some (.int .i64 ut):=(hb.cell (p:=⟨w.heap.size,9,none⟩) (by simp)).trans (Zy _ rfl)
 have c10:w1.cell? ⟨w.heap.size,10,none⟩=some (.int .i64 wk):=(hb.cell (p:=⟨w.heap.size,10,none⟩) (by simp)).trans (Zy _ rfl)
 have Hb:=Z9 (((Below.refl w.heap.size w).alloc (Nat.le_refl _) _).trans (hb.mono (by simp)))
 clear hb
 go_wp2_with fail
 go_ret
 exact ⟨rfl,uh Hb⟩
theorem R8 {st be rk my gu lo hi hd ca ut wk:Int} (hg:Wh (st,be,rk,my,gu,lo,hi,hd,ca,ut,wk)=false) (hp:Zg (st,be,rk,my,gu,lo,hi,hd,ca,ut,wk)=false) (w:World):Calls Tryz.prog 255 #[.agg #[.int .i64 st,.int .i64 be,.int .i64 rk,.int .i64 my,.int .i64 gu,.int .i64 lo,.int .i64 hi,.int .i64 hd,.int .i64 ca,.int .i64 ut,.int .i64 wk]] w fun e w'=>e= .returned (.iface 285 (.agg #[]))/\Below w.heap.size w w':=by
 have hz:Ur (st,be,rk,my,gu,lo,hi,hd,ca,ut,wk) (0,0,0,0,0,0,0,0,0,0,0)=false:=hg
 have Hp:=Z9 hp
 clear hg hp
 go_enter Tryz.func255,Tryz.ntmps255
 go_wp2_with fail
 refine (RY st be rk my gu lo hi hd ca ut wk _).mono ?_
 rw [uh Hp]
 rintro e w1 ⟨rfl,hb⟩
 have Hb:=Z9 (((Below.refl w.heap.size w).alloc (Nat.le_refl _) _).trans (hb.mono (by simp)))
 clear hb
 go_wp2_with fail
 go_ret
 exact ⟨rfl,uh Hb⟩
theorem Bp (w : World) : (method 484 246 (.agg #[]) "loop.example/g00553/impl.isSmith").run Tryz.prog w = .ok (412, .agg #[]) w := by kernel_rfl
theorem B9 (w : World) : (method 484 285 (.agg #[]) "loop.example/g00553/impl.isSmith").run Tryz.prog w = .ok (431, .agg #[]) w := by kernel_rfl
theorem Bq (st be rk my gu lo hi hd ca ut wk : Int) (w : World) : (method 484 244 (.agg #[.int .i64 st, .int .i64 be, .int .i64 rk, .int .i64 my, .int .i64 gu, .int .i64 lo, .int .i64 hi, .int .i64 hd, .int .i64 ca, .int .i64 ut, .int .i64 wk]) "loop.example/g00553/impl.isSmith").run Tryz.prog w = .ok (411, .agg #[.int .i64 st, .int .i64 be, .int .i64 rk, .int .i64 my, .int .i64 gu, .int .i64 lo, .int .i64 hi, .int .i64 hd, .int .i64 ca, .int .i64 ut, .int .i64 wk]) w := by kernel_rfl
theorem Gg (w:World):Calls Tryz.prog 412 #[.agg #[]] w fun e w'=>e= .returned (.bool true)/\Below w.heap.size w w':=by
 go_enter Tryz.func412,Tryz.ntmps412
 go_wp2_with fail
 go_ret
 exact ⟨rfl,(Below.refl _ _).alloc (Nat.le_refl _) _⟩
theorem Ky (w:World):Calls Tryz.prog 431 #[.agg #[]] w fun e w'=>e= .returned (.bool false)/\Below w.heap.size w w':=by
 go_enter Tryz.func431,Tryz.ntmps431
 go_wp2_with fail
 go_ret
 exact ⟨rfl,(Below.refl _ _).alloc (Nat.le_refl _) _⟩
theorem GL (st be rk my gu lo hi hd ca ut wk:Int) (w:World):Calls Tryz.prog 411 #[.agg #[.int .i64 st,.int .i64 be,.int .i64 rk,.int .i64 my,.int .i64 gu,.int .i64 lo,.int .i64 hi,.int .i64 hd,.int .i64 ca,.int .i64 ut,.int .i64 wk]] w fun e w'=>e= .returned (.bool true)/\Below w.heap.size w w':=by
 go_enter Tryz.func411,Tryz.ntmps411
 go_wp2_with fail
 go_ret
 exact ⟨rfl,(Below.refl _ _).alloc (Nat.le_refl _) _⟩
attribute [local go_sem] Bp B9 Bq
theorem Tp (st be rk my gu lo hi hd ca ut wk:Int) (w:World):Calls Tryz.prog 185 #[.agg #[.int .i64 st,.int .i64 be,.int .i64 rk,.int .i64 my,.int .i64 gu,.int .i64 lo,.int .i64 hi,.int .i64 hd,.int .i64 ca,.int .i64 ut,.int .i64 wk]] w fun e w'=>e= .returned (.bool (Zu (st,be,rk,my,gu,lo,hi,hd,ca,ut,wk)))/\Below w.heap.size w w':=by
 unfold Zu
 cases hg:Wh (st,be,rk,my,gu,lo,hi,hd,ca,ut,wk)
 ·cases hp:Zg (st,be,rk,my,gu,lo,hi,hd,ca,ut,wk)
  ·rw [show (false || false)=false from rfl]
   have Hg:=Z9 hg
   have Hp:=Z9 hp
   clear hg hp
   go_enter Tryz.func185,Tryz.ntmps185
   go_wp2_with fail
   refine (R8 (uh Hg) (uh Hp) _).mono ?_
   rintro e w1 ⟨rfl,hb⟩
   have B1:=Z9 (((Below.refl w.heap.size w).alloc (Nat.le_refl _) _).trans (hb.mono (by simp)))
   clear hb
   go_wp2_with fail
   refine (Ky _).mono ?_
   rintro e w2 ⟨rfl,hb⟩
   have B2:=Z9 ((uh B1).trans (hb.mono (uh B1).size))
   clear hb
   go_wp2_with fail
   go_ret
   exact ⟨rfl,uh B2⟩
  ·rw [show (false || true)=true from rfl]
   have Hg:=Z9 hg
   have Hp:=Z9 hp
   clear hg hp
   go_enter Tryz.func185,Tryz.ntmps185
   go_wp2_with fail
   refine (T0 (uh Hg) (uh Hp) _).mono ?_
   rintro e w1 ⟨rfl,hb⟩
   have B1:=Z9 (((Below.refl w.heap.size w).alloc (Nat.le_refl _) _).trans (hb.mono (by simp)))
   clear hb
   go_wp2_with fail
   refine (GL _ _ _ _ _ _ _ _ _ _ _ _).mono ?_
   rintro e w2 ⟨rfl,hb⟩
   have B2:=Z9 ((uh B1).trans (hb.mono (uh B1).size))
   clear hb
   go_wp2_with fail
   go_ret
   exact ⟨rfl,uh B2⟩
 ·rw [Bool.true_or]
  cases Vy hg
  clear hg
  go_enter Tryz.func185,Tryz.ntmps185
  go_wp2_with fail
  refine (Rf _).mono ?_
  rintro e w1 ⟨rfl,hb⟩
  have B1:=Z9 (((Below.refl w.heap.size w).alloc (Nat.le_refl _) _).trans (hb.mono (by simp)))
  clear hb
  go_wp2_with fail
  refine (Gg _).mono ?_
  rintro e w2 ⟨rfl,hb⟩
  have B2:=Z9 ((uh B1).trans (hb.mono (uh B1).size))
  clear hb
  go_wp2_with fail
  go_ret
  exact ⟨rfl,uh B2⟩
end Go.Proofs.YtjhijildaceadaaGreatDoor
