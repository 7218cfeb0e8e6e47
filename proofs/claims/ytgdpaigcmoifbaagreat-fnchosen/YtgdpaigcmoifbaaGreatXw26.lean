/- Part 26 of what the proof rests on. No condition but those that a theorem names. -/
import Derived.Test.YtgdpaigcmoifbaaGreatXw18
import Derived.Deep.OwnRows
namespace Go.Proofs.YtgdpaigcmoifbaaGreat
open Go.ChangeShapes Go.WideShapes Go.ChangeAt Go.RowKit Go.Sort Go.Proofs.Tryz
set_option linter.unusedVariables false
def Cf (rs:List ZY):Z6:=if YW rs then TI rs else W7
def yi (n₀:Nat) (M:Z6) (q:Bool) (e:Ending) (w':World):Prop:=
 ∃ u0 u1 u2 u3 u4 qs,e= .returned (.tuple #[.agg #[u0,u1,u2,u3,u4,.int .i64 M.now],.bool q])/\FullSmy n₀ w' u0 u1 u2 u3 u4 M qs
theorem DH:∀ rs:List ZY,rs.all Y8=true->0<=ZW rs
 | [],_=>by simp [ZW]
 | r::rs,h=>by
  simp only [List.all_cons,ZO] at h;have ih:=DH rs h.2;have h1:=h.1;unfold Y8 at h1;simp only [ZO] at h1;have:=ZN h1.1;simp only [ZW,List.map_cons,List.sum_cons] at ih ⊢;omega
theorem OL {rs:List ZY} (h:YW rs=true):1<=ZW rs:=by
 obtain ⟨r1,r2,r3,r4⟩:=Zj h
 match rs,r1,r3 with
 | r::rs,_,h3=>
  simp only [List.all_cons,ZO] at h3;have ih:=DH rs h3.2;have h1:=h3.1;unfold Y8 at h1;simp only [ZO] at h1;have:=ZN h1.1;simp only [ZW,List.map_cons,List.sum_cons] at ih ⊢;omega
theorem B9 {B n:Nat} {w:World} (hg:B<=w.heap.size) (hn:n<=1000):NumsAt B (w.alloc (.cells (madeCells #[.int .i64 0] n) 2)) (.slice (some ⟨w.heap.size,0,none⟩) n n) (List.replicate n 0):=by
 have hl:(madeCells #[Value.int .i64 0] n).toList=UR Tj (List.replicate n 0):=by
  have:=B8 Ze (by omega) (0:Int) #[Value.int .i64 0] rfl n;rw [Nat.mul_one] at this;exact this
 have hsz:(madeCells #[Value.int .i64 0] n).size=n:=by simp [madeCells]
 show (w.alloc _).ownsRow B 2 1 _ (List.replicate n (0:Int)).length _;rw [List.length_replicate];refine ⟨by rw [V3 Ze,List.length_replicate],.inr ⟨_,n,madeCells #[.int .i64 0] n,rfl,hg,heap_alloc_new w _,Z0 _,(by unfold maxLen;omega),(by simp [hsz]),?_⟩⟩;rw [<-hl,Nat.mul_one];exact List.take_of_length_le (by rw [Array.length_toList,hsz];exact Z0 _)
theorem AT (B:Nat) (w:World):DesksAt B w (.slice none 0 0) []:=World.ownsRow_nil _ _ _ _
structure NewOff (n₀:Nat) (rs:List ZY) (w:World) (R:Nat) (v0 v4 v3:Value) (qs:List (ZY × Value)):Prop where
 hall:OwnHall (n₀+2) w v0 qs
 rm:qs.map (·.1)=rs
 nums:NumsAt (n₀+2) w v4 (List.replicate rs.length 0)
 rlo:n₀+2<=R
 rh:∀ k,(v0.ownBlock=some k\/ ∃ q ∈ qs,q.2.ownBlock=some k)->k ≠ R
 rp:v4.ownBlock ≠ some R
 rd:v3.ownBlock ≠ some R
 hp:∀ k,(v0.ownBlock=some k\/ ∃ q ∈ qs,q.2.ownBlock=some k)->v4.ownBlock ≠ some k
 hd:∀ k,(v0.ownBlock=some k\/ ∃ q ∈ qs,q.2.ownBlock=some k)->v3.ownBlock ≠ some k
 pd:∀ k,v4.ownBlock=some k->v3.ownBlock ≠ some k
 rlt:R<w.heap.size
structure NewCut (n₀:Nat) (w:World) (a:Option Addr) (rs:List ZY) (cap:Nat) (wc:World) (R:Nat) (hv pv:Value) (qs:List (ZY × Value)):Prop where
 off:NewOff n₀ rs wc R hv pv (.slice none 0 0) qs
 km:Blk wc R 32 #[hv,.slice none 0 0,.slice none 0 0,.slice none 0 0,pv,.int .i64 0]
 kb:Blk wc n₀ 26 #[.slice a rs.length cap]
 kr:Blk wc (n₀+1) 32 E6
 bel:Below w.heap.size w wc
 hshape:∃ ua uc,hv= .slice ua rs.length uc
 pshape:∃ pa pc,pv= .slice pa rs.length pc
theorem NewOff.below {n₀:Nat} {rs:List ZY} {w w':World} {R:Nat} {v0 v4 v3:Value} {qs:List (ZY × Value)} (h:NewOff n₀ rs w R v0 v4 v3 qs) (hb:Below w.heap.size w w'):NewOff n₀ rs w' R v0 v4 v3 qs:=
 ⟨h.hall.later hb,h.rm,RecAt.later h.nums hb,h.rlo,h.rh,h.rp,h.rd,h.hp,h.hd,h.pd,Y0 h.rlt hb.size⟩
theorem NewCut.below {n₀:Nat} {w:World} {a:Option Addr} {rs:List ZY} {cap:Nat} {wc w':World} {R:Nat} {hv pv:Value} {qs:List (ZY × Value)} (h:NewCut n₀ w a rs cap wc R hv pv qs) (hb:Below wc.heap.size wc w'):NewCut n₀ w a rs cap w' R hv pv qs:=
 ⟨h.off.below hb,h.km.below hb h.km.lt,h.kb.below hb h.kb.lt,h.kr.below hb h.kr.lt,h.bel.trans (hb.mono h.bel.size),h.hshape,h.pshape⟩
theorem NewOff.set_R {n₀:Nat} {rs:List ZY} {w:World} {R:Nat} {v0 v4 v3:Value} {qs:List (ZY × Value)} (h:NewOff n₀ rs w R v0 v4 v3 qs) (o:Nat) (u:Value):NewOff n₀ rs (w.setCell ⟨R,o,none⟩ u) R v0 v4 v3 qs:=
 ⟨h.hall.same2 fun k e=>heap_setCell_other _ _ _ _ (h.rh k e),h.rm,RecAt.same h.nums fun k e=>heap_setCell_other _ _ _ _ (fun e'=>h.rp (by rw [e];exact congrArg some e')),h.rlo,h.rh,h.rp,h.rd,h.hp,h.hd,h.pd,by simpa using h.rlt⟩
theorem NewOff.grow {n₀:Nat} {rs:List ZY} {w w':World} {R:Nat} {v0 v4 v3 v':Value} {qs:List (ZY × Value)} {o:Obj} (h:NewOff n₀ rs w R v0 v4 v3 qs) (hg:(w.alloc o).grownBy w' v3.ownBlock) (hat:v'.ownBlock=v3.ownBlock\/v'.ownBlock=some (w.alloc o).heap.size):NewOff n₀ rs w' R v0 v4 v' qs:=by
 have hk:∀ k,k<w.heap.size->v3.ownBlock ≠ some k->w'.heap[k]?=w.heap[k]?:=fun k hk hn=>(hg.block k (by simp;omega) (fun e=>hn e.symm)).trans (Below.heap_alloc w o k hk)
 have hv:∀ k,k<w.heap.size->v3.ownBlock ≠ some k->v'.ownBlock ≠ some k:=fun k hlt hn e=>by
  rcases hat with e' | e'
  ·exact hn (by rw [<-e'];exact e)
  ·rw [e'] at e
   simp at e;omega
 have hs:w.heap.size<=w'.heap.size:=by have:=hg.size;simp at this;omega
 refine ⟨h.hall.same2 fun k e=>hk k (h.hall.lt e).2 (h.hd k e),h.rm,RecAt.same h.nums fun k e=>hk k (RecAt.lt h.nums e).2 (h.pd k e),h.rlo,h.rh,h.rp,hv R h.rlt h.rd,h.hp,fun k e=>hv k (h.hall.lt e).2 (h.hd k e),fun k e=>hv k (RecAt.lt h.nums e).2 (h.pd k e),by have:=h.rlt;omega⟩
theorem NewOff.full {n₀:Nat} {rs:List ZY} {w:World} {R:Nat} {v0 v4 v3:Value} {qs:List (ZY × Value)} {ds:List Yg} (h:NewOff n₀ rs w R v0 v4 v3 qs) (hd:DesksAt (n₀+2) w v3 ds):FullSmy (n₀+2) w v0 (.slice none 0 0) (.slice none 0 0) v3 v4 ⟨rs,[],[],ds,List.replicate rs.length 0,0⟩ qs:=by
 have hz:∀ u:Value,Lm (.slice none 0 0) u:=fun u b e=>by cases e
 have hz2:∀ u:Value,Lm u (.slice none 0 0):=fun u b e e'=>by cases e'
 exact ⟨h.hall,h.rm,World.ownsRow_nil _ _ _ _,World.ownsRow_nil _ _ _ _,hd,h.nums,⟨hz _,fun q hq=>hz _⟩,⟨hz _,fun q hq=>hz _⟩,⟨fun b e e'=>h.hd b (.inl e') e,fun q hq b e e'=>h.hd b (.inr ⟨q,hq,e'⟩) e⟩,⟨fun b e e'=>h.hp b (.inl e') e,fun q hq b e e'=>h.hp b (.inr ⟨q,hq,e'⟩) e⟩,hz _,hz _,hz _,hz _,hz _,fun b e e'=>h.pd b e' e⟩
theorem zt {w X:World} {a:Option Addr} {rs:List ZY} {cap R g uc:Nat} {ua:Option Addr} {qs:List (ZY × Value)} (hlo:w.heap.size+2<=R) (bel:Below w.heap.size w X) (kb:Blk X w.heap.size 26 #[.slice a rs.length cap]) (kr:Blk X (w.heap.size+1) 32 E6)
  (hh:OwnHall (w.heap.size+2) X (.slice ua rs.length uc) qs) (hn:NumsAt (w.heap.size+2) X (.slice (some ⟨g,0,none⟩) rs.length rs.length) (List.replicate rs.length 0)) (km:Blk X R 32 E6) (hgl:w.heap.size+2<=g)
  (h15:∀ k,((Value.slice ua rs.length uc).ownBlock=some k\/ ∃ q ∈ qs,q.2.ownBlock=some k)->k ≠ g) (h17:∀ k,((Value.slice ua rs.length uc).ownBlock=some k\/ ∃ q ∈ qs,q.2.ownBlock=some k)->k ≠ R) (h57:R ≠ g) (hq:qs.map (·.1)=rs) :
  ∃ R' hv pv qs',Value.pointer (some ⟨R,0,none⟩)= .pointer (some ⟨R',0,none⟩)/\NewCut w.heap.size w a rs cap ((((((X.setCell ⟨R,0,none⟩ (.slice ua rs.length uc)).setCell ⟨R,1,none⟩ (.slice none 0 0)).setCell ⟨R,2,none⟩ (.slice none 0 0)).setCell ⟨R,3,none⟩ (.slice none 0 0)).setCell ⟨R,4,none⟩ (.slice (some ⟨g,0,none⟩) rs.length rs.length)).setCell ⟨R,5,none⟩ (.int .i64 0)) R' hv pv qs':=by
 refine ⟨R,.slice ua rs.length uc,.slice (some ⟨g,0,none⟩) rs.length rs.length,qs,rfl,?_⟩;have ho:NewOff w.heap.size rs X R (.slice ua rs.length uc) (.slice (some ⟨g,0,none⟩) rs.length rs.length) (.slice none 0 0) qs:=⟨hh,hq,hn,hlo,h17,fun e=>(by cases e;exact h57 rfl),fun e=>(by cases e),fun k e e'=>(by cases e';exact h15 _ e rfl),fun k e e'=>(by cases e'),fun k e e'=>(by cases e'),km.lt⟩
 have k1:=((((((km.set 0 (.slice ua rs.length uc)).set 1 (.slice none 0 0)).set 2 (.slice none 0 0)).set 3 (.slice none 0 0)).set 4 (.slice (some ⟨g,0,none⟩) rs.length rs.length)).set 5 (.int .i64 0))
 refine ⟨(((((ho.set_R _ _).set_R _ _).set_R _ _).set_R _ _).set_R _ _).set_R _ _,k1,?_,?_,?_,⟨_,_,rfl⟩,⟨_,_,rfl⟩⟩
 ·iterate 6 (refine Blk.other ?_ (by show w.heap.size ≠ R;omega) _)
  exact kb
 ·iterate 6 (refine Blk.other ?_ (by show w.heap.size+1 ≠ R;omega) _)
  exact kr
 ·iterate 6 (refine Yv ?_ (by show _<=R;omega) _)
  exact bel
theorem P1 {w:World} {ops:Array Oper} {rest:List Oper} {o:Oper} {a:Act} {Q:Exit->Act->World->Prop} (hgd:o.guard=none) (s x:Operand) (t:TypeId)
  (ho:o.op= .call { callee:= .builtin .append,args:=#[s,x],argTypes:=#[t,t] }) {v u v':Value} {w':World} (hs:a.eval s=v) (hx:a.eval x=u) (hrun:(Builtin.append_ #[t,t] o.type #[v,u]).run prog w= .ok v' w')
  (h:wpList prog ops Q rest (a.put o.dst v') w'):wpList prog ops Q (o::rest) a w:=by
 refine wpList_plain hgd fun K hK=> ?_;unfold Oper.wp execOp;simp only [ho,resolve,invoke,builtin,Sem.run_bind,Sem.run_pure,Result.andThen_ok,List.map_toArray,List.map_cons,List.map_nil,hs,hx,hrun];exact hK _ _ h
set_option linter.unusedSimpArgs false
set_option maxRecDepth 100000
structure Nw (w X:World) (a:Option Addr) (rs:List ZY) (cap:Nat) (c1:Option (Option Addr × Nat × List (ZY × Value))) (c5 c7:Option Nat):Prop where
 sz:w.heap.size+2<=X.heap.size
 v:IsRooms X (.slice a rs.length cap) rs
 kb:Blk X w.heap.size 26 #[.slice a rs.length cap]
 kr:Blk X (w.heap.size+1) 32 E6
 bb:Below w.heap.size w X
 h1:∀ ua uc qs,c1=some (ua,uc,qs)->OwnHall (w.heap.size+2) X (.slice ua rs.length uc) qs/\qs.map (·.1)=rs
 h5:∀ g,c5=some g->w.heap.size+2<=g/\g<X.heap.size/\NumsAt (w.heap.size+2) X (.slice (some ⟨g,0,none⟩) rs.length rs.length) (List.replicate rs.length 0)
 h7:∀ R,c7=some R->w.heap.size+2<=R/\Blk X R 32 E6
 d15:∀ ua uc qs g,c1=some (ua,uc,qs)->c5=some g-> ∀ k,((Value.slice ua rs.length uc).ownBlock=some k\/ ∃ q ∈ qs,q.2.ownBlock=some k)->k ≠ g
 d17:∀ ua uc qs R,c1=some (ua,uc,qs)->c7=some R-> ∀ k,((Value.slice ua rs.length uc).ownBlock=some k\/ ∃ q ∈ qs,q.2.ownBlock=some k)->k ≠ R
 d57:∀ g R,c5=some g->c7=some R->R ≠ g
section
variable {w X X' : World} {a : Option Addr} {rs : List ZY} {cap : Nat} {c1 : Option (Option Addr × Nat × List (ZY × Value))} {c5 c7 : Option Nat}
theorem Nw.next (h:Nw w X a rs cap c1 c5 c7) (hb:Below X.heap.size X X'):Nw w X' a rs cap c1 c5 c7:=
 ⟨Xv h.sz hb.size,h.v.below hb,h.kb.below hb h.kb.lt,h.kr.below hb h.kr.lt,h.bb.trans (hb.mono h.bb.size),fun ua uc qs e=>⟨(h.h1 ua uc qs e).1.later hb,(h.h1 ua uc qs e).2⟩,fun g e=>⟨(h.h5 g e).1,Y0 (h.h5 g e).2.1 hb.size,RecAt.later (h.h5 g e).2.2 hb⟩,fun R e=>⟨(h.h7 R e).1,(h.h7 R e).2.below hb (h.h7 R e).2.lt⟩,h.d15,h.d17,h.d57⟩
theorem Nw.make (h:Nw w X a rs cap c1 none c7) (hn:rs.length<=1000):Nw w (X.alloc (.cells (madeCells #[.int .i64 0] rs.length) 2)) a rs cap c1 (some X.heap.size) c7:=by
 have k:=h.next ((Z3 _ _).alloc (Z0 _) (.cells (madeCells #[.int .i64 0] rs.length) 2));have hs:=h.sz;refine ⟨k.sz,k.v,k.kb,k.kr,k.bb,k.h1,fun g e=> ?_,k.h7,fun ua uc qs g e1 e k' ho=> ?_,k.d17,fun g R e e7=> ?_⟩
 ·cases e;exact ⟨hs,by simp,B9 hs hn⟩
 ·cases e;have:=((h.h1 ua uc qs e1).1.lt ho).2;omega
 ·cases e;have:=(h.h7 R e7).2.lt;omega
theorem Nw.box (h:Nw w X a rs cap c1 c5 none):Nw w (X.alloc (.cells E6 32)) a rs cap c1 c5 (some X.heap.size):=by
 have k:=h.next ((Z3 _ _).alloc (Z0 _) (.cells E6 32));have hs:=h.sz;refine ⟨k.sz,k.v,k.kb,k.kr,k.bb,k.h1,k.h5,fun R e=> ?_,k.d15,fun ua uc qs R e1 e k' ho=> ?_,fun g R e5 e=> ?_⟩
 ·cases e;exact ⟨hs,Blk.new _ _ _⟩
 ·cases e;have:=((h.h1 ua uc qs e1).1.lt ho).2;omega
 ·cases e;have:=(h.h5 g e5).2.1;omega
end
theorem Nw.copy {w X:World} {a:Option Addr} {rs:List ZY} {cap:Nat} {c5 c7:Option Nat} (h:Nw w X a rs cap none c5 c7) (hn:rs.length<=1000) (hp:∀ r ∈ rs,r.2.length<=1000):Calls prog 137 #[.agg #[.slice a rs.length cap]] X fun e X'=> ∃ ua uc qs,e= .returned (.agg #[.slice ua rs.length uc])/\Hid (Nw w X' a rs cap (some (ua,uc,qs)) c5 c7):=by
 refine (Mq h.v hn hp).mono ?_;rintro e X1 ⟨v4,qs,rfl,hq4,ho4,hb4⟩;obtain ⟨ua,uc,e9⟩:=ho4.shape;have hql:qs.length=rs.length:=by have:=congrArg List.length hq4;simpa using this
 rw [hql] at e9;subst e9;have k:=h.next hb4;have hs:=h.sz;refine ⟨ua,uc,qs,rfl,Z9 ⟨k.sz,k.v,k.kb,k.kr,k.bb,fun _ _ _ e=> ?_,k.h5,k.h7,fun _ _ _ g e e5 k' ho=> ?_,fun _ _ _ R e e7 k' ho=> ?_,k.d57⟩⟩
 ·cases e;exact ⟨ho4.mono hs,hq4⟩
 ·cases e;have:=(ho4.lt ho).1;have:=(h.h5 g e5).2.1;omega
 ·cases e;have:=(ho4.lt ho).1;have:=(h.h7 R e7).2.lt;omega
theorem O3 {w X:World} {a:Option Addr} {rs:List ZY} {cap R g uc:Nat} {ua:Option Addr} {qs:List (ZY × Value)} (h:Nw w X a rs cap (some (ua,uc,qs)) (some g) (some R)):∃ R' hv pv qs',Value.pointer (some ⟨R,0,none⟩)= .pointer (some ⟨R',0,none⟩)/\NewCut w.heap.size w a rs cap ((((((X.setCell ⟨R,0,none⟩ (.slice ua rs.length uc)).setCell ⟨R,1,none⟩ (.slice none 0 0)).setCell ⟨R,2,none⟩ (.slice none 0 0)).setCell ⟨R,3,none⟩ (.slice none 0 0)).setCell ⟨R,4,none⟩ (.slice (some ⟨g,0,none⟩) rs.length rs.length)).setCell ⟨R,5,none⟩ (.int .i64 0)) R' hv pv qs':=zt (h.h7 _ rfl).1 h.bb h.kb h.kr (h.h1 _ _ _ rfl).1 (h.h5 _ rfl).2.2 (h.h7 _ rfl).2 (h.h5 _ rfl).1 (h.d15 _ _ _ _ rfl rfl) (h.d17 _ _ _ _ rfl rfl) (h.d57 _ _ rfl rfl) (h.h1 _ _ _ rfl).2
set_option maxHeartbeats 16000000 in
theorem PS {w:World} {v:Value} {rs:List ZY} (h:IsRooms w v rs) :
  Calls prog 175 #[.agg #[v]] w fun e w'=>yi w.heap.size (Cf rs) (YW rs) e w'/\Below w.heap.size w w':=by
 have Hv0:=Z9 h;obtain ⟨a,cap,rfl,hc,hm,hr⟩:=h;clear hr;obtain ⟨ok,hok⟩:=ZJ (YW rs);have Hok:=Z9 hok;obtain ⟨M,hM⟩:=ZJ (Cf rs);rw [hok,hM];have HM:=Z9 hM;clear hok hM;have kb:Hid (Blk ((w.alloc (.cells #[.slice a rs.length cap] 26)).alloc (.cells E6 32)) w.heap.size 26 #[.slice a rs.length cap]):=Z9 ((Blk.new w _ _).alloc _)
 have kr:Hid (Blk ((w.alloc (.cells #[.slice a rs.length cap] 26)).alloc (.cells E6 32)) (w.heap.size+1) 32 E6):=Z9 (by
  have k:=Blk.new (w.alloc (.cells #[.slice a rs.length cap] 26)) 32 E6;rw [XG] at k
  exact k)
 have BB:Hid (Below w.heap.size w ((w.alloc (.cells #[.slice a rs.length cap] 26)).alloc (.cells E6 32))):=Z9 (((ba _ _)).alloc (by simp) _);have Hv:=Z9 ((uh Hv0).below (uh BB));go_enter func175,ntmps175;go_wp2_with fail;generalize (w.alloc (.cells #[.slice a rs.length cap] 26)).alloc (.cells E6 32)=W at *;refine (Wm (uh Hv)).mono ?_;rw [uh Hok];rintro e w1 ⟨rfl,hb⟩;replace Hv:=Z9 ((uh Hv).below hb);replace kb:=bl kb hb;replace kr:=bl kr hb;replace BB:=bt BB hb;clear hb;cases ok
 ·obtain rfl:M=W7:=by rw [<-uh HM];unfold Cf;rw [uh Hok];rfl
  obtain ⟨o0,o1,o2,o3,o4,o5⟩:=(uh kr).c6;obtain ⟨f0,f1,f2,f3,f4,f5⟩:=(uh kr).f6;go_wp2_with fail;refine Zz (v:= .tuple #[.agg E6,.bool false]) (by simp [results,results175,go_sem, *]) rfl ⟨⟨_,_,_,_,_,[],rfl,Um _ _⟩,?_⟩
  iterate 6 (refine Yv ?_ (by show _<=w.heap.size+1;omega) _)
  exact uh BB
 obtain rfl:M=TI rs:=by rw [<-uh HM];unfold Cf;rw [uh Hok];rfl
 obtain ⟨r1,r2,r3,r4⟩:=Zj (uh Hok)
 have HP:Hid (∀ r ∈ rs,r.2.length<=1000):=Z9 (fun r hr=>by
  have hrb:=List.all_eq_true.1 r3 r hr;unfold Y8 at hrb;simp only [ZO] at hrb;have:=ZN hrb.2.1
  omega)
 have hmk:∀ X:World,(Instr.makeSlice 30 (.int .i64 (rs.length:Int)) (.int .i64 (rs.length:Int))).run prog X= .ok (.slice (some ⟨X.heap.size,0,none⟩) rs.length rs.length) (X.alloc (.cells (madeCells #[.int .i64 0] rs.length) 2)):=fun X=>run_make_row' 30 2 (.int .i64 0) 8 underlying30 (by kernel_rfl) rfl .i64 .i64 rs.length (by omega) (by omega) X;have Hb12:Hid (1<=ZW rs/\ZW rs<=8):=Z9 ⟨OL (uh Hok),r4⟩;clear r3 r4;have c0:=(uh kb).cell (i:=0) (v:= .slice a rs.length cap) rfl;go_wp2_with fail
 go_cut [4] (fun s wc=> ∃ R hv pv qs,s= .pointer (some ⟨R,0,none⟩)/\NewCut w.heap.size w a rs cap wc R hv pv qs)
 case first=>
  have H:Hid (Nw w w1.drew a rs cap none none none):=Z9 ⟨by have:=(uh kr).lt;show _<=w1.heap.size;omega,(uh Hv).below (Z3 _ _).drew,(uh kb).below (Z3 _ _).drew (uh kb).lt,(uh kr).below (Z3 _ _).drew (uh kr).lt,(uh BB).drew,fun _ _ _ e=>(by cases e),fun _ e=>(by cases e),fun _ e=>(by cases e),fun _ _ _ _ e=>(by cases e),fun _ _ _ _ e=>(by cases e),fun _ _ e=>(by cases e)⟩;refine ZI (S:=(fun w'=>w'.cell? ⟨w.heap.size,0,none⟩=some (.slice a rs.length cap))) (by kernel_rfl) (Wz _ _) (by kernel_rfl) c0 (fun hHeld=> ?_);simp only [WA,WB,YL,YF,Nat.zero_add,Nat.reduceAdd];clear c0 kb kr Hv BB;generalize w1.drew=X0 at *;refine tp 0 ?_;refine tp 2 ?_;refine tp 3 ?_;refine tp 4 ?_;refine wpAnyH_ready (rs:=[1,5,7]) (by kernel_rfl) (by simp) ?_;refine AllReadyH.cons rfl (fun K hK=> ?_) (AllReadyH.cons rfl (fun K hK=> ?_) (AllReadyH.cons rfl (fun K hK=> ?_) (AllReadyH.nil)))
  ·go_simp
   refine ((uh H).copy (by omega) (uh HP)).mono ?_;rintro e9 X1 ⟨ua,uc,qs,rfl,H⟩;refine hK.out _ _ ((uh H).kb.cell (i:=0) rfl) (fun hHeld=> ?_);clear hK K
   (try simp only [Act.put,sA,sZ,sS])
   refine wpAnyH_ready (rs:=[5,7]) (by kernel_rfl) (by simp) ?_;refine AllReadyH.cons rfl (fun K hK=> ?_) (AllReadyH.cons rfl (fun K hK=> ?_) (AllReadyH.nil))
   ·go_simp
    replace H:=Z9 ((uh H).make (by omega));refine hK.out _ _ ((uh H).kb.cell (i:=0) rfl) (fun hHeld=> ?_);clear hK K;generalize X1.alloc (.cells (madeCells #[.int .i64 0] rs.length) 2)=X2 at *;generalize X1.heap.size=g5 at *
    (try simp only [Act.put,sA,sZ,sS])
    refine tp 6 ?_;refine wpAnyH_ready (rs:=[7]) (by kernel_rfl) (by simp) ?_;refine AllReadyH.cons rfl (fun K hK=> ?_) (AllReadyH.nil)
    ·go_simp
     replace H:=Z9 ((uh H).box);refine hK.out _ _ ((uh H).kb.cell (i:=0) rfl) (fun hHeld=> ?_);clear hK K;generalize X2.alloc (.cells E6 32)=X3 at *;generalize X2.heap.size=g7 at *
     (try simp only [Act.put,sA,sZ,sS])
     refine wpAnyH_done (by kernel_rfl) ?_ _;refine ZK rfl rfl ?_;go_simp;have m0:=((uh H).h7 _ rfl).2.cell (i:=0) (v:= .slice none 0 0) rfl;have n0:=((uh H).h7 _ rfl).2.free 0;have m1:=((uh H).h7 _ rfl).2.cell (i:=1) (v:= .slice none 0 0) rfl;have n1:=((uh H).h7 _ rfl).2.free 1;have m2:=((uh H).h7 _ rfl).2.cell (i:=2) (v:= .slice none 0 0) rfl;have n2:=((uh H).h7 _ rfl).2.free 2;have m3:=((uh H).h7 _ rfl).2.cell (i:=3) (v:= .slice none 0 0) rfl;have n3:=((uh H).h7 _ rfl).2.free 3;have m4:=((uh H).h7 _ rfl).2.cell (i:=4) (v:= .slice none 0 0) rfl;have n4:=((uh H).h7 _ rfl).2.free 4;have m5:=((uh H).h7 _ rfl).2.cell (i:=5) (v:= .int .i64 0) rfl;have n5:=((uh H).h7 _ rfl).2.free 5;go_wp2_with fail
     all_goals
      go_meet;exact O3 (uh H)
   ·go_simp
    replace H:=Z9 ((uh H).box);refine hK.out _ _ ((uh H).kb.cell (i:=0) rfl) (fun hHeld=> ?_);clear hK K;generalize X1.alloc (.cells E6 32)=X2 at *;generalize X1.heap.size=g7 at *
    (try simp only [Act.put,sA,sZ,sS])
    refine wpAnyH_ready (rs:=[5]) (by kernel_rfl) (by simp) ?_;refine AllReadyH.cons rfl (fun K hK=> ?_) (AllReadyH.nil)
    ·go_simp
     replace H:=Z9 ((uh H).make (by omega));refine hK.out _ _ ((uh H).kb.cell (i:=0) rfl) (fun hHeld=> ?_);clear hK K;generalize X2.alloc (.cells (madeCells #[.int .i64 0] rs.length) 2)=X3 at *;generalize X2.heap.size=g5 at *
     (try simp only [Act.put,sA,sZ,sS])
     refine tp 6 ?_;refine wpAnyH_done (by kernel_rfl) ?_ _;refine ZK rfl rfl ?_;go_simp;have m0:=((uh H).h7 _ rfl).2.cell (i:=0) (v:= .slice none 0 0) rfl;have n0:=((uh H).h7 _ rfl).2.free 0;have m1:=((uh H).h7 _ rfl).2.cell (i:=1) (v:= .slice none 0 0) rfl;have n1:=((uh H).h7 _ rfl).2.free 1;have m2:=((uh H).h7 _ rfl).2.cell (i:=2) (v:= .slice none 0 0) rfl;have n2:=((uh H).h7 _ rfl).2.free 2;have m3:=((uh H).h7 _ rfl).2.cell (i:=3) (v:= .slice none 0 0) rfl;have n3:=((uh H).h7 _ rfl).2.free 3;have m4:=((uh H).h7 _ rfl).2.cell (i:=4) (v:= .slice none 0 0) rfl;have n4:=((uh H).h7 _ rfl).2.free 4;have m5:=((uh H).h7 _ rfl).2.cell (i:=5) (v:= .int .i64 0) rfl;have n5:=((uh H).h7 _ rfl).2.free 5;go_wp2_with fail
     all_goals
      go_meet;exact O3 (uh H)
  ·go_simp
   replace H:=Z9 ((uh H).make (by omega));refine hK.out _ _ ((uh H).kb.cell (i:=0) rfl) (fun hHeld=> ?_);clear hK K;generalize X0.alloc (.cells (madeCells #[.int .i64 0] rs.length) 2)=X1 at *;generalize X0.heap.size=g5 at *
   (try simp only [Act.put,sA,sZ,sS])
   refine wpAnyH_ready (rs:=[1,7]) (by kernel_rfl) (by simp) ?_;refine AllReadyH.cons rfl (fun K hK=> ?_) (AllReadyH.cons rfl (fun K hK=> ?_) (AllReadyH.nil))
   ·go_simp
    refine ((uh H).copy (by omega) (uh HP)).mono ?_;rintro e9 X2 ⟨ua,uc,qs,rfl,H⟩;refine hK.out _ _ ((uh H).kb.cell (i:=0) rfl) (fun hHeld=> ?_);clear hK K
    (try simp only [Act.put,sA,sZ,sS])
    refine tp 6 ?_;refine wpAnyH_ready (rs:=[7]) (by kernel_rfl) (by simp) ?_;refine AllReadyH.cons rfl (fun K hK=> ?_) (AllReadyH.nil)
    ·go_simp
     replace H:=Z9 ((uh H).box);refine hK.out _ _ ((uh H).kb.cell (i:=0) rfl) (fun hHeld=> ?_);clear hK K;generalize X2.alloc (.cells E6 32)=X3 at *;generalize X2.heap.size=g7 at *
     (try simp only [Act.put,sA,sZ,sS])
     refine wpAnyH_done (by kernel_rfl) ?_ _;refine ZK rfl rfl ?_;go_simp;have m0:=((uh H).h7 _ rfl).2.cell (i:=0) (v:= .slice none 0 0) rfl;have n0:=((uh H).h7 _ rfl).2.free 0;have m1:=((uh H).h7 _ rfl).2.cell (i:=1) (v:= .slice none 0 0) rfl;have n1:=((uh H).h7 _ rfl).2.free 1;have m2:=((uh H).h7 _ rfl).2.cell (i:=2) (v:= .slice none 0 0) rfl;have n2:=((uh H).h7 _ rfl).2.free 2;have m3:=((uh H).h7 _ rfl).2.cell (i:=3) (v:= .slice none 0 0) rfl;have n3:=((uh H).h7 _ rfl).2.free 3;have m4:=((uh H).h7 _ rfl).2.cell (i:=4) (v:= .slice none 0 0) rfl;have n4:=((uh H).h7 _ rfl).2.free 4;have m5:=((uh H).h7 _ rfl).2.cell (i:=5) (v:= .int .i64 0) rfl;have n5:=((uh H).h7 _ rfl).2.free 5;go_wp2_with fail
     all_goals
      go_meet;exact O3 (uh H)
   ·go_simp
    replace H:=Z9 ((uh H).box);refine hK.out _ _ ((uh H).kb.cell (i:=0) rfl) (fun hHeld=> ?_);clear hK K;generalize X1.alloc (.cells E6 32)=X2 at *;generalize X1.heap.size=g7 at *
    (try simp only [Act.put,sA,sZ,sS])
    refine wpAnyH_ready (rs:=[1]) (by kernel_rfl) (by simp) ?_;refine AllReadyH.cons rfl (fun K hK=> ?_) (AllReadyH.nil)
    ·go_simp
     refine ((uh H).copy (by omega) (uh HP)).mono ?_;rintro e9 X3 ⟨ua,uc,qs,rfl,H⟩;refine hK.out _ _ ((uh H).kb.cell (i:=0) rfl) (fun hHeld=> ?_);clear hK K
     (try simp only [Act.put,sA,sZ,sS])
     refine tp 6 ?_;refine wpAnyH_done (by kernel_rfl) ?_ _;refine ZK rfl rfl ?_;go_simp;have m0:=((uh H).h7 _ rfl).2.cell (i:=0) (v:= .slice none 0 0) rfl;have n0:=((uh H).h7 _ rfl).2.free 0;have m1:=((uh H).h7 _ rfl).2.cell (i:=1) (v:= .slice none 0 0) rfl;have n1:=((uh H).h7 _ rfl).2.free 1;have m2:=((uh H).h7 _ rfl).2.cell (i:=2) (v:= .slice none 0 0) rfl;have n2:=((uh H).h7 _ rfl).2.free 2;have m3:=((uh H).h7 _ rfl).2.cell (i:=3) (v:= .slice none 0 0) rfl;have n3:=((uh H).h7 _ rfl).2.free 3;have m4:=((uh H).h7 _ rfl).2.cell (i:=4) (v:= .slice none 0 0) rfl;have n4:=((uh H).h7 _ rfl).2.free 4;have m5:=((uh H).h7 _ rfl).2.cell (i:=5) (v:= .int .i64 0) rfl;have n5:=((uh H).h7 _ rfl).2.free 5;go_wp2_with fail
     all_goals
      go_meet;exact O3 (uh H)
  ·go_simp
   replace H:=Z9 ((uh H).box);refine hK.out _ _ ((uh H).kb.cell (i:=0) rfl) (fun hHeld=> ?_);clear hK K;generalize X0.alloc (.cells E6 32)=X1 at *;generalize X0.heap.size=g7 at *
   (try simp only [Act.put,sA,sZ,sS])
   refine wpAnyH_ready (rs:=[1,5]) (by kernel_rfl) (by simp) ?_;refine AllReadyH.cons rfl (fun K hK=> ?_) (AllReadyH.cons rfl (fun K hK=> ?_) (AllReadyH.nil))
   ·go_simp
    refine ((uh H).copy (by omega) (uh HP)).mono ?_;rintro e9 X2 ⟨ua,uc,qs,rfl,H⟩;refine hK.out _ _ ((uh H).kb.cell (i:=0) rfl) (fun hHeld=> ?_);clear hK K
    (try simp only [Act.put,sA,sZ,sS])
    refine wpAnyH_ready (rs:=[5]) (by kernel_rfl) (by simp) ?_;refine AllReadyH.cons rfl (fun K hK=> ?_) (AllReadyH.nil)
    ·go_simp
     replace H:=Z9 ((uh H).make (by omega));refine hK.out _ _ ((uh H).kb.cell (i:=0) rfl) (fun hHeld=> ?_);clear hK K;generalize X2.alloc (.cells (madeCells #[.int .i64 0] rs.length) 2)=X3 at *;generalize X2.heap.size=g5 at *
     (try simp only [Act.put,sA,sZ,sS])
     refine tp 6 ?_;refine wpAnyH_done (by kernel_rfl) ?_ _;refine ZK rfl rfl ?_;go_simp;have m0:=((uh H).h7 _ rfl).2.cell (i:=0) (v:= .slice none 0 0) rfl;have n0:=((uh H).h7 _ rfl).2.free 0;have m1:=((uh H).h7 _ rfl).2.cell (i:=1) (v:= .slice none 0 0) rfl;have n1:=((uh H).h7 _ rfl).2.free 1;have m2:=((uh H).h7 _ rfl).2.cell (i:=2) (v:= .slice none 0 0) rfl;have n2:=((uh H).h7 _ rfl).2.free 2;have m3:=((uh H).h7 _ rfl).2.cell (i:=3) (v:= .slice none 0 0) rfl;have n3:=((uh H).h7 _ rfl).2.free 3;have m4:=((uh H).h7 _ rfl).2.cell (i:=4) (v:= .slice none 0 0) rfl;have n4:=((uh H).h7 _ rfl).2.free 4;have m5:=((uh H).h7 _ rfl).2.cell (i:=5) (v:= .int .i64 0) rfl;have n5:=((uh H).h7 _ rfl).2.free 5;go_wp2_with fail
     all_goals
      go_meet;exact O3 (uh H)
   ·go_simp
    replace H:=Z9 ((uh H).make (by omega));refine hK.out _ _ ((uh H).kb.cell (i:=0) rfl) (fun hHeld=> ?_);clear hK K;generalize X1.alloc (.cells (madeCells #[.int .i64 0] rs.length) 2)=X2 at *;generalize X1.heap.size=g5 at *
    (try simp only [Act.put,sA,sZ,sS])
    refine wpAnyH_ready (rs:=[1]) (by kernel_rfl) (by simp) ?_;refine AllReadyH.cons rfl (fun K hK=> ?_) (AllReadyH.nil)
    ·go_simp
     refine ((uh H).copy (by omega) (uh HP)).mono ?_;rintro e9 X3 ⟨ua,uc,qs,rfl,H⟩;refine hK.out _ _ ((uh H).kb.cell (i:=0) rfl) (fun hHeld=> ?_);clear hK K
     (try simp only [Act.put,sA,sZ,sS])
     refine tp 6 ?_;refine wpAnyH_done (by kernel_rfl) ?_ _;refine ZK rfl rfl ?_;go_simp;have m0:=((uh H).h7 _ rfl).2.cell (i:=0) (v:= .slice none 0 0) rfl;have n0:=((uh H).h7 _ rfl).2.free 0;have m1:=((uh H).h7 _ rfl).2.cell (i:=1) (v:= .slice none 0 0) rfl;have n1:=((uh H).h7 _ rfl).2.free 1;have m2:=((uh H).h7 _ rfl).2.cell (i:=2) (v:= .slice none 0 0) rfl;have n2:=((uh H).h7 _ rfl).2.free 2;have m3:=((uh H).h7 _ rfl).2.cell (i:=3) (v:= .slice none 0 0) rfl;have n3:=((uh H).h7 _ rfl).2.free 3;have m4:=((uh H).h7 _ rfl).2.cell (i:=4) (v:= .slice none 0 0) rfl;have n4:=((uh H).h7 _ rfl).2.free 4;have m5:=((uh H).h7 _ rfl).2.cell (i:=5) (v:= .int .i64 0) rfl;have n5:=((uh H).h7 _ rfl).2.free 5;go_wp2_with fail
     all_goals
      go_meet;exact O3 (uh H)
 case rest=>
  obtain ⟨R,hv,pv,qs,rfl,hcut⟩:=hcut;obtain ⟨w2,rfl⟩:∃ x,x=wc:=⟨wc,rfl⟩
  obtain ⟨ua,uc,rfl⟩:=hcut.hshape;obtain ⟨pa,pc,rfl⟩:=hcut.pshape;have HC:=Z9 hcut;clear hcut c0 kb kr BB Hv;have Hv:=Z9 ((uh Hv0).below (uh HC).bel);have c0:=(uh HC).kb.cell (i:=0) (v:= .slice a rs.length cap) rfl;go_wp2_with fail;refine ck (TA (uh Hv) (Uk (uh Hok))) fun w3 hb=> ?_;replace HC:=Z9 ((uh HC).below hb);clear hb c0;obtain ⟨n,hn⟩:∃ n:Nat,ZW rs=(n:Int):=⟨(ZW rs).toNat,by have:=(uh Hb12).1;omega⟩
  have hn8:n<=8:=by have:=(uh Hb12).2;omega
  have HnM:Hid (TI rs=⟨rs,[],[],List.replicate n (true,-1,0),List.replicate rs.length 0,0⟩):=Z9 (by unfold TI;rw [hn];rfl);rw [hn];clear hn;go_wp2_with fail
  go_loopw [5] (fun i wr=> ∃ (k:Nat) (u:Value),k<=n/\i= .int .i64 ((n:Int)-(k:Int))/\Blk wr R 32 #[.slice ua rs.length uc,.slice none 0 0,.slice none 0 0,u,.slice pa rs.length pc,.int .i64 0]/\DesksAt (w.heap.size+2) wr u (List.replicate k (true,-1,0))/\NewOff w.heap.size rs wr R (.slice ua rs.length uc) (.slice pa rs.length pc) u qs/\Blk wr (w.heap.size+1) 32 E6/\Below w.heap.size w wr) (fun i _=>(intOf i).toNat)
  case atStart=>exact ⟨0,.slice none 0 0,ZA _,by simp,(uh HC).km,AT _ _,(uh HC).off,(uh HC).kr,(uh HC).bel⟩
  case round=>
   obtain ⟨k,u,hk,rfl,km,hd,hoff,hkr,hbb⟩:=hrel;obtain ⟨da,dc,rfl⟩:=RecAt.shape hd;rw [List.length_replicate] at km hd hoff;have KM:=Z9 km;have HD:=Z9 hd;have HF:=Z9 hoff;have kr:=Z9 hkr;have BB:=Z9 hbb;clear km hd hoff hkr hbb HC;have m3:=(uh KM).cell (i:=3) (v:= .slice da k dc) rfl;have n3:=(uh KM).free 3;have hRlt:=(uh KM).lt;have hRo:=(uh HF).rlo;by_cases hlt:k<n
   ·have hsx:=(uh BB).size
    have hkn:((k:Int)<(n:Int)):=by omega
    have hpos:(0:Int)<(n:Int)-(k:Int):=by omega
    have hbase:w.heap.size+2<=wr.heap.size:=by omega
    obtain ⟨u9,w9,hrun9,hown9,hg9,hat9⟩:=XW tyD (w:=wr.alloc (.cells #[.bool true,.int .i64 (-1),.int .i64 0] 40)) (t:=29) (ty:=29) (base:=w.heap.size+2) underlying29 (RecAt.later (uh HD) ((ba _ _))) (WH (w:=wr) (g:=wr.heap.size) (c:=1) ((true,-1,0):Yg) rfl (Z0 _) (by omega)) (by simp;omega) (by simp;omega);obtain ⟨da9,dc9,rfl⟩:=RecAt.shape hown9;have hlen9:(List.replicate k ((true,-1,0):Yg)++[(true,-1,0)]).length=k+1:=by simp
    rw [hlen9] at hrun9 hown9 hat9;have hrep:List.replicate k ((true,-1,0):Yg)++[(true,-1,0)]=List.replicate (k+1) (true,-1,0):=by rw [List.replicate_succ']
    rw [hrep] at hown9;have HR9:=Z9 hrun9;have HO9:=Z9 hown9;have hRd:(Value.slice da k dc).ownBlock ≠ some R:=(uh HF).rd;have hgo:∀ i,(Value.slice da k dc).ownBlock=some i->w.heap.size+2<=i:=fun i e=>(RecAt.lt (uh HD) e).1;have hb9:Below (w.heap.size+2) wr w9:=((Z3 _ _).alloc hbase _).trans ((Z3 _ _).grown hg9 (by simp;omega) hgo);have KM9:=(((uh KM).alloc (.cells #[.bool true,.int .i64 (-1),.int .i64 0] 40)).same (hg9.block R (by simp;omega) (fun e=>hRd e.symm)))
    have t3:=KM9.cell (i:=3) (v:= .slice da k dc) rfl;have s3:=KM9.free 3;have HF9:=Z9 ((uh HF).grow hg9 hat9);have HKM9:=Z9 (KM9.set 3 (.slice da9 (k+1) dc9));have Hb9:=Z9 hb9;clear hrun9 hown9 hg9 hat9 KM9 hrep hlen9 hgo;go_wp2_with (at_builtin;refine P1 rfl (.tmp 24) (.tmp 26) 29 rfl rfl rfl (uh HR9) ?_)
    go_wp2_with fail;go_roundw
    case rel=>
     refine ⟨k+1,.slice da9 (k+1) dc9,by omega,by go_num,uh HKM9,?_,(uh HF9).set_R _ _,?_,?_⟩
     ·exact RecAt.same (uh HO9) fun i hi=>heap_setCell_other _ _ _ _ (fun e=>by have:=(uh HF9).rd;rw [hi] at this;exact this (by rw [e]))
     ·exact ((uh kr).below (uh Hb9) (by omega)).other (by show w.heap.size+1 ≠ R;omega) _
     ·exact ((uh BB).trans ((uh Hb9).mono (by omega))).setCell (by show _<=R;omega) _
    case measure=>exact ms
   ·obtain rfl:k=n:=by omega
    have hpos:¬ ((0:Int)<(k:Int)-(k:Int)):=by omega
    have m0:=(uh KM).cell (i:=0) (v:= .slice ua rs.length uc) rfl;have m1:=(uh KM).cell (i:=1) (v:= .slice none 0 0) rfl;have m2:=(uh KM).cell (i:=2) (v:= .slice none 0 0) rfl;have m4:=(uh KM).cell (i:=4) (v:= .slice pa rs.length pc) rfl;have m5:=(uh KM).cell (i:=5) (v:= .int .i64 0) rfl;obtain ⟨o0,o1,o2,o3,o4,o5⟩:=(uh kr).c6;obtain ⟨f0,f1,f2,f3,f4,f5⟩:=(uh kr).f6;go_wp2_with fail;refine Zz (v:= .tuple #[.agg #[.slice ua rs.length uc,.slice none 0 0,.slice none 0 0,.slice da k dc,.slice pa rs.length pc,.int .i64 0],.bool true]) (by simp [results,results175,go_sem, *]) rfl ⟨?_,?_⟩
    ·rw [uh HnM]
     refine ⟨_,_,_,_,_,qs,rfl,?_⟩
     iterate 6 (refine FullSmy.set_off ?_ (fun i e=>by have:=((uh HF).full (uh HD)).own e;omega) _ _)
     exact ((uh HF).full (uh HD)).mono (by omega)
    ·iterate 6 (refine Yv ?_ (by show _<=w.heap.size+1;omega) _)
     exact uh BB
end Go.Proofs.YtgdpaigcmoifbaaGreat
namespace Go.Proofs.YtgdpaigcmoifbaaGreat
open Go.ChangeShapes Go.WideShapes Go.ChangeAt Go.RowKit Go.Sort
set_option linter.unusedVariables false
theorem Kg {α:Type} [Inhabited α] {n j:Nat} (x:α) (h:j<n):Z8 (List.replicate n x) j=x:=by
 unfold Z8;simp [List.getD,h]
theorem Cg {rs:List ZY} (h:YW rs=true):((TI rs).dk.length:Int)=ZW rs:=by
 have:=OL h;show (((List.replicate (ZW rs).toNat ((true,-1,0):Yg)).length:Nat):Int)=_;rw [List.length_replicate];omega
theorem GK {rs:List ZY} (gs:List Zs) (h:YW rs=true) (hg:Za gs=true):ZM { TI rs with gd:=gs }=true:=by
 have hb:=OL h;have hd:=Cg h;obtain ⟨r1,r2,r3,r4⟩:=Zj h
 have hdk:∀ j,j<(TI rs).dk.length->Z8 (TI rs).dk j=(true,-1,0):=fun j hj=>Kg _ (by
  have:(TI rs).dk.length=(ZW rs).toNat:=by show (List.replicate _ _).length=_;rw [List.length_replicate]
  omega)
 have hlo:Loose { TI rs with gd:=gs }:=by
  refine ⟨?_,?_,?_,fun i hi=>absurd hi (Nat.not_lt_zero _),fun i hi=>absurd hi (Nat.not_lt_zero _),0,?_,?_⟩
  ·unfold Yx
   simp only [ZO,YZ];exact ⟨h,hg,ZA _,hd,by show (List.replicate _ _).length=_;rw [List.length_replicate];rfl,rfl⟩
  ·intro j hj
   show Vr (Z8 (TI rs).dk j)=true;rw [hdk j hj];rfl
  ·intro j hj
   have hj':j<rs.length:=by
    have:(List.replicate rs.length (0:Int)).length=rs.length:=List.length_replicate ..;have hj2:j<(List.replicate rs.length (0:Int)).length:=hj;omega
   show inB (Z8 (List.replicate rs.length (0:Int)) j) 0 (((ZQ rs j).2.length:Int)-1)=true;rw [Kg _ hj'];have hmem:ZQ rs j ∈ rs:=by unfold ZQ;simp [List.getD,hj']
   have hrb:=List.all_eq_true.1 r3 _ hmem;unfold Y8 at hrb;simp only [ZO] at hrb;have:=ZN hrb.2.1;exact Zn (by omega) (by omega)
  ·show 0<(TI rs).dk.length
   omega
  ·show (Z8 (TI rs).dk 0).1=true
   rw [hdk 0 (by omega)]
 unfold ZM;rw [hlo.mk',Bool.true_and];refine List.all_eq_true.2 fun b hb2=> ?_;have hb3:b<(TI rs).dk.length:=List.mem_range.1 hb2;unfold Yc;show (match XA [] (b:Int) 0 with | none=>false | some (wk,wt)=>(Z8 (TI rs).dk b).2.1 ==wk && !(wt && decide (wk<0)))=true;rw [hdk b hb3];rfl
end Go.Proofs.YtgdpaigcmoifbaaGreat
