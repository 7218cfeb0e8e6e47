/- Part 38 of what the proof rests on. No condition but those that a theorem names. -/
import Derived.Test.YthbbahagpmdooaaGreatXq37
set_option maxHeartbeats 8000000
set_option maxRecDepth 100000
namespace Go.Proofs.YthbbahagpmdooaaGreat
open Go.ChangeShapes Go.WideShapes Go.ChangeAt Go.RowKit Go.Sort
open Draw (St Off Row Cur)
set_option linter.unusedVariables false
variable {w w' w0 w1 w2 w3 w₀ wr W W' X A B C : World} {v v0 v1 v2 v3 v4 u u0 u1 u2 u3 u4 : Value}
def Fy (l:Txt):Bool:=decide (l.length<=1048576) && (YW l).isSome
def FD:Value->Bool
 | .string s=>Fy s.data.toList
 | _=>false
theorem In (cs:Array Value) (j:Nat) (hj:j<cs.size) (h:cs.toList.all FD=true):∃ l,cs[j]?=some (.string (bs l))/\Fy l=true:=by
 rw [Array.all_toList,Array.all_eq_true] at h
 have:=h j hj
 rw [Array.getElem?_eq_getElem hj]
 generalize cs[j]=c at *
 unfold FD at this
 split at this
 ·rename_i s;exact ⟨s.data.toList,by rw [IS],this⟩
 ·cases this
theorem LV (w:World):Calls Tryz.prog 144 #[] w fun e w'=>e= .returned (.slice (some ⟨w.heap.size,0,none⟩) 6 6)/\(∀ j,j<6-> ∃ l,w'.cell? ⟨w.heap.size,j,none⟩=some (.string (bs l))/\Fy l=true)/\Below w.heap.size w w'/\w.heap.size<w'.heap.size:=by
 go_enter Tryz.func144,Tryz.ntmps144
 go_wp2_with fail
 go_ret
 refine ⟨rfl,fun j hj=> ?_,(Below.refl _ _).alloc (Nat.le_refl _) _,by simp⟩
 rw [World.cell?_alloc_new]
 exact In _ j hj (by decide +kernel)
theorem IX {l:Txt} (h:Fy l=true):l.length<=1048576/\(YW l).isSome=true:=by
 unfold Fy at h;simpa using h
theorem JW (a:Option Addr) (len cap bc:Nat) (w:World) (hs:St a len cap bc w) :
  Calls Tryz.prog 104 #[.pointer (some ⟨bc,0,none⟩)] w fun e w'=> ∃ v qs,e= .returned (.agg #[v])/\Zb (qs.map (·.1))=true/\OwnHall w.heap.size w' v qs/\St a len cap bc w'/\Off bc w w':=by
 have Hs:=Z9 hs
 have hbc:=XT hs
 clear hs
 go_enter Tryz.func104,Tryz.ntmps104
 go_wp2_with fail
 refine (LV _).mono ?_
 rintro e w1 ⟨rfl,htx,hb1,hz1⟩
 have hz1':w.heap.size+2<=w1.heap.size:=by simp at hz1;omega
 have B1:Hid (Below w.heap.size w w1):=Z9 (((Below.refl _ _).alloc (Nat.le_refl _) _).trans (hb1.mono (by simp)))
 have x0:w1.cell? ⟨w.heap.size,0,none⟩=some (.slice none 0 0):=(hb1.cell (p:=⟨w.heap.size,0,none⟩) (by simp)).trans (by simp)
 have x1:w1.frozen? ⟨w.heap.size,0,none⟩=false:=(hb1.frozen (p:=⟨w.heap.size,0,none⟩) (by simp)).trans (by rw [frozen?_alloc_cells];exact Ui (Nat.le_refl _))
 have Htx:=Z9 htx
 clear htx hb1
 go_wp2_with fail
 refine (Draw.below_any a len cap bc 6 (by omega) (by omega) _ (XZ (uh Hs) ((uh B1).mono (by omega)))).mono ?_
 rintro e w2 ⟨x,rfl,hx0,hx1,hs2,ho2⟩
 obtain ⟨j,rfl⟩:=Int.eq_ofNat_of_zero_le hx0
 obtain ⟨l,hcl,hgd⟩:=uh Htx j (by omega)
 simp only [World.size_alloc] at hcl
 have hcl2:=(ho2.cell (p:=⟨w.heap.size+1,j,none⟩) (by show w.heap.size+1<_;omega) (by show w.heap.size+1 ≠ _;omega)).trans hcl
 have y0:=(ho2.cell (p:=⟨w.heap.size,0,none⟩) (by show w.heap.size<_;omega) (by show w.heap.size ≠ _;omega)).trans x0
 have y1:w2.frozen? ⟨w.heap.size,0,none⟩=false:=(World.frozen?_of_block (w:=w1) (w':=w2) (ho2.block w.heap.size (by omega) (by omega))).trans x1
 have Hs2:=Z9 hs2
 have Ho2:=Z9 ho2
 have hz2:=ho2.size
 have hll:=(IX hgd).1
 have Hgd:=Z9 (IX hgd).2
 clear hcl hs2 ho2 x0 x1 hgd
 go_wp2_with fail
 refine (RI l _ hll).mono ?_
 rintro e w3 ⟨hgot,hb3⟩
 rcases hgot with ⟨v,qs,rfl,hrd,hown⟩ | ⟨rfl,hrd⟩
 ·obtain ⟨va,vcap,rfl⟩:=hown.shape
  have hz3:=hb3.size
  have z0:=(hb3.cell (p:=⟨w.heap.size,0,none⟩) (by show w.heap.size<_;omega)).trans y0
  have z1:=(hb3.frozen (p:=⟨w.heap.size,0,none⟩) (by show w.heap.size<_;omega)).trans y1
  have Hown:=Z9 hown
  have Hb3:=Z9 hb3
  have Hrd:=Z9 (OL hrd).1
  have hlt3:w.heap.size<w3.heap.size:=by omega
  clear hown hb3 hrd y0 y1
  go_wp2_with fail
  have HB:Below w.heap.size w2 ((w3.setCell ⟨w.heap.size,0,none⟩ (.slice va qs.length vcap)).alloc (.cells #[.slice va qs.length vcap] 26)):=(((uh Hb3).mono (by omega)).setCell (Nat.le_refl w.heap.size) _).alloc (by simp;omega) _
  refine bodyPost_ret (v:= .agg #[.slice va qs.length vcap]) (by simp [results,Tryz.results104,go_sem, *]) rfl ⟨_,qs,rfl,uh Hrd,?_,XZ (uh Hs2) (HB.mono (by omega)),UJ ((UJ (Off.refl bc w) (uh B1)).trans (uh Ho2)) HB⟩
  exact ((((uh Hown).but ((But.refl w.heap.size w3).setCell 0 _) (.inl (by omega))).later ((Below.refl _ _).alloc (Nat.le_refl _) _)).mono (by omega))
 ·exfalso;rw [hrd] at Hgd;exact absurd (uh Hgd) (by simp)
def Ie (rs:List Z0):Z4:=if Zb rs then Vl rs else Yp
def Ef (n₀:Nat) (M:Z4) (q:Bool) (e:Ending) (w':World):Prop:=
 ∃ u0 u1 u2 u3 u4 qs,e= .returned (.tuple #[.agg #[u0,u1,u2,u3,u4,.int .i64 M.now],.bool q])/\FullSmy n₀ w' u0 u1 u2 u3 u4 M qs
theorem Jp:∀ rs:List Z0,rs.all Zp=true->0<=ZZ rs
 | [],_=>by simp [ZZ]
 | r::rs,h=>by
  simp only [List.all_cons,Bool.and_eq_true] at h
  have ih:=Jp rs h.2
  have h1:=h.1
  unfold Zp at h1
  simp only [Bool.and_eq_true] at h1
  have:=ZU h1.1
  simp only [ZZ,List.map_cons,List.sum_cons] at ih ⊢
  omega
theorem Rm {rs:List Z0} (h:Zb rs=true):1<=ZZ rs:=by
 obtain ⟨r1,r2,r3,r4⟩:=Zf h
 match rs,r1,r3 with
 | r::rs,_,h3=>
  simp only [List.all_cons,Bool.and_eq_true] at h3
  have ih:=Jp rs h3.2
  have h1:=h3.1
  unfold Zp at h1
  simp only [Bool.and_eq_true] at h1
  have:=ZU h1.1
  simp only [ZZ,List.map_cons,List.sum_cons] at ih ⊢
  omega
theorem UH {B n:Nat} (hg:B<=w.heap.size) (hn:n<=1000):NumsAt B (w.alloc (.cells (madeCells #[.int .i64 0] n) 2)) (.slice (some ⟨w.heap.size,0,none⟩) n n) (List.replicate n 0):=by
 have hl:(madeCells #[Value.int .i64 0] n).toList=Vn Ug (List.replicate n 0):=by
  have:=Hj YT (by omega) (0:Int) #[Value.int .i64 0] rfl n
  rw [Nat.mul_one] at this
  exact this
 have hsz:(madeCells #[Value.int .i64 0] n).size=n:=by simp [madeCells]
 show (w.alloc _).ownsRow B 2 1 _ (List.replicate n (0:Int)).length _
 rw [List.length_replicate]
 refine ⟨by rw [WC YT,List.length_replicate],.inr ⟨_,n,madeCells #[.int .i64 0] n,rfl,hg,heap_alloc_new w _,Nat.le_refl _,(by unfold maxLen;omega),(by simp [hsz]),?_⟩⟩
 rw [<-hl,Nat.mul_one]
 exact List.take_of_length_le (by rw [Array.length_toList,hsz];exact Nat.le_refl _)
theorem F6 (B:Nat) (w:World):DesksAt B w (.slice none 0 0) []:=World.ownsRow_nil _ _ _ _
structure NewOff (n₀:Nat) (rs:List Z0) (w:World) (R:Nat) (v0 v4 v3:Value) (qs:List (Z0 × Value)):Prop where
 hall:OwnHall (n₀+2) w v0 qs
 rooms:qs.map (·.1)=rs
 nums:NumsAt (n₀+2) w v4 (List.replicate rs.length 0)
 rlo:n₀+2<=R
 rh:∀ k,(v0.ownBlock=some k\/ ∃ q ∈ qs,q.2.ownBlock=some k)->k ≠ R
 rp:v4.ownBlock ≠ some R
 rd:v3.ownBlock ≠ some R
 hp:∀ k,(v0.ownBlock=some k\/ ∃ q ∈ qs,q.2.ownBlock=some k)->v4.ownBlock ≠ some k
 hd:∀ k,(v0.ownBlock=some k\/ ∃ q ∈ qs,q.2.ownBlock=some k)->v3.ownBlock ≠ some k
 pd:∀ k,v4.ownBlock=some k->v3.ownBlock ≠ some k
 rlt:R<w.heap.size
structure NewCut (n₀:Nat) (w:World) (a:Option Addr) (rs:List Z0) (cap:Nat) (wc:World) (R:Nat) (hv pv:Value) (qs:List (Z0 × Value)):Prop where
 off:NewOff n₀ rs wc R hv pv (.slice none 0 0) qs
 km:Blk wc R 32 #[hv,.slice none 0 0,.slice none 0 0,.slice none 0 0,pv,.int .i64 0]
 kb:Blk wc n₀ 26 #[.slice a rs.length cap]
 kr:Blk wc (n₀+1) 32 #[.slice none 0 0,.slice none 0 0,.slice none 0 0,.slice none 0 0,.slice none 0 0,.int .i64 0]
 bel:Below w.heap.size w wc
 hshape:∃ ua uc,hv= .slice ua rs.length uc
 pshape:∃ pa pc,pv= .slice pa rs.length pc
theorem NewOff.below {n₀:Nat} {rs:List Z0} {R:Nat} {qs:List (Z0 × Value)} (h:NewOff n₀ rs w R v0 v4 v3 qs) (hb:Below w.heap.size w w'):NewOff n₀ rs w' R v0 v4 v3 qs:=
 ⟨h.hall.later hb,h.rooms,RecAt.later h.nums hb,h.rlo,h.rh,h.rp,h.rd,h.hp,h.hd,h.pd,Nat.lt_of_lt_of_le h.rlt hb.size⟩
theorem NewCut.below {n₀:Nat} {a:Option Addr} {rs:List Z0} {cap:Nat} {wc w':World} {R:Nat} {hv pv:Value} {qs:List (Z0 × Value)} (h:NewCut n₀ w a rs cap wc R hv pv qs) (hb:Below wc.heap.size wc w'):NewCut n₀ w a rs cap w' R hv pv qs:=
 ⟨h.off.below hb,h.km.below hb h.km.lt,h.kb.below hb h.kb.lt,h.kr.below hb h.kr.lt,h.bel.trans (hb.mono h.bel.size),h.hshape,h.pshape⟩
theorem NewOff.set_R {n₀:Nat} {rs:List Z0} {R:Nat} {qs:List (Z0 × Value)} (h:NewOff n₀ rs w R v0 v4 v3 qs) (o:Nat) (u:Value):NewOff n₀ rs (w.setCell ⟨R,o,none⟩ u) R v0 v4 v3 qs:=
 ⟨h.hall.same2 fun k e=>heap_setCell_other _ _ _ _ (h.rh k e),h.rooms,RecAt.same h.nums fun k e=>heap_setCell_other _ _ _ _ (fun e'=>h.rp (by rw [e];exact congrArg some e')),h.rlo,h.rh,h.rp,h.rd,h.hp,h.hd,h.pd,by simpa using h.rlt⟩
theorem NewOff.grow {n₀:Nat} {rs:List Z0} {R:Nat} {v0 v4 v3 v':Value} {qs:List (Z0 × Value)} {o:Obj} (h:NewOff n₀ rs w R v0 v4 v3 qs) (hg:(w.alloc o).grownBy w' v3.ownBlock) (hat:v'.ownBlock=v3.ownBlock\/v'.ownBlock=some (w.alloc o).heap.size):NewOff n₀ rs w' R v0 v4 v' qs:=by
 have hk:∀ k,k<w.heap.size->v3.ownBlock ≠ some k->w'.heap[k]?=w.heap[k]?:=fun k hk hn=>(hg.block k (by simp;omega) (fun e=>hn e.symm)).trans (Below.heap_alloc w o k hk)
 have hv:∀ k,k<w.heap.size->v3.ownBlock ≠ some k->v'.ownBlock ≠ some k:=fun k hlt hn e=>by
  rcases hat with e' | e'
  ·exact hn (by rw [<-e'];exact e)
  ·rw [e'] at e
   simp at e
   omega
 have hs:w.heap.size<=w'.heap.size:=by have:=hg.size;simp at this;omega
 refine ⟨h.hall.same2 fun k e=>hk k (h.hall.lt e).2 (h.hd k e),h.rooms,RecAt.same h.nums fun k e=>hk k (RecAt.lt h.nums e).2 (h.pd k e),h.rlo,h.rh,h.rp,hv R h.rlt h.rd,h.hp,fun k e=>hv k (h.hall.lt e).2 (h.hd k e),fun k e=>hv k (RecAt.lt h.nums e).2 (h.pd k e),by have:=h.rlt;omega⟩
theorem NewOff.full {n₀:Nat} {rs:List Z0} {R:Nat} {qs:List (Z0 × Value)} {ds:List Yl} (h:NewOff n₀ rs w R v0 v4 v3 qs) (hd:DesksAt (n₀+2) w v3 ds):FullSmy (n₀+2) w v0 (.slice none 0 0) (.slice none 0 0) v3 v4 ⟨rs,[],[],ds,List.replicate rs.length 0,0⟩ qs:=by
 have hz:∀ u:Value,OZ (.slice none 0 0) u:=fun u b e=>by cases e
 have hz2:∀ u:Value,OZ u (.slice none 0 0):=fun u b e e'=>by cases e'
 exact ⟨h.hall,h.rooms,World.ownsRow_nil _ _ _ _,World.ownsRow_nil _ _ _ _,hd,h.nums,⟨hz _,fun q hq=>hz _⟩,⟨hz _,fun q hq=>hz _⟩,⟨fun b e e'=>h.hd b (.inl e') e,fun q hq b e e'=>h.hd b (.inr ⟨q,hq,e'⟩) e⟩,⟨fun b e e'=>h.hp b (.inl e') e,fun q hq b e e'=>h.hp b (.inr ⟨q,hq,e'⟩) e⟩,hz _,hz _,hz _,hz _,hz _,fun b e e'=>h.pd b e' e⟩
theorem Td {a:Option Addr} {rs:List Z0} {cap R g uc:Nat} {ua:Option Addr} {qs:List (Z0 × Value)} (hlo:w.heap.size+2<=R) (bel:Below w.heap.size w X) (kb:Blk X w.heap.size 26 #[.slice a rs.length cap]) (kr:Blk X (w.heap.size+1) 32 #[.slice none 0 0,.slice none 0 0,.slice none 0 0,.slice none 0 0,.slice none 0 0,.int .i64 0])
  (hh:OwnHall (w.heap.size+2) X (.slice ua rs.length uc) qs) (hn:NumsAt (w.heap.size+2) X (.slice (some ⟨g,0,none⟩) rs.length rs.length) (List.replicate rs.length 0)) (km:Blk X R 32 #[.slice none 0 0,.slice none 0 0,.slice none 0 0,.slice none 0 0,.slice none 0 0,.int .i64 0]) (hgl:w.heap.size+2<=g)
  (h15:∀ k,((Value.slice ua rs.length uc).ownBlock=some k\/ ∃ q ∈ qs,q.2.ownBlock=some k)->k ≠ g) (h17:∀ k,((Value.slice ua rs.length uc).ownBlock=some k\/ ∃ q ∈ qs,q.2.ownBlock=some k)->k ≠ R) (h57:R ≠ g) (hq:qs.map (·.1)=rs) :
  ∃ R' hv pv qs',Value.pointer (some ⟨R,0,none⟩)= .pointer (some ⟨R',0,none⟩)/\NewCut w.heap.size w a rs cap ((((((X.setCell ⟨R,0,none⟩ (.slice ua rs.length uc)).setCell ⟨R,1,none⟩ (.slice none 0 0)).setCell ⟨R,2,none⟩ (.slice none 0 0)).setCell ⟨R,3,none⟩ (.slice none 0 0)).setCell ⟨R,4,none⟩ (.slice (some ⟨g,0,none⟩) rs.length rs.length)).setCell ⟨R,5,none⟩ (.int .i64 0)) R' hv pv qs':=by
 refine ⟨R,.slice ua rs.length uc,.slice (some ⟨g,0,none⟩) rs.length rs.length,qs,rfl,?_⟩
 have ho:NewOff w.heap.size rs X R (.slice ua rs.length uc) (.slice (some ⟨g,0,none⟩) rs.length rs.length) (.slice none 0 0) qs:=⟨hh,hq,hn,hlo,h17,fun e=>(by cases e;exact h57 rfl),fun e=>(by cases e),fun k e e'=>(by cases e';exact h15 _ e rfl),fun k e e'=>(by cases e'),fun k e e'=>(by cases e'),km.lt⟩
 have k1:=((((((km.set 0 (.slice ua rs.length uc)).set 1 (.slice none 0 0)).set 2 (.slice none 0 0)).set 3 (.slice none 0 0)).set 4 (.slice (some ⟨g,0,none⟩) rs.length rs.length)).set 5 (.int .i64 0))
 refine ⟨(((((ho.set_R _ _).set_R _ _).set_R _ _).set_R _ _).set_R _ _).set_R _ _,k1,?_,?_,?_,⟨_,_,rfl⟩,⟨_,_,rfl⟩⟩
 ·iterate 6 (refine Blk.other ?_ (by show w.heap.size ≠ R;omega) _)
  exact kb
 ·iterate 6 (refine Blk.other ?_ (by show w.heap.size+1 ≠ R;omega) _)
  exact kr
 ·iterate 6 (refine Below.setCell ?_ (by show _<=R;omega) _)
  exact bel
theorem Sv {ops:Array Oper} {rest:List Oper} {o:Oper} {a:Act} {Q:Exit->Act->World->Prop} (hgd:o.guard=none) (s x:Operand) (t:TypeId)
  (ho:o.op= .call { callee:= .builtin .append,args:=#[s,x],argTypes:=#[t,t] }) {v u v':Value} {w':World} (hs:a.eval s=v) (hx:a.eval x=u) (hrun:(Builtin.append_ #[t,t] o.type #[v,u]).run Tryz.prog w= .ok v' w')
  (h:wpList Tryz.prog ops Q rest (a.put o.dst v') w'):wpList Tryz.prog ops Q (o::rest) a w:=by
 refine wpList_plain hgd fun K hK=> ?_
 unfold Oper.wp execOp
 simp only [ho,resolve,invoke,builtin,Sem.run_bind,Sem.run_pure,Result.andThen_ok,List.map_toArray,List.map_cons,List.map_nil,hs,hx,hrun]
 exact hK _ _ h
end Go.Proofs.YthbbahagpmdooaaGreat
