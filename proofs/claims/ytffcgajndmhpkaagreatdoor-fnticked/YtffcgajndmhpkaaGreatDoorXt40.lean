/- Part 40 of what the proof rests on. No condition but those that a theorem names. -/
import Derived.Test.YtffcgajndmhpkaaGreatDoorXt38
import Derived.Test.YtffcgajndmhpkaaGreatDoorXt39
import Derived.Deep.RegionHeld
set_option maxHeartbeats 8000000
set_option maxRecDepth 100000
namespace Go.Proofs.YtffcgajndmhpkaaGreatDoor
open Go.ChangeShapes Go.WideShapes Go.ChangeAt Go.RowKit Go.Sort
open Draw (St Off Row Cur)
set_option linter.unusedVariables false
set_option linter.unusedSimpArgs false
set_option maxRecDepth 100000
theorem OO {w:World} {lb:Nat} {t:TypeId} {cs:Array Value} {j:Int} (h:Blk w lb t cs) (h0:0<=j) (h1:j<(cs.size:Int)) (hz:cs.toList.all Draw.isI64=true):∃ v,w.cell? ⟨lb,j.toNat,none⟩=some (.int .i64 v):=by
 obtain ⟨v,hv⟩:=Draw.pick_any cs j.toNat (by omega) hz
 exact ⟨v,h.cell hv⟩
structure Ebox (a:Option Addr) (len cap bc:Nat) (w0 w:World) (mb:Nat) (M:Z6) (u0 u1 u2 u3 u4:Value) (rq:List (Z2 × Value)):Prop where
 st:St a len cap bc w
 off:Off bc w0 w
 full:FullSmy (w0.heap.size+1) w u0 u1 u2 u3 u4 M rq
 kb:Blk w mb 32 #[u0,u1,u2,u3,u4,.int .i64 M.now]
 kr:Blk w w0.heap.size 32 E6
 own:∀ k,Xb u0 u1 u2 u3 u4 rq k->k ≠ mb
 mlo:w0.heap.size+1<=mb
 bl:bc<w0.heap.size
section
variable {a : Option Addr} {len cap bc : Nat} {w0 w w1 w' : World} {mb : Nat} {M : Z6} {u0 u1 u2 u3 u4 : Value} {rq : List (Z2 × Value)}
theorem Ebox.step (h:Ebox a len cap bc w0 w mb M u0 u1 u2 u3 u4 rq) (hs:St a len cap bc w') (ho:Off bc w w'):Ebox a len cap bc w0 w' mb M u0 u1 u2 u3 u4 rq:=
 have hb:=h.bl
 have hm:=h.mlo
 ⟨hs,h.off.trans ho,h.full.away ho (by omega),h.kb.away ho (by omega),h.kr.away ho (by omega),h.own,h.mlo,h.bl⟩
theorem Ebox.below (h:Ebox a len cap bc w0 w mb M u0 u1 u2 u3 u4 rq) (hb:Below w.heap.size w w'):Ebox a len cap bc w0 w' mb M u0 u1 u2 u3 u4 rq:=
 h.step (Yh h.st (hb.mono (WR h.st))) (SA hb)
theorem Ebox.drew (h:Ebox a len cap bc w0 w mb M u0 u1 u2 u3 u4 rq):Ebox a len cap bc w0 w.drew mb M u0 u1 u2 u3 u4 rq:=h.below (Below.refl _ _).drew
theorem Ebox.putD {g n c:Nat} (h:Ebox a len cap bc w0 w mb M u0 u1 u2 (.slice (some ⟨g,0,none⟩) n c) u4 rq) (hn:n=M.desks.length) {j i:Nat} (hj:j<M.desks.length) (hi:i<3) (u:Value) (x:Yq) (hx:XA x=(XA (Z8 M.desks j)).set i u):Ebox a len cap bc w0 (w.setCell ⟨g,j*3+i,none⟩ u) mb { M with desks:=M.desks.set j x } u0 u1 u2 (.slice (some ⟨g,0,none⟩) n c) u4 rq:=by
 have hb:=h.bl
 have hg:=(h.full.own (k:=g) (.inr (.inr (.inr (.inr (.inl rfl)))))).1
 have hgm:=h.own g (.inr (.inr (.inr (.inr (.inl rfl)))))
 exact ⟨St.newer h.st (by omega) _ _,Off.newer h.off (by omega) _ _,h.full.putD hn hj hi u x hx,h.kb.other (by show mb ≠ g;omega) _,h.kr.other (by show w0.heap.size ≠ g;omega) _,h.own,h.mlo,h.bl⟩
theorem Ebox.putP {g n c:Nat} (h:Ebox a len cap bc w0 w mb M u0 u1 u2 u3 (.slice (some ⟨g,0,none⟩) n c) rq) (hn:n=M.paces.length) {j:Nat} (hj:j<M.paces.length) (x:Int):Ebox a len cap bc w0 (w.setCell ⟨g,j,none⟩ (.int .i64 x)) mb { M with paces:=M.paces.set j x } u0 u1 u2 u3 (.slice (some ⟨g,0,none⟩) n c) rq:=by
 have hb:=h.bl
 have hg:=(h.full.own (k:=g) (.inr (.inr (.inr (.inr (.inr rfl)))))).1
 have hgm:=h.own g (.inr (.inr (.inr (.inr (.inr rfl)))))
 exact ⟨St.newer h.st (by omega) _ _,Off.newer h.off (by omega) _ _,h.full.putP hn hj x,h.kb.other (by show mb ≠ g;omega) _,h.kr.other (by show w0.heap.size ≠ g;omega) _,h.own,h.mlo,h.bl⟩
theorem Ebox.now (h:Ebox a len cap bc w0 w mb M u0 u1 u2 u3 u4 rq) (t:Int):Ebox a len cap bc w0 (w.setCell ⟨mb,5,none⟩ (.int .i64 t)) mb { M with now:=t } u0 u1 u2 u3 u4 rq:=by
 have hb:=h.bl
 have hm:=h.mlo
 have f:=h.full.set_off h.own 5 (.int .i64 t)
 exact ⟨St.newer h.st (by omega) _ _,Off.newer h.off (by omega) _ _,⟨f.hall,f.rooms,f.guilds,f.smiths,f.desks,f.paces,f.h1,f.h2,f.h3,f.h4,f.a12,f.a13,f.a14,f.a23,f.a24,f.a34⟩,h.kb.set 5 _,h.kr.other (by show w0.heap.size ≠ mb;omega) _,h.own,h.mlo,h.bl⟩
theorem Ebox.guilds (h:Ebox a len cap bc w0 w mb M u0 u1 u2 u3 u4 rq) {g:Value} {gs:List ZA} (hs:St a len cap bc w') (ho:Off bc w w') (hg:GuildsAt w.heap.size w' g gs):Ebox a len cap bc w0 (w'.setCell ⟨mb,1,none⟩ g) mb { M with guilds:=gs } u0 g u2 u3 u4 rq:=by
 have hb:=h.bl
 have hm:=h.mlo
 have hml:=h.kb.lt
 have hz:=h.off.size
 have hE:=h.step hs ho
 have f:=h.full.newG ho (by omega) hg (Nat.le_refl _) (by omega)
 have hown:∀ k,Xb u0 g u2 u3 u4 rq k->k ≠ mb:=fun k e=>by
  rcases e with e | e | e | e | e | e
  ·exact h.own k (.inl e)
  ·exact h.own k (.inr (.inl e))
  ·have:=(RecAt.lt hg e).1;omega
  ·exact h.own k (.inr (.inr (.inr (.inl e))))
  ·exact h.own k (.inr (.inr (.inr (.inr (.inl e)))))
  ·exact h.own k (.inr (.inr (.inr (.inr (.inr e)))))
 exact ⟨St.newer hs (by omega) _ _,Off.newer hE.off (by omega) _ _,f.set_off hown 1 g,hE.kb.set 1 _,hE.kr.other (by show w0.heap.size ≠ mb;omega) _,hown,h.mlo,h.bl⟩
theorem Ebox.push (h:Ebox a len cap bc w0 w mb M u0 u1 u2 u3 u4 rq) {u:Value} {x:Z3} (hb1:Below w.heap.size w w1) (hg:w1.grownBy w' u2.ownBlock) (hat:u.ownBlock=u2.ownBlock\/u.ownBlock=some w1.heap.size) (hr:SmithsAt (w0.heap.size+1) w' u (M.smiths++[x])) :
  Blk w' mb 32 #[u0,u1,u2,u3,u4,.int .i64 M.now]/\Ebox a len cap bc w0 (w'.setCell ⟨mb,2,none⟩ u) mb (pushS M x) u0 u1 u u3 u4 rq:=by
 have hb:=h.bl
 have hm:=h.mlo
 have hz:=h.off.size
 have hz1:=hb1.size
 have hml:=h.kb.lt
 have h2:∀ k,u2.ownBlock=some k->w0.heap.size+1<=k/\k<w.heap.size/\k ≠ mb:=fun k e=>⟨(h.full.own (.inr (.inr (.inr (.inl e))))).1,(h.full.own (.inr (.inr (.inr (.inl e))))).2,h.own k (.inr (.inr (.inr (.inl e))))⟩
 have hB:Below (w0.heap.size+1) w w':=(hb1.mono (by omega)).trans ((Below.refl _ _).grown hg (by omega) (fun k e=>(h2 k e).1))
 have f:=h.full.pushS hb1 hg hat hr
 have kb1:Blk w' mb 32 #[u0,u1,u2,u3,u4,.int .i64 M.now]:=(h.kb.below hb1 hml).same (hg.block mb (by omega) (fun e=>(h2 mb e.symm).2.2 rfl))
 have hown:∀ k,Xb u0 u1 u u3 u4 rq k->k ≠ mb:=fun k e=>by
  rcases e with e | e | e | e | e | e
  ·exact h.own k (.inl e)
  ·exact h.own k (.inr (.inl e))
  ·exact h.own k (.inr (.inr (.inl e)))
  ·rcases hat with e' | e'
   ·exact (h2 k (e'.symm.trans e)).2.2
   ·have:=Option.some.inj (e'.symm.trans e);omega
  ·exact h.own k (.inr (.inr (.inr (.inr (.inl e)))))
  ·exact h.own k (.inr (.inr (.inr (.inr (.inr e)))))
 have ho:Off bc w0 w':=⟨hB.os.trans h.off.os,hB.tape.trans h.off.tape,hB.output.trans h.off.output,Nat.le_trans hz hB.size,fun k hk hn=>(hB.block k (by omega)).trans (h.off.block k hk hn)⟩
 exact ⟨kb1,St.newer (Yh h.st (hB.mono (by omega))) (by omega) _ _,Off.newer ho (by omega) _ _,f.set_off hown 2 u,kb1.set 2 _,(h.kr.below hB (by omega)).other (by show w0.heap.size ≠ mb;omega) _,hown,h.mlo,h.bl⟩
end
theorem Oz (a:Option Addr) (len cap bc:Nat) (w:World) (hs:St a len cap bc w) :
  Calls Tryz.prog 31 #[.pointer (some ⟨bc,0,none⟩)] w fun e w'=> ∃ M u0 u1 u2 u3 u4 rq,e= .returned (.agg #[u0,u1,u2,u3,u4,.int .i64 M.now])/\(M.smiths.length<=1000/\M.rooms.length<=1000)/\(M.desks.length<=1000/\1<=M.desks.length/\M.desks.length<=8/\1<=M.rooms.length)/\FullSmy (w.heap.size+1) w' u0 u1 u2 u3 u4 M rq/\St a len cap bc w'/\Off bc w w':=by
 have Hs:=Z9 hs
 have hbc:=WR hs
 clear hs
 go_enter Tryz.func31,Tryz.ntmps31
 go_wp2_with fail
 have kr:Hid (Blk (w.alloc (.cells E6 32)) w.heap.size 32 E6):=Z9 (Blk.new _ _ _)
 have HO:Hid (Off bc w (w.alloc (.cells E6 32))):=Z9 ((Off.refl _ _).alloc _)
 replace Hs:Hid (St a len cap bc (w.alloc (.cells E6 32))):=Z9 ((uh Hs).alloc _)
 have hzW:w.heap.size+1<=(w.alloc (.cells E6 32)).heap.size:=by simp
 generalize w.alloc (.cells E6 32)=W at *
 refine (JU a len cap bc _ (uh Hs)).mono ?_
 rintro e w1 ⟨M,u0,u1,u2,u3,u4,rq,rfl,ok1,hf,s9,p9⟩
 have k6:=hf.smy
 obtain ⟨b0,q0,b1,q1,b2,q2,b3,q3,b4,q4,rfl,rfl,rfl,rfl,rfl,_,_,_,_,_,_,_,_,_,_⟩:=k6.five
 have HE:Hid (Ebox a len cap bc w (w1.alloc (.cells (S6 b0 q0 b1 q1 b2 q2 b3 q3 b4 q4 M) 32)) w1.heap.size M (.slice b0 M.rooms.length q0) (.slice b1 M.guilds.length q1) (.slice b2 M.smiths.length q2) (.slice b3 M.desks.length q3) (.slice b4 M.paces.length q4) rq):=Z9 ⟨s9.alloc _,((uh HO).trans p9).alloc _,(hf.mono (by omega)).below ((ba _ _)),Blk.new _ _ _,((uh kr).away p9 (by omega)).alloc _,fun k e=>by have:=(hf.own e).2;omega,by have:=p9.size;omega,hbc⟩
 have Hok:=Z9 ok1
 clear k6 hf s9 p9 HO kr Hs ok1 hzW
 go_upto_region 2 with fail
 generalize w1.alloc (.cells (S6 b0 q0 b1 q1 b2 q2 b3 q3 b4 q4 M) 32)=W1 at *
 generalize w1.heap.size=mb at *
 go_wp2_with fail
 refine (Draw.once_any a len cap bc 8 (by omega) (by omega) _ (uh HE).st).mono ?_
 rintro e w2 ⟨bq,rfl,s9,p9⟩
 replace HE:=Z9 ((uh HE).step s9 p9)
 clear s9 p9
 go_upto_if 8 with fail
 go_cut [] (fun wc=> ∃ M u0 u1 u2 u3 u4 rq,((M.smiths.length<=1000/\M.rooms.length<=1000)/\(M.desks.length<=1000/\1<=M.desks.length/\M.desks.length<=8/\1<=M.rooms.length))/\Ebox a len cap bc w wc mb M u0 u1 u2 u3 u4 rq)
 case first=>
  have hlo:=ZT (uh Hok)
  have g3p:1<=M.desks.length:=by obtain ⟨j,hj,_⟩:=hlo.openD;omega
  have g3q:=Xg hlo
  have g4p:1<=M.paces.length:=QT hlo
  have g4q:=Uv hlo
  have g2q:=Za hlo
  have g0q:M.rooms.length<=3:=(Zo hlo.sane.hall).2.1
  have g0p:1<=M.rooms.length:=(Zo hlo.sane.hall).1
  clear hlo
  cases bq
  ·go_wp2_with fail
   go_meet
   exact ⟨_,_,_,_,_,_,_,⟨by omega,by omega⟩,uh HE⟩
  go_wp2_with fail
  refine (Draw.below_any a len cap bc 7 (by omega) (by omega) _ (uh HE).st).mono ?_
  rintro e w3 ⟨y,rfl,y0,y1,s9,p9⟩
  replace HE:=Z9 ((uh HE).step s9 p9)
  clear s9 p9
  rcases (show y=0\/y=1\/y=2\/y=3\/y=4\/y=5\/y=6 by omega) with rfl | rfl | rfl | rfl | rfl | rfl | rfl
  ·
   clear y0 y1
   have x2:=(uh HE).kb.cell (i:=2) (v:= .slice b2 M.smiths.length q2) rfl
   go_wp2_with fail
   refine ZR (S:=fun w'=>w'.cell? ⟨mb,2,none⟩=some (.slice b2 M.smiths.length q2)) (by kernel_rfl) (List.cons_ne_nil _ _) (by kernel_rfl) x2 (fun hHeld=> ?_)
   simp only [List.dropLast_cons_cons,List.dropLast_singleton,List.length_cons,List.length_nil,Nat.zero_add,Nat.reduceAdd]
   (refine tq 0 ?_;(try simp only [Act.put,sA,sZ,sS]))
   (refine tq 1 ?_;(try simp only [Act.put,sA,sZ,sS]))
   (refine tq 2 ?_;(try simp only [Act.put,sA,sZ,sS]))
   refine rd 3 rfl (fun K hK=> ?_)
   go_simp
   refine (Nm a len cap bc _ (RQ (uh HE).st)).mono ?_
   rintro e9 w5 ⟨⟨t0,t1,t2,t3,t4,t5,t6,t7,t8,t9,t10⟩,rfl,s9,p9⟩
   replace HE:=Z9 ((uh HE).step s9 (Tk p9))
   clear s9 p9 x2
   simp only [ZX]
   refine hK.out _ _ ((uh HE).kb.cell (i:=2) rfl) (fun hHeld=> ?_)
   clear hK K
   (try simp only [Act.put,sA,sZ,sS])
   refine rd 4 rfl (fun K hK=> ?_)
   go_simp
   have hba:Below w5.heap.size w5 (w5.alloc (.cells (I11 t0 t1 t2 t3 t4 t5 t6 t7 t8 t9 t10) 39)):=ba _ _
   refine hK.out _ _ (((uh HE).below hba).kb.cell (i:=2) rfl) (fun hHeld=> ?_)
   clear hK K
   (try simp only [Act.put,sA,sZ,sS])
   obtain ⟨u9,w9,hrun,hown9,hg9,hat9⟩:=WZ tyS (w:=w5.alloc (.cells (I11 t0 t1 t2 t3 t4 t5 t6 t7 t8 t9 t10) 39)) (t:=28) (ty:=28) Tryz.underlying28 (RecAt.later (uh HE).full.smiths hba) (V9 (t0,t1,t2,t3,t4,t5,t6,t7,t8,t9,t10) (g:=w5.heap.size) (c:=1) rfl (Nat.le_refl _) (by omega)) (by simp;omega) (by have:=(uh HE).off.size;have:=(uh HE).kr.lt;simp;omega)
   obtain ⟨kb9,E9⟩:=(uh HE).push hba hg9 hat9 hown9
   have R9:=Z9 hrun
   have HP:=Z9 E9
   have K9:=Z9 kb9
   obtain ⟨ua,uc,hu9⟩:=RecAt.shape hown9
   obtain ⟨n9,hn9⟩:∃ q,q=(M.smiths++[(t0,t1,t2,t3,t4,t5,t6,t7,t8,t9,t10)]).length:=⟨_,rfl⟩
   rw [<-hn9] at hu9
   subst hu9
   clear hrun E9 kb9 hown9 hg9 hat9 hn9
   refine rd 5 rfl (fun K hK=> ?_)
   refine Xa rfl (.tmp 14) (.tmp 17) 28 rfl rfl rfl (uh R9) ?_
   refine hK.out _ _ ((uh K9).cell (i:=2) rfl) (fun hHeld=> ?_)
   clear hK K
   (try simp only [Act.put,sA,sZ,sS])
   (refine tq 6 ?_;(try simp only [Act.put,sA,sZ,sS]))
   have x2:=(uh K9).cell (i:=2) (v:= .slice b2 M.smiths.length q2) rfl
   have f2:=(uh K9).free 2
   clear hba
   refine wpAnyH_done (by kernel_rfl) ?_ _
   refine ZE rfl rfl ?_
   go_simp
   clear hHeld
   go_wp2_with fail
   go_meet
   refine ⟨_,_,_,_,_,_,_,?_,by first | exact uh HP | exact (uh HP).drew⟩
   constructor<;>(first | omega | (simp only [pushS,List.length_set,List.length_append,List.length_cons,List.length_nil];omega))
  ·
   clear y0 y1
   obtain ⟨g3,hga,_,_,_,_⟩:=RecAt.view ZF (by omega) (uh HE).full.desks rfl (by omega)
   cases hga
   have x3:=(uh HE).kb.cell (i:=3) (v:= .slice (some ⟨g3,0,none⟩) M.desks.length q3) rfl
   go_wp2_with fail
   clear x3
   refine (Draw.below_any a len cap bc (M.desks.length:Int) (by omega) (by omega) _ (uh HE).st).mono ?_
   rintro e w4 ⟨kk,rfl,k0,k1,s9,p9⟩
   replace HE:=Z9 ((uh HE).step s9 p9)
   clear s9 p9
   obtain ⟨kn,rfl⟩:∃ kn:Nat,kk=(kn:Int):=⟨kk.toNat,by omega⟩
   have x3:=(uh HE).kb.cell (i:=3) (v:= .slice (some ⟨g3,0,none⟩) M.desks.length q3) rfl
   go_wp2_with fail
   refine ZR (S:=fun w'=>w'.cell? ⟨mb,3,none⟩=some (.slice (some ⟨g3,0,none⟩) M.desks.length q3)) (by kernel_rfl) (List.cons_ne_nil _ _) (by kernel_rfl) x3 (fun hHeld=> ?_)
   simp only [List.dropLast_cons_cons,List.dropLast_singleton,List.length_cons,List.length_nil,Nat.zero_add,Nat.reduceAdd]
   (refine tq 0 ?_;(try simp only [Act.put,sA,sZ,sS]))
   (refine tq 1 ?_;(try simp only [Act.put,sA,sZ,sS]))
   (refine tq 2 ?_;(try simp only [Act.put,sA,sZ,sS]))
   (refine tq 3 ?_;(try simp only [Act.put,sA,sZ,sS]))
   refine rd 4 rfl (fun K hK=> ?_)
   go_simp
   refine (Draw.from_any a len cap bc (-2) 4 (by omega) (by omega) (by omega) _ (RQ (uh HE).st)).mono ?_
   rintro e9 w5 ⟨v1,rfl,v10,v11,s9,p9⟩
   replace HE:=Z9 ((uh HE).step s9 (Tk p9))
   clear s9 p9 x3
   refine hK.out _ _ ((uh HE).kb.cell (i:=3) rfl) (fun hHeld=> ?_)
   clear hK K
   (try simp only [Act.put,sA,sZ,sS])
   (refine tq 5 ?_;(try simp only [Act.put,sA,sZ,sS]))
   (refine tq 6 ?_;(try simp only [Act.put,sA,sZ,sS]))
   obtain ⟨_,hga,_,_,hc3,hz3⟩:=RecAt.view ZF (by omega) (uh HE).full.desks rfl (by omega)
   cases hga
   have dd:=hc3 kn (by omega) 1 _ rfl
   have df:=hz3 (kn*3+1)
   clear hc3 hz3
   refine wpAnyH_done (by kernel_rfl) ?_ _
   refine ZE rfl rfl ?_
   go_simp
   clear hHeld
   go_wp2_with fail
   go_meet
   refine ⟨_,_,_,_,_,_,_,?_,by first | exact (uh HE).putD rfl (j:=kn) (i:=1) (by omega) (by omega) (.int .i64 v1) ((Z8 M.desks kn).1,v1,(Z8 M.desks kn).2.2) rfl | exact ((uh HE).putD rfl (j:=kn) (i:=1) (by omega) (by omega) (.int .i64 v1) ((Z8 M.desks kn).1,v1,(Z8 M.desks kn).2.2) rfl).drew⟩
   constructor<;>(first | omega | (simp only [pushS,List.length_set,List.length_append,List.length_cons,List.length_nil];omega))
  ·
   clear y0 y1
   obtain ⟨g3,hga,_,_,_,_⟩:=RecAt.view ZF (by omega) (uh HE).full.desks rfl (by omega)
   cases hga
   have x3:=(uh HE).kb.cell (i:=3) (v:= .slice (some ⟨g3,0,none⟩) M.desks.length q3) rfl
   go_wp2_with fail
   refine ZR (S:=fun w'=>w'.cell? ⟨mb,3,none⟩=some (.slice (some ⟨g3,0,none⟩) M.desks.length q3)) (by kernel_rfl) (List.cons_ne_nil _ _) (by kernel_rfl) x3 (fun hHeld=> ?_)
   simp only [List.dropLast_cons_cons,List.dropLast_singleton,List.length_cons,List.length_nil,Nat.zero_add,Nat.reduceAdd]
   (refine tq 0 ?_;(try simp only [Act.put,sA,sZ,sS]))
   (refine tq 1 ?_;(try simp only [Act.put,sA,sZ,sS]))
   (refine tq 2 ?_;(try simp only [Act.put,sA,sZ,sS]))
   (refine tq 3 ?_;(try simp only [Act.put,sA,sZ,sS]))
   (refine tq 4 ?_;(try simp only [Act.put,sA,sZ,sS]))
   refine rd 5 rfl (fun K hK=> ?_)
   go_simp
   refine hK.out _ _ hHeld (fun hHeld=> ?_)
   clear hK K
   (try simp only [Act.put,sA,sZ,sS])
   refine rd 6 rfl (fun K hK=> ?_)
   go_simp
   refine (Draw.below_any a len cap bc (M.desks.length:Int) (by omega) (by omega) _ (RQ (uh HE).st)).mono ?_
   rintro e9 w5 ⟨kk,rfl,k0,k1,s9,p9⟩
   replace HE:=Z9 ((uh HE).step s9 (Tk p9))
   clear s9 p9 x3
   obtain ⟨kn,rfl⟩:∃ kn:Nat,kk=(kn:Int):=⟨kk.toNat,by omega⟩
   refine hK.out _ _ ((uh HE).kb.cell (i:=3) rfl) (fun hHeld=> ?_)
   clear hK K
   (try simp only [Act.put,sA,sZ,sS])
   (refine tq 7 ?_;(try simp only [Act.put,sA,sZ,sS]))
   (refine tq 8 ?_;(try simp only [Act.put,sA,sZ,sS]))
   obtain ⟨_,hga,_,_,hc3,hz3⟩:=RecAt.view ZF (by omega) (uh HE).full.desks rfl (by omega)
   cases hga
   have dd:=hc3 kn (by omega) 0 _ rfl
   have df:=hz3 (kn*3+0)
   simp only [Nat.add_zero] at dd df
   clear hc3 hz3
   refine wpAnyH_done (by kernel_rfl) ?_ _
   refine ZE rfl rfl ?_
   go_simp
   clear hHeld
   go_wp2_with fail
   go_meet
   refine ⟨_,_,_,_,_,_,_,?_,by first | exact (uh HE).putD rfl (j:=kn) (i:=0) (by omega) (by omega) (.bool false) (false,(Z8 M.desks kn).2) rfl | exact ((uh HE).putD rfl (j:=kn) (i:=0) (by omega) (by omega) (.bool false) (false,(Z8 M.desks kn).2) rfl).drew⟩
   constructor<;>(first | omega | (simp only [pushS,List.length_set,List.length_append,List.length_cons,List.length_nil];omega))
  ·
   clear y0 y1
   obtain ⟨g4,hga,_,_,_,_⟩:=RecAt.view YH (by omega) (uh HE).full.paces rfl (by omega)
   cases hga
   have x4:=(uh HE).kb.cell (i:=4) (v:= .slice (some ⟨g4,0,none⟩) M.paces.length q4) rfl
   have hp0:0<M.paces.length:=by omega
   go_wp2_with fail
   refine ZR (S:=fun w'=>w'.cell? ⟨mb,4,none⟩=some (.slice (some ⟨g4,0,none⟩) M.paces.length q4)) (by kernel_rfl) (List.cons_ne_nil _ _) (by kernel_rfl) x4 (fun hHeld=> ?_)
   simp only [List.dropLast_cons_cons,List.dropLast_singleton,List.length_cons,List.length_nil,Nat.zero_add,Nat.reduceAdd]
   (refine tq 0 ?_;(try simp only [Act.put,sA,sZ,sS]))
   (refine tq 1 ?_;(try simp only [Act.put,sA,sZ,sS]))
   (refine tq 2 ?_;(try simp only [Act.put,sA,sZ,sS]))
   refine rd 3 rfl (fun K hK=> ?_)
   go_simp
   refine (Draw.from_any a len cap bc (-1) 4 (by omega) (by omega) (by omega) _ (RQ (uh HE).st)).mono ?_
   rintro e9 w5 ⟨v1,rfl,v10,v11,s9,p9⟩
   replace HE:=Z9 ((uh HE).step s9 (Tk p9))
   clear s9 p9 x4
   refine hK.out _ _ ((uh HE).kb.cell (i:=4) rfl) (fun hHeld=> ?_)
   clear hK K
   (try simp only [Act.put,sA,sZ,sS])
   (refine tq 4 ?_;(try simp only [Act.put,sA,sZ,sS]))
   obtain ⟨_,hga,_,_,hc4,hz4⟩:=RecAt.view YH (by omega) (uh HE).full.paces rfl (by omega)
   cases hga
   have dd:=hc4 0 (by omega) 0 _ rfl
   have df:=hz4 0
   simp only [Nat.zero_mul,Nat.add_zero] at dd
   clear hc4 hz4
   refine wpAnyH_done (by kernel_rfl) ?_ _
   refine ZE rfl rfl ?_
   go_simp
   clear hHeld
   go_wp2_with fail
   go_meet
   refine ⟨_,_,_,_,_,_,_,?_,by first | exact (uh HE).putP rfl (j:=0) (by omega) v1 | exact ((uh HE).putP rfl (j:=0) (by omega) v1).drew⟩
   constructor<;>(first | omega | (simp only [pushS,List.length_set,List.length_append,List.length_cons,List.length_nil];omega))
  ·
   clear y0 y1
   go_wp2_with fail
   have hlb:w3.heap.size ≠ bc:=by have:=(uh HE).off.size;omega
   replace HE:=Z9 ((uh HE).below ((Below.refl _ _).alloc (Nat.le_refl _) (.cells #[.int .i64 (-1),.int .i64 1000000,.int .i64 1000001] 2)))
   have KL:Hid (Blk (w3.alloc (.cells #[.int .i64 (-1),.int .i64 1000000,.int .i64 1000001] 2)) w3.heap.size 2 #[.int .i64 (-1),.int .i64 1000000,.int .i64 1000001]):=Z9 (Blk.new _ _ _)
   generalize w3.alloc (.cells #[.int .i64 (-1),.int .i64 1000000,.int .i64 1000001] 2)=Wp at *
   generalize w3.heap.size=lb at *
   refine (Draw.below_any a len cap bc 3 (by omega) (by omega) _ (uh HE).st).mono ?_
   rintro e w4 ⟨v5,rfl,v50,v51,s9,p9⟩
   replace KL:=Z9 ((uh KL).away p9 hlb)
   replace HE:=Z9 ((uh HE).step s9 p9)
   clear s9 p9
   have x5:=(uh HE).kb.cell (i:=5) (v:= .int .i64 M.now) rfl
   have f5:=(uh HE).kb.free 5
   obtain ⟨vv,hcell⟩:=OO (uh KL) v50 (by first | exact v51 | (simp;omega)) rfl
   go_wp2_with fail
   go_meet
   refine ⟨_,_,_,_,_,_,_,?_,by first | exact (uh HE).now vv | exact ((uh HE).now vv).drew⟩
   constructor<;>(first | omega | (simp only [pushS,List.length_set,List.length_append,List.length_cons,List.length_nil];omega))
  ·
   clear y0 y1
   go_wp2_with fail
   refine (Nl a len cap bc _ (uh HE).st).mono ?_
   rintro e w4 ⟨gv,gs,rfl,_,hG⟩
   have E4:=Z9 ((uh HE).step hG.st hG.off)
   have HP:=Z9 ((uh HE).guilds hG.st hG.off hG.row)
   obtain ⟨ga,gc,rfl⟩:=RecAt.shape hG.row
   have x1:=(uh E4).kb.cell (i:=1) (v:= .slice b1 M.guilds.length q1) rfl
   have f1:=(uh E4).kb.free 1
   clear hG
   go_wp2_with fail
   go_meet
   refine ⟨_,_,_,_,_,_,_,?_,by first | exact uh HP | exact (uh HP).drew⟩
   constructor<;>(first | omega | (simp only [pushS,List.length_set,List.length_append,List.length_cons,List.length_nil];omega))
  ·
   clear y0 y1
   obtain ⟨g3,hga,_,_,_,_⟩:=RecAt.view ZF (by omega) (uh HE).full.desks rfl (by omega)
   cases hga
   have hp0:0<M.desks.length:=by omega
   have x3:=(uh HE).kb.cell (i:=3) (v:= .slice (some ⟨g3,0,none⟩) M.desks.length q3) rfl
   go_wp2_with fail
   refine ZR (S:=fun w'=>w'.cell? ⟨mb,3,none⟩=some (.slice (some ⟨g3,0,none⟩) M.desks.length q3)) (by kernel_rfl) (List.cons_ne_nil _ _) (by kernel_rfl) x3 (fun hHeld=> ?_)
   simp only [List.dropLast_cons_cons,List.dropLast_singleton,List.length_cons,List.length_nil,Nat.zero_add,Nat.reduceAdd]
   (refine tq 0 ?_;(try simp only [Act.put,sA,sZ,sS]))
   (refine tq 1 ?_;(try simp only [Act.put,sA,sZ,sS]))
   (refine tq 3 ?_;(try simp only [Act.put,sA,sZ,sS]))
   replace HE:=Z9 (uh HE).drew
   generalize w3.drew=X0 at *
   clear x3
   refine wpAnyH_ready (rs:=[2,4]) (by kernel_rfl) (by simp) ?_
   refine AllReadyH.cons rfl (fun K hK=> ?_) (AllReadyH.cons rfl (fun K hK=> ?_) AllReadyH.nil)
   ·
    go_simp
    have hlb:X0.heap.size ≠ bc:=by have:=(uh HE).off.size;omega
    obtain ⟨Wp,hWp,hba,KL⟩:=YN X0 2 #[.int .i64 0,.int .i64 500000,.int .i64 1000000000001]
    replace HE:=Z9 ((uh HE).below hba)
    rw [hWp]
    refine hK.out _ _ ((uh HE).kb.cell (i:=3) rfl) (fun hHeld=> ?_)
    clear hK K
    (try simp only [Act.put,sA,sZ,sS])
    clear hba
    clear hWp
    generalize X0.heap.size=lb at *
    refine rd 4 rfl (fun K hK=> ?_)
    go_simp
    refine (Draw.below_any a len cap bc 3 (by omega) (by omega) _ (uh HE).st).mono ?_
    rintro e9 w5 ⟨v5,rfl,v50,v51,s9,p9⟩
    replace KL:=Z9 ((uh KL).away p9 hlb)
    replace HE:=Z9 ((uh HE).step s9 p9)
    clear s9 p9
    refine hK.out _ _ ((uh HE).kb.cell (i:=3) rfl) (fun hHeld=> ?_)
    clear hK K
    (try simp only [Act.put,sA,sZ,sS])
    obtain ⟨_,hga,_,_,hc3,hz3⟩:=RecAt.view ZF (by omega) (uh HE).full.desks rfl (by omega)
    cases hga
    have dd:=hc3 0 (by omega) 2 _ rfl
    have df:=hz3 (0*3+2)
    clear hc3 hz3
    simp only [Nat.zero_mul,Nat.zero_add] at dd df
    obtain ⟨vv,hcell⟩:=OO (uh KL) v50 (by first | exact v51 | (simp;omega)) rfl
    (refine tq 5 ?_;(try simp only [Act.put,sA,sZ,sS]))
    refine rd 6 rfl (fun K hK=> ?_)
    go_simp
    refine hK.out _ _ ((uh HE).kb.cell (i:=3) rfl) (fun hHeld=> ?_)
    clear hK K
    (try simp only [Act.put,sA,sZ,sS])
    (refine tq 7 ?_;(try simp only [Act.put,sA,sZ,sS]))
    (refine tq 8 ?_;(try simp only [Act.put,sA,sZ,sS]))
    refine wpAnyH_done (by kernel_rfl) ?_ _
    refine ZE rfl rfl ?_
    go_simp
    clear hHeld
    have hq:=(uh HE).putD rfl (j:=0) (i:=2) (by omega) (by omega) (.int .i64 vv) ((Z8 M.desks 0).1,(Z8 M.desks 0).2.1,vv) rfl
    simp only [Nat.zero_mul,Nat.zero_add] at hq
    go_wp2_with fail
    go_meet
    refine ⟨_,_,_,_,_,_,_,?_,by first | exact hq | exact (hq).drew⟩
    constructor<;>(first | omega | (simp only [pushS,List.length_set,List.length_append,List.length_cons,List.length_nil];omega))
   ·
    go_simp
    refine (Draw.below_any a len cap bc 3 (by omega) (by omega) _ (uh HE).st).mono ?_
    rintro e9 w5 ⟨v5,rfl,v50,v51,s9,p9⟩
    replace HE:=Z9 ((uh HE).step s9 p9)
    clear s9 p9
    refine hK.out _ _ ((uh HE).kb.cell (i:=3) rfl) (fun hHeld=> ?_)
    clear hK K
    (try simp only [Act.put,sA,sZ,sS])
    refine rd 2 rfl (fun K hK=> ?_)
    go_simp
    have hlb:w5.heap.size ≠ bc:=by have:=(uh HE).off.size;omega
    obtain ⟨Wp,hWp,hba,KL⟩:=YN w5 2 #[.int .i64 0,.int .i64 500000,.int .i64 1000000000001]
    replace HE:=Z9 ((uh HE).below hba)
    rw [hWp]
    refine hK.out _ _ ((uh HE).kb.cell (i:=3) rfl) (fun hHeld=> ?_)
    clear hK K
    (try simp only [Act.put,sA,sZ,sS])
    clear hba
    clear hWp
    generalize w5.heap.size=lb at *
    obtain ⟨_,hga,_,_,hc3,hz3⟩:=RecAt.view ZF (by omega) (uh HE).full.desks rfl (by omega)
    cases hga
    have dd:=hc3 0 (by omega) 2 _ rfl
    have df:=hz3 (0*3+2)
    clear hc3 hz3
    simp only [Nat.zero_mul,Nat.zero_add] at dd df
    obtain ⟨vv,hcell⟩:=OO (uh KL) v50 (by first | exact v51 | (simp;omega)) rfl
    (refine tq 5 ?_;(try simp only [Act.put,sA,sZ,sS]))
    refine rd 6 rfl (fun K hK=> ?_)
    go_simp
    refine hK.out _ _ ((uh HE).kb.cell (i:=3) rfl) (fun hHeld=> ?_)
    clear hK K
    (try simp only [Act.put,sA,sZ,sS])
    (refine tq 7 ?_;(try simp only [Act.put,sA,sZ,sS]))
    (refine tq 8 ?_;(try simp only [Act.put,sA,sZ,sS]))
    refine wpAnyH_done (by kernel_rfl) ?_ _
    refine ZE rfl rfl ?_
    go_simp
    clear hHeld
    have hq:=(uh HE).putD rfl (j:=0) (i:=2) (by omega) (by omega) (.int .i64 vv) ((Z8 M.desks 0).1,(Z8 M.desks 0).2.1,vv) rfl
    simp only [Nat.zero_mul,Nat.zero_add] at hq
    go_wp2_with fail
    go_meet
    refine ⟨_,_,_,_,_,_,_,?_,by first | exact hq | exact (hq).drew⟩
    constructor<;>(first | omega | (simp only [pushS,List.length_set,List.length_append,List.length_cons,List.length_nil];omega))
 case rest=>
 obtain ⟨M9,u0,u1,u2,u3,u4,rq9,⟨hm1,hm2⟩,hE9⟩:=hcut
 have Hm1:=Z9 hm1
 have Hm2:=Z9 hm2
 clear hm1 hm2
 have k6:=hE9.full.smy
 obtain ⟨c0,r0,c1,r1,c2,r2,c3,r3,c4,r4,rfl,rfl,rfl,rfl,rfl,_,_,_,_,_,_,_,_,_,_⟩:=k6.five
 have H9:=Z9 hE9
 clear hE9 k6 HE Hok
 have x0:=(uh H9).kb.cell (i:=0) (v:= .slice c0 M9.rooms.length r0) rfl
 have o0:=(uh H9).kr.cell (i:=0) (v:= .slice none 0 0) rfl
 have f0:=(uh H9).kr.free 0
 have x1:=(uh H9).kb.cell (i:=1) (v:= .slice c1 M9.guilds.length r1) rfl
 have o1:=(uh H9).kr.cell (i:=1) (v:= .slice none 0 0) rfl
 have f1:=(uh H9).kr.free 1
 have x2:=(uh H9).kb.cell (i:=2) (v:= .slice c2 M9.smiths.length r2) rfl
 have o2:=(uh H9).kr.cell (i:=2) (v:= .slice none 0 0) rfl
 have f2:=(uh H9).kr.free 2
 have x3:=(uh H9).kb.cell (i:=3) (v:= .slice c3 M9.desks.length r3) rfl
 have o3:=(uh H9).kr.cell (i:=3) (v:= .slice none 0 0) rfl
 have f3:=(uh H9).kr.free 3
 have x4:=(uh H9).kb.cell (i:=4) (v:= .slice c4 M9.paces.length r4) rfl
 have o4:=(uh H9).kr.cell (i:=4) (v:= .slice none 0 0) rfl
 have f4:=(uh H9).kr.free 4
 have x5:=(uh H9).kb.cell (i:=5) (v:= .int .i64 M9.now) rfl
 have o5:=(uh H9).kr.cell (i:=5) (v:= .int .i64 0) rfl
 have f5:=(uh H9).kr.free 5
 have hml:=(uh H9).mlo
 go_wp2_with fail
 refine bodyPost_ret (v:= .agg (S6 c0 r0 c1 r1 c2 r2 c3 r3 c4 r4 M9)) (by simp [results,Tryz.results31,go_sem, *]) rfl ⟨M9,_,_,_,_,_,rq9,rfl,uh Hm1,uh Hm2,?_,?_,?_⟩
 ·iterate 6 (refine FullSmy.set_off ?_ (fun k e=>by have:=((uh H9).full.own e).1;omega) _ _)
  exact (uh H9).full
 ·iterate 6 (refine St.newer ?_ (by omega) _ _)
  exact (uh H9).st
 ·iterate 6 (refine Off.newer ?_ (by omega) _ _)
  exact (uh H9).off
end Go.Proofs.YtffcgajndmhpkaaGreatDoor
namespace Go.Proofs.YtffcgajndmhpkaaGreatDoor
open Go.ChangeShapes Go.WideShapes Go.ChangeAt Go.RowKit Go.Sort
open Draw (St Off Row Cur)
set_option linter.unusedVariables false
set_option linter.unusedSimpArgs false
set_option maxRecDepth 100000
structure Wbox (a:Option Addr) (len cap cb rb mb:Nat) (w W:World) (M:Z6) (u0 u1 u2 u3 u4:Value) (rq:List (Z2 × Value)):Prop where
 st:St a len cap cb W
 kr:Blk W rb 32 E6
 km:Blk W mb 32 #[u0,u1,u2,u3,u4,.int .i64 M.now]
 full:FullSmy (cb+1) W u0 u1 u2 u3 u4 M rq
 bb:Below w.heap.size w W
 lr:rb<cb
 lm:cb<mb
 rw:w.heap.size<=rb
section
variable {a : Option Addr} {len cap cb rb mb : Nat} {w W X : World} {M : Z6} {u0 u1 u2 u3 u4 : Value} {rq : List (Z2 × Value)}
theorem Wbox.step (h:Wbox a len cap cb rb mb w W M u0 u1 u2 u3 u4 rq) (s:St a len cap cb X) (p:Off cb W X):Wbox a len cap cb rb mb w X M u0 u1 u2 u3 u4 rq:=
 ⟨s,h.kr.away p (by have:=h.lr;omega),h.km.away p (by have:=h.lm;omega),h.full.away p (Nat.lt_succ_self _),h.bb.trans (p.below (by have:=h.lr;have:=h.rw;omega) h.bb.size),h.lr,h.lm,h.rw⟩
theorem Wbox.below (h:Wbox a len cap cb rb mb w W M u0 u1 u2 u3 u4 rq) (hb:Below W.heap.size W X):Wbox a len cap cb rb mb w X M u0 u1 u2 u3 u4 rq:=
 ⟨Yh h.st (hb.mono (WR h.st)),h.kr.below hb h.kr.lt,h.km.below hb h.km.lt,h.full.below hb,h.bb.trans (hb.mono h.bb.size),h.lr,h.lm,h.rw⟩
theorem Wbox.end (h:Wbox a len cap cb rb mb w W M u0 u1 u2 u3 u4 rq) (x0 x1 x2 x3 x4 x5:Value):FullSmy (w.heap.size+1) ((((((W.setCell ⟨rb,0,none⟩ x0).setCell ⟨rb,1,none⟩ x1).setCell ⟨rb,2,none⟩ x2).setCell ⟨rb,3,none⟩ x3).setCell ⟨rb,4,none⟩ x4).setCell ⟨rb,5,none⟩ x5) u0 u1 u2 u3 u4 M rq/\Below w.heap.size w ((((((W.setCell ⟨rb,0,none⟩ x0).setCell ⟨rb,1,none⟩ x1).setCell ⟨rb,2,none⟩ x2).setCell ⟨rb,3,none⟩ x3).setCell ⟨rb,4,none⟩ x4).setCell ⟨rb,5,none⟩ x5)/\Blk ((((((W.setCell ⟨rb,0,none⟩ x0).setCell ⟨rb,1,none⟩ x1).setCell ⟨rb,2,none⟩ x2).setCell ⟨rb,3,none⟩ x3).setCell ⟨rb,4,none⟩ x4).setCell ⟨rb,5,none⟩ x5) mb 32 #[u0,u1,u2,u3,u4,.int .i64 M.now]:=by
 have h1:=h.lr
 have h2:=h.lm
 have h3:=h.rw
 refine ⟨?_,?_,?_⟩
 ·refine FullSmy.mono (n₀:=cb+1) ?_ (by omega)
  iterate 6 (refine FullSmy.set_off ?_ (fun k e=>by have:=(h.full.own e).1;omega) _ _)
  exact h.full
 ·iterate 6 (refine Below.setCell ?_ h3 _)
  exact h.bb
 ·iterate 6 (refine Blk.other ?_ (by show mb ≠ rb;omega) _)
  exact h.km
end
end Go.Proofs.YtffcgajndmhpkaaGreatDoor
namespace Go.Proofs.YtffcgajndmhpkaaGreatDoor
open Go.ChangeShapes Go.WideShapes Go.ChangeAt Go.RowKit Go.Sort
open Draw (St Off Row Cur)
set_option linter.unusedVariables false
set_option linter.unusedSimpArgs false
set_option maxRecDepth 100000
theorem N8 (a:Option Addr) (len cap:Nat) (w:World) (hr:Row w.heap.size w a len) :
  Calls Tryz.prog 8 #[.slice a len cap] w fun e w'=> ∃ M u0 u1 u2 u3 u4 x rq,e= .returned (.tuple #[.agg #[u0,u1,u2,u3,u4,.int .i64 M.now],.int .i64 x])/\FullSmy (w.heap.size+1) w' u0 u1 u2 u3 u4 M rq/\Below w.heap.size w w':=by
 have Hr:=Z9 (Draw.row_later hr ((Below.refl _ _).alloc (Nat.le_refl _) (.cells E6 32)))
 clear hr
 go_enter Tryz.func8,Tryz.ntmps8
 go_wp2_with fail
 have kr:Hid (Blk (w.alloc (.cells E6 32)) w.heap.size 32 E6):=Z9 (Blk.new _ _ _)
 have BB:Hid (Below w.heap.size w (w.alloc (.cells E6 32))):=Z9 ((ba _ _))
 have hzW:w.heap.size<(w.alloc (.cells E6 32)).heap.size:=by simp
 generalize w.alloc (.cells E6 32)=W at *
 refine (Draw.new_any a len cap _ (uh Hr)).mono ?_
 rintro e w1 ⟨rfl,s1,o1⟩
 have Hs:=Z9 s1
 replace kr:=Z9 ((uh kr).away o1 (by omega))
 replace BB:=Z9 ((uh BB).trans (o1.below (by omega) (uh BB).size))
 clear s1 o1 Hr
 generalize W.heap.size=cb at *
 go_wp2_with fail
 refine (Oz a len cap cb _ (uh Hs)).mono ?_
 rintro e w2 ⟨M,u0,u1,u2,u3,u4,rq,rfl,hm2,hm3,hf,s2,o2⟩
 have hc1:=WR (uh Hs)
 have k6:=hf.smy
 obtain ⟨b0,q0,b1,q1,b2,q2,b3,q3,b4,q4,rfl,rfl,rfl,rfl,rfl,_,_,_,_,_,_,_,_,_,_⟩:=k6.five
 have hb:Below w2.heap.size w2 (w2.alloc (.cells (S6 b0 q0 b1 q1 b2 q2 b3 q3 b4 q4 M) 32)):=ba _ _
 have HW:Hid (Wbox a len cap cb w.heap.size w2.heap.size w (w2.alloc (.cells (S6 b0 q0 b1 q1 b2 q2 b3 q3 b4 q4 M) 32)) M (.slice b0 M.rooms.length q0) (.slice b1 M.guilds.length q1) (.slice b2 M.smiths.length q2) (.slice b3 M.desks.length q3) (.slice b4 M.paces.length q4) rq):=Z9 ⟨s2.alloc _,((uh kr).away o2 (by omega)).alloc _,Blk.new _ _ _,(hf.mono (n₁:=cb+1) (by omega)).below hb,((uh BB).trans (o2.below (by omega) (uh BB).size)).trans (hb.mono (by have:=(uh BB).size;have:=o2.size;omega)),by omega,WR s2,Nat.le_refl _⟩
 have Hm2:=Z9 hm2
 clear hm2 hm3 hf s2 o2 k6 hb kr BB Hs hc1 hzW
 go_upto_region 3 with fail
 generalize w2.alloc (.cells (S6 b0 q0 b1 q1 b2 q2 b3 q3 b4 q4 M) 32)=W2 at *
 generalize w2.heap.size=mb at *
 go_wp2_with fail
 refine (Draw.below_any a len cap cb 20 (by omega) (by omega) _ (uh HW).st).mono ?_
 rintro e w3 ⟨x,rfl,x0,x1,s9,p9⟩
 replace HW:=Z9 ((uh HW).step s9 p9)
 clear s9 p9
 go_wp2_with fail
 refine (Draw.once_any a len cap cb 10 (by omega) (by omega) _ (uh HW).st).mono ?_
 rintro e w4 ⟨bq,rfl,s9,p9⟩
 replace HW:=Z9 ((uh HW).step s9 p9)
 clear s9 p9
 go_upto_if 15 with fail
 go_cut [6] (fun s wc=> ∃ x:Int,s= .int .i64 x/\Wbox a len cap cb w.heap.size mb w wc M (.slice b0 M.rooms.length q0) (.slice b1 M.guilds.length q1) (.slice b2 M.smiths.length q2) (.slice b3 M.desks.length q3) (.slice b4 M.paces.length q4) rq)
 case first=>
  cases bq
  ·go_wp2_with fail
   go_meet
   exact ⟨_,rfl,uh HW⟩
  ·have HW0:=HW
   have hbz:Below w4.heap.size w4 (w4.alloc (.cells #[.int .i64 (-1),.int .i64 0,.int .i64 21] 2)):=ba _ _
   have KL:Hid (Blk (w4.alloc (.cells #[.int .i64 (-1),.int .i64 0,.int .i64 21] 2)) w4.heap.size 2 #[.int .i64 (-1),.int .i64 0,.int .i64 21]):=Z9 (Blk.new _ _ _)
   replace HW:=Z9 ((uh HW).below hbz)
   have hlb:w4.heap.size ≠ cb:=by have:=WR (uh HW0).st;omega
   clear hbz
   go_wp2_with fail
   generalize w4.alloc (.cells #[.int .i64 (-1),.int .i64 0,.int .i64 21] 2)=X1 at *
   generalize w4.heap.size=lb at *
   refine (Draw.below_any a len cap cb 3 (by omega) (by omega) _ (uh HW).st).mono ?_
   rintro e w9 ⟨v,rfl,v0,v1,s9,p9⟩
   replace KL:=Z9 ((uh KL).away p9 hlb)
   replace HW:=Z9 ((uh HW).step s9 p9)
   clear s9 p9
   rcases (show v=0\/v=1\/v=2 by omega) with rfl | rfl | rfl
   ·have l0:=(uh KL).cell (i:=0) (v:= .int .i64 (-1)) rfl
    go_wp2_with fail
    go_meet
    exact ⟨_,rfl,uh HW⟩
   ·have l1:=(uh KL).cell (i:=1) (v:= .int .i64 0) rfl
    go_wp2_with fail
    go_meet
    exact ⟨_,rfl,uh HW⟩
   ·have l2:=(uh KL).cell (i:=2) (v:= .int .i64 21) rfl
    go_wp2_with fail
    go_meet
    exact ⟨_,rfl,uh HW⟩
 case rest=>
  obtain ⟨x9,rfl,hw⟩:=hcut
  replace HW:=Z9 hw
  clear hw
  obtain ⟨y0,y1,y2,y3,y4,y5⟩:=(uh HW).km.c6
  have o0:=(uh HW).kr.cell (i:=0) (v:= .slice none 0 0) rfl
  have f0:=(uh HW).kr.free 0
  have o1:=(uh HW).kr.cell (i:=1) (v:= .slice none 0 0) rfl
  have f1:=(uh HW).kr.free 1
  have o2:=(uh HW).kr.cell (i:=2) (v:= .slice none 0 0) rfl
  have f2:=(uh HW).kr.free 2
  have o3:=(uh HW).kr.cell (i:=3) (v:= .slice none 0 0) rfl
  have f3:=(uh HW).kr.free 3
  have o4:=(uh HW).kr.cell (i:=4) (v:= .slice none 0 0) rfl
  have f4:=(uh HW).kr.free 4
  have o5:=(uh HW).kr.cell (i:=5) (v:= .int .i64 0) rfl
  have f5:=(uh HW).kr.free 5
  obtain ⟨F9,B9,_⟩:=(uh HW).end (.slice b0 M.rooms.length q0) (.slice b1 M.guilds.length q1) (.slice b2 M.smiths.length q2) (.slice b3 M.desks.length q3) (.slice b4 M.paces.length q4) (.int .i64 M.now)
  have HF9:=Z9 F9
  have HB9:=Z9 B9
  clear F9 B9
  go_wp2_with fail
  exact bodyPost_ret (v:= .tuple #[.agg (S6 b0 q0 b1 q1 b2 q2 b3 q3 b4 q4 M),.int .i64 x9]) (by simp [results,Tryz.results8,go_sem, *]) rfl ⟨M,_,_,_,_,_,x9,rq,rfl,uh HF9,uh HB9⟩
open Go.ChangeShapes Go.WideShapes Go.ChangeAt Go.RowKit
theorem LW {w:World} {v u:Value} {rs:List Z2} (hv:IsRooms w v rs) (hu:IsRooms w u rs) :
  Calls Tryz.prog 45 #[.agg #[v],.agg #[u]] w fun e w'=>e= .returned (.bool true)/\Below w.heap.size w w':=by
 have Hv:=Z9 hv
 have Hu:=Z9 hu
 obtain ⟨a,cap,rfl,hc,hm,hr⟩:=hv
 obtain ⟨a',cap',rfl,hc',hm',hr'⟩:=hu
 clear hr hr'
 go_enter Tryz.func45,Tryz.ntmps45
 go_wp2_with fail
 have B0:Hid (Below w.heap.size w ((w.alloc (.cells #[.slice a rs.length cap] 26)).alloc (.cells #[.slice a' rs.length cap'] 26))):=Z9 (((ba _ _)).alloc (by simp) _)
 go_loopw [5] (fun i wr=> ∃ k:Nat,k<=rs.length/\i= .int .i64 k/\Below (w.heap.size+2) ((w.alloc (.cells #[.slice a rs.length cap] 26)).alloc (.cells #[.slice a' rs.length cap'] 26)) wr) (fun i _=>rs.length-(intOf i).toNat)
 case atStart=>exact ⟨0,Nat.zero_le _,rfl,Below.refl _ _⟩
 case round=>
  obtain ⟨k,hk,rfl,hb⟩:=hrel
  have Hb:=Z9 hb
  have hzr:w.heap.size+2<=wr.heap.size:=by have:=hb.size;simpa using this
  have c0:wr.cell? ⟨w.heap.size,0,none⟩=some (.slice a rs.length cap):=(hb.cell (p:=⟨w.heap.size,0,none⟩) (by show w.heap.size<w.heap.size+2;omega)).trans (by simp)
  have c1:wr.cell? ⟨w.heap.size+1,0,none⟩=some (.slice a' rs.length cap'):=(hb.cell (p:=⟨w.heap.size+1,0,none⟩) (by show w.heap.size+1<w.heap.size+2;omega)).trans (by simp)
  have BW:Hid (Below w.heap.size w wr):=Z9 ((uh B0).trans (hb.mono (by omega)))
  clear hb
  by_cases hlt:k<rs.length
  ·obtain ⟨_,_,e1,_,_,hr⟩:=uh Hv
   obtain ⟨_,_,e2,_,_,hr'⟩:=uh Hu
   cases e1
   cases e2
   rcases hr with h0 | ⟨b,off,rfl,hbw,hcl⟩
   ·rw [h0] at hlt;simp at hlt
   rcases hr' with h0 | ⟨b',off',rfl,hbw',hcl'⟩
   ·rw [h0] at hlt;simp at hlt
   obtain ⟨d0,pv,d1,hip⟩:=hcl k hlt
   obtain ⟨d2,pu,d3,hiu⟩:=hcl' k hlt
   rw [<-(uh BW).cell (p:=⟨b,off+k*2,none⟩) hbw] at d0
   rw [<-(uh BW).cell (p:=⟨b,off+k*2+1,none⟩) hbw] at d1
   rw [<-(uh BW).cell (p:=⟨b',off'+k*2,none⟩) hbw'] at d2
   rw [<-(uh BW).cell (p:=⟨b',off'+k*2+1,none⟩) hbw'] at d3
   have Hip:=Z9 (hip.below (uh BW))
   have Hiu:=Z9 (hiu.below (uh BW))
   obtain ⟨pa,pcap,rfl,hpc,hpm,_⟩:=hip
   obtain ⟨pa',pcap',rfl,hpc',hpm',_⟩:=hiu
   generalize (ZV rs k).1=f at *
   generalize (ZV rs k).2=ps at *
   clear hcl hcl'
   have k0:=cell_regrown c0
   have k1:=cell_regrown c1
   have k2:=cell_regrown d0
   have k3:=cell_regrown d1
   have k4:=cell_regrown d2
   have k5:=cell_regrown d3
   go_wp2_with fail
   refine wq ?_
   repeat (go_big_quiet_step (fail))
   refine wpQuiet_nil ?_
   intro _ hw'
   obtain ⟨⟨dq,osq⟩,hw''⟩:=hw'
   subst hw''
   have Hbq:=Z9 (below_regrown wr dq osq)
   have e0:=k0 dq osq
   have e1:=k1 dq osq
   have e2:=k2 dq osq
   have e3:=k3 dq osq
   have e4:=k4 dq osq
   have e5:=k5 dq osq
   clear k0 k1 k2 k3 k4 k5 c0 c1 d0 d1 d2 d3
   obtain ⟨w1,hw1⟩:∃ w1,w1=Go.Sort.grow (Go.redrawn wr dq) osq:=⟨_,rfl⟩
   rw [<-hw1] at Hbq e0 e1 e2 e3 e4 e5 ⊢
   clear hw1
   have HB1:=Z9 ((uh BW).trans ((uh Hbq).mono (uh BW).size))
   go_wp2_with fail
   obtain ⟨wo,hwo⟩:∃ wo,wo=wr:=⟨wr,rfl⟩
   rw [<-hwo] at *
   clear hwo
   go_loopw [6] (fun i wr=> ∃ j:Nat,j<=ps.length/\i= .int .i64 j/\Below w1.heap.size w1 wr) (fun i _=>ps.length-(intOf i).toNat)
   case atStart=>exact ⟨0,Nat.zero_le _,rfl,Below.refl _ _⟩
   case round=>
    obtain ⟨j,hj,rfl,hbr⟩:=hrel
    have Hbr:=Z9 hbr
    have HBr:=Z9 ((uh HB1).trans (hbr.mono (uh HB1).size))
    have hz1:=(uh Hbq).size
    have f0:=(hbr.cell (World.block_lt_of_cell? _ _ e0)).trans e0
    have f1:=(hbr.cell (World.block_lt_of_cell? _ _ e1)).trans e1
    have f3:=(hbr.cell (World.block_lt_of_cell? _ _ e3)).trans e3
    have f5:=(hbr.cell (World.block_lt_of_cell? _ _ e5)).trans e5
    clear hbr
    by_cases hjl:j<ps.length
    ·obtain ⟨_,_,g1,_,_,hr⟩:=(uh Hip).below ((uh Hbq).trans ((uh Hbr).mono hz1))
     obtain ⟨_,_,g2,_,_,hr'⟩:=(uh Hiu).below ((uh Hbq).trans ((uh Hbr).mono hz1))
     cases g1
     cases g2
     rcases hr with h0 | ⟨pb,poff,rfl,hpbw,hpl⟩
     ·rw [h0] at hjl;simp at hjl
     rcases hr' with h0 | ⟨pb',poff',rfl,hpbw',hpl'⟩
     ·rw [h0] at hjl;simp at hjl
     obtain ⟨c0,c1⟩:=hpl j hjl
     obtain ⟨d0,d1⟩:=hpl' j hjl
     generalize (Z7 ps j).1=x at *
     generalize (Z7 ps j).2=y at *
     have k0:=cell_regrown f0
     have k1:=cell_regrown f1
     have k3:=cell_regrown f3
     have k5:=cell_regrown f5
     have k6:=cell_regrown c0
     have k7:=cell_regrown c1
     have k8:=cell_regrown d0
     have k9:=cell_regrown d1
     clear hpl hpl' e0 e1 e2 e3 e4 e5
     go_wp2_with fail
     refine wq ?_
     repeat (go_big_quiet_step (fail))
     refine wpQuiet_nil ?_
     intro _ hw'
     obtain ⟨⟨dr,osr⟩,hw''⟩:=hw'
     subst hw''
     go_wp2_with fail
     go_roundw
     case rel=>exact ⟨j+1,by omega,by go_num,(uh Hbr).trans ((below_regrown _ _ _).mono (uh Hbr).size)⟩
     case measure=>exact ms
    ·go_wp2_with fail
     go_roundw
     case rel=>exact ⟨k+1,by omega,by go_num,(uh Hb).trans (((uh Hbq).trans ((uh Hbr).mono hz1)).mono hzr)⟩
     case measure=>exact ms
  ·go_wp2_with fail
   go_ret
   exact ⟨rfl,uh BW⟩
end Go.Proofs.YtffcgajndmhpkaaGreatDoor
