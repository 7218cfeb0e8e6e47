/- Part 32 of what the proof rests on. No condition but those that a theorem names. -/
import Derived.Test.YtmdgokjeobnnaaaGreatDoorXt16
import Derived.Test.YtmdgokjeobnnaaaGreatDoorXt20
import Derived.Test.YtmdgokjeobnnaaaGreatDoorXt31
set_option maxHeartbeats 8000000
set_option maxRecDepth 100000
namespace Go.Proofs.YtmdgokjeobnnaaaGreatDoor
open Go.ChangeShapes Go.WideShapes Go.ChangeAt Go.RowKit Go.Sort Go.Proofs.Tryz
open Draw (St Off Row Cur)
set_option linter.unusedVariables false
set_option linter.unusedSimpArgs false
set_option maxRecDepth 100000
theorem QI {w:World} {lb:Nat} {t:TypeId} {cs:Array Value} {j:Int} (h:Blk w lb t cs) (h0:0<=j) (h1:j<(cs.size:Int)) (hz:cs.toList.all Draw.isI64=true):∃ v,w.cell? ⟨lb,j.toNat,none⟩=some (.int .i64 v):=by
 obtain ⟨v,hv⟩:=Draw.pick_any cs j.toNat (by omega) hz;exact ⟨v,h.cell hv⟩
structure Ebox (a:Option Addr) (len cap bc:Nat) (w0 w:World) (mb:Nat) (M:Z7) (u0 u1 u2 u3 u4:Value) (rq:List (Z5 × Value)):Prop where
 st:St a len cap bc w
 off:Off bc w0 w
 full:FullSmy (w0.heap.size+1) w u0 u1 u2 u3 u4 M rq
 kb:Blk w mb 40 #[u0,u1,u2,u3,u4,.int .i64 M.now]
 kr:Blk w w0.heap.size 40 E6
 own:∀ k,WE u0 u1 u2 u3 u4 rq k->k ≠ mb
 mlo:w0.heap.size+1<=mb
 bl:bc<w0.heap.size
section
variable {a : Option Addr} {len cap bc : Nat} {w0 w w1 w' : World} {mb : Nat} {M : Z7} {u0 u1 u2 u3 u4 : Value} {rq : List (Z5 × Value)}
theorem Ebox.step (h:Ebox a len cap bc w0 w mb M u0 u1 u2 u3 u4 rq) (hs:St a len cap bc w') (ho:Off bc w w'):Ebox a len cap bc w0 w' mb M u0 u1 u2 u3 u4 rq:=
 have hb:=h.bl;have hm:=h.mlo
 ⟨hs,h.off.trans ho,h.full.away ho (by omega),h.kb.away ho (by omega),h.kr.away ho (by omega),h.own,h.mlo,h.bl⟩
theorem Ebox.below (h:Ebox a len cap bc w0 w mb M u0 u1 u2 u3 u4 rq) (hb:Below w.heap.size w w'):Ebox a len cap bc w0 w' mb M u0 u1 u2 u3 u4 rq:=
 h.step (YY h.st (hb.mono (Xs h.st))) (TK hb)
theorem Ebox.drew (h:Ebox a len cap bc w0 w mb M u0 u1 u2 u3 u4 rq):Ebox a len cap bc w0 w.drew mb M u0 u1 u2 u3 u4 rq:=h.below (Z2 _ _).drew
theorem Ebox.putD {g n c:Nat} (h:Ebox a len cap bc w0 w mb M u0 u1 u2 (.slice (some ⟨g,0,none⟩) n c) u4 rq) (hn:n=M.dk.length) {j i:Nat} (hj:j<M.dk.length) (hi:i<3) (u:Value) (x:WC) (hx:XI x=(XI (Z8 M.dk j)).set i u):Ebox a len cap bc w0 (w.setCell ⟨g,j*3+i,none⟩ u) mb { M with dk:=M.dk.set j x } u0 u1 u2 (.slice (some ⟨g,0,none⟩) n c) u4 rq:=by
 have hb:=h.bl;have hg:=(h.full.own (k:=g) (.inr (.inr (.inr (.inr (.inl rfl)))))).1;have hgm:=h.own g (.inr (.inr (.inr (.inr (.inl rfl)))));exact ⟨St.newer h.st (by omega) _ _,Off.newer h.off (by omega) _ _,h.full.putD hn hj hi u x hx,h.kb.other (by show mb ≠ g;omega) _,h.kr.other (by show w0.heap.size ≠ g;omega) _,h.own,h.mlo,h.bl⟩
theorem Ebox.putP {g n c:Nat} (h:Ebox a len cap bc w0 w mb M u0 u1 u2 u3 (.slice (some ⟨g,0,none⟩) n c) rq) (hn:n=M.pc.length) {j:Nat} (hj:j<M.pc.length) (x:Int):Ebox a len cap bc w0 (w.setCell ⟨g,j,none⟩ (.int .i64 x)) mb { M with pc:=M.pc.set j x } u0 u1 u2 u3 (.slice (some ⟨g,0,none⟩) n c) rq:=by
 have hb:=h.bl;have hg:=(h.full.own (k:=g) (.inr (.inr (.inr (.inr (.inr rfl)))))).1;have hgm:=h.own g (.inr (.inr (.inr (.inr (.inr rfl)))));exact ⟨St.newer h.st (by omega) _ _,Off.newer h.off (by omega) _ _,h.full.putP hn hj x,h.kb.other (by show mb ≠ g;omega) _,h.kr.other (by show w0.heap.size ≠ g;omega) _,h.own,h.mlo,h.bl⟩
theorem Ebox.now (h:Ebox a len cap bc w0 w mb M u0 u1 u2 u3 u4 rq) (t:Int):Ebox a len cap bc w0 (w.setCell ⟨mb,5,none⟩ (.int .i64 t)) mb { M with now:=t } u0 u1 u2 u3 u4 rq:=by
 have hb:=h.bl;have hm:=h.mlo;have f:=h.full.set_off h.own 5 (.int .i64 t);exact ⟨St.newer h.st (by omega) _ _,Off.newer h.off (by omega) _ _,⟨f.hall,f.rm,f.gd,f.sm,f.dk,f.pc,f.h1,f.h2,f.h3,f.h4,f.a12,f.a13,f.a14,f.a23,f.a24,f.a34⟩,h.kb.set 5 _,h.kr.other (by show w0.heap.size ≠ mb;omega) _,h.own,h.mlo,h.bl⟩
theorem Ebox.gd (h:Ebox a len cap bc w0 w mb M u0 u1 u2 u3 u4 rq) {g:Value} {gs:List Zy} (hs:St a len cap bc w') (ho:Off bc w w') (hg:GuildsAt w.heap.size w' g gs):Ebox a len cap bc w0 (w'.setCell ⟨mb,1,none⟩ g) mb { M with gd:=gs } u0 g u2 u3 u4 rq:=by
 have hb:=h.bl;have hm:=h.mlo;have hml:=h.kb.lt;have hz:=h.off.size;have hE:=h.step hs ho;have f:=h.full.newG ho (by omega) hg (Z3 _) (by omega)
 have hown:∀ k,WE u0 g u2 u3 u4 rq k->k ≠ mb:=fun k e=>by
  rcases e with e | e | e | e | e | e
  ·exact h.own k (.inl e)
  ·exact h.own k (.inr (.inl e))
  ·have:=(RecAt.lt hg e).1;omega
  ·exact h.own k (.inr (.inr (.inr (.inl e))))
  ·exact h.own k (.inr (.inr (.inr (.inr (.inl e)))))
  ·exact h.own k (.inr (.inr (.inr (.inr (.inr e)))))
 exact ⟨St.newer hs (by omega) _ _,Off.newer hE.off (by omega) _ _,f.set_off hown 1 g,hE.kb.set 1 _,hE.kr.other (by show w0.heap.size ≠ mb;omega) _,hown,h.mlo,h.bl⟩
theorem Ebox.push (h:Ebox a len cap bc w0 w mb M u0 u1 u2 u3 u4 rq) {u:Value} {x:Z6} (hb1:Below w.heap.size w w1) (hg:w1.grownBy w' u2.ownBlock) (hat:u.ownBlock=u2.ownBlock\/u.ownBlock=some w1.heap.size) (hr:SmithsAt (w0.heap.size+1) w' u (M.sm++[x])) :
  Blk w' mb 40 #[u0,u1,u2,u3,u4,.int .i64 M.now]/\Ebox a len cap bc w0 (w'.setCell ⟨mb,2,none⟩ u) mb (pushS M x) u0 u1 u u3 u4 rq:=by
 have hb:=h.bl;have hm:=h.mlo;have hz:=h.off.size;have hz1:=hb1.size;have hml:=h.kb.lt;have h2:∀ k,u2.ownBlock=some k->w0.heap.size+1<=k/\k<w.heap.size/\k ≠ mb:=fun k e=>⟨(h.full.own (.inr (.inr (.inr (.inl e))))).1,(h.full.own (.inr (.inr (.inr (.inl e))))).2,h.own k (.inr (.inr (.inr (.inl e))))⟩
 have hB:Below (w0.heap.size+1) w w':=(hb1.mono (by omega)).trans ((Z2 _ _).grown hg (by omega) (fun k e=>(h2 k e).1));have f:=h.full.pushS hb1 hg hat hr;have kb1:Blk w' mb 40 #[u0,u1,u2,u3,u4,.int .i64 M.now]:=(h.kb.below hb1 hml).same (hg.block mb (by omega) (fun e=>(h2 mb e.symm).2.2 rfl))
 have hown:∀ k,WE u0 u1 u u3 u4 rq k->k ≠ mb:=fun k e=>by
  rcases e with e | e | e | e | e | e
  ·exact h.own k (.inl e)
  ·exact h.own k (.inr (.inl e))
  ·exact h.own k (.inr (.inr (.inl e)))
  ·rcases hat with e' | e'
   ·exact (h2 k (e'.symm.trans e)).2.2
   ·have:=Option.some.inj (e'.symm.trans e);omega
  ·exact h.own k (.inr (.inr (.inr (.inr (.inl e)))))
  ·exact h.own k (.inr (.inr (.inr (.inr (.inr e)))))
 have ho:Off bc w0 w':=⟨hB.os.trans h.off.os,hB.tape.trans h.off.tape,hB.output.trans h.off.output,XA hz hB.size,fun k hk hn=>(hB.block k (by omega)).trans (h.off.block k hk hn)⟩
 exact ⟨kb1,St.newer (YY h.st (hB.mono (by omega))) (by omega) _ _,Off.newer ho (by omega) _ _,f.set_off hown 2 u,kb1.set 2 _,(h.kr.below hB (by omega)).other (by show w0.heap.size ≠ mb;omega) _,hown,h.mlo,h.bl⟩
end
theorem Qq (a:Option Addr) (len cap bc:Nat) (w:World) (hs:St a len cap bc w) :
  Calls prog 29 #[.pointer (some ⟨bc,0,none⟩)] w fun e w'=> ∃ M u0 u1 u2 u3 u4 rq,e= .returned (.agg #[u0,u1,u2,u3,u4,.int .i64 M.now])/\(M.sm.length<=1000/\M.rm.length<=1000)/\(M.dk.length<=1000/\1<=M.dk.length/\M.dk.length<=8/\1<=M.rm.length)/\FullSmy (w.heap.size+1) w' u0 u1 u2 u3 u4 M rq/\St a len cap bc w'/\Off bc w w':=by
 have Hs:=Z9 hs;have hbc:=Xs hs;clear hs;go_enter func29,ntmps29;go_wp2_with fail;have kr:Hid (Blk (w.alloc (.cells E6 40)) w.heap.size 40 E6):=Z9 (Blk.new _ _ _);have HO:Hid (Off bc w (w.alloc (.cells E6 40))):=Z9 ((Off.refl _ _).alloc _);replace Hs:Hid (St a len cap bc (w.alloc (.cells E6 40))):=Z9 ((uh Hs).alloc _);have hzW:w.heap.size+1<=(w.alloc (.cells E6 40)).heap.size:=by simp
 generalize w.alloc (.cells E6 40)=W at *;refine (Nu a len cap bc _ (uh Hs)).mono ?_;rintro e w1 ⟨M,u0,u1,u2,u3,u4,rq,rfl,ok1,hf,s9,p9⟩;have k6:=hf.smy;obtain ⟨b0,q0,b1,q1,b2,q2,b3,q3,b4,q4,rfl,rfl,rfl,rfl,rfl,_,_,_,_,_,_,_,_,_,_⟩:=k6.five;have HE:Hid (Ebox a len cap bc w (w1.alloc (.cells (S6 b0 q0 b1 q1 b2 q2 b3 q3 b4 q4 M) 40)) w1.heap.size M (.slice b0 M.rm.length q0) (.slice b1 M.gd.length q1) (.slice b2 M.sm.length q2) (.slice b3 M.dk.length q3) (.slice b4 M.pc.length q4) rq):=Z9 ⟨s9.alloc _,((uh HO).trans p9).alloc _,(hf.mono (by omega)).below ((ba _ _)),Blk.new _ _ _,((uh kr).away p9 (by omega)).alloc _,fun k e=>by have:=(hf.own e).2;omega,by have:=p9.size;omega,hbc⟩;have Hok:=Z9 ok1;clear k6 hf s9 p9 HO kr Hs ok1 hzW;go_upto_region 2 with fail;generalize w1.alloc (.cells (S6 b0 q0 b1 q1 b2 q2 b3 q3 b4 q4 M) 40)=W1 at *;generalize w1.heap.size=mb at *;go_wp2_with fail;refine (Draw.once_any a len cap bc 8 (by omega) (by omega) _ (uh HE).st).mono ?_;rintro e w2 ⟨bq,rfl,s9,p9⟩;replace HE:=Z9 ((uh HE).step s9 p9);clear s9 p9
 go_upto_if 8 with fail
 go_cut [] (fun wc=> ∃ M u0 u1 u2 u3 u4 rq,((M.sm.length<=1000/\M.rm.length<=1000)/\(M.dk.length<=1000/\1<=M.dk.length/\M.dk.length<=8/\1<=M.rm.length))/\Ebox a len cap bc w wc mb M u0 u1 u2 u3 u4 rq)
 case first=>
  have hlo:=ZI (uh Hok);have g3p:1<=M.dk.length:=by obtain ⟨j,hj,_⟩:=hlo.openD;omega
  have g3q:=WY hlo;have g4p:1<=M.pc.length:=Sr hlo;have g4q:=Vb hlo;have g2q:=YF hlo;have g0q:M.rm.length<=3:=(Zo hlo.sane.hall).2.1;have g0p:1<=M.rm.length:=(Zo hlo.sane.hall).1;clear hlo;cases bq
  ·go_wp2_with fail
   go_meet;exact ⟨_,_,_,_,_,_,_,⟨by omega,by omega⟩,uh HE⟩
  go_wp2_with fail;refine (Draw.below_any a len cap bc 7 (by omega) (by omega) _ (uh HE).st).mono ?_;rintro e w3 ⟨y,rfl,y0,y1,s9,p9⟩;replace HE:=Z9 ((uh HE).step s9 p9);clear s9 p9
  rcases (show y=0\/y=1\/y=2\/y=3\/y=4\/y=5\/y=6 by omega) with rfl | rfl | rfl | rfl | rfl | rfl | rfl
  ·
   clear y0 y1;have x2:=(uh HE).kb.cell (i:=2) (v:= .slice b2 M.sm.length q2) rfl;go_wp2_with fail;refine ZN (S:=fun w'=>w'.cell? ⟨mb,2,none⟩=some (.slice b2 M.sm.length q2)) (by kernel_rfl) (WV _ _) (by kernel_rfl) x2 (fun hHeld=> ?_);simp only [WW,WX,Zn,Y2,Nat.zero_add,Nat.reduceAdd]
   iterate 3 refine tz ?_
   refine rd 3 rfl (fun K hK=> ?_);go_simp;refine (PO a len cap bc _ (Tm (uh HE).st)).mono ?_;rintro e9 w5 ⟨⟨t0,t1,t2,t3,t4,t5,t6,t7,t8,t9,t10⟩,rfl,s9,p9⟩;replace HE:=Z9 ((uh HE).step s9 (Uk p9));clear s9 p9 x2;simp only [ZZ];refine hK.out _ _ ((uh HE).kb.cell (i:=2) rfl) (fun hHeld=> ?_);clear hK K
   (try simp only [Act.put,sA,sZ,sS])
   refine rd 4 rfl (fun K hK=> ?_);go_simp;have hba:Below w5.heap.size w5 (w5.alloc (.cells (I11 t0 t1 t2 t3 t4 t5 t6 t7 t8 t9 t10) 79)):=ba _ _;refine hK.out _ _ (((uh HE).below hba).kb.cell (i:=2) rfl) (fun hHeld=> ?_);clear hK K
   (try simp only [Act.put,sA,sZ,sS])
   obtain ⟨u9,w9,hrun,hown9,hg9,hat9⟩:=Xn tyS (w:=w5.alloc (.cells (I11 t0 t1 t2 t3 t4 t5 t6 t7 t8 t9 t10) 79)) (t:=36) (ty:=36) underlying36 (RecAt.later (uh HE).full.sm hba) (Uo (t0,t1,t2,t3,t4,t5,t6,t7,t8,t9,t10) (g:=w5.heap.size) (c:=1) rfl (Z3 _) (by omega)) (by simp;omega) (by have:=(uh HE).off.size;have:=(uh HE).kr.lt;simp;omega);obtain ⟨kb9,E9⟩:=(uh HE).push hba hg9 hat9 hown9;have R9:=Z9 hrun;have HP:=Z9 E9;have K9:=Z9 kb9;obtain ⟨ua,uc,hu9⟩:=RecAt.shape hown9;obtain ⟨n9,hn9⟩:∃ q,q=(M.sm++[(t0,t1,t2,t3,t4,t5,t6,t7,t8,t9,t10)]).length:=⟨_,rfl⟩
   rw [<-hn9] at hu9;subst hu9;clear hrun E9 kb9 hown9 hg9 hat9 hn9;refine rd 5 rfl (fun K hK=> ?_);refine Wg rfl (.tmp 14) (.tmp 17) 36 rfl rfl rfl (uh R9) ?_;refine hK.out _ _ ((uh K9).cell (i:=2) rfl) (fun hHeld=> ?_);clear hK K
   (try simp only [Act.put,sA,sZ,sS])
   refine tp 6 ?_;have x2:=(uh K9).cell (i:=2) (v:= .slice b2 M.sm.length q2) rfl;have f2:=(uh K9).free 2;clear hba;refine wpAnyH_done (by kernel_rfl) ?_ _;refine ZH rfl rfl ?_;go_simp;clear hHeld;go_wp2_with fail;go_meet;refine ⟨_,_,_,_,_,_,_,?_,by first | exact uh HP | exact (uh HP).drew⟩;constructor<;>(first | omega | (simp only [pushS,VH,List.length_append,Zn,Y2];omega))
  ·
   clear y0 y1;obtain ⟨g3,hga,_,_,_,_⟩:=RecAt.view Zx (by omega) (uh HE).full.dk rfl (by omega);cases hga;have x3:=(uh HE).kb.cell (i:=3) (v:= .slice (some ⟨g3,0,none⟩) M.dk.length q3) rfl;go_wp2_with fail;clear x3;refine (Draw.below_any a len cap bc (M.dk.length:Int) (by omega) (by omega) _ (uh HE).st).mono ?_;rintro e w4 ⟨kk,rfl,k0,k1,s9,p9⟩;replace HE:=Z9 ((uh HE).step s9 p9);clear s9 p9;obtain ⟨kn,rfl⟩:∃ kn:Nat,kk=(kn:Int):=⟨kk.toNat,by omega⟩
   have x3:=(uh HE).kb.cell (i:=3) (v:= .slice (some ⟨g3,0,none⟩) M.dk.length q3) rfl;go_wp2_with fail;refine ZN (S:=fun w'=>w'.cell? ⟨mb,3,none⟩=some (.slice (some ⟨g3,0,none⟩) M.dk.length q3)) (by kernel_rfl) (WV _ _) (by kernel_rfl) x3 (fun hHeld=> ?_);simp only [WW,WX,Zn,Y2,Nat.zero_add,Nat.reduceAdd]
   iterate 4 refine tz ?_
   refine rd 4 rfl (fun K hK=> ?_);go_simp;refine (Draw.from_any a len cap bc (-2) 4 (by omega) (by omega) (by omega) _ (Tm (uh HE).st)).mono ?_;rintro e9 w5 ⟨v1,rfl,v10,v11,s9,p9⟩;replace HE:=Z9 ((uh HE).step s9 (Uk p9));clear s9 p9 x3;refine hK.out _ _ ((uh HE).kb.cell (i:=3) rfl) (fun hHeld=> ?_);clear hK K
   (try simp only [Act.put,sA,sZ,sS])
   refine tp 5 ?_;refine tp 6 ?_;obtain ⟨_,hga,_,_,hc3,hz3⟩:=RecAt.view Zx (by omega) (uh HE).full.dk rfl (by omega);cases hga;have dd:=hc3 kn (by omega) 1 _ rfl;have df:=hz3 (kn*3+1);clear hc3 hz3;refine wpAnyH_done (by kernel_rfl) ?_ _;refine ZH rfl rfl ?_;go_simp;clear hHeld;go_wp2_with fail;go_meet;refine ⟨_,_,_,_,_,_,_,?_,by first | exact (uh HE).putD rfl (j:=kn) (i:=1) (by omega) (by omega) (.int .i64 v1) ((Z8 M.dk kn).1,v1,(Z8 M.dk kn).2.2) rfl | exact ((uh HE).putD rfl (j:=kn) (i:=1) (by omega) (by omega) (.int .i64 v1) ((Z8 M.dk kn).1,v1,(Z8 M.dk kn).2.2) rfl).drew⟩;constructor<;>(first | omega | (simp only [pushS,VH,List.length_append,Zn,Y2];omega))
  ·
   clear y0 y1;obtain ⟨g3,hga,_,_,_,_⟩:=RecAt.view Zx (by omega) (uh HE).full.dk rfl (by omega);cases hga;have x3:=(uh HE).kb.cell (i:=3) (v:= .slice (some ⟨g3,0,none⟩) M.dk.length q3) rfl;go_wp2_with fail;refine ZN (S:=fun w'=>w'.cell? ⟨mb,3,none⟩=some (.slice (some ⟨g3,0,none⟩) M.dk.length q3)) (by kernel_rfl) (WV _ _) (by kernel_rfl) x3 (fun hHeld=> ?_);simp only [WW,WX,Zn,Y2,Nat.zero_add,Nat.reduceAdd]
   iterate 5 refine tz ?_
   refine rd 5 rfl (fun K hK=> ?_);go_simp;refine hK.out _ _ hHeld (fun hHeld=> ?_);clear hK K
   (try simp only [Act.put,sA,sZ,sS])
   refine rd 6 rfl (fun K hK=> ?_);go_simp;refine (Draw.below_any a len cap bc (M.dk.length:Int) (by omega) (by omega) _ (Tm (uh HE).st)).mono ?_;rintro e9 w5 ⟨kk,rfl,k0,k1,s9,p9⟩;replace HE:=Z9 ((uh HE).step s9 (Uk p9));clear s9 p9 x3;obtain ⟨kn,rfl⟩:∃ kn:Nat,kk=(kn:Int):=⟨kk.toNat,by omega⟩
   refine hK.out _ _ ((uh HE).kb.cell (i:=3) rfl) (fun hHeld=> ?_);clear hK K
   (try simp only [Act.put,sA,sZ,sS])
   refine tp 7 ?_;refine tp 8 ?_;obtain ⟨_,hga,_,_,hc3,hz3⟩:=RecAt.view Zx (by omega) (uh HE).full.dk rfl (by omega);cases hga;have dd:=hc3 kn (by omega) 0 _ rfl;have df:=hz3 (kn*3+0);simp only [Nat.add_zero] at dd df;clear hc3 hz3;refine wpAnyH_done (by kernel_rfl) ?_ _;refine ZH rfl rfl ?_;go_simp;clear hHeld;go_wp2_with fail;go_meet;refine ⟨_,_,_,_,_,_,_,?_,by first | exact (uh HE).putD rfl (j:=kn) (i:=0) (by omega) (by omega) (.bool false) (false,(Z8 M.dk kn).2) rfl | exact ((uh HE).putD rfl (j:=kn) (i:=0) (by omega) (by omega) (.bool false) (false,(Z8 M.dk kn).2) rfl).drew⟩;constructor<;>(first | omega | (simp only [pushS,VH,List.length_append,Zn,Y2];omega))
  ·
   clear y0 y1;obtain ⟨g4,hga,_,_,_,_⟩:=RecAt.view Yo (by omega) (uh HE).full.pc rfl (by omega);cases hga;have x4:=(uh HE).kb.cell (i:=4) (v:= .slice (some ⟨g4,0,none⟩) M.pc.length q4) rfl;have hp0:0<M.pc.length:=by omega
   go_wp2_with fail;refine ZN (S:=fun w'=>w'.cell? ⟨mb,4,none⟩=some (.slice (some ⟨g4,0,none⟩) M.pc.length q4)) (by kernel_rfl) (WV _ _) (by kernel_rfl) x4 (fun hHeld=> ?_);simp only [WW,WX,Zn,Y2,Nat.zero_add,Nat.reduceAdd]
   iterate 3 refine tz ?_
   refine rd 3 rfl (fun K hK=> ?_);go_simp;refine (Draw.from_any a len cap bc (-1) 4 (by omega) (by omega) (by omega) _ (Tm (uh HE).st)).mono ?_;rintro e9 w5 ⟨v1,rfl,v10,v11,s9,p9⟩;replace HE:=Z9 ((uh HE).step s9 (Uk p9));clear s9 p9 x4;refine hK.out _ _ ((uh HE).kb.cell (i:=4) rfl) (fun hHeld=> ?_);clear hK K
   (try simp only [Act.put,sA,sZ,sS])
   refine tp 4 ?_;obtain ⟨_,hga,_,_,hc4,hz4⟩:=RecAt.view Yo (by omega) (uh HE).full.pc rfl (by omega);cases hga;have dd:=hc4 0 (by omega) 0 _ rfl;have df:=hz4 0;simp only [Nat.zero_mul,Nat.add_zero] at dd;clear hc4 hz4;refine wpAnyH_done (by kernel_rfl) ?_ _;refine ZH rfl rfl ?_;go_simp;clear hHeld;go_wp2_with fail;go_meet;refine ⟨_,_,_,_,_,_,_,?_,by first | exact (uh HE).putP rfl (j:=0) (by omega) v1 | exact ((uh HE).putP rfl (j:=0) (by omega) v1).drew⟩;constructor<;>(first | omega | (simp only [pushS,VH,List.length_append,Zn,Y2];omega))
  ·
   clear y0 y1;go_wp2_with fail;have hlb:w3.heap.size ≠ bc:=by have:=(uh HE).off.size;omega
   replace HE:=Z9 ((uh HE).below ((Z2 _ _).alloc (Z3 _) (.cells #[.int .i64 (-1),.int .i64 1000000,.int .i64 1000001] 2)));have KL:Hid (Blk (w3.alloc (.cells #[.int .i64 (-1),.int .i64 1000000,.int .i64 1000001] 2)) w3.heap.size 2 #[.int .i64 (-1),.int .i64 1000000,.int .i64 1000001]):=Z9 (Blk.new _ _ _);generalize w3.alloc (.cells #[.int .i64 (-1),.int .i64 1000000,.int .i64 1000001] 2)=Wp at *;generalize w3.heap.size=lb at *;refine (Draw.below_any a len cap bc 3 (by omega) (by omega) _ (uh HE).st).mono ?_;rintro e w4 ⟨v5,rfl,v50,v51,s9,p9⟩;replace KL:=Z9 ((uh KL).away p9 hlb);replace HE:=Z9 ((uh HE).step s9 p9);clear s9 p9;have x5:=(uh HE).kb.cell (i:=5) (v:= .int .i64 M.now) rfl;have f5:=(uh HE).kb.free 5;obtain ⟨vv,hcell⟩:=QI (uh KL) v50 (by first | exact v51 | (simp;omega)) rfl;go_wp2_with fail;go_meet;refine ⟨_,_,_,_,_,_,_,?_,by first | exact (uh HE).now vv | exact ((uh HE).now vv).drew⟩;constructor<;>(first | omega | (simp only [pushS,VH,List.length_append,Zn,Y2];omega))
  ·
   clear y0 y1;go_wp2_with fail;refine (PN a len cap bc _ (uh HE).st).mono ?_;rintro e w4 ⟨gv,gs,rfl,_,hG⟩;have E4:=Z9 ((uh HE).step hG.st hG.off);have HP:=Z9 ((uh HE).gd hG.st hG.off hG.row);obtain ⟨ga,gc,rfl⟩:=RecAt.shape hG.row;have x1:=(uh E4).kb.cell (i:=1) (v:= .slice b1 M.gd.length q1) rfl;have f1:=(uh E4).kb.free 1;clear hG;go_wp2_with fail;go_meet;refine ⟨_,_,_,_,_,_,_,?_,by first | exact uh HP | exact (uh HP).drew⟩;constructor<;>(first | omega | (simp only [pushS,VH,List.length_append,Zn,Y2];omega))
  ·
   clear y0 y1;obtain ⟨g3,hga,_,_,_,_⟩:=RecAt.view Zx (by omega) (uh HE).full.dk rfl (by omega);cases hga;have hp0:0<M.dk.length:=by omega
   have x3:=(uh HE).kb.cell (i:=3) (v:= .slice (some ⟨g3,0,none⟩) M.dk.length q3) rfl;go_wp2_with fail;refine ZN (S:=fun w'=>w'.cell? ⟨mb,3,none⟩=some (.slice (some ⟨g3,0,none⟩) M.dk.length q3)) (by kernel_rfl) (WV _ _) (by kernel_rfl) x3 (fun hHeld=> ?_);simp only [WW,WX,Zn,Y2,Nat.zero_add,Nat.reduceAdd]
   iterate 2 refine tz ?_
   refine tp 3 ?_;replace HE:=Z9 (uh HE).drew;generalize w3.drew=X0 at *;clear x3;refine wpAnyH_ready (rs:=[2,4]) (by kernel_rfl) (by simp) ?_;refine AllReadyH.cons rfl (fun K hK=> ?_) (AllReadyH.cons rfl (fun K hK=> ?_) AllReadyH.nil)
   ·
    go_simp;have hlb:X0.heap.size ≠ bc:=by have:=(uh HE).off.size;omega
    obtain ⟨Wp,hWp,hba,KL⟩:=YW X0 2 #[.int .i64 0,.int .i64 500000,.int .i64 1000000000001];replace HE:=Z9 ((uh HE).below hba);rw [hWp];refine hK.out _ _ ((uh HE).kb.cell (i:=3) rfl) (fun hHeld=> ?_);clear hK K
    (try simp only [Act.put,sA,sZ,sS])
    clear hba;clear hWp;generalize X0.heap.size=lb at *;refine rd 4 rfl (fun K hK=> ?_);go_simp;refine (Draw.below_any a len cap bc 3 (by omega) (by omega) _ (uh HE).st).mono ?_;rintro e9 w5 ⟨v5,rfl,v50,v51,s9,p9⟩;replace KL:=Z9 ((uh KL).away p9 hlb);replace HE:=Z9 ((uh HE).step s9 p9);clear s9 p9;refine hK.out _ _ ((uh HE).kb.cell (i:=3) rfl) (fun hHeld=> ?_);clear hK K
    (try simp only [Act.put,sA,sZ,sS])
    obtain ⟨_,hga,_,_,hc3,hz3⟩:=RecAt.view Zx (by omega) (uh HE).full.dk rfl (by omega);cases hga;have dd:=hc3 0 (by omega) 2 _ rfl;have df:=hz3 (0*3+2);clear hc3 hz3;simp only [Nat.zero_mul,Nat.zero_add] at dd df;obtain ⟨vv,hcell⟩:=QI (uh KL) v50 (by first | exact v51 | (simp;omega)) rfl;refine tp 5 ?_;refine rd 6 rfl (fun K hK=> ?_);go_simp;refine hK.out _ _ ((uh HE).kb.cell (i:=3) rfl) (fun hHeld=> ?_);clear hK K
    (try simp only [Act.put,sA,sZ,sS])
    refine tp 7 ?_;refine tp 8 ?_;refine wpAnyH_done (by kernel_rfl) ?_ _;refine ZH rfl rfl ?_;go_simp;clear hHeld;have hq:=(uh HE).putD rfl (j:=0) (i:=2) (by omega) (by omega) (.int .i64 vv) ((Z8 M.dk 0).1,(Z8 M.dk 0).2.1,vv) rfl;simp only [Nat.zero_mul,Nat.zero_add] at hq;go_wp2_with fail;go_meet;refine ⟨_,_,_,_,_,_,_,?_,by first | exact hq | exact (hq).drew⟩;constructor<;>(first | omega | (simp only [pushS,VH,List.length_append,Zn,Y2];omega))
   ·
    go_simp;refine (Draw.below_any a len cap bc 3 (by omega) (by omega) _ (uh HE).st).mono ?_;rintro e9 w5 ⟨v5,rfl,v50,v51,s9,p9⟩;replace HE:=Z9 ((uh HE).step s9 p9);clear s9 p9;refine hK.out _ _ ((uh HE).kb.cell (i:=3) rfl) (fun hHeld=> ?_);clear hK K
    (try simp only [Act.put,sA,sZ,sS])
    refine rd 2 rfl (fun K hK=> ?_);go_simp;have hlb:w5.heap.size ≠ bc:=by have:=(uh HE).off.size;omega
    obtain ⟨Wp,hWp,hba,KL⟩:=YW w5 2 #[.int .i64 0,.int .i64 500000,.int .i64 1000000000001];replace HE:=Z9 ((uh HE).below hba);rw [hWp];refine hK.out _ _ ((uh HE).kb.cell (i:=3) rfl) (fun hHeld=> ?_);clear hK K
    (try simp only [Act.put,sA,sZ,sS])
    clear hba;clear hWp;generalize w5.heap.size=lb at *;obtain ⟨_,hga,_,_,hc3,hz3⟩:=RecAt.view Zx (by omega) (uh HE).full.dk rfl (by omega);cases hga;have dd:=hc3 0 (by omega) 2 _ rfl;have df:=hz3 (0*3+2);clear hc3 hz3;simp only [Nat.zero_mul,Nat.zero_add] at dd df;obtain ⟨vv,hcell⟩:=QI (uh KL) v50 (by first | exact v51 | (simp;omega)) rfl;refine tp 5 ?_;refine rd 6 rfl (fun K hK=> ?_);go_simp;refine hK.out _ _ ((uh HE).kb.cell (i:=3) rfl) (fun hHeld=> ?_);clear hK K
    (try simp only [Act.put,sA,sZ,sS])
    refine tp 7 ?_;refine tp 8 ?_;refine wpAnyH_done (by kernel_rfl) ?_ _;refine ZH rfl rfl ?_;go_simp;clear hHeld;have hq:=(uh HE).putD rfl (j:=0) (i:=2) (by omega) (by omega) (.int .i64 vv) ((Z8 M.dk 0).1,(Z8 M.dk 0).2.1,vv) rfl;simp only [Nat.zero_mul,Nat.zero_add] at hq;go_wp2_with fail;go_meet;refine ⟨_,_,_,_,_,_,_,?_,by first | exact hq | exact (hq).drew⟩;constructor<;>(first | omega | (simp only [pushS,VH,List.length_append,Zn,Y2];omega))
 case rest=>
 obtain ⟨M9,u0,u1,u2,u3,u4,rq9,⟨hm1,hm2⟩,hE9⟩:=hcut;have Hm1:=Z9 hm1;have Hm2:=Z9 hm2;clear hm1 hm2;have k6:=hE9.full.smy;obtain ⟨c0,r0,c1,r1,c2,r2,c3,r3,c4,r4,rfl,rfl,rfl,rfl,rfl,_,_,_,_,_,_,_,_,_,_⟩:=k6.five;have H9:=Z9 hE9;clear hE9 k6 HE Hok;have x0:=(uh H9).kb.cell (i:=0) (v:= .slice c0 M9.rm.length r0) rfl;have o0:=(uh H9).kr.cell (i:=0) (v:= .slice none 0 0) rfl;have f0:=(uh H9).kr.free 0;have x1:=(uh H9).kb.cell (i:=1) (v:= .slice c1 M9.gd.length r1) rfl;have o1:=(uh H9).kr.cell (i:=1) (v:= .slice none 0 0) rfl;have f1:=(uh H9).kr.free 1;have x2:=(uh H9).kb.cell (i:=2) (v:= .slice c2 M9.sm.length r2) rfl;have o2:=(uh H9).kr.cell (i:=2) (v:= .slice none 0 0) rfl;have f2:=(uh H9).kr.free 2;have x3:=(uh H9).kb.cell (i:=3) (v:= .slice c3 M9.dk.length r3) rfl;have o3:=(uh H9).kr.cell (i:=3) (v:= .slice none 0 0) rfl;have f3:=(uh H9).kr.free 3;have x4:=(uh H9).kb.cell (i:=4) (v:= .slice c4 M9.pc.length r4) rfl;have o4:=(uh H9).kr.cell (i:=4) (v:= .slice none 0 0) rfl;have f4:=(uh H9).kr.free 4;have x5:=(uh H9).kb.cell (i:=5) (v:= .int .i64 M9.now) rfl;have o5:=(uh H9).kr.cell (i:=5) (v:= .int .i64 0) rfl;have f5:=(uh H9).kr.free 5;have hml:=(uh H9).mlo;go_wp2_with fail;refine Zz (v:= .agg (S6 c0 r0 c1 r1 c2 r2 c3 r3 c4 r4 M9)) (by simp [results,results29,go_sem, *]) rfl ⟨M9,_,_,_,_,_,rq9,rfl,uh Hm1,uh Hm2,?_,?_,?_⟩
 ·iterate 6 (refine FullSmy.set_off ?_ (fun k e=>by have:=((uh H9).full.own e).1;omega) _ _)
  exact (uh H9).full
 ·iterate 6 (refine St.newer ?_ (by omega) _ _)
  exact (uh H9).st
 ·iterate 6 (refine Off.newer ?_ (by omega) _ _)
  exact (uh H9).off
end Go.Proofs.YtmdgokjeobnnaaaGreatDoor
namespace Go.Proofs.YtmdgokjeobnnaaaGreatDoor
open Go.ChangeShapes Go.WideShapes Go.ChangeAt Go.RowKit Go.Sort
open Draw (St Off Row Cur)
set_option linter.unusedVariables false
set_option linter.unusedSimpArgs false
set_option maxRecDepth 100000
structure Wbox (a:Option Addr) (len cap cb rb mb:Nat) (w W:World) (M:Z7) (u0 u1 u2 u3 u4:Value) (rq:List (Z5 × Value)):Prop where
 st:St a len cap cb W
 kr:Blk W rb 40 E6
 km:Blk W mb 40 #[u0,u1,u2,u3,u4,.int .i64 M.now]
 full:FullSmy (cb+1) W u0 u1 u2 u3 u4 M rq
 bb:Below w.heap.size w W
 lr:rb<cb
 lm:cb<mb
 rw:w.heap.size<=rb
section
variable {a : Option Addr} {len cap cb rb mb : Nat} {w W X : World} {M : Z7} {u0 u1 u2 u3 u4 : Value} {rq : List (Z5 × Value)}
theorem Wbox.step (h:Wbox a len cap cb rb mb w W M u0 u1 u2 u3 u4 rq) (s:St a len cap cb X) (p:Off cb W X):Wbox a len cap cb rb mb w X M u0 u1 u2 u3 u4 rq:=
 ⟨s,h.kr.away p (by have:=h.lr;omega),h.km.away p (by have:=h.lm;omega),h.full.away p (Nat.lt_succ_self _),h.bb.trans (p.below (by have:=h.lr;have:=h.rw;omega) h.bb.size),h.lr,h.lm,h.rw⟩
theorem Wbox.below (h:Wbox a len cap cb rb mb w W M u0 u1 u2 u3 u4 rq) (hb:Below W.heap.size W X):Wbox a len cap cb rb mb w X M u0 u1 u2 u3 u4 rq:=
 ⟨YY h.st (hb.mono (Xs h.st)),h.kr.below hb h.kr.lt,h.km.below hb h.km.lt,h.full.below hb,h.bb.trans (hb.mono h.bb.size),h.lr,h.lm,h.rw⟩
theorem Wbox.drew (h:Wbox a len cap cb rb mb w W M u0 u1 u2 u3 u4 rq):Wbox a len cap cb rb mb w W.drew M u0 u1 u2 u3 u4 rq:=h.below (Z2 _ _).drew
end
end Go.Proofs.YtmdgokjeobnnaaaGreatDoor
namespace Go.Proofs.YtmdgokjeobnnaaaGreatDoor
open Go.ChangeShapes Go.WideShapes Go.ChangeAt Go.RowKit Go.Sort Go.Proofs.Tryz
open Draw (St Off Row Cur)
set_option linter.unusedVariables false
set_option linter.unusedSimpArgs false
set_option maxRecDepth 100000
theorem Mp {m:Z7} (h:ZJ m=true):m.gd.length<=6/\m.sm.length<=12/\1<=m.pc.length/\m.pc.length<=3:=by
 have h12:=Ji h;have hd:=(ZI h).head;unfold YI at hd;simp only [ZR,YV] at hd;obtain ⟨h1,h2,h3,h4,h5,_⟩:=hd;obtain ⟨r1,r2,_,_⟩:=Zo h1;exact ⟨(Xg h2).2,h12,by omega,by omega⟩
theorem Qf (a:Option Addr) (len cap:Nat) (w:World) (hr:Row w.heap.size w a len) :
  Calls prog 12 #[.slice a len cap] w fun e w'=> ∃ M u0 u1 u2 u3 u4 rq,∃ k who A B:Int,e= .returned (.tuple #[.agg #[u0,u1,u2,u3,u4,.int .i64 M.now],.agg #[.int .i64 k,.int .i64 who,.int .i64 A,.int .i64 B]])/\(∀ x ∈ [k,who,A,B],-4000000000000<=x/\x<=4000000000000)/\FullSmy (w.heap.size+1) w' u0 u1 u2 u3 u4 M rq/\Below w.heap.size w w':=by
 have Hr:=Z9 (Draw.row_later hr (((Z2 _ _).alloc (Z3 _) (.cells E6 40)).alloc (by simp) (.cells #[.int .i64 0,.int .i64 0,.int .i64 0,.int .i64 0] 25)));clear hr;go_enter func12,ntmps12;go_upto_region 1 with fail;have kr:Hid (Blk ((w.alloc (.cells E6 40)).alloc (.cells #[.int .i64 0,.int .i64 0,.int .i64 0,.int .i64 0] 25)) w.heap.size 40 E6):=Z9 ((Blk.new _ _ _).alloc _)
 have ka:Hid (Blk ((w.alloc (.cells E6 40)).alloc (.cells #[.int .i64 0,.int .i64 0,.int .i64 0,.int .i64 0] 25)) (w.heap.size+1) 25 #[.int .i64 0,.int .i64 0,.int .i64 0,.int .i64 0]):=Z9 (by
  have k:=Blk.new (w.alloc (.cells E6 40)) 25 #[.int .i64 0,.int .i64 0,.int .i64 0,.int .i64 0];rw [XX] at k
  exact k)
 have BB:Hid (Below w.heap.size w ((w.alloc (.cells E6 40)).alloc (.cells #[.int .i64 0,.int .i64 0,.int .i64 0,.int .i64 0] 25))):=Z9 (((ba _ _)).alloc (by simp) _);have hzW:w.heap.size+1<((w.alloc (.cells E6 40)).alloc (.cells #[.int .i64 0,.int .i64 0,.int .i64 0,.int .i64 0] 25)).heap.size:=by simp
 generalize (w.alloc (.cells E6 40)).alloc (.cells #[.int .i64 0,.int .i64 0,.int .i64 0,.int .i64 0] 25)=W at *;go_wp2_with fail;refine (Draw.new_any a len cap _ (uh Hr)).mono ?_;rintro e w1 ⟨rfl,s1,o1⟩;have Hs:=Z9 s1;replace kr:=Z9 ((uh kr).away o1 (by omega));replace ka:=Z9 ((uh ka).away o1 (by omega));replace BB:=Z9 ((uh BB).trans (o1.below (by omega) (uh BB).size));clear s1 o1 Hr;generalize W.heap.size=cb at *;go_wp2_with fail;refine (Qq a len cap cb _ (uh Hs)).mono ?_;rintro e w2 ⟨M,u0,u1,u2,u3,u4,rq,rfl,hm2,hm3,hf,s2,o2⟩;have hc1:=Xs (uh Hs);have k6:=hf.smy;obtain ⟨b0,q0,b1,q1,b2,q2,b3,q3,b4,q4,rfl,rfl,rfl,rfl,rfl,_,_,_,_,_,_,_,_,_,_⟩:=k6.five;have hb:Below w2.heap.size w2 (w2.alloc (.cells (S6 b0 q0 b1 q1 b2 q2 b3 q3 b4 q4 M) 40)):=ba _ _;have HW:Hid (Wbox a len cap cb w.heap.size w2.heap.size w (w2.alloc (.cells (S6 b0 q0 b1 q1 b2 q2 b3 q3 b4 q4 M) 40)) M (.slice b0 M.rm.length q0) (.slice b1 M.gd.length q1) (.slice b2 M.sm.length q2) (.slice b3 M.dk.length q3) (.slice b4 M.pc.length q4) rq):=Z9 ⟨s2.alloc _,((uh kr).away o2 (by omega)).alloc _,Blk.new _ _ _,(hf.mono (n₁:=cb+1) (by omega)).below hb,((uh BB).trans (o2.below (by omega) (uh BB).size)).trans (hb.mono (by have:=(uh BB).size;have:=o2.size;omega)),by omega,Xs s2,Z3 _⟩;replace ka:=Z9 (((uh ka).away o2 (by omega)).alloc (.cells (S6 b0 q0 b1 q1 b2 q2 b3 q3 b4 q4 M) 40));have Hm3:=Z9 hm3;clear hm2 hm3 hf s2 o2 k6 hb kr BB Hs hc1;go_upto_region 3 with fail;generalize w2.alloc (.cells (S6 b0 q0 b1 q1 b2 q2 b3 q3 b4 q4 M) 40)=W2 at *;generalize w2.heap.size=mb at *;obtain ⟨ok,Hok⟩:=WG (ZJ M);obtain ⟨x0,x1,x2,x3,x4,x5⟩:=(uh HW).km.c6;go_wp2_with fail;refine ck (Rb (uh Hok) (uh HW).full.smy) fun w3 hb=> ?_;replace ka:=bl ka hb;replace HW:=Z9 ((uh HW).below hb);clear hb x0 x1 x2 x3 x4 x5;cases ok
 ·
  obtain ⟨y0,y1,y2,y3,y4,y5⟩:=(uh HW).km.c6;have o0:=(uh HW).kr.cell (i:=0) (v:= .slice none 0 0) rfl;have f0:=(uh HW).kr.free 0;have o1:=(uh HW).kr.cell (i:=1) (v:= .slice none 0 0) rfl;have f1:=(uh HW).kr.free 1;have o2:=(uh HW).kr.cell (i:=2) (v:= .slice none 0 0) rfl;have f2:=(uh HW).kr.free 2;have o3:=(uh HW).kr.cell (i:=3) (v:= .slice none 0 0) rfl;have f3:=(uh HW).kr.free 3;have o4:=(uh HW).kr.cell (i:=4) (v:= .slice none 0 0) rfl;have f4:=(uh HW).kr.free 4;have o5:=(uh HW).kr.cell (i:=5) (v:= .int .i64 0) rfl;have f5:=(uh HW).kr.free 5;have p0:=(uh ka).cell (i:=0) (v:= .int .i64 0) rfl;have g0:=(uh ka).free 0;have p1:=(uh ka).cell (i:=1) (v:= .int .i64 0) rfl;have g1:=(uh ka).free 1;have p2:=(uh ka).cell (i:=2) (v:= .int .i64 0) rfl;have g2:=(uh ka).free 2;have p3:=(uh ka).cell (i:=3) (v:= .int .i64 0) rfl;have g3:=(uh ka).free 3;have hlr:=(uh HW).lr;have HF9:=Z9 (uh HW).full;have HB9:=Z9 (uh HW).bb;go_wp2_with fail;refine Zz (v:= .tuple #[.agg (S6 b0 q0 b1 q1 b2 q2 b3 q3 b4 q4 M),.agg #[.int .i64 10,.int .i64 0,.int .i64 1,.int .i64 0]]) (by simp [results,results12,go_sem, *]) rfl ⟨M,_,_,_,_,_,rq,_,_,_,_,rfl,by simp only [List.mem_cons,List.not_mem_nil,or_false,forall_eq_or_imp,forall_eq];omega,?_,?_⟩
  ·refine FullSmy.mono (n₀:=cb+1) ?_ (by omega)
   iterate 10 (refine FullSmy.set_off ?_ (fun k e=>by have:=((uh HF9).own e).1;omega) _ _)
   exact uh HF9
  ·iterate 10 (refine YU ?_ (by first | exact Z3 _ | exact Nat.le_succ _) _)
   exact uh HB9
 ·
  obtain ⟨z1,z2,z3,z4⟩:=Mp (uh Hok);obtain ⟨_,d1,d2,_⟩:=uh Hm3;have hlr:=(uh HW).lr;have hlm:=(uh HW).lm;obtain ⟨x0,x1,x2,x3,x4,x5⟩:=(uh HW).km.c6;have o0:=(uh HW).kr.cell (i:=0) (v:= .slice none 0 0) rfl;have f0:=(uh HW).kr.free 0;have o1:=(uh HW).kr.cell (i:=1) (v:= .slice none 0 0) rfl;have f1:=(uh HW).kr.free 1;have o2:=(uh HW).kr.cell (i:=2) (v:= .slice none 0 0) rfl;have f2:=(uh HW).kr.free 2;have o3:=(uh HW).kr.cell (i:=3) (v:= .slice none 0 0) rfl;have f3:=(uh HW).kr.free 3;have o4:=(uh HW).kr.cell (i:=4) (v:= .slice none 0 0) rfl;have f4:=(uh HW).kr.free 4;have o5:=(uh HW).kr.cell (i:=5) (v:= .int .i64 0) rfl;have f5:=(uh HW).kr.free 5;go_wp2_with fail
  go_region_with (go_at_call 31;go_must (refine (RQ a len cap cb _ _ _ _ _ _ _ _ _ _ _ _ _ _ _ _ z1 z2 d1 d2 z3 z4 _ ?_).mono ?_);go_must (exact (uh HW).drew.st);go_must (rintro e w8 ⟨k9,n9,A9,B9,rfl,near9,s9,p9⟩;have HW8:=Z9 ((uh HW).drew.step s9 p9);have ka8:=Z9 (((uh ka).below (Z2 _ _).drew (uh ka).lt).away p9 (by omega));clear s9 p9;obtain ⟨y0,y1,y2,y3,y4,y5⟩:=(uh HW8).km.c6;have o0:=(uh HW8).kr.cell (i:=0) (v:= .slice none 0 0) rfl;have f0:=(uh HW8).kr.free 0;have o1:=(uh HW8).kr.cell (i:=1) (v:= .slice none 0 0) rfl;have f1:=(uh HW8).kr.free 1;have o2:=(uh HW8).kr.cell (i:=2) (v:= .slice none 0 0) rfl;have f2:=(uh HW8).kr.free 2;have o3:=(uh HW8).kr.cell (i:=3) (v:= .slice none 0 0) rfl;have f3:=(uh HW8).kr.free 3;have o4:=(uh HW8).kr.cell (i:=4) (v:= .slice none 0 0) rfl;have f4:=(uh HW8).kr.free 4;have o5:=(uh HW8).kr.cell (i:=5) (v:= .int .i64 0) rfl;have f5:=(uh HW8).kr.free 5;have p0:=(uh ka8).cell (i:=0) (v:= .int .i64 0) rfl;have g0:=(uh ka8).free 0;have p1:=(uh ka8).cell (i:=1) (v:= .int .i64 0) rfl;have g1:=(uh ka8).free 1;have p2:=(uh ka8).cell (i:=2) (v:= .int .i64 0) rfl;have g2:=(uh ka8).free 2;have p3:=(uh ka8).cell (i:=3) (v:= .int .i64 0) rfl;have g3:=(uh ka8).free 3;have HF9:=Z9 (uh HW8).full;have HB9:=Z9 (uh HW8).bb))
  all_goals
   go_wp2_with fail;refine Zz (v:= .tuple #[.agg (S6 b0 q0 b1 q1 b2 q2 b3 q3 b4 q4 M),.agg #[.int .i64 k9,.int .i64 n9,.int .i64 A9,.int .i64 B9]]) (by simp [results,results12,go_sem, *]) rfl ⟨M,_,_,_,_,_,rq,_,_,_,_,rfl,near9,?_,?_⟩
   ·refine FullSmy.mono (n₀:=cb+1) ?_ (by omega)
    iterate 10 (refine FullSmy.set_off ?_ (fun k e=>by have:=((uh HF9).own e).1;omega) _ _)
    exact uh HF9
   ·iterate 10 (refine YU ?_ (by first | exact Z3 _ | exact Nat.le_succ _) _)
    exact uh HB9
open Go.Lib (join)
set_option maxRecDepth 100000
theorem Ru (a:Option Addr) (len cap:Nat) (w:World) (hr:Row w.heap.size w a len) :
  Calls prog 5 #[.slice a len cap] w fun e w'=> ∃ k who A B:Int,e= .returned (.agg #[.int .i64 k,.int .i64 who,.int .i64 A,.int .i64 B])/\(∀ x ∈ [k,who,A,B],-4000000000000<=x/\x<=4000000000000)/\Below w.heap.size w w':=by
 have Hr:=Z9 (Draw.row_later hr ((Z2 _ _).alloc (Z3 _) (.cells #[.int .i64 0,.int .i64 0,.int .i64 0,.int .i64 0] 25)));clear hr;go_enter func5,ntmps5;go_wp2_with fail;obtain ⟨BB,ka⟩:=Xr w 25 #[.int .i64 0,.int .i64 0,.int .i64 0,.int .i64 0];refine (Qf a len cap _ (uh Hr)).mono ?_;rintro e w1 ⟨M,u0,u1,u2,u3,u4,rq,k,who,A,B,rfl,near,hf,hb⟩;have k6:=hf.smy;obtain ⟨b0,q0,b1,q1,b2,q2,b3,q3,b4,q4,rfl,rfl,rfl,rfl,rfl,_,_,_,_,_,_,_,_,_,_⟩:=k6.five;clear hf k6;replace ka:=bl ka hb;replace BB:=bt BB hb;clear hb Hr;go_upto_region 2 with fail;have hbb:=uh BB;have hz:=hbb.size;have p0:=((uh ka).alloc (.cells (S6 b0 q0 b1 q1 b2 q2 b3 q3 b4 q4 M) 40)).alloc (.cells #[.int .i64 k,.int .i64 who,.int .i64 A,.int .i64 B] 25);have c0:=p0.cell (i:=0) (v:= .int .i64 0) rfl;have g0:=p0.free 0;have c1:=p0.cell (i:=1) (v:= .int .i64 0) rfl;have g1:=p0.free 1;have c2:=p0.cell (i:=2) (v:= .int .i64 0) rfl;have g2:=p0.free 2;have c3:=p0.cell (i:=3) (v:= .int .i64 0) rfl;have g3:=p0.free 3;have Hb2:=Z9 ((hbb.alloc hz (.cells (S6 b0 q0 b1 q1 b2 q2 b3 q3 b4 q4 M) 40)).alloc (by simp;omega) (.cells #[.int .i64 k,.int .i64 who,.int .i64 A,.int .i64 B] 25));clear p0 hbb;go_wp2_with fail;refine Zz (v:= .agg #[.int .i64 k,.int .i64 who,.int .i64 A,.int .i64 B]) (by simp [results,results5,go_sem, *]) rfl ⟨_,_,_,_,rfl,near,?_⟩
 iterate 4 (refine YU ?_ (by exact Z3 _) _)
 exact uh Hb2
theorem R7 {a:Yp} (ha:S5 a):(Zk a).length<=200:=by
 by_cases h:a.1<1\/14<a.1
 ·rw [UW h];simp
 ·obtain ⟨k,hk⟩:∃ k:Nat,a.1=(k:Int)+1:=⟨(a.1-1).toNat,by omega⟩
  have h14:k<14:=by omega
  rw [V6 hk h14];have h3:=Vf k h14;have hjl:=S7 [32] 21 (Zw (Zt.getD k []) (Y0.getD k []) a) (TV ha (Vg k h14).1 (SL k h14));rw [Yy] at hjl;simp only [Zn,Y2] at hjl;show (join _ [32]).length<=200;have:((Y0.getD k []).length+1)*(21+(0+1))<=4*22:=Nat.mul_le_mul (by omega) (by omega);omega
theorem Rt (a:Option Addr) (len cap:Nat) (w:World) (hr:Row w.heap.size w a len) :
  Calls prog 7 #[.slice a len cap] w fun e w'=> ∃ l,e= .returned (.string (bs l))/\l.length<=1002/\Below w.heap.size w w':=by
 have Hr:=Z9 hr;clear hr;go_enter func7,ntmps7;go_wp2_with fail;refine (Draw.new_any a len cap _ (uh Hr)).mono ?_;rintro e w1 ⟨rfl,hs1,ho1⟩;have Hs:=Z9 hs1;have HB:Hid (Below w.heap.size w w1):=Z9 (ho1.below (Z3 _) (Z3 _));clear hs1 ho1;go_wp2_with fail;refine (Draw.below_any a len cap w.heap.size 14 (by omega) (by omega) _ (uh Hs)).mono ?_;rintro e w2 ⟨x0,rfl,a0,b0,s9,p9⟩;replace Hs:=Z9 s9;replace HB:=Z9 ((uh HB).trans (p9.below (Z3 _) (uh HB).size));clear s9 p9;go_wp2_with fail;refine (Draw.from_any a len cap w.heap.size (-1) 9 (by omega) (by omega) (by omega) _ (uh Hs)).mono ?_;rintro e w3 ⟨x1,rfl,a1,b1,s9,p9⟩;replace Hs:=Z9 s9;replace HB:=Z9 ((uh HB).trans (p9.below (Z3 _) (uh HB).size));clear s9 p9;go_wp2_with fail;refine (Draw.from_any a len cap w.heap.size (-5) 30 (by omega) (by omega) (by omega) _ (uh Hs)).mono ?_;rintro e w4 ⟨x2,rfl,a2,b2,s9,p9⟩;replace Hs:=Z9 s9;replace HB:=Z9 ((uh HB).trans (p9.below (Z3 _) (uh HB).size));clear s9 p9;go_wp2_with fail;refine (Draw.below_any a len cap w.heap.size 9 (by omega) (by omega) _ (uh Hs)).mono ?_;rintro e w5 ⟨x3,rfl,a3,b3,s9,p9⟩;replace Hs:=Z9 s9;replace HB:=Z9 ((uh HB).trans (p9.below (Z3 _) (uh HB).size));clear s9 p9;go_wp2_with fail;have hfit:S5 ((1+x0,x1,x2,x3):Yp):=fun i hi=>by simp only [Xw];split<;>(try split)<;>omega
 have hlen:=R7 hfit;refine ck (UC (1+x0,x1,x2,x3) hfit) fun w6 hb=> ?_;replace Hs:=Z9 (YY (uh Hs) (hb.mono (Xs (uh Hs))));replace HB:=Z9 ((uh HB).trans (hb.mono (uh HB).size));clear hb hfit;generalize Zk (1+x0,x1,x2,x3)=l at *;go_wp2_with fail;refine (Draw.once_any a len cap w.heap.size 2 (by omega) (by omega) _ (uh Hs)).mono ?_;rintro e w7 ⟨b,rfl,s9,p9⟩;replace Hs:=Z9 s9;replace HB:=Z9 ((uh HB).trans (p9.below (Z3 _) (uh HB).size));clear s9 p9;cases b
 ·go_wp2_with fail
  go_ret;exact ⟨l,rfl,by omega,uh HB⟩
 ·go_wp2_with fail
  refine (JB a len cap w.heap.size l _ 5 rfl (by omega) (by omega) (by omega) _ (uh Hs)).mono ?_;rintro e w8 ⟨l',rfl,hl',_,p9⟩;replace HB:=Z9 ((uh HB).trans (p9.below (Z3 _) (uh HB).size));clear p9;go_wp2_with fail;go_ret;exact ⟨l',rfl,by omega,uh HB⟩
open Go.Lib (join itoa)
open Draw (St Off Row Cur IsRow)
set_option maxRecDepth 100000
theorem OL {a:Yp} : S5 a ↔ ((-9223372036854775808<=a.2.1/\a.2.1<=9223372036854775807)/\(-9223372036854775808<=a.2.2.1/\a.2.2.1<=9223372036854775807)/\(-9223372036854775808<=a.2.2.2/\a.2.2.2<=9223372036854775807)):=
 ⟨fun h=>⟨h 0 (by omega),h 1 (by omega),h 2 (by omega)⟩,fun ⟨h0,h1,h2⟩ i hi=>by unfold Xw;split;exact h0;split;exact h1;exact h2⟩
theorem G8 {a:Yp} {i:Nat} {n:Int} (h:S5 a) (h0 : -999999999<=n) (h1:n<=999999999):S5 (VG a i n):=by
 rw [OL] at h ⊢;unfold VG
 split
 ·exact ⟨⟨by show _<=n;omega,by show n<=_;omega⟩,h.2⟩
 ·split
  ·exact ⟨h.1,⟨by show _<=n;omega,by show n<=_;omega⟩,h.2.2⟩
  ·exact ⟨h.1,h.2.1,by show _<=n;omega,by show n<=_;omega⟩
theorem NM:∀ (r:List Txt) (t:List Nat) (a x:Yp),S5 a->ZK r t a=some x->S5 x
 | [],[],a,x,ha,h=>by cases h;exact ha
 | y::r,i::t,a,x,ha,h=>by
  simp only [ZK] at h;cases hy:Zv y with
  | none=>rw [hy] at h;cases h
  | some n=>
   rw [hy] at h;have hb:=(XR hy).2;exact NM r t (VG a i n) x (G8 ha hb.1 hb.2) h
 | [],_::_,_,_,_,h=>by cases h
 | _::_,[],_,_,_,h=>by cases h
theorem N2 {l:Txt} {x:Yp} (h:Yj l=some x):S5 x:=by
 obtain ⟨k,r,_,_,h2⟩:=Un h;exact NM _ _ _ _ (OL.2 ⟨by simp,by simp,by simp⟩) h2
theorem GO (Q:Option Yp):∃ (b0 b1 b2 b3:Int) (bb:Bool),P4 Q= .tuple #[.agg #[.int .i64 b0,.int .i64 b1,.int .i64 b2,.int .i64 b3],.bool bb]/\((bb=true/\Q=some (b0,b1,b2,b3))\/(bb=false/\b0=0/\b1=0/\b2=0/\b3=0)):=by
 cases Q with
 | none=>exact ⟨0,0,0,0,false,rfl,.inr ⟨rfl,rfl,rfl,rfl,rfl⟩⟩
 | some x=>exact ⟨x.1,x.2.1,x.2.2.1,x.2.2.2,true,rfl,.inl ⟨rfl,rfl⟩⟩
def szN (n:Int):Int:=if n<0 then -n else n
theorem Mm {n r:Int} (h:szN n=r) (n0 : -4000000000000<=n) (n1:n<=4000000000000) (w:World):cE 11 #[.int .i64 n] w (.int .i64 r):=by
 by_cases hn:n<0
 all_goals
  go_enter func11,ntmps11;go_wp2_with fail;go_ret;exact ⟨Za (by rw [<-h];unfold szN;split<;>omega),rfl⟩
theorem Jq {n:Int} (h:¬ 999999999<szN n) : -999999999<=n/\n<=999999999:=by
 unfold szN at h;split at h<;>omega
theorem G6 {l:Txt} (h:l ≠ []):(bs l).toList.isEmpty=false:=by
 have e:(bs l).toList=l:=by rw [ByteArray.toList_eq,Y3]
 rw [e];cases l with
 | nil=>exact absurd rfl h
 | cons=>rfl
theorem Gq {l:Txt} (h:l=[]):(bs l).toList.isEmpty=true:=by rw [h,ByteArray.toList_eq];rfl
theorem P2 (a0:Option Addr) (len0 cap0:Nat) (z0:List Int) (w:World) (w0:IsRow .u8 w a0 len0 cap0 z0) (he:Env w) :
  cB 3 #[.slice a0 len0 cap0] w (.bool true):=by
 by_cases hbig:4096<len0
 ·go_enter func3,ntmps3
  go_wp2_with fail;refine (Draw.big_yes _ _ _ _ hbig).mono ?_;rintro e w' ⟨rfl,rfl⟩;go_wp2_with fail;go_ret;exact ⟨rfl,Z2 _ _⟩
 have HRow:=Z9 (Draw.row_of w0 (by omega));have He:=Z9 he;clear w0 he;go_enter func3,ntmps3;go_wp2_with fail;refine (Draw.big_no _ _ _ _ (by omega)).mono ?_;rintro e w' ⟨rfl,hw'⟩;subst w';go_wp2_with fail;refine (Ru _ _ _ _ (uh HRow)).mono ?_;rintro e w1 ⟨k,who,A,B,rfl,near,hb⟩;have BB:=Z9 hb;clear hb;simp only [List.mem_cons,List.not_mem_nil,or_false,forall_eq_or_imp,forall_eq] at near;obtain ⟨nk,nw,nA,nB⟩:=near;have hfit:S5 (k,who,A,B):=OL.2 ⟨by show _<=who/\who<=_;omega,by show _<=A/\A<=_;omega,by show _<=B/\B<=_;omega⟩;have HNil:Hid (Zk (k,who,A,B)=[] ↔ (k<1\/14<k)):=Z9 N8;have HBack:Hid (1<=k/\k<=14-> -999999999<=who/\who<=999999999-> -999999999<=A/\A<=999999999-> -999999999<=B/\B<=999999999-> ∃ y,Yj (Zk (k,who,A,B))=some y/\y.1=k/\Zk y=Zk (k,who,A,B)):=Z9 (fun h1 h2 h3 h4=>OW (a:=(k,who,A,B)) h1 h2 h3 h4);have HSi:Hid (∀ W,Tab W->cB 6 #[.agg #[.int .i64 k,.int .i64 who,.int .i64 A,.int .i64 B]] W (.string (bs (Zk (k,who,A,B))))):=Z9 (fun W h=>We (k,who,A,B) hfit h);have HSs:Hid (∀ W:World,cB 10 #[.agg #[.int .i64 k,.int .i64 who,.int .i64 A,.int .i64 B]] W (.string (bs (Zk (k,who,A,B))))):=Z9 (fun W=>UC (w:=W) (k,who,A,B) hfit);have hlen:(Zk (k,who,A,B)).length<=200:=R7 hfit;generalize Zk (k,who,A,B)=sl at HNil HBack HSi HSs hlen;clear hfit;go_upto_region 4 with fail;obtain ⟨W1,hW1,hba,ka⟩:=YW w1 25 #[.int .i64 k,.int .i64 who,.int .i64 A,.int .i64 B];replace BB:=bt BB hba;clear hba;rw [hW1];clear hW1;generalize w1.heap.size=ab at *;obtain ⟨y0,y1,y2,y3⟩:=(uh ka).c4;go_wp2_with fail;clear y0 y1 y2 y3;refine ck (uh HSi W1 ((uh He).below (uh BB)).tab) fun w2 hb=> ?_;replace ka:=bl ka hb;replace BB:=bt BB hb;clear hb HSi;go_wp2_with fail;refine (Rt _ _ _ _ (Draw.row_later (uh HRow) (uh BB))).mono ?_;rintro e w3 ⟨l,rfl,hl,hb⟩;replace ka:=bl ka hb;replace BB:=bt BB hb;clear hb;have HRi:=Z9 (fun (W:World) h=>Ux l W h (by omega));have HRs:=Z9 (fun (W:World)=>RE l W (by omega));obtain ⟨b0,b1,b2,b3,bb,hres,hx⟩:=GO (Yj l);rw [hres] at HRi HRs
 have HX:Hid ((bb=true/\S5 (b0,b1,b2,b3)/\Zk (b0,b1,b2,b3)=l)\/(bb=false/\b0=0/\b1=0/\b2=0/\b3=0)):=Z9 (by
  rcases hx with ⟨h1,h2⟩ | h
  ·exact .inl ⟨h1,N2 h2,Tg h2⟩
  ·exact .inr h)
 clear hres hx;go_wp2_with fail;refine ck (uh HRi w3 ((uh He).below (uh BB))) fun w4 hb=> ?_;replace ka:=bl ka hb;replace BB:=bt BB hb;clear hb HRi;go_upto_region 7 with fail;obtain ⟨W4,hW4,hba,kx⟩:=YW w4 25 #[.int .i64 b0,.int .i64 b1,.int .i64 b2,.int .i64 b3];replace ka:=bl ka hba;replace BB:=bt BB hba;clear hba;rw [hW4];clear hW4;generalize w4.heap.size=xb at *;go_wp2_with fail;refine ck (uh HRs W4) fun w5 hb=> ?_;replace ka:=bl ka hb;replace kx:=bl kx hb;replace BB:=bt BB hb;clear hb HRs;go_upto_region 8 with fail;obtain ⟨W5,hW5,hba,kz⟩:=YW w5 25 #[.int .i64 b0,.int .i64 b1,.int .i64 b2,.int .i64 b3];replace ka:=bl ka hba;replace kx:=bl kx hba;replace BB:=bt BB hba;clear hba;rw [hW5];clear hW5;generalize w5.heap.size=zb at *;obtain ⟨y0,y1,y2,y3⟩:=(uh ka).c4;have x0:=(uh kx).cell (i:=0) (v:= .int .i64 b0) rfl;have x1:=(uh kx).cell (i:=1) (v:= .int .i64 b1) rfl;have x2:=(uh kx).cell (i:=2) (v:= .int .i64 b2) rfl;have x3:=(uh kx).cell (i:=3) (v:= .int .i64 b3) rfl;have z0:=(uh kz).cell (i:=0) (v:= .int .i64 b0) rfl;have z1:=(uh kz).cell (i:=1) (v:= .int .i64 b1) rfl;have z2:=(uh kz).cell (i:=2) (v:= .int .i64 b2) rfl;have z3:=(uh kz).cell (i:=3) (v:= .int .i64 b3) rfl;go_wp2_with fail;clear y0 y1 y2 y3 x0 x1 x2 x3 z0 z1 z2 z3 kz;refine ck (uh HSs _) fun w6 hb=> ?_;replace ka:=bl ka hb;replace kx:=bl kx hb;replace BB:=bt BB hb;clear hb HSs;go_upto_region 10 with fail
 go_cut [59] (fun s wc=>s= .bool false/\Below w6.heap.size w6 wc)
 case first=>
  have x0:=(uh kx).cell (i:=0) (v:= .int .i64 b0) rfl;have x1:=(uh kx).cell (i:=1) (v:= .int .i64 b1) rfl;have x2:=(uh kx).cell (i:=2) (v:= .int .i64 b2) rfl;have x3:=(uh kx).cell (i:=3) (v:= .int .i64 b3) rfl
  rcases uh HX with ⟨hbb,hfx,hsx⟩ | ⟨hbb,e0,e1,e2,e3⟩
  ·subst hbb
   have HTx:Hid (∀ W,Tab W->cB 6 #[.agg #[.int .i64 b0,.int .i64 b1,.int .i64 b2,.int .i64 b3]] W (.string (bs l))):=Z9 (fun W h=>by rw [<-hsx];exact We (b0,b1,b2,b3) hfx h);clear hfx hsx;go_wp2_with fail;clear x0 x1 x2 x3;refine ck (uh HTx _ ((uh He).below (uh BB)).tab) fun w7 hb=> ?_;have Hb7:=Z9 hb;clear hb;go_wp2_with fail;go_meet;exact ⟨rfl,uh Hb7⟩
  ·subst hbb e0 e1 e2 e3
   go_wp2_with fail;go_meet;exact ⟨rfl,Z2 _ _⟩
 case rest=>
 obtain ⟨rfl,hb⟩:=hcut;obtain ⟨w7,rfl⟩:∃ x,x=wc:=⟨wc,rfl⟩
 replace ka:=bl ka hb;replace BB:=bt BB hb;clear hb kx HX;have y0:=(uh ka).cell (i:=0) (v:= .int .i64 k) rfl;by_cases hnil:sl=[]
 ·have e0:=Gq hnil
  have hk9:=(uh HNil).1 hnil;clear hnil
  rcases hk9 with hk | hk
  ·go_wp2_with fail
   go_ret;exact ⟨rfl,uh BB⟩
  ·have hk1:¬ k<1:=by omega
   go_wp2_with fail;go_ret;exact ⟨rfl,uh BB⟩
 have e0:=G6 hnil
 have hk1:1<=k/\k<=14:=by
  have h1:¬ (k<1\/14<k):=fun h=>hnil ((uh HNil).2 h);omega
 clear hnil;have y1:=(uh ka).cell (i:=1) (v:= .int .i64 who) rfl;have y2:=(uh ka).cell (i:=2) (v:= .int .i64 A) rfl;have y3:=(uh ka).cell (i:=3) (v:= .int .i64 B) rfl;obtain ⟨sw,hsw⟩:=ZE (szN who);obtain ⟨sA,hsA⟩:=ZE (szN A);obtain ⟨sB,hsB⟩:=ZE (szN B);have Hsw:=Z9 hsw;have HsA:=Z9 hsA;have HsB:=Z9 hsB;clear hsw hsA hsB;go_wp2_with fail;refine (Mm (uh Hsw) (by omega) (by omega) _).mono ?_;rintro e w' ⟨rfl,hw'⟩;subst w';by_cases hbw:999999999<sw
 ·go_wp2_with fail
  go_ret;exact ⟨rfl,uh BB⟩
 go_wp2_with fail;refine (Mm (uh HsA) (by omega) (by omega) _).mono ?_;rintro e w' ⟨rfl,hw'⟩;subst w';by_cases hbA:999999999<sA
 ·go_wp2_with fail
  go_ret;exact ⟨rfl,uh BB⟩
 go_wp2_with fail;refine (Mm (uh HsB) (by omega) (by omega) _).mono ?_;rintro e w' ⟨rfl,hw'⟩;subst w';by_cases hbB:999999999<sB
 ·go_wp2_with fail
  go_ret;exact ⟨rfl,uh BB⟩
 obtain ⟨y,hr,hyk,hys⟩:=uh HBack hk1 (Jq (by rw [uh Hsw];omega)) (Jq (by rw [uh HsA];omega)) (Jq (by rw [uh HsB];omega));obtain ⟨q0,q1,q2,q3⟩:=y;obtain rfl:q0=k:=hyk;have hfy:=N2 hr;have HRi:Hid (∀ W,Env W->cB 8 #[.string (bs sl)] W (.tuple #[.agg #[.int .i64 q0,.int .i64 q1,.int .i64 q2,.int .i64 q3],.bool true])):=Z9 (fun W h=>by have h1:=Ux sl W h (by omega);rw [hr] at h1;exact h1);have HTy:Hid (∀ W,Tab W->cB 6 #[.agg #[.int .i64 q0,.int .i64 q1,.int .i64 q2,.int .i64 q3]] W (.string (bs sl))):=Z9 (fun W h=>by rw [<-hys];exact We (q0,q1,q2,q3) hfy h);clear hr hys hfy;go_wp2_with fail;clear y0 y1 y2 y3;refine ck (uh HRi _ ((uh He).below (uh BB))) fun w8 hb=> ?_;replace ka:=bl ka hb;replace BB:=bt BB hb;clear hb HRi;go_upto_region 17 with fail;obtain ⟨W8,hW8,hba,ky⟩:=YW w8 25 #[.int .i64 q0,.int .i64 q1,.int .i64 q2,.int .i64 q3];replace ka:=bl ka hba;replace BB:=bt BB hba;clear hba;rw [hW8];clear hW8;generalize w8.heap.size=yb at *;have y0:=(uh ka).cell (i:=0) (v:= .int .i64 q0) rfl;have x0:=(uh ky).cell (i:=0) (v:= .int .i64 q0) rfl;have x1:=(uh ky).cell (i:=1) (v:= .int .i64 q1) rfl;have x2:=(uh ky).cell (i:=2) (v:= .int .i64 q2) rfl;have x3:=(uh ky).cell (i:=3) (v:= .int .i64 q3) rfl;go_wp2_with fail;clear y0 x0 x1 x2 x3;refine ck (uh HTy _ ((uh He).below (uh BB)).tab) fun w9 hb=> ?_;replace BB:=bt BB hb;clear hb;go_wp2_with fail;go_ret;exact ⟨rfl,uh BB⟩
end Go.Proofs.YtmdgokjeobnnaaaGreatDoor
