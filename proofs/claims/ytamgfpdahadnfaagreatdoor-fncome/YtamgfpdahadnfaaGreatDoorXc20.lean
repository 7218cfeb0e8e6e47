/- Part 20 of what the proof rests on. No condition but those that a theorem names. -/
import Derived.Test.YtamgfpdahadnfaaGreatDoorXc22
import Derived.Test.YtamgfpdahadnfaaGreatDoorXc19
set_option maxHeartbeats 8000000
set_option maxRecDepth 100000
namespace Go.Proofs.YtamgfpdahadnfaaGreatDoor
open Go.ChangeShapes Go.WideShapes Go.ChangeAt Go.RowKit Go.Sort
open Draw (St Off Row Cur)
set_option linter.unusedVariables false
set_option linter.unusedSimpArgs false
set_option maxRecDepth 100000
theorem MN {w:World} {lb:Nat} {t:TypeId} {cs:Array Value} {j:Int} (h:Blk w lb t cs) (h0:0<=j) (h1:j<(cs.size:Int)) (hz:cs.toList.all Draw.isI64=true):∃ v,w.cell? ⟨lb,j.toNat,none⟩=some (.int .i64 v):=by
 obtain ⟨v,hv⟩:=Draw.pick_any cs j.toNat (by omega) hz;exact ⟨v,h.cell hv⟩
structure Ebox (a:Option Addr) (len cap bc:Nat) (w0 w:World) (mb:Nat) (M:Z6) (u0 u1 u2 u3 u4:Value) (rq:List (ZX × Value)):Prop where
 st:St a len cap bc w
 off:Off bc w0 w
 full:FullSmy (w0.heap.size+1) w u0 u1 u2 u3 u4 M rq
 kb:Blk w mb 32 #[u0,u1,u2,u3,u4,.int .i64 M.now]
 kr:Blk w w0.heap.size 32 E6
 own:∀ k,Wa u0 u1 u2 u3 u4 rq k->k ≠ mb
 mlo:w0.heap.size+1<=mb
 bl:bc<w0.heap.size
section
variable {a : Option Addr} {len cap bc : Nat} {w0 w w1 w' : World} {mb : Nat} {M : Z6} {u0 u1 u2 u3 u4 : Value} {rq : List (ZX × Value)}
theorem Ebox.step (h:Ebox a len cap bc w0 w mb M u0 u1 u2 u3 u4 rq) (hs:St a len cap bc w') (ho:Off bc w w'):Ebox a len cap bc w0 w' mb M u0 u1 u2 u3 u4 rq:=
 have hb:=h.bl;have hm:=h.mlo
 ⟨hs,h.off.trans ho,h.full.away ho (by omega),h.kb.away ho (by omega),h.kr.away ho (by omega),h.own,h.mlo,h.bl⟩
theorem Ebox.below (h:Ebox a len cap bc w0 w mb M u0 u1 u2 u3 u4 rq) (hb:Below w.heap.size w w'):Ebox a len cap bc w0 w' mb M u0 u1 u2 u3 u4 rq:=
 h.step (Xz h.st (hb.mono (Wy h.st))) (VP hb)
theorem Ebox.drew (h:Ebox a len cap bc w0 w mb M u0 u1 u2 u3 u4 rq):Ebox a len cap bc w0 w.drew mb M u0 u1 u2 u3 u4 rq:=h.below (ZZ _ _).drew
theorem Ebox.putD {g n c:Nat} (h:Ebox a len cap bc w0 w mb M u0 u1 u2 (.slice (some ⟨g,0,none⟩) n c) u4 rq) (hn:n=M.dk.length) {j i:Nat} (hj:j<M.dk.length) (hi:i<3) (u:Value) (x:XN) (hx:Wx x=(Wx (Z8 M.dk j)).set i u):Ebox a len cap bc w0 (w.setCell ⟨g,j*3+i,none⟩ u) mb { M with dk:=M.dk.set j x } u0 u1 u2 (.slice (some ⟨g,0,none⟩) n c) u4 rq:=by
 have hb:=h.bl;have hg:=(h.full.own (k:=g) (.inr (.inr (.inr (.inr (.inl rfl)))))).1;have hgm:=h.own g (.inr (.inr (.inr (.inr (.inl rfl)))));exact ⟨St.newer h.st (by omega) _ _,Off.newer h.off (by omega) _ _,h.full.putD hn hj hi u x hx,h.kb.other (by show mb ≠ g;omega) _,h.kr.other (by show w0.heap.size ≠ g;omega) _,h.own,h.mlo,h.bl⟩
theorem Ebox.putP {g n c:Nat} (h:Ebox a len cap bc w0 w mb M u0 u1 u2 u3 (.slice (some ⟨g,0,none⟩) n c) rq) (hn:n=M.pc.length) {j:Nat} (hj:j<M.pc.length) (x:Int):Ebox a len cap bc w0 (w.setCell ⟨g,j,none⟩ (.int .i64 x)) mb { M with pc:=M.pc.set j x } u0 u1 u2 u3 (.slice (some ⟨g,0,none⟩) n c) rq:=by
 have hb:=h.bl;have hg:=(h.full.own (k:=g) (.inr (.inr (.inr (.inr (.inr rfl)))))).1;have hgm:=h.own g (.inr (.inr (.inr (.inr (.inr rfl)))));exact ⟨St.newer h.st (by omega) _ _,Off.newer h.off (by omega) _ _,h.full.putP hn hj x,h.kb.other (by show mb ≠ g;omega) _,h.kr.other (by show w0.heap.size ≠ g;omega) _,h.own,h.mlo,h.bl⟩
theorem Ebox.now (h:Ebox a len cap bc w0 w mb M u0 u1 u2 u3 u4 rq) (t:Int):Ebox a len cap bc w0 (w.setCell ⟨mb,5,none⟩ (.int .i64 t)) mb { M with now:=t } u0 u1 u2 u3 u4 rq:=by
 have hb:=h.bl;have hm:=h.mlo;have f:=h.full.set_off h.own 5 (.int .i64 t);exact ⟨St.newer h.st (by omega) _ _,Off.newer h.off (by omega) _ _,⟨f.hall,f.rm,f.gd,f.sm,f.dk,f.pc,f.h1,f.h2,f.h3,f.h4,f.a12,f.a13,f.a14,f.a23,f.a24,f.a34⟩,h.kb.set 5 _,h.kr.other (by show w0.heap.size ≠ mb;omega) _,h.own,h.mlo,h.bl⟩
theorem Ebox.gd (h:Ebox a len cap bc w0 w mb M u0 u1 u2 u3 u4 rq) {g:Value} {gs:List Zr} (hs:St a len cap bc w') (ho:Off bc w w') (hg:GuildsAt w.heap.size w' g gs):Ebox a len cap bc w0 (w'.setCell ⟨mb,1,none⟩ g) mb { M with gd:=gs } u0 g u2 u3 u4 rq:=by
 have hb:=h.bl;have hm:=h.mlo;have hml:=h.kb.lt;have hz:=h.off.size;have hE:=h.step hs ho;have f:=h.full.newG ho (by omega) hg (Z1 _) (by omega)
 have hown:∀ k,Wa u0 g u2 u3 u4 rq k->k ≠ mb:=fun k e=>by
  rcases e with e | e | e | e | e | e
  ·exact h.own k (.inl e)
  ·exact h.own k (.inr (.inl e))
  ·have:=(RecAt.lt hg e).1;omega
  ·exact h.own k (.inr (.inr (.inr (.inl e))))
  ·exact h.own k (.inr (.inr (.inr (.inr (.inl e)))))
  ·exact h.own k (.inr (.inr (.inr (.inr (.inr e)))))
 exact ⟨St.newer hs (by omega) _ _,Off.newer hE.off (by omega) _ _,f.set_off hown 1 g,hE.kb.set 1 _,hE.kr.other (by show w0.heap.size ≠ mb;omega) _,hown,h.mlo,h.bl⟩
theorem Ebox.push (h:Ebox a len cap bc w0 w mb M u0 u1 u2 u3 u4 rq) {u:Value} {x:Z3} (hb1:Below w.heap.size w w1) (hg:w1.grownBy w' u2.ownBlock) (hat:u.ownBlock=u2.ownBlock\/u.ownBlock=some w1.heap.size) (hr:SmithsAt (w0.heap.size+1) w' u (M.sm++[x])) :
  Blk w' mb 32 #[u0,u1,u2,u3,u4,.int .i64 M.now]/\Ebox a len cap bc w0 (w'.setCell ⟨mb,2,none⟩ u) mb (pushS M x) u0 u1 u u3 u4 rq:=by
 have hb:=h.bl;have hm:=h.mlo;have hz:=h.off.size;have hz1:=hb1.size;have hml:=h.kb.lt;have h2:∀ k,u2.ownBlock=some k->w0.heap.size+1<=k/\k<w.heap.size/\k ≠ mb:=fun k e=>⟨(h.full.own (.inr (.inr (.inr (.inl e))))).1,(h.full.own (.inr (.inr (.inr (.inl e))))).2,h.own k (.inr (.inr (.inr (.inl e))))⟩
 have hB:Below (w0.heap.size+1) w w':=(hb1.mono (by omega)).trans ((ZZ _ _).grown hg (by omega) (fun k e=>(h2 k e).1));have f:=h.full.pushS hb1 hg hat hr;have kb1:Blk w' mb 32 #[u0,u1,u2,u3,u4,.int .i64 M.now]:=(h.kb.below hb1 hml).same (hg.block mb (by omega) (fun e=>(h2 mb e.symm).2.2 rfl))
 have hown:∀ k,Wa u0 u1 u u3 u4 rq k->k ≠ mb:=fun k e=>by
  rcases e with e | e | e | e | e | e
  ·exact h.own k (.inl e)
  ·exact h.own k (.inr (.inl e))
  ·exact h.own k (.inr (.inr (.inl e)))
  ·rcases hat with e' | e'
   ·exact (h2 k (e'.symm.trans e)).2.2
   ·have:=Option.some.inj (e'.symm.trans e);omega
  ·exact h.own k (.inr (.inr (.inr (.inr (.inl e)))))
  ·exact h.own k (.inr (.inr (.inr (.inr (.inr e)))))
 have ho:Off bc w0 w':=⟨hB.os.trans h.off.os,hB.tape.trans h.off.tape,hB.output.trans h.off.output,XO hz hB.size,fun k hk hn=>(hB.block k (by omega)).trans (h.off.block k hk hn)⟩
 exact ⟨kb1,St.newer (Xz h.st (hB.mono (by omega))) (by omega) _ _,Off.newer ho (by omega) _ _,f.set_off hown 2 u,kb1.set 2 _,(h.kr.below hB (by omega)).other (by show w0.heap.size ≠ mb;omega) _,hown,h.mlo,h.bl⟩
end
theorem Rz (a:Option Addr) (len cap bc:Nat) (w:World) (hs:St a len cap bc w) :
  Calls Tryz.prog 38 #[.pointer (some ⟨bc,0,none⟩)] w fun e w'=> ∃ M u0 u1 u2 u3 u4 rq,e= .returned (.agg #[u0,u1,u2,u3,u4,.int .i64 M.now])/\(M.sm.length<=1000/\M.rm.length<=1000)/\(M.dk.length<=1000/\1<=M.dk.length/\M.dk.length<=8/\1<=M.rm.length)/\FullSmy (w.heap.size+1) w' u0 u1 u2 u3 u4 M rq/\St a len cap bc w'/\Off bc w w':=by
 have Hs:=Z9 hs;have hbc:=Wy hs;clear hs;go_enter Tryz.func38,Tryz.ntmps38;go_wp2_with fail;have kr:Hid (Blk (w.alloc (.cells E6 32)) w.heap.size 32 E6):=Z9 (Blk.new _ _ _);have HO:Hid (Off bc w (w.alloc (.cells E6 32))):=Z9 ((Off.refl _ _).alloc _);replace Hs:Hid (St a len cap bc (w.alloc (.cells E6 32))):=Z9 ((uh Hs).alloc _);have hzW:w.heap.size+1<=(w.alloc (.cells E6 32)).heap.size:=by simp
 generalize w.alloc (.cells E6 32)=W at *;refine (GG a len cap bc _ (uh Hs)).mono ?_;rintro e w1 ⟨M,u0,u1,u2,u3,u4,rq,rfl,ok1,hf,s9,p9⟩;have k6:=hf.smy;obtain ⟨b0,q0,b1,q1,b2,q2,b3,q3,b4,q4,rfl,rfl,rfl,rfl,rfl,_,_,_,_,_,_,_,_,_,_⟩:=k6.five;have HE:Hid (Ebox a len cap bc w (w1.alloc (.cells (S6 b0 q0 b1 q1 b2 q2 b3 q3 b4 q4 M) 32)) w1.heap.size M (.slice b0 M.rm.length q0) (.slice b1 M.gd.length q1) (.slice b2 M.sm.length q2) (.slice b3 M.dk.length q3) (.slice b4 M.pc.length q4) rq):=Z9 ⟨s9.alloc _,((uh HO).trans p9).alloc _,(hf.mono (by omega)).below ((ba _ _)),Blk.new _ _ _,((uh kr).away p9 (by omega)).alloc _,fun k e=>by have:=(hf.own e).2;omega,by have:=p9.size;omega,hbc⟩;have Hok:=Z9 ok1;clear k6 hf s9 p9 HO kr Hs ok1 hzW;go_upto_region 2 with fail;generalize w1.alloc (.cells (S6 b0 q0 b1 q1 b2 q2 b3 q3 b4 q4 M) 32)=W1 at *;generalize w1.heap.size=mb at *;go_wp2_with fail;refine (Draw.once_any a len cap bc 8 (by omega) (by omega) _ (uh HE).st).mono ?_;rintro e w2 ⟨bq,rfl,s9,p9⟩;replace HE:=Z9 ((uh HE).step s9 p9);clear s9 p9
 go_upto_if 8 with fail
 go_cut [] (fun wc=> ∃ M u0 u1 u2 u3 u4 rq,((M.sm.length<=1000/\M.rm.length<=1000)/\(M.dk.length<=1000/\1<=M.dk.length/\M.dk.length<=8/\1<=M.rm.length))/\Ebox a len cap bc w wc mb M u0 u1 u2 u3 u4 rq)
 case first=>
  have hlo:=ZR (uh Hok);have g3p:1<=M.dk.length:=by obtain ⟨j,hj,_⟩:=hlo.openD;omega
  have g3q:=Xi hlo;have g4p:1<=M.pc.length:=O8 hlo;have g4q:=Tq hlo;have g2q:=YS hlo;have g0q:M.rm.length<=3:=(Zl hlo.sane.hall).2.1;have g0p:1<=M.rm.length:=(Zl hlo.sane.hall).1;clear hlo;cases bq
  ·go_wp2_with fail
   go_meet;exact ⟨_,_,_,_,_,_,_,⟨by omega,by omega⟩,uh HE⟩
  go_wp2_with fail;refine (Draw.below_any a len cap bc 7 (by omega) (by omega) _ (uh HE).st).mono ?_;rintro e w3 ⟨y,rfl,y0,y1,s9,p9⟩;replace HE:=Z9 ((uh HE).step s9 p9);clear s9 p9
  rcases (show y=0\/y=1\/y=2\/y=3\/y=4\/y=5\/y=6 by omega) with rfl | rfl | rfl | rfl | rfl | rfl | rfl
  ·
   clear y0 y1;have x2:=(uh HE).kb.cell (i:=2) (v:= .slice b2 M.sm.length q2) rfl;go_wp2_with fail;refine ZL (S:=fun w'=>w'.cell? ⟨mb,2,none⟩=some (.slice b2 M.sm.length q2)) (by kernel_rfl) (WU _ _) (by kernel_rfl) x2 (fun hHeld=> ?_);simp only [WV,WW,YQ,YC,Nat.zero_add,Nat.reduceAdd]
   iterate 3 refine tz ?_
   refine rd 3 rfl (fun K hK=> ?_);go_simp;refine (Lj a len cap bc _ (Rd (uh HE).st)).mono ?_;rintro e9 w5 ⟨⟨t0,t1,t2,t3,t4,t5,t6,t7,t8,t9,t10⟩,rfl,s9,p9⟩;replace HE:=Z9 ((uh HE).step s9 (RM p9));clear s9 p9 x2;simp only [ZU];refine hK.out _ _ ((uh HE).kb.cell (i:=2) rfl) (fun hHeld=> ?_);clear hK K
   (try simp only [Act.put,sA,sZ,sS])
   refine rd 4 rfl (fun K hK=> ?_);go_simp;have hba:Below w5.heap.size w5 (w5.alloc (.cells (I11 t0 t1 t2 t3 t4 t5 t6 t7 t8 t9 t10) 40)):=ba _ _;refine hK.out _ _ (((uh HE).below hba).kb.cell (i:=2) rfl) (fun hHeld=> ?_);clear hK K
   (try simp only [Act.put,sA,sZ,sS])
   obtain ⟨u9,w9,hrun,hown9,hg9,hat9⟩:=WI tyS (w:=w5.alloc (.cells (I11 t0 t1 t2 t3 t4 t5 t6 t7 t8 t9 t10) 40)) (t:=28) (ty:=28) Tryz.underlying28 (RecAt.later (uh HE).full.sm hba) (WH (t0,t1,t2,t3,t4,t5,t6,t7,t8,t9,t10) (g:=w5.heap.size) (c:=1) rfl (Z1 _) (by omega)) (by simp;omega) (by have:=(uh HE).off.size;have:=(uh HE).kr.lt;simp;omega);obtain ⟨kb9,E9⟩:=(uh HE).push hba hg9 hat9 hown9;have R9:=Z9 hrun;have HP:=Z9 E9;have K9:=Z9 kb9;obtain ⟨ua,uc,hu9⟩:=RecAt.shape hown9;obtain ⟨n9,hn9⟩:∃ q,q=(M.sm++[(t0,t1,t2,t3,t4,t5,t6,t7,t8,t9,t10)]).length:=⟨_,rfl⟩
   rw [<-hn9] at hu9;subst hu9;clear hrun E9 kb9 hown9 hg9 hat9 hn9;refine rd 5 rfl (fun K hK=> ?_);refine WK rfl (.tmp 14) (.tmp 17) 28 rfl rfl rfl (uh R9) ?_;refine hK.out _ _ ((uh K9).cell (i:=2) rfl) (fun hHeld=> ?_);clear hK K
   (try simp only [Act.put,sA,sZ,sS])
   refine tp 6 ?_;have x2:=(uh K9).cell (i:=2) (v:= .slice b2 M.sm.length q2) rfl;have f2:=(uh K9).free 2;clear hba;refine wpAnyH_done (by kernel_rfl) ?_ _;refine ZD rfl rfl ?_;go_simp;clear hHeld;go_wp2_with fail;go_meet;refine ⟨_,_,_,_,_,_,_,?_,by first | exact uh HP | exact (uh HP).drew⟩;constructor<;>(first | omega | (simp only [pushS,V4,List.length_append,YQ,YC];omega))
  ·
   clear y0 y1;obtain ⟨g3,hga,_,_,_,_⟩:=RecAt.view Zx (by omega) (uh HE).full.dk rfl (by omega);cases hga;have x3:=(uh HE).kb.cell (i:=3) (v:= .slice (some ⟨g3,0,none⟩) M.dk.length q3) rfl;go_wp2_with fail;clear x3;refine (Draw.below_any a len cap bc (M.dk.length:Int) (by omega) (by omega) _ (uh HE).st).mono ?_;rintro e w4 ⟨kk,rfl,k0,k1,s9,p9⟩;replace HE:=Z9 ((uh HE).step s9 p9);clear s9 p9;obtain ⟨kn,rfl⟩:∃ kn:Nat,kk=(kn:Int):=⟨kk.toNat,by omega⟩
   have x3:=(uh HE).kb.cell (i:=3) (v:= .slice (some ⟨g3,0,none⟩) M.dk.length q3) rfl;go_wp2_with fail;refine ZL (S:=fun w'=>w'.cell? ⟨mb,3,none⟩=some (.slice (some ⟨g3,0,none⟩) M.dk.length q3)) (by kernel_rfl) (WU _ _) (by kernel_rfl) x3 (fun hHeld=> ?_);simp only [WV,WW,YQ,YC,Nat.zero_add,Nat.reduceAdd]
   iterate 4 refine tz ?_
   refine rd 4 rfl (fun K hK=> ?_);go_simp;refine (Draw.from_any a len cap bc (-2) 4 (by omega) (by omega) (by omega) _ (Rd (uh HE).st)).mono ?_;rintro e9 w5 ⟨v1,rfl,v10,v11,s9,p9⟩;replace HE:=Z9 ((uh HE).step s9 (RM p9));clear s9 p9 x3;refine hK.out _ _ ((uh HE).kb.cell (i:=3) rfl) (fun hHeld=> ?_);clear hK K
   (try simp only [Act.put,sA,sZ,sS])
   refine tp 5 ?_;refine tp 6 ?_;obtain ⟨_,hga,_,_,hc3,hz3⟩:=RecAt.view Zx (by omega) (uh HE).full.dk rfl (by omega);cases hga;have dd:=hc3 kn (by omega) 1 _ rfl;have df:=hz3 (kn*3+1);clear hc3 hz3;refine wpAnyH_done (by kernel_rfl) ?_ _;refine ZD rfl rfl ?_;go_simp;clear hHeld;go_wp2_with fail;go_meet;refine ⟨_,_,_,_,_,_,_,?_,by first | exact (uh HE).putD rfl (j:=kn) (i:=1) (by omega) (by omega) (.int .i64 v1) ((Z8 M.dk kn).1,v1,(Z8 M.dk kn).2.2) rfl | exact ((uh HE).putD rfl (j:=kn) (i:=1) (by omega) (by omega) (.int .i64 v1) ((Z8 M.dk kn).1,v1,(Z8 M.dk kn).2.2) rfl).drew⟩;constructor<;>(first | omega | (simp only [pushS,V4,List.length_append,YQ,YC];omega))
  ·
   clear y0 y1;obtain ⟨g3,hga,_,_,_,_⟩:=RecAt.view Zx (by omega) (uh HE).full.dk rfl (by omega);cases hga;have x3:=(uh HE).kb.cell (i:=3) (v:= .slice (some ⟨g3,0,none⟩) M.dk.length q3) rfl;go_wp2_with fail;refine ZL (S:=fun w'=>w'.cell? ⟨mb,3,none⟩=some (.slice (some ⟨g3,0,none⟩) M.dk.length q3)) (by kernel_rfl) (WU _ _) (by kernel_rfl) x3 (fun hHeld=> ?_);simp only [WV,WW,YQ,YC,Nat.zero_add,Nat.reduceAdd]
   iterate 5 refine tz ?_
   refine rd 5 rfl (fun K hK=> ?_);go_simp;refine hK.out _ _ hHeld (fun hHeld=> ?_);clear hK K
   (try simp only [Act.put,sA,sZ,sS])
   refine rd 6 rfl (fun K hK=> ?_);go_simp;refine (Draw.below_any a len cap bc (M.dk.length:Int) (by omega) (by omega) _ (Rd (uh HE).st)).mono ?_;rintro e9 w5 ⟨kk,rfl,k0,k1,s9,p9⟩;replace HE:=Z9 ((uh HE).step s9 (RM p9));clear s9 p9 x3;obtain ⟨kn,rfl⟩:∃ kn:Nat,kk=(kn:Int):=⟨kk.toNat,by omega⟩
   refine hK.out _ _ ((uh HE).kb.cell (i:=3) rfl) (fun hHeld=> ?_);clear hK K
   (try simp only [Act.put,sA,sZ,sS])
   refine tp 7 ?_;refine tp 8 ?_;obtain ⟨_,hga,_,_,hc3,hz3⟩:=RecAt.view Zx (by omega) (uh HE).full.dk rfl (by omega);cases hga;have dd:=hc3 kn (by omega) 0 _ rfl;have df:=hz3 (kn*3+0);simp only [Nat.add_zero] at dd df;clear hc3 hz3;refine wpAnyH_done (by kernel_rfl) ?_ _;refine ZD rfl rfl ?_;go_simp;clear hHeld;go_wp2_with fail;go_meet;refine ⟨_,_,_,_,_,_,_,?_,by first | exact (uh HE).putD rfl (j:=kn) (i:=0) (by omega) (by omega) (.bool false) (false,(Z8 M.dk kn).2) rfl | exact ((uh HE).putD rfl (j:=kn) (i:=0) (by omega) (by omega) (.bool false) (false,(Z8 M.dk kn).2) rfl).drew⟩;constructor<;>(first | omega | (simp only [pushS,V4,List.length_append,YQ,YC];omega))
  ·
   clear y0 y1;obtain ⟨g4,hga,_,_,_,_⟩:=RecAt.view YE (by omega) (uh HE).full.pc rfl (by omega);cases hga;have x4:=(uh HE).kb.cell (i:=4) (v:= .slice (some ⟨g4,0,none⟩) M.pc.length q4) rfl;have hp0:0<M.pc.length:=by omega
   go_wp2_with fail;refine ZL (S:=fun w'=>w'.cell? ⟨mb,4,none⟩=some (.slice (some ⟨g4,0,none⟩) M.pc.length q4)) (by kernel_rfl) (WU _ _) (by kernel_rfl) x4 (fun hHeld=> ?_);simp only [WV,WW,YQ,YC,Nat.zero_add,Nat.reduceAdd]
   iterate 3 refine tz ?_
   refine rd 3 rfl (fun K hK=> ?_);go_simp;refine (Draw.from_any a len cap bc (-1) 4 (by omega) (by omega) (by omega) _ (Rd (uh HE).st)).mono ?_;rintro e9 w5 ⟨v1,rfl,v10,v11,s9,p9⟩;replace HE:=Z9 ((uh HE).step s9 (RM p9));clear s9 p9 x4;refine hK.out _ _ ((uh HE).kb.cell (i:=4) rfl) (fun hHeld=> ?_);clear hK K
   (try simp only [Act.put,sA,sZ,sS])
   refine tp 4 ?_;obtain ⟨_,hga,_,_,hc4,hz4⟩:=RecAt.view YE (by omega) (uh HE).full.pc rfl (by omega);cases hga;have dd:=hc4 0 (by omega) 0 _ rfl;have df:=hz4 0;simp only [Nat.zero_mul,Nat.add_zero] at dd;clear hc4 hz4;refine wpAnyH_done (by kernel_rfl) ?_ _;refine ZD rfl rfl ?_;go_simp;clear hHeld;go_wp2_with fail;go_meet;refine ⟨_,_,_,_,_,_,_,?_,by first | exact (uh HE).putP rfl (j:=0) (by omega) v1 | exact ((uh HE).putP rfl (j:=0) (by omega) v1).drew⟩;constructor<;>(first | omega | (simp only [pushS,V4,List.length_append,YQ,YC];omega))
  ·
   clear y0 y1;go_wp2_with fail;have hlb:w3.heap.size ≠ bc:=by have:=(uh HE).off.size;omega
   replace HE:=Z9 ((uh HE).below ((ZZ _ _).alloc (Z1 _) (.cells #[.int .i64 (-1),.int .i64 1000000,.int .i64 1000001] 2)));have KL:Hid (Blk (w3.alloc (.cells #[.int .i64 (-1),.int .i64 1000000,.int .i64 1000001] 2)) w3.heap.size 2 #[.int .i64 (-1),.int .i64 1000000,.int .i64 1000001]):=Z9 (Blk.new _ _ _);generalize w3.alloc (.cells #[.int .i64 (-1),.int .i64 1000000,.int .i64 1000001] 2)=Wp at *;generalize w3.heap.size=lb at *;refine (Draw.below_any a len cap bc 3 (by omega) (by omega) _ (uh HE).st).mono ?_;rintro e w4 ⟨v5,rfl,v50,v51,s9,p9⟩;replace KL:=Z9 ((uh KL).away p9 hlb);replace HE:=Z9 ((uh HE).step s9 p9);clear s9 p9;have x5:=(uh HE).kb.cell (i:=5) (v:= .int .i64 M.now) rfl;have f5:=(uh HE).kb.free 5;obtain ⟨vv,hcell⟩:=MN (uh KL) v50 (by first | exact v51 | (simp;omega)) rfl;go_wp2_with fail;go_meet;refine ⟨_,_,_,_,_,_,_,?_,by first | exact (uh HE).now vv | exact ((uh HE).now vv).drew⟩;constructor<;>(first | omega | (simp only [pushS,V4,List.length_append,YQ,YC];omega))
  ·
   clear y0 y1;go_wp2_with fail;refine (Li a len cap bc _ (uh HE).st).mono ?_;rintro e w4 ⟨gv,gs,rfl,_,hG⟩;have E4:=Z9 ((uh HE).step hG.st hG.off);have HP:=Z9 ((uh HE).gd hG.st hG.off hG.row);obtain ⟨ga,gc,rfl⟩:=RecAt.shape hG.row;have x1:=(uh E4).kb.cell (i:=1) (v:= .slice b1 M.gd.length q1) rfl;have f1:=(uh E4).kb.free 1;clear hG;go_wp2_with fail;go_meet;refine ⟨_,_,_,_,_,_,_,?_,by first | exact uh HP | exact (uh HP).drew⟩;constructor<;>(first | omega | (simp only [pushS,V4,List.length_append,YQ,YC];omega))
  ·
   clear y0 y1;obtain ⟨g3,hga,_,_,_,_⟩:=RecAt.view Zx (by omega) (uh HE).full.dk rfl (by omega);cases hga;have hp0:0<M.dk.length:=by omega
   have x3:=(uh HE).kb.cell (i:=3) (v:= .slice (some ⟨g3,0,none⟩) M.dk.length q3) rfl;go_wp2_with fail;refine ZL (S:=fun w'=>w'.cell? ⟨mb,3,none⟩=some (.slice (some ⟨g3,0,none⟩) M.dk.length q3)) (by kernel_rfl) (WU _ _) (by kernel_rfl) x3 (fun hHeld=> ?_);simp only [WV,WW,YQ,YC,Nat.zero_add,Nat.reduceAdd]
   iterate 2 refine tz ?_
   refine tp 3 ?_;replace HE:=Z9 (uh HE).drew;generalize w3.drew=X0 at *;clear x3;refine wpAnyH_ready (rs:=[2,4]) (by kernel_rfl) (by simp) ?_;refine AllReadyH.cons rfl (fun K hK=> ?_) (AllReadyH.cons rfl (fun K hK=> ?_) AllReadyH.nil)
   ·
    go_simp;have hlb:X0.heap.size ≠ bc:=by have:=(uh HE).off.size;omega
    obtain ⟨Wp,hWp,hba,KL⟩:=YP X0 2 #[.int .i64 0,.int .i64 500000,.int .i64 1000000000001];replace HE:=Z9 ((uh HE).below hba);rw [hWp];refine hK.out _ _ ((uh HE).kb.cell (i:=3) rfl) (fun hHeld=> ?_);clear hK K
    (try simp only [Act.put,sA,sZ,sS])
    clear hba;clear hWp;generalize X0.heap.size=lb at *;refine rd 4 rfl (fun K hK=> ?_);go_simp;refine (Draw.below_any a len cap bc 3 (by omega) (by omega) _ (uh HE).st).mono ?_;rintro e9 w5 ⟨v5,rfl,v50,v51,s9,p9⟩;replace KL:=Z9 ((uh KL).away p9 hlb);replace HE:=Z9 ((uh HE).step s9 p9);clear s9 p9;refine hK.out _ _ ((uh HE).kb.cell (i:=3) rfl) (fun hHeld=> ?_);clear hK K
    (try simp only [Act.put,sA,sZ,sS])
    obtain ⟨_,hga,_,_,hc3,hz3⟩:=RecAt.view Zx (by omega) (uh HE).full.dk rfl (by omega);cases hga;have dd:=hc3 0 (by omega) 2 _ rfl;have df:=hz3 (0*3+2);clear hc3 hz3;simp only [Nat.zero_mul,Nat.zero_add] at dd df;obtain ⟨vv,hcell⟩:=MN (uh KL) v50 (by first | exact v51 | (simp;omega)) rfl;refine tp 5 ?_;refine rd 6 rfl (fun K hK=> ?_);go_simp;refine hK.out _ _ ((uh HE).kb.cell (i:=3) rfl) (fun hHeld=> ?_);clear hK K
    (try simp only [Act.put,sA,sZ,sS])
    refine tp 7 ?_;refine tp 8 ?_;refine wpAnyH_done (by kernel_rfl) ?_ _;refine ZD rfl rfl ?_;go_simp;clear hHeld;have hq:=(uh HE).putD rfl (j:=0) (i:=2) (by omega) (by omega) (.int .i64 vv) ((Z8 M.dk 0).1,(Z8 M.dk 0).2.1,vv) rfl;simp only [Nat.zero_mul,Nat.zero_add] at hq;go_wp2_with fail;go_meet;refine ⟨_,_,_,_,_,_,_,?_,by first | exact hq | exact (hq).drew⟩;constructor<;>(first | omega | (simp only [pushS,V4,List.length_append,YQ,YC];omega))
   ·
    go_simp;refine (Draw.below_any a len cap bc 3 (by omega) (by omega) _ (uh HE).st).mono ?_;rintro e9 w5 ⟨v5,rfl,v50,v51,s9,p9⟩;replace HE:=Z9 ((uh HE).step s9 p9);clear s9 p9;refine hK.out _ _ ((uh HE).kb.cell (i:=3) rfl) (fun hHeld=> ?_);clear hK K
    (try simp only [Act.put,sA,sZ,sS])
    refine rd 2 rfl (fun K hK=> ?_);go_simp;have hlb:w5.heap.size ≠ bc:=by have:=(uh HE).off.size;omega
    obtain ⟨Wp,hWp,hba,KL⟩:=YP w5 2 #[.int .i64 0,.int .i64 500000,.int .i64 1000000000001];replace HE:=Z9 ((uh HE).below hba);rw [hWp];refine hK.out _ _ ((uh HE).kb.cell (i:=3) rfl) (fun hHeld=> ?_);clear hK K
    (try simp only [Act.put,sA,sZ,sS])
    clear hba;clear hWp;generalize w5.heap.size=lb at *;obtain ⟨_,hga,_,_,hc3,hz3⟩:=RecAt.view Zx (by omega) (uh HE).full.dk rfl (by omega);cases hga;have dd:=hc3 0 (by omega) 2 _ rfl;have df:=hz3 (0*3+2);clear hc3 hz3;simp only [Nat.zero_mul,Nat.zero_add] at dd df;obtain ⟨vv,hcell⟩:=MN (uh KL) v50 (by first | exact v51 | (simp;omega)) rfl;refine tp 5 ?_;refine rd 6 rfl (fun K hK=> ?_);go_simp;refine hK.out _ _ ((uh HE).kb.cell (i:=3) rfl) (fun hHeld=> ?_);clear hK K
    (try simp only [Act.put,sA,sZ,sS])
    refine tp 7 ?_;refine tp 8 ?_;refine wpAnyH_done (by kernel_rfl) ?_ _;refine ZD rfl rfl ?_;go_simp;clear hHeld;have hq:=(uh HE).putD rfl (j:=0) (i:=2) (by omega) (by omega) (.int .i64 vv) ((Z8 M.dk 0).1,(Z8 M.dk 0).2.1,vv) rfl;simp only [Nat.zero_mul,Nat.zero_add] at hq;go_wp2_with fail;go_meet;refine ⟨_,_,_,_,_,_,_,?_,by first | exact hq | exact (hq).drew⟩;constructor<;>(first | omega | (simp only [pushS,V4,List.length_append,YQ,YC];omega))
 case rest=>
 obtain ⟨M9,u0,u1,u2,u3,u4,rq9,⟨hm1,hm2⟩,hE9⟩:=hcut;have Hm1:=Z9 hm1;have Hm2:=Z9 hm2;clear hm1 hm2;have k6:=hE9.full.smy;obtain ⟨c0,r0,c1,r1,c2,r2,c3,r3,c4,r4,rfl,rfl,rfl,rfl,rfl,_,_,_,_,_,_,_,_,_,_⟩:=k6.five;have H9:=Z9 hE9;clear hE9 k6 HE Hok;have x0:=(uh H9).kb.cell (i:=0) (v:= .slice c0 M9.rm.length r0) rfl;have o0:=(uh H9).kr.cell (i:=0) (v:= .slice none 0 0) rfl;have f0:=(uh H9).kr.free 0;have x1:=(uh H9).kb.cell (i:=1) (v:= .slice c1 M9.gd.length r1) rfl;have o1:=(uh H9).kr.cell (i:=1) (v:= .slice none 0 0) rfl;have f1:=(uh H9).kr.free 1;have x2:=(uh H9).kb.cell (i:=2) (v:= .slice c2 M9.sm.length r2) rfl;have o2:=(uh H9).kr.cell (i:=2) (v:= .slice none 0 0) rfl;have f2:=(uh H9).kr.free 2;have x3:=(uh H9).kb.cell (i:=3) (v:= .slice c3 M9.dk.length r3) rfl;have o3:=(uh H9).kr.cell (i:=3) (v:= .slice none 0 0) rfl;have f3:=(uh H9).kr.free 3;have x4:=(uh H9).kb.cell (i:=4) (v:= .slice c4 M9.pc.length r4) rfl;have o4:=(uh H9).kr.cell (i:=4) (v:= .slice none 0 0) rfl;have f4:=(uh H9).kr.free 4;have x5:=(uh H9).kb.cell (i:=5) (v:= .int .i64 M9.now) rfl;have o5:=(uh H9).kr.cell (i:=5) (v:= .int .i64 0) rfl;have f5:=(uh H9).kr.free 5;have hml:=(uh H9).mlo;go_wp2_with fail;refine ZS (v:= .agg (S6 c0 r0 c1 r1 c2 r2 c3 r3 c4 r4 M9)) (by simp [results,Tryz.results38,go_sem, *]) rfl ⟨M9,_,_,_,_,_,rq9,rfl,uh Hm1,uh Hm2,?_,?_,?_⟩
 ·iterate 6 (refine FullSmy.set_off ?_ (fun k e=>by have:=((uh H9).full.own e).1;omega) _ _)
  exact (uh H9).full
 ·iterate 6 (refine St.newer ?_ (by omega) _ _)
  exact (uh H9).st
 ·iterate 6 (refine Off.newer ?_ (by omega) _ _)
  exact (uh H9).off
end Go.Proofs.YtamgfpdahadnfaaGreatDoor
namespace Go.Proofs.YtamgfpdahadnfaaGreatDoor
open Go.ChangeShapes Go.WideShapes Go.ChangeAt Go.RowKit Go.Sort
open Draw (St Off Row Cur)
set_option linter.unusedVariables false
set_option linter.unusedSimpArgs false
set_option maxRecDepth 100000
theorem Mu (a:Option Addr) (len cap bc:Nat) (a0 a1 a2 a3 a4:Option Addr) (n0 n1 n2 n3 n4 p0 p1 p2 p3 p4:Nat) (now:Int) (hn:n2<=1000000) (w:World) (hs:St a len cap bc w) :
  Calls Tryz.prog 61 #[.pointer (some ⟨bc,0,none⟩),.agg #[.slice a0 n0 p0,.slice a1 n1 p1,.slice a2 n2 p2,.slice a3 n3 p3,.slice a4 n4 p4,.int .i64 now]] w fun e w'=> ∃ x:Int,e= .returned (.int .i64 x)/\St a len cap bc w'/\Off bc w w':=by
 have Hs:=Z9 hs;have hbc:=Wy hs;clear hs;go_enter Tryz.func61,Tryz.ntmps61;go_upto_region 1 with fail;have kb:Hid (Blk (w.alloc (.cells #[.slice a0 n0 p0,.slice a1 n1 p1,.slice a2 n2 p2,.slice a3 n3 p3,.slice a4 n4 p4,.int .i64 now] 32)) w.heap.size 32 #[.slice a0 n0 p0,.slice a1 n1 p1,.slice a2 n2 p2,.slice a3 n3 p3,.slice a4 n4 p4,.int .i64 now]):=Z9 (Blk.new _ _ _);have HO:Hid (Off bc w (w.alloc (.cells #[.slice a0 n0 p0,.slice a1 n1 p1,.slice a2 n2 p2,.slice a3 n3 p3,.slice a4 n4 p4,.int .i64 now] 32))):=Z9 ((Off.refl _ _).alloc _);replace Hs:Hid (St a len cap bc (w.alloc (.cells #[.slice a0 n0 p0,.slice a1 n1 p1,.slice a2 n2 p2,.slice a3 n3 p3,.slice a4 n4 p4,.int .i64 now] 32))):=Z9 ((uh Hs).alloc _);generalize w.alloc (.cells #[.slice a0 n0 p0,.slice a1 n1 p1,.slice a2 n2 p2,.slice a3 n3 p3,.slice a4 n4 p4,.int .i64 now] 32)=W at *;go_wp2_with fail;refine (Draw.once_any a len cap bc 10 (by omega) (by omega) _ (uh Hs)).mono ?_;rintro e w1 ⟨bq,rfl,s9,p9⟩;replace kb:=Z9 ((uh kb).away p9 (by omega));replace HO:=Z9 ((uh HO).trans p9);replace Hs:=Z9 s9;clear s9 p9;have x:=(uh kb).cell (i:=2) (v:= .slice a2 n2 p2) rfl;cases bq
 ·
  go_wp2_with fail;refine ck (Tj 1 (n2:Int) _) fun wz hwz=> ?_;subst wz;obtain ⟨mx,hmx⟩:∃ q,q=max 1 (n2:Int):=⟨_,rfl⟩
  rw [<-hmx];have hm0:0<mx:=by omega
  have hm1:mx<=1000001:=by omega
  clear hmx x;go_wp2_with fail;refine (Draw.below_any a len cap bc mx hm0 (by omega) _ (uh Hs)).mono ?_;rintro e w2 ⟨v,rfl,v0,v1,s9,p9⟩;have HO2:=Z9 ((uh HO).trans p9);have Hs2:=Z9 s9;clear s9 p9;go_wp2_with fail;go_ret;exact ⟨_,rfl,uh Hs2,uh HO2⟩
 go_wp2_with fail;refine ZL (S:=fun w'=>w'.cell? ⟨w.heap.size,2,none⟩=some (.slice a2 n2 p2)) (by kernel_rfl) (WU _ _) (by kernel_rfl) x (fun hHeld=> ?_);simp only [WV,WW,YQ,YC,Nat.zero_add,Nat.reduceAdd]
 iterate 2 refine tz ?_
 refine tp 4 ?_;replace kb:=Z9 ((uh kb).below (ZZ _ _).drew (uh kb).lt);replace HO:=Z9 ((uh HO).trans (VP (ZZ _ _).drew));replace Hs:=Z9 (Rd (uh Hs));clear x;generalize w1.drew=X0 at *;refine wpAnyH_ready (rs:=[2,5]) (by kernel_rfl) (by simp) ?_;refine AllReadyH.cons rfl (fun K hK=> ?_) (AllReadyH.cons rfl (fun K hK=> ?_) AllReadyH.nil)
 ·
  go_simp;refine hK.out _ _ ((uh kb).cell (i:=2) rfl) (fun hHeld=> ?_);clear hK K
  (try simp only [Act.put,sA,sZ,sS])
  refine wpAnyH_ready (rs:=[3,5]) (by kernel_rfl) (by simp) ?_;refine AllReadyH.cons rfl (fun K hK=> ?_) (AllReadyH.cons rfl (fun K hK=> ?_) AllReadyH.nil)
  ·
   go_simp;have hlb:X0.heap.size ≠ bc:=by have:=(uh HO).size;omega
   obtain ⟨Wp,hWp,hba,KL⟩:=YP X0 2 #[.int .i64 (-1),.int .i64 (n2:Int)];replace kb:=bl kb hba;replace HO:=Z9 ((uh HO).trans (VP hba));replace Hs:=Z9 ((uh Hs).alloc (.cells #[.int .i64 (-1),.int .i64 (n2:Int)] 2));rw [hWp];refine hK.out _ _ ((uh kb).cell (i:=2) rfl) (fun hHeld=> ?_);clear hK K
   (try simp only [Act.put,sA,sZ,sS])
   clear hba
   (try rw [hWp] at Hs);clear hWp
   generalize X0.heap.size=lb at *;refine rd 5 rfl (fun K hK=> ?_);go_simp;refine (Draw.below_any a len cap bc 2 (by omega) (by omega) _ (uh Hs)).mono ?_;rintro e9 w5 ⟨v5,rfl,v50,v51,s9,p9⟩;replace KL:=Z9 ((uh KL).away p9 hlb);replace kb:=Z9 ((uh kb).away p9 (by omega));replace HO:=Z9 ((uh HO).trans p9);replace Hs:=Z9 s9;clear s9 p9;refine hK.out _ _ ((uh kb).cell (i:=2) rfl) (fun hHeld=> ?_);clear hK K
   (try simp only [Act.put,sA,sZ,sS])
   have l0:=(uh KL).cell (i:=0) (v:= .int .i64 (-1)) rfl;have l1:=(uh KL).cell (i:=1) (v:= .int .i64 (n2:Int)) rfl
   rcases (show v5=0\/v5=1 by omega) with rfl | rfl
   ·
    refine tp 6 ?_;refine rd 7 rfl (fun K hK=> ?_);go_simp;refine hK.out _ _ ((uh kb).cell (i:=2) rfl) (fun hHeld=> ?_);clear hK K
    (try simp only [Act.put,sA,sZ,sS])
    refine wpAnyH_done (by kernel_rfl) ?_ _;refine ZD rfl rfl ?_;go_simp;clear hHeld;go_wp2_with fail;go_ret;exact ⟨_,rfl,uh Hs,uh HO⟩
   ·
    refine tp 6 ?_;refine rd 7 rfl (fun K hK=> ?_);go_simp;refine hK.out _ _ ((uh kb).cell (i:=2) rfl) (fun hHeld=> ?_);clear hK K
    (try simp only [Act.put,sA,sZ,sS])
    refine wpAnyH_done (by kernel_rfl) ?_ _;refine ZD rfl rfl ?_;go_simp;clear hHeld;go_wp2_with fail;go_ret;exact ⟨_,rfl,uh Hs,uh HO⟩
  ·
   go_simp;refine (Draw.below_any a len cap bc 2 (by omega) (by omega) _ (uh Hs)).mono ?_;rintro e9 w5 ⟨v5,rfl,v50,v51,s9,p9⟩;replace kb:=Z9 ((uh kb).away p9 (by omega));replace HO:=Z9 ((uh HO).trans p9);replace Hs:=Z9 s9;clear s9 p9;refine hK.out _ _ ((uh kb).cell (i:=2) rfl) (fun hHeld=> ?_);clear hK K
   (try simp only [Act.put,sA,sZ,sS])
   refine rd 3 rfl (fun K hK=> ?_);go_simp;have hlb:w5.heap.size ≠ bc:=by have:=(uh HO).size;omega
   obtain ⟨Wp,hWp,hba,KL⟩:=YP w5 2 #[.int .i64 (-1),.int .i64 (n2:Int)];replace kb:=bl kb hba;replace HO:=Z9 ((uh HO).trans (VP hba));replace Hs:=Z9 ((uh Hs).alloc (.cells #[.int .i64 (-1),.int .i64 (n2:Int)] 2));rw [hWp];refine hK.out _ _ ((uh kb).cell (i:=2) rfl) (fun hHeld=> ?_);clear hK K
   (try simp only [Act.put,sA,sZ,sS])
   clear hba
   (try rw [hWp] at Hs);clear hWp
   generalize w5.heap.size=lb at *;have l0:=(uh KL).cell (i:=0) (v:= .int .i64 (-1)) rfl;have l1:=(uh KL).cell (i:=1) (v:= .int .i64 (n2:Int)) rfl
   rcases (show v5=0\/v5=1 by omega) with rfl | rfl
   ·
    refine tp 6 ?_;refine rd 7 rfl (fun K hK=> ?_);go_simp;refine hK.out _ _ ((uh kb).cell (i:=2) rfl) (fun hHeld=> ?_);clear hK K
    (try simp only [Act.put,sA,sZ,sS])
    refine wpAnyH_done (by kernel_rfl) ?_ _;refine ZD rfl rfl ?_;go_simp;clear hHeld;go_wp2_with fail;go_ret;exact ⟨_,rfl,uh Hs,uh HO⟩
   ·
    refine tp 6 ?_;refine rd 7 rfl (fun K hK=> ?_);go_simp;refine hK.out _ _ ((uh kb).cell (i:=2) rfl) (fun hHeld=> ?_);clear hK K
    (try simp only [Act.put,sA,sZ,sS])
    refine wpAnyH_done (by kernel_rfl) ?_ _;refine ZD rfl rfl ?_;go_simp;clear hHeld;go_wp2_with fail;go_ret;exact ⟨_,rfl,uh Hs,uh HO⟩
 ·
  go_simp;refine (Draw.below_any a len cap bc 2 (by omega) (by omega) _ (uh Hs)).mono ?_;rintro e9 w5 ⟨v5,rfl,v50,v51,s9,p9⟩;replace kb:=Z9 ((uh kb).away p9 (by omega));replace HO:=Z9 ((uh HO).trans p9);replace Hs:=Z9 s9;clear s9 p9;refine hK.out _ _ ((uh kb).cell (i:=2) rfl) (fun hHeld=> ?_);clear hK K
  (try simp only [Act.put,sA,sZ,sS])
  refine rd 2 rfl (fun K hK=> ?_);go_simp;refine hK.out _ _ ((uh kb).cell (i:=2) rfl) (fun hHeld=> ?_);clear hK K
  (try simp only [Act.put,sA,sZ,sS])
  refine rd 3 rfl (fun K hK=> ?_);go_simp;have hlb:w5.heap.size ≠ bc:=by have:=(uh HO).size;omega
  obtain ⟨Wp,hWp,hba,KL⟩:=YP w5 2 #[.int .i64 (-1),.int .i64 (n2:Int)];replace kb:=bl kb hba;replace HO:=Z9 ((uh HO).trans (VP hba));replace Hs:=Z9 ((uh Hs).alloc (.cells #[.int .i64 (-1),.int .i64 (n2:Int)] 2));rw [hWp];refine hK.out _ _ ((uh kb).cell (i:=2) rfl) (fun hHeld=> ?_);clear hK K
  (try simp only [Act.put,sA,sZ,sS])
  clear hba
  (try rw [hWp] at Hs);clear hWp
  generalize w5.heap.size=lb at *;have l0:=(uh KL).cell (i:=0) (v:= .int .i64 (-1)) rfl;have l1:=(uh KL).cell (i:=1) (v:= .int .i64 (n2:Int)) rfl
  rcases (show v5=0\/v5=1 by omega) with rfl | rfl
  ·
   refine tp 6 ?_;refine rd 7 rfl (fun K hK=> ?_);go_simp;refine hK.out _ _ ((uh kb).cell (i:=2) rfl) (fun hHeld=> ?_);clear hK K
   (try simp only [Act.put,sA,sZ,sS])
   refine wpAnyH_done (by kernel_rfl) ?_ _;refine ZD rfl rfl ?_;go_simp;clear hHeld;go_wp2_with fail;go_ret;exact ⟨_,rfl,uh Hs,uh HO⟩
  ·
   refine tp 6 ?_;refine rd 7 rfl (fun K hK=> ?_);go_simp;refine hK.out _ _ ((uh kb).cell (i:=2) rfl) (fun hHeld=> ?_);clear hK K
   (try simp only [Act.put,sA,sZ,sS])
   refine wpAnyH_done (by kernel_rfl) ?_ _;refine ZD rfl rfl ?_;go_simp;clear hHeld;go_wp2_with fail;go_ret;exact ⟨_,rfl,uh Hs,uh HO⟩
set_option maxRecDepth 100000
structure Wbox (a:Option Addr) (len cap cb rb mb:Nat) (w W:World) (M:Z6) (u0 u1 u2 u3 u4:Value) (rq:List (ZX × Value)):Prop where
 st:St a len cap cb W
 kr:Blk W rb 32 E6
 km:Blk W mb 32 #[u0,u1,u2,u3,u4,.int .i64 M.now]
 full:FullSmy (cb+1) W u0 u1 u2 u3 u4 M rq
 bb:Below w.heap.size w W
 lr:rb<cb
 lm:cb<mb
 rw:w.heap.size<=rb
section
variable {a : Option Addr} {len cap cb rb mb : Nat} {w W X : World} {M : Z6} {u0 u1 u2 u3 u4 : Value} {rq : List (ZX × Value)}
theorem Wbox.step (h:Wbox a len cap cb rb mb w W M u0 u1 u2 u3 u4 rq) (s:St a len cap cb X) (p:Off cb W X):Wbox a len cap cb rb mb w X M u0 u1 u2 u3 u4 rq:=
 ⟨s,h.kr.away p (by have:=h.lr;omega),h.km.away p (by have:=h.lm;omega),h.full.away p (Nat.lt_succ_self _),h.bb.trans (p.below (by have:=h.lr;have:=h.rw;omega) h.bb.size),h.lr,h.lm,h.rw⟩
theorem Wbox.below (h:Wbox a len cap cb rb mb w W M u0 u1 u2 u3 u4 rq) (hb:Below W.heap.size W X):Wbox a len cap cb rb mb w X M u0 u1 u2 u3 u4 rq:=
 ⟨Xz h.st (hb.mono (Wy h.st)),h.kr.below hb h.kr.lt,h.km.below hb h.km.lt,h.full.below hb,h.bb.trans (hb.mono h.bb.size),h.lr,h.lm,h.rw⟩
theorem Wbox.drew (h:Wbox a len cap cb rb mb w W M u0 u1 u2 u3 u4 rq):Wbox a len cap cb rb mb w W.drew M u0 u1 u2 u3 u4 rq:=h.below (ZZ _ _).drew
theorem Wbox.end (h:Wbox a len cap cb rb mb w W M u0 u1 u2 u3 u4 rq) (x0 x1 x2 x3 x4 x5:Value):FullSmy (w.heap.size+1) ((((((W.setCell ⟨rb,0,none⟩ x0).setCell ⟨rb,1,none⟩ x1).setCell ⟨rb,2,none⟩ x2).setCell ⟨rb,3,none⟩ x3).setCell ⟨rb,4,none⟩ x4).setCell ⟨rb,5,none⟩ x5) u0 u1 u2 u3 u4 M rq/\Below w.heap.size w ((((((W.setCell ⟨rb,0,none⟩ x0).setCell ⟨rb,1,none⟩ x1).setCell ⟨rb,2,none⟩ x2).setCell ⟨rb,3,none⟩ x3).setCell ⟨rb,4,none⟩ x4).setCell ⟨rb,5,none⟩ x5)/\Blk ((((((W.setCell ⟨rb,0,none⟩ x0).setCell ⟨rb,1,none⟩ x1).setCell ⟨rb,2,none⟩ x2).setCell ⟨rb,3,none⟩ x3).setCell ⟨rb,4,none⟩ x4).setCell ⟨rb,5,none⟩ x5) mb 32 #[u0,u1,u2,u3,u4,.int .i64 M.now]:=by
 have h1:=h.lr;have h2:=h.lm;have h3:=h.rw;refine ⟨?_,?_,?_⟩
 ·refine FullSmy.mono (n₀:=cb+1) ?_ (by omega)
  iterate 6 (refine FullSmy.set_off ?_ (fun k e=>by have:=(h.full.own e).1;omega) _ _)
  exact h.full
 ·iterate 6 (refine YO ?_ h3 _)
  exact h.bb
 ·iterate 6 (refine Blk.other ?_ (by show mb ≠ rb;omega) _)
  exact h.km
end
theorem Jk (a:Option Addr) (len cap:Nat) (w:World) (hr:Row w.heap.size w a len) :
  Calls Tryz.prog 8 #[.slice a len cap] w fun e w'=> ∃ M u0 u1 u2 u3 u4 x y z rq,e= .returned (.tuple #[.agg #[u0,u1,u2,u3,u4,.int .i64 M.now],.int .i64 x,.int .i64 y,.int .i64 z])/\FullSmy (w.heap.size+1) w' u0 u1 u2 u3 u4 M rq/\Below w.heap.size w w':=by
 have Hr:=Z9 (Draw.row_later hr ((ZZ _ _).alloc (Z1 _) (.cells E6 32)));clear hr;go_enter Tryz.func8,Tryz.ntmps8;go_wp2_with fail;have kr:Hid (Blk (w.alloc (.cells E6 32)) w.heap.size 32 E6):=Z9 (Blk.new _ _ _);have BB:Hid (Below w.heap.size w (w.alloc (.cells E6 32))):=Z9 ((ba _ _));have hzW:w.heap.size<(w.alloc (.cells E6 32)).heap.size:=by simp
 generalize w.alloc (.cells E6 32)=W at *;refine (Draw.new_any a len cap _ (uh Hr)).mono ?_;rintro e w1 ⟨rfl,s1,o1⟩;have Hs:=Z9 s1;replace kr:=Z9 ((uh kr).away o1 (by omega));replace BB:=Z9 ((uh BB).trans (o1.below (by omega) (uh BB).size));clear s1 o1 Hr;generalize W.heap.size=cb at *;go_wp2_with fail;refine (Rz a len cap cb _ (uh Hs)).mono ?_;rintro e w2 ⟨M,u0,u1,u2,u3,u4,rq,rfl,hm2,hm3,hf,s2,o2⟩;have hc1:=Wy (uh Hs);have k6:=hf.smy;obtain ⟨b0,q0,b1,q1,b2,q2,b3,q3,b4,q4,rfl,rfl,rfl,rfl,rfl,_,_,_,_,_,_,_,_,_,_⟩:=k6.five;have hb:Below w2.heap.size w2 (w2.alloc (.cells (S6 b0 q0 b1 q1 b2 q2 b3 q3 b4 q4 M) 32)):=ba _ _;have HW:Hid (Wbox a len cap cb w.heap.size w2.heap.size w (w2.alloc (.cells (S6 b0 q0 b1 q1 b2 q2 b3 q3 b4 q4 M) 32)) M (.slice b0 M.rm.length q0) (.slice b1 M.gd.length q1) (.slice b2 M.sm.length q2) (.slice b3 M.dk.length q3) (.slice b4 M.pc.length q4) rq):=Z9 ⟨s2.alloc _,((uh kr).away o2 (by omega)).alloc _,Blk.new _ _ _,(hf.mono (n₁:=cb+1) (by omega)).below hb,((uh BB).trans (o2.below (by omega) (uh BB).size)).trans (hb.mono (by have:=(uh BB).size;have:=o2.size;omega)),by omega,Wy s2,Z1 _⟩;have Hm2:=Z9 hm2;clear hm2 hm3 hf s2 o2 k6 hb kr BB Hs hc1 hzW;go_upto_region 3 with fail;generalize w2.alloc (.cells (S6 b0 q0 b1 q1 b2 q2 b3 q3 b4 q4 M) 32)=W2 at *;generalize w2.heap.size=mb at *;go_wp2_with fail;refine (Draw.from_any a len cap cb (-5) 5 (by omega) (by omega) (by omega) _ (uh HW).st).mono ?_;rintro e w3 ⟨x,rfl,_,_,s9,p9⟩;replace HW:=Z9 ((uh HW).step s9 p9);clear s9 p9;go_wp2_with fail;refine (Draw.once_any a len cap cb 12 (by omega) (by omega) _ (uh HW).st).mono ?_;rintro e w4 ⟨bq,rfl,s9,p9⟩;replace HW:=Z9 ((uh HW).step s9 p9);clear s9 p9
 go_upto_if 17 with fail
 go_cut [8] (fun s wc=> ∃ x:Int,s= .int .i64 x/\Wbox a len cap cb w.heap.size mb w wc M (.slice b0 M.rm.length q0) (.slice b1 M.gd.length q1) (.slice b2 M.sm.length q2) (.slice b3 M.dk.length q3) (.slice b4 M.pc.length q4) rq)
 case first=>
  cases bq
  ·go_wp2_with fail
   go_meet;exact ⟨_,rfl,uh HW⟩
  ·have HW0:=HW
   obtain ⟨X1,hX1,hba,KL⟩:=YP w4 2 #[.int .i64 (-6),.int .i64 6];replace HW:=Z9 ((uh HW).below hba);have hlb:w4.heap.size ≠ cb:=by have:=Wy (uh HW0).st;omega
   clear hba;go_wp2_with fail;(try rw [hX1]);clear hX1;generalize w4.heap.size=lb at *;refine (Draw.below_any a len cap cb 2 (by omega) (by omega) _ (uh HW).st).mono ?_;rintro e w9 ⟨v,rfl,v0,v1,s9,p9⟩;replace KL:=Z9 ((uh KL).away p9 hlb);replace HW:=Z9 ((uh HW).step s9 p9);clear s9 p9
   rcases (show v=0\/v=1 by omega) with rfl | rfl
   ·have l0:=(uh KL).cell (i:=0) (v:= .int .i64 (-6)) rfl
    go_wp2_with fail;go_meet;exact ⟨_,rfl,uh HW⟩
   ·have l1:=(uh KL).cell (i:=1) (v:= .int .i64 6) rfl
    go_wp2_with fail;go_meet;exact ⟨_,rfl,uh HW⟩
 case rest=>
  obtain ⟨x,rfl,hw⟩:=hcut;replace HW:=Z9 hw;clear hw;go_wp2_with fail;refine (Draw.once_any a len cap cb 2 (by omega) (by omega) _ (uh HW).st).mono ?_;rintro e w5 ⟨bq2,rfl,s9,p9⟩;replace HW:=Z9 ((uh HW).step s9 p9);clear s9 p9
  go_upto_if 24 with fail
  go_cut [9] (fun s wd=> ∃ y:Int,s= .int .i64 y/\Wbox a len cap cb w.heap.size mb w wd M (.slice b0 M.rm.length q0) (.slice b1 M.gd.length q1) (.slice b2 M.sm.length q2) (.slice b3 M.dk.length q3) (.slice b4 M.pc.length q4) rq)
  case first=>
   cases bq2
   ·go_wp2_with fail
    go_meet;exact ⟨_,rfl,uh HW⟩
   ·go_wp2_with fail
    refine (Draw.below_any a len cap cb 255 (by omega) (by omega) _ (uh HW).st).mono ?_;rintro e w6 ⟨v,rfl,v0,v1,s9,p9⟩;replace HW:=Z9 ((uh HW).step s9 p9);clear s9 p9;go_wp2_with fail;go_meet;exact ⟨_,rfl,uh HW⟩
  case rest=>
   obtain ⟨y,rfl,hw⟩:=hcut;replace HW:=Z9 hw;clear hw;go_wp2_with fail;refine (Draw.once_any a len cap cb 12 (by omega) (by omega) _ (uh HW).st).mono ?_;rintro e w7 ⟨bq3,rfl,s9,p9⟩;replace HW:=Z9 ((uh HW).step s9 p9);clear s9 p9
   go_upto_if 29 with fail
   go_cut [9] (fun s wf=> ∃ y:Int,s= .int .i64 y/\Wbox a len cap cb w.heap.size mb w wf M (.slice b0 M.rm.length q0) (.slice b1 M.gd.length q1) (.slice b2 M.sm.length q2) (.slice b3 M.dk.length q3) (.slice b4 M.pc.length q4) rq)
   case first=>
    cases bq3
    ·go_wp2_with fail
     go_meet;exact ⟨_,rfl,uh HW⟩
    ·have HW0:=HW
     obtain ⟨X1,hX1,hba,KL⟩:=YP w7 2 #[.int .i64 0,.int .i64 256,.int .i64 128];replace HW:=Z9 ((uh HW).below hba);have hlb:w7.heap.size ≠ cb:=by have:=Wy (uh HW0).st;omega
     clear hba;go_wp2_with fail;(try rw [hX1]);clear hX1;generalize w7.heap.size=lb at *;refine (Draw.below_any a len cap cb 3 (by omega) (by omega) _ (uh HW).st).mono ?_;rintro e w9 ⟨v,rfl,v0,v1,s9,p9⟩;replace KL:=Z9 ((uh KL).away p9 hlb);replace HW:=Z9 ((uh HW).step s9 p9);clear s9 p9
     rcases (show v=0\/v=1\/v=2 by omega) with rfl | rfl | rfl
     ·have l0:=(uh KL).cell (i:=0) (v:= .int .i64 0) rfl
      go_wp2_with fail;go_meet;exact ⟨_,rfl,uh HW⟩
     ·have l1:=(uh KL).cell (i:=1) (v:= .int .i64 256) rfl
      go_wp2_with fail;go_meet;exact ⟨_,rfl,uh HW⟩
     ·have l2:=(uh KL).cell (i:=2) (v:= .int .i64 128) rfl
      go_wp2_with fail;go_meet;exact ⟨_,rfl,uh HW⟩
   case rest=>
    obtain ⟨y2,rfl,hw⟩:=hcut;replace HW:=Z9 hw;clear hw;obtain ⟨x0,x1,x2,x3,x4,x5⟩:=(uh HW).km.c6;go_wp2_with fail
    go_region_with (go_at_call 39;go_must (refine (Draw.from_any a len cap cb (-1) 1 ?_ ?_ ?_ _ ?_).mono ?_);go_must (omega);go_must (omega);go_must (omega);go_must (exact (uh HW).drew.st);go_must (rintro e w8 ⟨z,rfl,_,_,s9,p9⟩;have HW8:=Z9 ((uh HW).drew.step s9 p9);clear s9 p9;obtain ⟨y0,y1,y2',y3,y4,y5⟩:=(uh HW8).km.c6;have o0:=(uh HW8).kr.cell (i:=0) (v:= .slice none 0 0) rfl;have f0:=(uh HW8).kr.free 0;have o1:=(uh HW8).kr.cell (i:=1) (v:= .slice none 0 0) rfl;have f1:=(uh HW8).kr.free 1;have o2:=(uh HW8).kr.cell (i:=2) (v:= .slice none 0 0) rfl;have f2:=(uh HW8).kr.free 2;have o3:=(uh HW8).kr.cell (i:=3) (v:= .slice none 0 0) rfl;have f3:=(uh HW8).kr.free 3;have o4:=(uh HW8).kr.cell (i:=4) (v:= .slice none 0 0) rfl;have f4:=(uh HW8).kr.free 4;have o5:=(uh HW8).kr.cell (i:=5) (v:= .int .i64 0) rfl;have f5:=(uh HW8).kr.free 5;obtain ⟨F9,B9,_⟩:=(uh HW8).end (.slice b0 M.rm.length q0) (.slice b1 M.gd.length q1) (.slice b2 M.sm.length q2) (.slice b3 M.dk.length q3) (.slice b4 M.pc.length q4) (.int .i64 M.now);have HF9:=Z9 F9;have HB9:=Z9 B9;clear F9 B9))
    all_goals
     go_wp2_with fail;exact ZS (v:= .tuple #[.agg (S6 b0 q0 b1 q1 b2 q2 b3 q3 b4 q4 M),.int .i64 x,.int .i64 y2,.int .i64 z]) (by simp [results,Tryz.results8,go_sem, *]) rfl ⟨M,_,_,_,_,_,x,y2,z,rq,rfl,uh HF9,uh HB9⟩
theorem Jl (a:Option Addr) (len cap:Nat) (w:World) (hr:Row w.heap.size w a len) :
  Calls Tryz.prog 16 #[.slice a len cap] w fun e w'=> ∃ M u0 u1 u2 u3 u4 x rq,e= .returned (.tuple #[.agg #[u0,u1,u2,u3,u4,.int .i64 M.now],.int .i64 x])/\FullSmy (w.heap.size+1) w' u0 u1 u2 u3 u4 M rq/\Below w.heap.size w w':=by
 have Hr:=Z9 (Draw.row_later hr ((ZZ _ _).alloc (Z1 _) (.cells E6 32)));clear hr;go_enter Tryz.func16,Tryz.ntmps16;go_wp2_with fail;have kr:Hid (Blk (w.alloc (.cells E6 32)) w.heap.size 32 E6):=Z9 (Blk.new _ _ _);have BB:Hid (Below w.heap.size w (w.alloc (.cells E6 32))):=Z9 ((ba _ _));have hzW:w.heap.size<(w.alloc (.cells E6 32)).heap.size:=by simp
 generalize w.alloc (.cells E6 32)=W at *;refine (Draw.new_any a len cap _ (uh Hr)).mono ?_;rintro e w1 ⟨rfl,s1,o1⟩;have Hs:=Z9 s1;replace kr:=Z9 ((uh kr).away o1 (by omega));replace BB:=Z9 ((uh BB).trans (o1.below (by omega) (uh BB).size));clear s1 o1 Hr;generalize W.heap.size=cb at *;go_wp2_with fail;refine (Rz a len cap cb _ (uh Hs)).mono ?_;rintro e w2 ⟨M,u0,u1,u2,u3,u4,rq,rfl,hm2,hm3,hf,s2,o2⟩;have hc1:=Wy (uh Hs);have k6:=hf.smy;obtain ⟨b0,q0,b1,q1,b2,q2,b3,q3,b4,q4,rfl,rfl,rfl,rfl,rfl,_,_,_,_,_,_,_,_,_,_⟩:=k6.five;have hb:Below w2.heap.size w2 (w2.alloc (.cells (S6 b0 q0 b1 q1 b2 q2 b3 q3 b4 q4 M) 32)):=ba _ _;have HW:Hid (Wbox a len cap cb w.heap.size w2.heap.size w (w2.alloc (.cells (S6 b0 q0 b1 q1 b2 q2 b3 q3 b4 q4 M) 32)) M (.slice b0 M.rm.length q0) (.slice b1 M.gd.length q1) (.slice b2 M.sm.length q2) (.slice b3 M.dk.length q3) (.slice b4 M.pc.length q4) rq):=Z9 ⟨s2.alloc _,((uh kr).away o2 (by omega)).alloc _,Blk.new _ _ _,(hf.mono (n₁:=cb+1) (by omega)).below hb,((uh BB).trans (o2.below (by omega) (uh BB).size)).trans (hb.mono (by have:=(uh BB).size;have:=o2.size;omega)),by omega,Wy s2,Z1 _⟩;have Hm2:=Z9 hm2;clear hm2 hm3 hf s2 o2 k6 hb kr BB Hs hc1 hzW;go_upto_region 3 with fail;generalize w2.alloc (.cells (S6 b0 q0 b1 q1 b2 q2 b3 q3 b4 q4 M) 32)=W2 at *;generalize w2.heap.size=mb at *;have hkl:M.sm.length<=1000000:=by have:=(uh Hm2).1;omega
 obtain ⟨x0,x1,x2,x3,x4,x5⟩:=(uh HW).km.c6;go_wp2_with fail;refine (Mu a len cap cb _ _ _ _ _ _ _ _ _ _ _ _ _ _ _ _ hkl _ (uh HW).st).mono ?_;rintro e w3 ⟨x,rfl,s9,p9⟩;replace HW:=Z9 ((uh HW).step s9 p9);clear s9 p9 x0 x1 x2 x3 x4 x5;go_wp2_with fail
 go_loopw [6,7] (fun s i wr=> ∃ (x:Int) (k:Nat),s= .int .i64 x/\k<=M.sm.length/\i= .int .i64 k/\Wbox a len cap cb w.heap.size mb w wr M (.slice b0 M.rm.length q0) (.slice b1 M.gd.length q1) (.slice b2 M.sm.length q2) (.slice b3 M.dk.length q3) (.slice b4 M.pc.length q4) rq) (fun _ i _=>M.sm.length-(intOf i).toNat)
 case atStart=>exact ⟨x,0,rfl,Zz _,rfl,uh HW⟩
 case round=>
  obtain ⟨x,k,rfl,hk,rfl,hw⟩:=hrel;replace HW:=Z9 hw;clear hw;have x2:=(uh HW).km.cell (i:=2) (v:= .slice b2 M.sm.length q2) rfl;by_cases hlt:k<M.sm.length
  ·
   have hlt1:(k:Int)<(M.sm.length:Int):=by omega
   obtain ⟨g2,hga,_,hg2w,hc2,_⟩:=RecAt.view ZT (by omega) (uh HW).full.sm rfl (by omega);cases hga;have s0:=hc2 k hlt 0 _ rfl;simp only [Nat.add_zero] at s0;clear hc2;generalize (Z8 M.sm k).1=st at *;by_cases hst:st=1
   ·subst hst
    go_wp2_with fail;refine (Draw.once_any a len cap cb 3 (by omega) (by omega) _ (uh HW).st).mono ?_;rintro e w4 ⟨bq,rfl,s9,p9⟩;replace HW:=Z9 ((uh HW).step s9 p9);clear s9 p9 x2 s0;cases bq
    ·go_wp2_with fail
     go_roundw
     case rel=>exact ⟨_,k+1,rfl,by omega,by go_num,uh HW⟩
     case measure=>exact ms
    ·go_wp2_with fail
     go_roundw
     case rel=>exact ⟨_,k+1,rfl,by omega,by go_num,uh HW⟩
     case measure=>exact ms
   ·have hsd:decide (st=1)=false:=XE hst
    go_wp2_with fail;go_roundw
    case rel=>exact ⟨_,k+1,rfl,by omega,by go_num,uh HW⟩
    case measure=>exact ms
  ·
   obtain rfl:k=M.sm.length:=by omega
   clear x2;obtain ⟨y0,y1,y2,y3,y4,y5⟩:=(uh HW).km.c6;have o0:=(uh HW).kr.cell (i:=0) (v:= .slice none 0 0) rfl;have f0:=(uh HW).kr.free 0;have o1:=(uh HW).kr.cell (i:=1) (v:= .slice none 0 0) rfl;have f1:=(uh HW).kr.free 1;have o2:=(uh HW).kr.cell (i:=2) (v:= .slice none 0 0) rfl;have f2:=(uh HW).kr.free 2;have o3:=(uh HW).kr.cell (i:=3) (v:= .slice none 0 0) rfl;have f3:=(uh HW).kr.free 3;have o4:=(uh HW).kr.cell (i:=4) (v:= .slice none 0 0) rfl;have f4:=(uh HW).kr.free 4;have o5:=(uh HW).kr.cell (i:=5) (v:= .int .i64 0) rfl;have f5:=(uh HW).kr.free 5;obtain ⟨F9,B9,_⟩:=(uh HW).end (.slice b0 M.rm.length q0) (.slice b1 M.gd.length q1) (.slice b2 M.sm.length q2) (.slice b3 M.dk.length q3) (.slice b4 M.pc.length q4) (.int .i64 M.now);have HF9:=Z9 F9;have HB9:=Z9 B9;clear F9 B9;go_wp2_with fail;exact ZS (v:= .tuple #[.agg (S6 b0 q0 b1 q1 b2 q2 b3 q3 b4 q4 M),.int .i64 x]) (by simp [results,Tryz.results16,go_sem, *]) rfl ⟨M,_,_,_,_,_,x,rq,rfl,uh HF9,uh HB9⟩
end Go.Proofs.YtamgfpdahadnfaaGreatDoor
namespace Go.Proofs.YtamgfpdahadnfaaGreatDoor
open Go.ChangeShapes Go.WideShapes Go.ChangeAt Go.RowKit
set_option linter.unusedVariables false
theorem Jy {w:World} {v u:Value} {rs:List ZX} (hv:IsRooms w v rs) (hu:IsRooms w u rs) :
  Calls Tryz.prog 52 #[.agg #[v],.agg #[u]] w fun e w'=>e= .returned (.bool true)/\Below w.heap.size w w':=by
 have Hv:=Z9 hv;have Hu:=Z9 hu;obtain ⟨a,cap,rfl,hc,hm,hr⟩:=hv;obtain ⟨a',cap',rfl,hc',hm',hr'⟩:=hu;clear hr hr';go_enter Tryz.func52,Tryz.ntmps52;go_wp2_with fail;have B0:Hid (Below w.heap.size w ((w.alloc (.cells #[.slice a rs.length cap] 26)).alloc (.cells #[.slice a' rs.length cap'] 26))):=Z9 (((ba _ _)).alloc (by simp) _)
 go_loopw [5] (fun i wr=> ∃ k:Nat,k<=rs.length/\i= .int .i64 k/\Below (w.heap.size+2) ((w.alloc (.cells #[.slice a rs.length cap] 26)).alloc (.cells #[.slice a' rs.length cap'] 26)) wr) (fun i _=>rs.length-(intOf i).toNat)
 case atStart=>exact ⟨0,Zz _,rfl,ZZ _ _⟩
 case round=>
  obtain ⟨k,hk,rfl,hb⟩:=hrel;have Hb:=Z9 hb;have hzr:w.heap.size+2<=wr.heap.size:=by have:=hb.size;simpa using this
  have c0:wr.cell? ⟨w.heap.size,0,none⟩=some (.slice a rs.length cap):=(hb.cell (p:=⟨w.heap.size,0,none⟩) (by show w.heap.size<w.heap.size+2;omega)).trans (by simp);have c1:wr.cell? ⟨w.heap.size+1,0,none⟩=some (.slice a' rs.length cap'):=(hb.cell (p:=⟨w.heap.size+1,0,none⟩) (by show w.heap.size+1<w.heap.size+2;omega)).trans (by simp);have BW:Hid (Below w.heap.size w wr):=Z9 ((uh B0).trans (hb.mono (by omega)));clear hb;by_cases hlt:k<rs.length
  ·obtain ⟨_,_,e1,_,_,hr⟩:=uh Hv
   obtain ⟨_,_,e2,_,_,hr'⟩:=uh Hu;cases e1;cases e2
   rcases hr with h0 | ⟨b,off,rfl,hbw,hcl⟩
   ·rw [h0] at hlt;simp at hlt
   rcases hr' with h0 | ⟨b',off',rfl,hbw',hcl'⟩
   ·rw [h0] at hlt;simp at hlt
   obtain ⟨d0,pv,d1,hip⟩:=hcl k hlt;obtain ⟨d2,pu,d3,hiu⟩:=hcl' k hlt;rw [<-(uh BW).cell (p:=⟨b,off+k*2,none⟩) hbw] at d0;rw [<-(uh BW).cell (p:=⟨b,off+k*2+1,none⟩) hbw] at d1;rw [<-(uh BW).cell (p:=⟨b',off'+k*2,none⟩) hbw'] at d2;rw [<-(uh BW).cell (p:=⟨b',off'+k*2+1,none⟩) hbw'] at d3;have Hip:=Z9 (hip.below (uh BW));have Hiu:=Z9 (hiu.below (uh BW));obtain ⟨pa,pcap,rfl,hpc,hpm,_⟩:=hip;obtain ⟨pa',pcap',rfl,hpc',hpm',_⟩:=hiu;generalize (ZQ rs k).1=f at *;generalize (ZQ rs k).2=ps at *;clear hcl hcl';have k0:=Z2 c0;have k1:=Z2 c1;have k2:=Z2 d0;have k3:=Z2 d1;have k4:=Z2 d2;have k5:=Z2 d3;go_wp2_with fail;refine wq ?_
   repeat (go_big_quiet_step (fail))
   refine wpQuiet_nil ?_;intro _ hw';obtain ⟨⟨dq,osq⟩,hw''⟩:=hw';subst hw'';have Hbq:=Z9 (Z0 wr dq osq);have e0:=k0 dq osq;have e1:=k1 dq osq;have e2:=k2 dq osq;have e3:=k3 dq osq;have e4:=k4 dq osq;have e5:=k5 dq osq;clear k0 k1 k2 k3 k4 k5 c0 c1 d0 d1 d2 d3;obtain ⟨w1,hw1⟩:∃ w1,w1=Go.Sort.grow (Go.redrawn wr dq) osq:=⟨_,rfl⟩
   rw [<-hw1] at Hbq e0 e1 e2 e3 e4 e5 ⊢;clear hw1;have HB1:=Z9 ((uh BW).trans ((uh Hbq).mono (uh BW).size));go_wp2_with fail;obtain ⟨wo,hwo⟩:∃ wo,wo=wr:=⟨wr,rfl⟩
   rw [<-hwo] at *;clear hwo
   go_loopw [6] (fun i wr=> ∃ j:Nat,j<=ps.length/\i= .int .i64 j/\Below w1.heap.size w1 wr) (fun i _=>ps.length-(intOf i).toNat)
   case atStart=>exact ⟨0,Zz _,rfl,ZZ _ _⟩
   case round=>
    obtain ⟨j,hj,rfl,hbr⟩:=hrel;have Hbr:=Z9 hbr;have HBr:=Z9 ((uh HB1).trans (hbr.mono (uh HB1).size));have hz1:=(uh Hbq).size;have f0:=(hbr.cell (World.block_lt_of_cell? _ _ e0)).trans e0;have f1:=(hbr.cell (World.block_lt_of_cell? _ _ e1)).trans e1;have f3:=(hbr.cell (World.block_lt_of_cell? _ _ e3)).trans e3;have f5:=(hbr.cell (World.block_lt_of_cell? _ _ e5)).trans e5;clear hbr;by_cases hjl:j<ps.length
    ·obtain ⟨_,_,g1,_,_,hr⟩:=(uh Hip).below ((uh Hbq).trans ((uh Hbr).mono hz1))
     obtain ⟨_,_,g2,_,_,hr'⟩:=(uh Hiu).below ((uh Hbq).trans ((uh Hbr).mono hz1));cases g1;cases g2
     rcases hr with h0 | ⟨pb,poff,rfl,hpbw,hpl⟩
     ·rw [h0] at hjl;simp at hjl
     rcases hr' with h0 | ⟨pb',poff',rfl,hpbw',hpl'⟩
     ·rw [h0] at hjl;simp at hjl
     obtain ⟨c0,c1⟩:=hpl j hjl;obtain ⟨d0,d1⟩:=hpl' j hjl;generalize (Z7 ps j).1=x at *;generalize (Z7 ps j).2=y at *;have k0:=Z2 f0;have k1:=Z2 f1;have k3:=Z2 f3;have k5:=Z2 f5;have k6:=Z2 c0;have k7:=Z2 c1;have k8:=Z2 d0;have k9:=Z2 d1;clear hpl hpl' e0 e1 e2 e3 e4 e5;go_wp2_with fail;refine wq ?_
     repeat (go_big_quiet_step (fail))
     refine wpQuiet_nil ?_;intro _ hw';obtain ⟨⟨dr,osr⟩,hw''⟩:=hw';subst hw'';go_wp2_with fail;go_roundw
     case rel=>exact ⟨j+1,by omega,by go_num,(uh Hbr).trans ((Z0 _ _ _).mono (uh Hbr).size)⟩
     case measure=>exact ms
    ·go_wp2_with fail
     go_roundw
     case rel=>exact ⟨k+1,by omega,by go_num,(uh Hb).trans (((uh Hbq).trans ((uh Hbr).mono hz1)).mono hzr)⟩
     case measure=>exact ms
  ·go_wp2_with fail
   go_ret;exact ⟨rfl,uh BW⟩
open Go.ChangeShapes Go.WideShapes Go.ChangeAt Go.RowKit Go.Sort
set_option maxRecDepth 100000
theorem Gp (a b c:Int) (w:World):(Op.equalIn 10000 75 (.agg #[.int .i64 a,.int .i64 b,.int .i64 c]) (.agg #[.int .i64 a,.int .i64 b,.int .i64 c])).run Tryz.prog w= .ok true w:=by
 have u:=Tryz.underlying2;have g:=Tryz.isAgg2;have z:=Tryz.sizeOf2;have hS:Tryz.prog.underlying 75=some (.struct (Tryz.prog.fieldsOf 75)):=by kernel_rfl
 have hp:Tryz.prog.stoodInHeld 75=false:=by kernel_rfl
 rw [show (10000:Nat)=9999+1 from rfl,run_equalIn_agg w 9999 75 _ _ hS hp];simp only [Program.fieldsOf,Tryz.underlying75];go_simp
theorem Cf (a b c:Int) (w:World):(binOp .neq 75 (.agg #[.int .i64 a,.int .i64 b,.int .i64 c]) (.agg #[.int .i64 a,.int .i64 b,.int .i64 c])).run Tryz.prog w= .ok (.bool false) w:=by
 rw [run_neq_struct,Gp];rfl
theorem Eh (o:Bool) (b c:Int) (w:World):(Op.equalIn 10000 43 (.agg #[.bool o,.int .i64 b,.int .i64 c]) (.agg #[.bool o,.int .i64 b,.int .i64 c])).run Tryz.prog w= .ok true w:=by
 have u:=Tryz.underlying2;have g:=Tryz.isAgg2;have z:=Tryz.sizeOf2;have u2:=Tryz.underlying4;have g2:=Tryz.isAgg4;have z2:=Tryz.sizeOf4;have hS:Tryz.prog.underlying 43=some (.struct (Tryz.prog.fieldsOf 43)):=by kernel_rfl
 have hp:Tryz.prog.stoodInHeld 43=false:=by kernel_rfl
 rw [show (10000:Nat)=9999+1 from rfl,run_equalIn_agg w 9999 43 _ _ hS hp];simp only [Program.fieldsOf,Tryz.underlying43];go_simp
theorem Ag (o:Bool) (b c:Int) (w:World):(binOp .neq 43 (.agg #[.bool o,.int .i64 b,.int .i64 c]) (.agg #[.bool o,.int .i64 b,.int .i64 c])).run Tryz.prog w= .ok (.bool false) w:=by
 rw [run_neq_struct,Eh];rfl
theorem M0 (st be rk my gu lo hi hd ca ut wk:Int) (w:World):(binOp .neq 40 (.agg (I11 st be rk my gu lo hi hd ca ut wk)) (.agg (I11 st be rk my gu lo hi hd ca ut wk))).run Tryz.prog w= .ok (.bool false) w:=by
 rw [Pg,MX];rfl
theorem Jz {w:World} {v u:Value} {zs:List Int} (hv:OJ w v zs) (hu:OJ w u zs) :
  Calls Tryz.prog 53 #[v,u] w fun e w'=>e= .returned (.bool true)/\Below w.heap.size w w':=by
 obtain ⟨a,cap,rfl,hc,hm,hr⟩:=hv;obtain ⟨a',cap',rfl,hc',hm',hr'⟩:=hu;have Hr:=Z9 hr;have Hr':=Z9 hr';clear hr hr';go_enter Tryz.func53,Tryz.ntmps53;go_wp2_with fail
 go_loopw [5] (fun i wr=> ∃ k:Nat,k<=zs.length/\i= .int .i64 k/\Below w.heap.size w wr) (fun i _=>zs.length-(intOf i).toNat)
 case atStart=>exact ⟨0,Zz _,rfl,ZZ _ _⟩
 case round=>
  obtain ⟨k,hk,rfl,hb⟩:=hrel;have Hb:=Z9 hb;by_cases hlt:k<zs.length
  ·rcases uh Hr with h0 | ⟨b,off,rfl,hbw,hcl⟩
   ·rw [h0] at hlt;simp at hlt
   rcases uh Hr' with h0 | ⟨b',off',rfl,hbw',hcl'⟩
   ·rw [h0] at hlt;simp at hlt
   have c0:=MH hcl hlt;have d0:=MH hcl' hlt;rw [<-hb.cell (p:=⟨b,off+k,none⟩) hbw] at c0;rw [<-hb.cell (p:=⟨b',off'+k,none⟩) hbw'] at d0;generalize Z8 zs k=z at *;clear hcl hcl' hb;go_wp2_with fail;go_quiet (fail);go_wp2_with fail;go_roundw
   case rel=>exact ⟨k+1,by omega,by go_num,⟨(uh Hb).os,(uh Hb).tape,(uh Hb).output,(uh Hb).size,(uh Hb).block⟩⟩
   case measure=>exact ms
  ·go_wp2_with fail
   go_ret;exact ⟨rfl,hb⟩
attribute [local go_sem ↓] Cf Ag M0
theorem Wo {w:World} {v0 v1 v2 v3 v4 u0 u1 u2 u3 u4:Value} {m:Z6} (h:Smy w v0 v1 v2 v3 v4 m) (g:Smy w u0 u1 u2 u3 u4 m) :
  Calls Tryz.prog 11 #[.agg #[v0,v1,v2,v3,v4,.int .i64 m.now],.agg #[u0,u1,u2,u3,u4,.int .i64 m.now]] w fun e w'=>e= .returned (.bool true)/\Below w.heap.size w w':=by
 have Hv:=Z9 h;have Hu:=Z9 g;obtain ⟨a0,p0,rfl,_,_⟩:=IsRooms.shape h.rm;obtain ⟨b0,q0,rfl,_,_⟩:=IsRooms.shape g.rm;obtain ⟨a1,p1,rfl,_,_⟩:=IsRec.shape h.gd;obtain ⟨b1,q1,rfl,_,_⟩:=IsRec.shape g.gd;obtain ⟨a2,p2,rfl,_,_⟩:=IsRec.shape h.sm;obtain ⟨b2,q2,rfl,_,_⟩:=IsRec.shape g.sm;obtain ⟨a3,p3,rfl,_,_⟩:=IsRec.shape h.dk;obtain ⟨b3,q3,rfl,_,_⟩:=IsRec.shape g.dk;obtain ⟨a4,p4,rfl,_,_⟩:=IsRec.shape h.pc;obtain ⟨b4,q4,rfl,_,_⟩:=IsRec.shape g.pc;clear h g;have ka:Hid (Blk ((w.alloc (.cells (S6 a0 p0 a1 p1 a2 p2 a3 p3 a4 p4 m) 32)).alloc (.cells (S6 b0 q0 b1 q1 b2 q2 b3 q3 b4 q4 m) 32)) w.heap.size 32 (S6 a0 p0 a1 p1 a2 p2 a3 p3 a4 p4 m)):=Z9 ((Blk.new w _ _).alloc _)
 have kb:Hid (Blk ((w.alloc (.cells (S6 a0 p0 a1 p1 a2 p2 a3 p3 a4 p4 m) 32)).alloc (.cells (S6 b0 q0 b1 q1 b2 q2 b3 q3 b4 q4 m) 32)) (w.heap.size+1) 32 (S6 b0 q0 b1 q1 b2 q2 b3 q3 b4 q4 m)):=Z9 (by
  have k:=Blk.new (w.alloc (.cells (S6 a0 p0 a1 p1 a2 p2 a3 p3 a4 p4 m) 32)) 32 (S6 b0 q0 b1 q1 b2 q2 b3 q3 b4 q4 m);rw [Y1] at k
  exact k)
 have BB:Hid (Below w.heap.size w ((w.alloc (.cells (S6 a0 p0 a1 p1 a2 p2 a3 p3 a4 p4 m) 32)).alloc (.cells (S6 b0 q0 b1 q1 b2 q2 b3 q3 b4 q4 m) 32))):=Z9 (((ba _ _)).alloc (by simp) _);go_enter Tryz.func11,Tryz.ntmps11;go_wp2_with fail;generalize ((w.alloc (.cells (S6 a0 p0 a1 p1 a2 p2 a3 p3 a4 p4 m) 32)).alloc (.cells (S6 b0 q0 b1 q1 b2 q2 b3 q3 b4 q4 m) 32))=W at *;refine ck (Jy ((uh Hv).below (uh BB)).rm ((uh Hu).below (uh BB)).rm) fun w1 hb=> ?_;replace ka:=bl ka hb;replace kb:=bl kb hb;replace BB:=bt BB hb;clear hb;obtain ⟨c0,c1,c2,c3,c4,c5⟩:=(uh ka).c6;obtain ⟨d0,d1,d2,d3,d4,d5⟩:=(uh kb).c6;go_wp2_with fail;refine ck (Jz ((uh Hv).below (uh BB)).pc ((uh Hu).below (uh BB)).pc) fun w2 hb=> ?_;replace ka:=bl ka hb;replace kb:=bl kb hb;replace BB:=bt BB hb;clear hb c0 c1 c2 c3 c4 c5 d0 d1 d2 d3 d4 d5;obtain ⟨c0,c1,c2,c3,c4,c5⟩:=(uh ka).c6;obtain ⟨d0,d1,d2,d3,d4,d5⟩:=(uh kb).c6;go_wp2_with fail;clear c0 c1 c2 c3 c4 c5 d0 d1 d2 d3 d4 d5
 go_loopw [5] (fun i wr=> ∃ k:Nat,k<=m.gd.length/\i= .int .i64 k/\Blk wr w.heap.size 32 (S6 a0 p0 a1 p1 a2 p2 a3 p3 a4 p4 m)/\Blk wr (w.heap.size+1) 32 (S6 b0 q0 b1 q1 b2 q2 b3 q3 b4 q4 m)/\Below w.heap.size w wr) (fun i _=>m.gd.length-(intOf i).toNat)
 case atStart=>exact ⟨0,Zz _,rfl,uh ka,uh kb,uh BB⟩
 case round=>
  obtain ⟨k,hk,rfl,hka,hkb,hb⟩:=hrel;have c1:=hka.cell (i:=1) rfl;have d1:=hkb.cell (i:=1) rfl;by_cases hlt:k<m.gd.length
  ·have hlt1:(k:Int)<(m.gd.length:Int):=by omega
   obtain ⟨_,_,he,_,hmx,r1⟩:=(uh Hv).gd;cases he;obtain ⟨_,_,he,_,hmy,r2⟩:=(uh Hu).gd;cases he
   rcases r1 with e0 | ⟨b,off,rfl,hbw,hcl⟩
   ·rw [e0] at hlt;simp at hlt
   rcases r2 with e0 | ⟨b',off',rfl,hbw',hcl'⟩
   ·rw [e0] at hlt;simp at hlt
   obtain ⟨x0,x1,x2⟩:=VR hcl hlt;obtain ⟨y0,y1,y2⟩:=VR hcl' hlt;rw [<-hb.cell (p:=⟨b,off+k*3,none⟩) hbw] at x0;rw [<-hb.cell (p:=⟨b',off'+k*3,none⟩) hbw'] at y0;rw [<-hb.cell (p:=⟨b,off+k*3+1,none⟩) hbw] at x1;rw [<-hb.cell (p:=⟨b',off'+k*3+1,none⟩) hbw'] at y1;rw [<-hb.cell (p:=⟨b,off+k*3+2,none⟩) hbw] at x2;rw [<-hb.cell (p:=⟨b',off'+k*3+2,none⟩) hbw'] at y2;generalize Z8 m.gd k=rr at *;obtain ⟨ga,gb,gc⟩:=rr;simp only at x0 x1 x2 y0 y1 y2;have Ka:=Z9 hka;have Kb:=Z9 hkb;have Hb:=Z9 hb;clear hcl hcl' hka hkb hb;go_wp2_with fail;go_quiet (fail);go_wp2_with fail;go_roundw
   case rel=>exact ⟨k+1,by omega,by go_num,(uh Ka).same rfl,(uh Kb).same rfl,⟨(uh Hb).os,(uh Hb).tape,(uh Hb).output,(uh Hb).size,(uh Hb).block⟩⟩
   case measure=>exact ms
  ·obtain rfl:k=m.gd.length:=by omega
   replace ka:=Z9 hka;replace kb:=Z9 hkb;replace BB:=Z9 hb;clear hka hkb hb;go_wp2_with fail
   go_loopw [6] (fun i wr=> ∃ k:Nat,k<=m.sm.length/\i= .int .i64 k/\Blk wr w.heap.size 32 (S6 a0 p0 a1 p1 a2 p2 a3 p3 a4 p4 m)/\Blk wr (w.heap.size+1) 32 (S6 b0 q0 b1 q1 b2 q2 b3 q3 b4 q4 m)/\Below w.heap.size w wr) (fun i _=>m.sm.length-(intOf i).toNat)
   case atStart=>exact ⟨0,Zz _,rfl,uh ka,uh kb,uh BB⟩
   case round=>
    obtain ⟨k,hk,rfl,hka,hkb,hb⟩:=hrel;have c2:=hka.cell (i:=2) rfl;have d2:=hkb.cell (i:=2) rfl;by_cases hlt:k<m.sm.length
    ·have hlt1:(k:Int)<(m.sm.length:Int):=by omega
     obtain ⟨_,_,he,_,hmx,r1⟩:=(uh Hv).sm;cases he;obtain ⟨_,_,he,_,hmy,r2⟩:=(uh Hu).sm;cases he
     rcases r1 with e0 | ⟨b,off,rfl,hbw,hcl⟩
     ·rw [e0] at hlt;simp at hlt
     rcases r2 with e0 | ⟨b',off',rfl,hbw',hcl'⟩
     ·rw [e0] at hlt;simp at hlt
     obtain ⟨x0,x1,x2,x3,x4,x5,x6,x7,x8,x9,x10⟩:=ZA hcl hlt;obtain ⟨y0,y1,y2,y3,y4,y5,y6,y7,y8,y9,y10⟩:=ZA hcl' hlt;rw [<-hb.cell (p:=⟨b,off+k*11,none⟩) hbw] at x0;rw [<-hb.cell (p:=⟨b',off'+k*11,none⟩) hbw'] at y0;rw [<-hb.cell (p:=⟨b,off+k*11+1,none⟩) hbw] at x1;rw [<-hb.cell (p:=⟨b',off'+k*11+1,none⟩) hbw'] at y1;rw [<-hb.cell (p:=⟨b,off+k*11+2,none⟩) hbw] at x2;rw [<-hb.cell (p:=⟨b',off'+k*11+2,none⟩) hbw'] at y2;rw [<-hb.cell (p:=⟨b,off+k*11+3,none⟩) hbw] at x3;rw [<-hb.cell (p:=⟨b',off'+k*11+3,none⟩) hbw'] at y3;rw [<-hb.cell (p:=⟨b,off+k*11+4,none⟩) hbw] at x4;rw [<-hb.cell (p:=⟨b',off'+k*11+4,none⟩) hbw'] at y4;rw [<-hb.cell (p:=⟨b,off+k*11+5,none⟩) hbw] at x5;rw [<-hb.cell (p:=⟨b',off'+k*11+5,none⟩) hbw'] at y5;rw [<-hb.cell (p:=⟨b,off+k*11+6,none⟩) hbw] at x6;rw [<-hb.cell (p:=⟨b',off'+k*11+6,none⟩) hbw'] at y6;rw [<-hb.cell (p:=⟨b,off+k*11+7,none⟩) hbw] at x7;rw [<-hb.cell (p:=⟨b',off'+k*11+7,none⟩) hbw'] at y7;rw [<-hb.cell (p:=⟨b,off+k*11+8,none⟩) hbw] at x8;rw [<-hb.cell (p:=⟨b',off'+k*11+8,none⟩) hbw'] at y8;rw [<-hb.cell (p:=⟨b,off+k*11+9,none⟩) hbw] at x9;rw [<-hb.cell (p:=⟨b',off'+k*11+9,none⟩) hbw'] at y9;rw [<-hb.cell (p:=⟨b,off+k*11+10,none⟩) hbw] at x10;rw [<-hb.cell (p:=⟨b',off'+k*11+10,none⟩) hbw'] at y10;generalize Z8 m.sm k=rr at *;obtain ⟨st,be,rk,my,gu,lo,hi,hd,ca,ut,wk⟩:=rr;simp only at x0 x1 x2 x3 x4 x5 x6 x7 x8 x9 x10 y0 y1 y2 y3 y4 y5 y6 y7 y8 y9 y10;have Ka:=Z9 hka;have Kb:=Z9 hkb;have Hb:=Z9 hb;clear hcl hcl' hka hkb hb;go_wp2_with fail;go_quiet (fail);go_wp2_with fail;go_roundw
     case rel=>exact ⟨k+1,by omega,by go_num,(uh Ka).same rfl,(uh Kb).same rfl,⟨(uh Hb).os,(uh Hb).tape,(uh Hb).output,(uh Hb).size,(uh Hb).block⟩⟩
     case measure=>exact ms
    ·obtain rfl:k=m.sm.length:=by omega
     replace ka:=Z9 hka;replace kb:=Z9 hkb;replace BB:=Z9 hb;clear hka hkb hb;go_wp2_with fail
     go_loopw [7] (fun i wr=> ∃ k:Nat,k<=m.dk.length/\i= .int .i64 k/\Blk wr w.heap.size 32 (S6 a0 p0 a1 p1 a2 p2 a3 p3 a4 p4 m)/\Blk wr (w.heap.size+1) 32 (S6 b0 q0 b1 q1 b2 q2 b3 q3 b4 q4 m)/\Below w.heap.size w wr) (fun i _=>m.dk.length-(intOf i).toNat)
     case atStart=>exact ⟨0,Zz _,rfl,uh ka,uh kb,uh BB⟩
     case round=>
      obtain ⟨k,hk,rfl,hka,hkb,hb⟩:=hrel;have c3:=hka.cell (i:=3) rfl;have d3:=hkb.cell (i:=3) rfl;by_cases hlt:k<m.dk.length
      ·have hlt1:(k:Int)<(m.dk.length:Int):=by omega
       obtain ⟨_,_,he,_,hmx,r1⟩:=(uh Hv).dk;cases he;obtain ⟨_,_,he,_,hmy,r2⟩:=(uh Hu).dk;cases he
       rcases r1 with e0 | ⟨b,off,rfl,hbw,hcl⟩
       ·rw [e0] at hlt;simp at hlt
       rcases r2 with e0 | ⟨b',off',rfl,hbw',hcl'⟩
       ·rw [e0] at hlt;simp at hlt
       obtain ⟨x0,x1,x2⟩:=Y4 hcl hlt;obtain ⟨y0,y1,y2⟩:=Y4 hcl' hlt;rw [<-hb.cell (p:=⟨b,off+k*3,none⟩) hbw] at x0;rw [<-hb.cell (p:=⟨b',off'+k*3,none⟩) hbw'] at y0;rw [<-hb.cell (p:=⟨b,off+k*3+1,none⟩) hbw] at x1;rw [<-hb.cell (p:=⟨b',off'+k*3+1,none⟩) hbw'] at y1;rw [<-hb.cell (p:=⟨b,off+k*3+2,none⟩) hbw] at x2;rw [<-hb.cell (p:=⟨b',off'+k*3+2,none⟩) hbw'] at y2;generalize Z8 m.dk k=rr at *;obtain ⟨op,who,mk⟩:=rr;simp only at x0 x1 x2 y0 y1 y2;have Ka:=Z9 hka;have Kb:=Z9 hkb;have Hb:=Z9 hb;clear hcl hcl' hka hkb hb;go_wp2_with fail;go_quiet (fail);go_wp2_with fail;go_roundw
       case rel=>exact ⟨k+1,by omega,by go_num,(uh Ka).same rfl,(uh Kb).same rfl,⟨(uh Hb).os,(uh Hb).tape,(uh Hb).output,(uh Hb).size,(uh Hb).block⟩⟩
       case measure=>exact ms
      ·obtain rfl:k=m.dk.length:=by omega
       replace ka:=Z9 hka;replace kb:=Z9 hkb;replace BB:=Z9 hb;clear hka hkb hb;go_wp2_with fail;go_ret;exact ⟨rfl,uh BB⟩
end Go.Proofs.YtamgfpdahadnfaaGreatDoor
namespace Go.Proofs.YtamgfpdahadnfaaGreatDoor
open Go.ChangeShapes Go.WideShapes Go.ChangeAt Go.RowKit Go.Sort
set_option linter.unusedVariables false
theorem Ia (st be rk my gu lo hi hd ca ut wk:Int) (w:World):Calls Tryz.prog 14 #[.agg (I11 st be rk my gu lo hi hd ca ut wk)] w fun e w'=>
  e= .returned (.bool (ZK (st,be,rk,my,gu,lo,hi,hd,ca,ut,wk)))/\Below w.heap.size w w':=by
 unfold ZK;simp only;cases h2:(st ==2)
 all_goals
  go_enter Tryz.func14,Tryz.ntmps14;go_wp2_with fail;go_ret;exact ⟨by first | rfl | (simp),(ba _ _)⟩
theorem CF {st be rk my gu lo hi hd ca ut wk:Int} {q:Bool} (h:ZK (st,be,rk,my,gu,lo,hi,hd,ca,ut,wk)=q) (w:World):Calls Tryz.prog 14 #[.agg (I11 st be rk my gu lo hi hd ca ut wk)] w fun e w'=>e= .returned (.bool q)/\Below w.heap.size w w':=by
 have:=Ia st be rk my gu lo hi hd ca ut wk w;rw [h] at this;exact this
set_option maxRecDepth 100000
theorem yt {m:Z6} (h:Loose m) {k:Nat} (hk:k<m.sm.length) (hs:(Z8 m.sm k).1 ≠ 0):Si m k:=by
 have key:=AN h hk hs;exact ⟨hk,hs,key.1,key.2⟩
theorem M6 {w:World} {v0 v1 v2 v3 v4:Value} {m:Z6} {who:Int} {q:Int} (hq:ZG m who=q) (h:Smy w v0 v1 v2 v3 v4 m):Calls Tryz.prog 19 #[.agg #[v0,v1,v2,v3,v4,.int .i64 m.now],.int .i64 who] w fun e w'=>e= .returned (.int .i64 q)/\Below w.heap.size w w':=by
 have Hq:=Z9 hq;clear hq;obtain ⟨ok,hok⟩:∃ q,ZJ m=q:=⟨_,rfl⟩
 have Hok:=Z9 hok;clear hok;obtain ⟨a0,p0,a1,p1,a2,p2,a3,p3,a4,p4,rfl,rfl,rfl,rfl,rfl,K⟩:=Bx.new h;clear h;go_enter Tryz.func19,Tryz.ntmps19;go_wp2_with fail;generalize w.alloc (.cells (S6 a0 p0 a1 p1 a2 p2 a3 p3 a4 p4 m) 32)=W at *;refine ck (Xt (uh Hok) K.smy) fun w1 hb=> ?_;replace K:=K.next hb;clear hb;cases ok
 ·obtain rfl:q= -1:=by rw [<-uh Hq];unfold ZG;rw [uh Hok];simp
  go_wp2_with fail;go_ret;exact ⟨rfl,K.bb⟩
 obtain ⟨qw,hqw⟩:∃ q,WL m who=q:=⟨_,rfl⟩
 have Hw:=Z9 hqw;clear hqw;obtain ⟨c0,c1,c2,c3,c4,c5⟩:=K.cells;go_wp2_with fail;refine ck (U8 (uh Hw) K.smy) fun w2 hb=> ?_;replace K:=K.next hb;clear hb c0 c1 c2 c3 c4 c5;cases qw
 ·obtain rfl:q= -1:=by rw [<-uh Hq];unfold ZG;rw [uh Hw];simp
  go_wp2_with fail;go_ret;exact ⟨rfl,K.bb⟩
 obtain ⟨k,rfl,hk,hs⟩:=XS (uh Hw);obtain rfl:q=Y3 m (k:Int):=by rw [<-uh Hq];unfold ZG;rw [uh Hok,uh Hw];rfl
 have HA:=Z9 (yt (ZR (uh Hok)) hk hs);have HS:=Z9 (ZR (uh Hok)).sane;have hp:=(Xn (ZR (uh Hok))).nums;obtain ⟨c0,c1,c2,c3,c4,c5⟩:=K.cells;go_wp2_with fail;refine ck (WD K.smy (uh HS) hp (uh HA)) fun w3 hb=> ?_;replace K:=K.next hb;clear hb c0 c1 c2 c3 c4 c5;go_wp2_with fail;go_ret;exact ⟨rfl,K.bb⟩
open Go.ChangeShapes Go.WideShapes Go.ChangeAt Go.RowKit Go.Sort Go.Shelf
open Draw (Row IsRow JK row_later NF I8)
set_option linter.unusedSimpArgs false
set_option maxRecDepth 100000
theorem FG (a0:Option Addr) (len0 cap0:Nat) (z0:List Int) (w:World) (w0:IsRow .u8 w a0 len0 cap0 z0) (her:∃ q,Errs w q) :
  Calls Tryz.prog 3 #[.slice a0 len0 cap0] w fun e w'=>e= .returned (.bool true)/\Below w.heap.size w w':=by
 obtain ⟨qe,her⟩:=her;have HEr:=Z9 her;clear her;by_cases hbig:4096<len0
 ·go_enter Tryz.func3,Tryz.ntmps3
  go_wp2_with fail;refine (NF _ _ _ _ hbig).mono ?_;rintro e w' ⟨rfl,rfl⟩;go_wp2_with fail;go_ret;exact ⟨rfl,ZZ _ _⟩
 have Hr:=Z9 (JK w0 (by omega));clear w0;go_enter Tryz.func3,Tryz.ntmps3;go_wp2_with fail;refine (I8 _ _ _ _ (by omega)).mono ?_;rintro e w' ⟨rfl,hw'⟩;subst w';go_wp2_with fail;refine (Jk _ _ _ _ (uh Hr)).mono ?_;rintro e w1 ⟨M,u0,u1,u2,u3,u4,x,y,z,rq,rfl,hf,hb⟩;obtain ⟨b0,q0,b1,q1,b2,q2,b3,q3,b4,q4,rfl,rfl,rfl,rfl,rfl,K⟩:=Bx.put hf.smy hb;clear hf hb Hr;go_upto_region 4 with fail;generalize w1.alloc (.cells (S6 b0 q0 b1 q1 b2 q2 b3 q3 b4 q4 M) 32)=W1 at *;generalize w1.heap.size=mb at *;obtain ⟨⟨X,c⟩,hV⟩:∃ v,Ww M x y z=v:=⟨_,rfl⟩
 have hI:=Js x y z ((uh HEr).below K.bb) K.smy;rw [hV] at hI;have HI:=Z9 hI;have HV:=Z9 hV;clear hV hI;obtain ⟨c0,c1,c2,c3,c4,c5⟩:=K.cells;go_wp2_with fail;clear c0 c1 c2 c3 c4 c5;refine (uh HI).mono ?_;rintro e w2 ⟨⟨y0,y1,y2,y3,y4,rs,rfl,ho⟩,hb⟩;obtain ⟨d0,r0,d1,r1,d2,r2,d3,r3,d4,r4,rfl,rfl,rfl,rfl,rfl,KX⟩:=Bx.put ho.smy (K.bb.trans (hb.mono K.bb.size));replace K:=(K.next hb).alloc (.cells (S6 d0 r0 d1 r1 d2 r2 d3 r3 d4 r4 X) 32);clear ho hb HI;go_upto_region 5 with fail;generalize w2.alloc (.cells (S6 d0 r0 d1 r1 d2 r2 d3 r3 d4 r4 X) 32)=W2 at *;generalize w2.heap.size=xb at *;have hS:=P2 x y z K.smy;rw [uh HV] at hS;have HS:=Z9 hS;clear hS;obtain ⟨c0,c1,c2,c3,c4,c5⟩:=K.cells;go_wp2_with fail;clear c0 c1 c2 c3 c4 c5;refine (uh HS).mono ?_;rintro e w3 ⟨⟨y0,y1,y2,y3,y4,rs2,rfl,ho⟩,hb⟩;obtain ⟨f0,j0,f1,j1,f2,j2,f3,j3,f4,j4,rfl,rfl,rfl,rfl,rfl,KY⟩:=Bx.put ho.smy (K.bb.trans (hb.mono K.bb.size));replace K:=(K.next hb).alloc (.cells (S6 f0 j0 f1 j1 f2 j2 f3 j3 f4 j4 X) 32);replace KX:=(KX.next hb).alloc (.cells (S6 f0 j0 f1 j1 f2 j2 f3 j3 f4 j4 X) 32);clear ho hb HS;go_upto_region 6 with fail;generalize w3.alloc (.cells (S6 f0 j0 f1 j1 f2 j2 f3 j3 f4 j4 X) 32)=W3 at *;generalize w3.heap.size=yb at *;obtain ⟨x0,x1,x2,x3,x4,x5⟩:=KX.cells;obtain ⟨yy0,yy1,yy2,yy3,yy4,yy5⟩:=KY.cells;go_wp2_with fail;clear x0 x1 x2 x3 x4 x5 yy0 yy1 yy2 yy3 yy4 yy5;refine ck (Wo KX.smy KY.smy) fun w4 hb=> ?_;replace K:=K.next hb;replace KX:=KX.next hb;clear hb KY;obtain ⟨ok,hok⟩:∃ o,ZJ M=o:=⟨_,rfl⟩
 have Hok:=Z9 hok;clear hok;obtain ⟨c0,c1,c2,c3,c4,c5⟩:=K.cells;go_wp2_with fail;clear c0 c1 c2 c3 c4 c5;refine ck (Xt (uh Hok) K.smy) fun w5 hb=> ?_;replace K:=K.next hb;replace KX:=KX.next hb;clear hb
 rcases Ee M x y z with ⟨hk0,hv⟩ | ⟨hk0,c',hc,hv⟩ | ⟨hk0,X',hv,hr,hl,b,hb,hp,hs2,hm⟩
 ·
  obtain rfl:ok=false:=(uh Hok).symm.trans hk0;obtain ⟨rfl,rfl⟩:=Prod.mk.inj ((uh HV).symm.trans hv);clear HV hv hk0;obtain ⟨x0,x1,x2,x3,x4,x5⟩:=KX.cells;go_wp2_with fail;clear x0 x1 x2 x3 x4 x5;refine ck (Wo KX.smy (YM 0 _).smy) fun w6 hb=> ?_;replace K:=K.next hb;clear hb;go_wp2_with fail;go_ret;exact ⟨rfl,K.bb⟩
 ·
  obtain rfl:ok=true:=(uh Hok).symm.trans hk0;obtain ⟨hX,hcc⟩:=Prod.mk.inj ((uh HV).symm.trans hv);subst hX hcc;clear HV hv hk0;have hcd:decide (c=0)=false:=XE hc;obtain ⟨x0,x1,x2,x3,x4,x5⟩:=KX.cells;obtain ⟨c0,c1,c2,c3,c4,c5⟩:=K.cells;go_wp2_with fail;clear x0 x1 x2 x3 x4 x5 c0 c1 c2 c3 c4 c5;refine ck (Wo KX.smy K.smy) fun w6 hb=> ?_;replace K:=K.next hb;clear hb;go_wp2_with fail;go_ret;exact ⟨rfl,K.bb⟩
 ·
  obtain rfl:ok=true:=(uh Hok).symm.trans hk0;obtain ⟨hX,hcc⟩:=Prod.mk.inj ((uh HV).symm.trans hv);subst hX hcc;clear HV hv hk0;have hlk:M.sm.length<X.sm.length:=by omega
  have hlk1:(M.sm.length:Int)<(X.sm.length:Int):=by omega
  have hle:decide ((X.sm.length:Int)=(M.sm.length:Int)+1)=true:=VO (by omega);have hleb:((X.sm.length:Int) ==(M.sm.length:Int)+1)=true:=by simpa using hle
  have hlM:M.sm.length<=12:=YS (ZR (uh Hok));have hlI:(M.sm.length:Int)<=12:=by omega
  have hbl1:(b:Int)<(M.dk.length:Int):=by omega
  clear hl;obtain ⟨_,_,hse,_,_,r2s⟩:=KX.smy.sm;cases hse
  rcases r2s with e0 | ⟨sbs,ofs,rfl,hbws,hcls⟩
  ·exfalso;have h9:=hlk;rw [e0] at h9;simp at h9
  obtain ⟨s0,s1,s2,s3,s4,s5,s6,s7,s8,s9,s10⟩:=ZA hcls hlk;clear hcls;obtain ⟨mk,hmk⟩:∃ v,(Z8 M.dk b).2.2=v:=⟨_,rfl⟩
  rw [hmk] at hs2;obtain ⟨_,_,hse,_,_,r3⟩:=K.smy.dk;cases hse
  rcases r3 with e0 | ⟨db,dof,rfl,hbw3,hcl3⟩
  ·rw [e0] at hb;simp at hb
  have dk:=hcl3 b hb 2 (.int .i64 mk) (by rw [<-hmk];rfl);clear hcl3 hmk;generalize Z8 X.sm M.sm.length=ss at *;obtain ⟨st,be,rk,my,gu,lo,hi,hd,ca,ut,wk⟩:=ss;simp only [Uq,Zt,Prod.mk.injEq] at hs2;obtain ⟨h1,h2,h3,h4,h5,h6,h7,h8,h9,h10⟩:=hs2;subst h1 h2 h3 h4 h5 h6 h7 h8 h9 h10;simp only at s0 s1 s2 s3 s4 s5 s6 s7 s8 s9 s10;obtain ⟨_,_,c2,c3,_,_⟩:=K.cells;obtain ⟨x0,x1,x2,x3,x4,x5⟩:=KX.cells;go_upto_region 14 with fail;clear c2 c3 x0 x1 x2 x3 x4 x5 s0 s1 s2 s3 s4 s5 s6 s7 s8 s9 s10;obtain ⟨W6,hW6,hba,ks⟩:=YP w5 40 (I11 st (b:Int) rk my gu 0 1024 hd 0 0 0);replace K:=K.next hba;replace KX:=KX.next hba;replace dk:=(hba.cell (World.block_lt_of_cell? _ _ dk)).trans dk;clear hba;rw [hW6];clear hW6;generalize w5.heap.size=sb2 at *;have HS:=Z9 (fun (Y:World) (hY:Below W6.heap.size W6 Y)=>Wm _ _ _ _ _ _ _ _ hr (KX.smy.below hY));have HP:=Z9 (fun (Y:World)=>CF hp Y);have HIn:=Z9 (fun (Y:World)=>Calls.bool_of (Calls.same_below' (Lw my (b:Int) Y)) hm);clear hr hp hm;obtain ⟨_,_,_,c3,_,_⟩:=K.cells;obtain ⟨x0,x1,x2,x3,x4,x5⟩:=KX.cells;obtain ⟨e0,e1,e2,e3,e4,e5,e6,e7,e8,e9,e10⟩:=(uh ks).c11;have kc3:=Z2 c3;have kdk:=Z2 dk;have kx0:=Z2 x0;have kx1:=Z2 x1;have kx2:=Z2 x2;have kx3:=Z2 x3;have kx4:=Z2 x4;have kx5:=Z2 x5;have ke0:=Z2 e0;have ke1:=Z2 e1;have ke2:=Z2 e2;have ke3:=Z2 e3;have ke4:=Z2 e4;have ke5:=Z2 e5;have ke6:=Z2 e6;have ke7:=Z2 e7;have ke8:=Z2 e8;have ke9:=Z2 e9;have ke10:=Z2 e10;refine wq ?_
  repeat (go_big_quiet_step (first | exact ZY (uh HS _ (Z0 _ _ _)) | exact ZY (uh HP _) | exact ZY (uh HIn _)))
  refine wpQuiet_nil ?_;intro _ hw';obtain ⟨⟨dq,osq⟩,hw''⟩:=hw';subst hw'';go_wp2_with fail;go_ret;exact ⟨rfl,K.bb.trans ((Z0 _ _ _).mono K.bb.size)⟩
end Go.Proofs.YtamgfpdahadnfaaGreatDoor
