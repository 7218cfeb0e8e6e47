/- Part 42 of what the proof rests on. No condition but those that a theorem names. -/
import Derived.Test.YtgdpaigcmoifbaaGreatXw20
import Derived.Test.YtgdpaigcmoifbaaGreatXw41
set_option maxHeartbeats 8000000
set_option maxRecDepth 100000
namespace Go.Proofs.YtgdpaigcmoifbaaGreat
open Go.ChangeShapes Go.WideShapes Go.ChangeAt Go.RowKit Go.Sort Go.Proofs.Tryz
open Draw (St Off Row Cur)
set_option linter.unusedVariables false
set_option linter.unusedSimpArgs false
set_option maxRecDepth 100000
theorem MC {w:World} {lb:Nat} {t:TypeId} {cs:Array Value} {j:Int} (h:Blk w lb t cs) (h0:0<=j) (h1:j<(cs.size:Int)) (hz:cs.toList.all Draw.isI64=true):∃ v,w.cell? ⟨lb,j.toNat,none⟩=some (.int .i64 v):=by
 obtain ⟨v,hv⟩:=Draw.pick_any cs j.toNat (by omega) hz;exact ⟨v,h.cell hv⟩
structure Ebox (a:Option Addr) (len cap bc:Nat) (w0 w:World) (mb:Nat) (M:Z6) (u0 u1 u2 u3 u4:Value) (rq:List (ZY × Value)):Prop where
 st:St a len cap bc w
 off:Off bc w0 w
 full:FullSmy (w0.heap.size+1) w u0 u1 u2 u3 u4 M rq
 kb:Blk w mb 32 #[u0,u1,u2,u3,u4,.int .i64 M.now]
 kr:Blk w w0.heap.size 32 E6
 own:∀ k,V7 u0 u1 u2 u3 u4 rq k->k ≠ mb
 mlo:w0.heap.size+1<=mb
 bl:bc<w0.heap.size
section
variable {a : Option Addr} {len cap bc : Nat} {w0 w w1 w' : World} {mb : Nat} {M : Z6} {u0 u1 u2 u3 u4 : Value} {rq : List (ZY × Value)}
theorem Ebox.step (h:Ebox a len cap bc w0 w mb M u0 u1 u2 u3 u4 rq) (hs:St a len cap bc w') (ho:Off bc w w'):Ebox a len cap bc w0 w' mb M u0 u1 u2 u3 u4 rq:=
 have hb:=h.bl;have hm:=h.mlo
 ⟨hs,h.off.trans ho,h.full.away ho (by omega),h.kb.away ho (by omega),h.kr.away ho (by omega),h.own,h.mlo,h.bl⟩
theorem Ebox.below (h:Ebox a len cap bc w0 w mb M u0 u1 u2 u3 u4 rq) (hb:Below w.heap.size w w'):Ebox a len cap bc w0 w' mb M u0 u1 u2 u3 u4 rq:=
 h.step (Xn h.st (hb.mono (WI h.st))) (XD hb)
theorem Ebox.drew (h:Ebox a len cap bc w0 w mb M u0 u1 u2 u3 u4 rq):Ebox a len cap bc w0 w.drew mb M u0 u1 u2 u3 u4 rq:=h.below (Z3 _ _).drew
theorem Ebox.putD {g n c:Nat} (h:Ebox a len cap bc w0 w mb M u0 u1 u2 (.slice (some ⟨g,0,none⟩) n c) u4 rq) (hn:n=M.dk.length) {j i:Nat} (hj:j<M.dk.length) (hi:i<3) (u:Value) (x:Yg) (hx:Wu x=(Wu (Z8 M.dk j)).set i u):Ebox a len cap bc w0 (w.setCell ⟨g,j*3+i,none⟩ u) mb { M with dk:=M.dk.set j x } u0 u1 u2 (.slice (some ⟨g,0,none⟩) n c) u4 rq:=by
 have hb:=h.bl;have hg:=(h.full.own (k:=g) (.inr (.inr (.inr (.inr (.inl rfl)))))).1;have hgm:=h.own g (.inr (.inr (.inr (.inr (.inl rfl)))));exact ⟨St.newer h.st (by omega) _ _,Off.newer h.off (by omega) _ _,h.full.putD hn hj hi u x hx,h.kb.other (by show mb ≠ g;omega) _,h.kr.other (by show w0.heap.size ≠ g;omega) _,h.own,h.mlo,h.bl⟩
theorem Ebox.putP {g n c:Nat} (h:Ebox a len cap bc w0 w mb M u0 u1 u2 u3 (.slice (some ⟨g,0,none⟩) n c) rq) (hn:n=M.pc.length) {j:Nat} (hj:j<M.pc.length) (x:Int):Ebox a len cap bc w0 (w.setCell ⟨g,j,none⟩ (.int .i64 x)) mb { M with pc:=M.pc.set j x } u0 u1 u2 u3 (.slice (some ⟨g,0,none⟩) n c) rq:=by
 have hb:=h.bl;have hg:=(h.full.own (k:=g) (.inr (.inr (.inr (.inr (.inr rfl)))))).1;have hgm:=h.own g (.inr (.inr (.inr (.inr (.inr rfl)))));exact ⟨St.newer h.st (by omega) _ _,Off.newer h.off (by omega) _ _,h.full.putP hn hj x,h.kb.other (by show mb ≠ g;omega) _,h.kr.other (by show w0.heap.size ≠ g;omega) _,h.own,h.mlo,h.bl⟩
theorem Ebox.now (h:Ebox a len cap bc w0 w mb M u0 u1 u2 u3 u4 rq) (t:Int):Ebox a len cap bc w0 (w.setCell ⟨mb,5,none⟩ (.int .i64 t)) mb { M with now:=t } u0 u1 u2 u3 u4 rq:=by
 have hb:=h.bl;have hm:=h.mlo;have f:=h.full.set_off h.own 5 (.int .i64 t);exact ⟨St.newer h.st (by omega) _ _,Off.newer h.off (by omega) _ _,⟨f.hall,f.rm,f.gd,f.sm,f.dk,f.pc,f.h1,f.h2,f.h3,f.h4,f.a12,f.a13,f.a14,f.a23,f.a24,f.a34⟩,h.kb.set 5 _,h.kr.other (by show w0.heap.size ≠ mb;omega) _,h.own,h.mlo,h.bl⟩
theorem Ebox.gd (h:Ebox a len cap bc w0 w mb M u0 u1 u2 u3 u4 rq) {g:Value} {gs:List Zs} (hs:St a len cap bc w') (ho:Off bc w w') (hg:GuildsAt w.heap.size w' g gs):Ebox a len cap bc w0 (w'.setCell ⟨mb,1,none⟩ g) mb { M with gd:=gs } u0 g u2 u3 u4 rq:=by
 have hb:=h.bl;have hm:=h.mlo;have hml:=h.kb.lt;have hz:=h.off.size;have hE:=h.step hs ho;have f:=h.full.newG ho (by omega) hg (Z0 _) (by omega)
 have hown:∀ k,V7 u0 g u2 u3 u4 rq k->k ≠ mb:=fun k e=>by
  rcases e with e | e | e | e | e | e
  ·exact h.own k (.inl e)
  ·exact h.own k (.inr (.inl e))
  ·have:=(RecAt.lt hg e).1;omega
  ·exact h.own k (.inr (.inr (.inr (.inl e))))
  ·exact h.own k (.inr (.inr (.inr (.inr (.inl e)))))
  ·exact h.own k (.inr (.inr (.inr (.inr (.inr e)))))
 exact ⟨St.newer hs (by omega) _ _,Off.newer hE.off (by omega) _ _,f.set_off hown 1 g,hE.kb.set 1 _,hE.kr.other (by show w0.heap.size ≠ mb;omega) _,hown,h.mlo,h.bl⟩
theorem Ebox.push (h:Ebox a len cap bc w0 w mb M u0 u1 u2 u3 u4 rq) {u:Value} {x:Z2} (hb1:Below w.heap.size w w1) (hg:w1.grownBy w' u2.ownBlock) (hat:u.ownBlock=u2.ownBlock\/u.ownBlock=some w1.heap.size) (hr:SmithsAt (w0.heap.size+1) w' u (M.sm++[x])) :
  Blk w' mb 32 #[u0,u1,u2,u3,u4,.int .i64 M.now]/\Ebox a len cap bc w0 (w'.setCell ⟨mb,2,none⟩ u) mb (pushS M x) u0 u1 u u3 u4 rq:=by
 have hb:=h.bl;have hm:=h.mlo;have hz:=h.off.size;have hz1:=hb1.size;have hml:=h.kb.lt;have h2:∀ k,u2.ownBlock=some k->w0.heap.size+1<=k/\k<w.heap.size/\k ≠ mb:=fun k e=>⟨(h.full.own (.inr (.inr (.inr (.inl e))))).1,(h.full.own (.inr (.inr (.inr (.inl e))))).2,h.own k (.inr (.inr (.inr (.inl e))))⟩
 have hB:Below (w0.heap.size+1) w w':=(hb1.mono (by omega)).trans ((Z3 _ _).grown hg (by omega) (fun k e=>(h2 k e).1));have f:=h.full.pushS hb1 hg hat hr;have kb1:Blk w' mb 32 #[u0,u1,u2,u3,u4,.int .i64 M.now]:=(h.kb.below hb1 hml).same (hg.block mb (by omega) (fun e=>(h2 mb e.symm).2.2 rfl))
 have hown:∀ k,V7 u0 u1 u u3 u4 rq k->k ≠ mb:=fun k e=>by
  rcases e with e | e | e | e | e | e
  ·exact h.own k (.inl e)
  ·exact h.own k (.inr (.inl e))
  ·exact h.own k (.inr (.inr (.inl e)))
  ·rcases hat with e' | e'
   ·exact (h2 k (e'.symm.trans e)).2.2
   ·have:=Option.some.inj (e'.symm.trans e);omega
  ·exact h.own k (.inr (.inr (.inr (.inr (.inl e)))))
  ·exact h.own k (.inr (.inr (.inr (.inr (.inr e)))))
 have ho:Off bc w0 w':=⟨hB.os.trans h.off.os,hB.tape.trans h.off.tape,hB.output.trans h.off.output,Xv hz hB.size,fun k hk hn=>(hB.block k (by omega)).trans (h.off.block k hk hn)⟩
 exact ⟨kb1,St.newer (Xn h.st (hB.mono (by omega))) (by omega) _ _,Off.newer ho (by omega) _ _,f.set_off hown 2 u,kb1.set 2 _,(h.kr.below hB (by omega)).other (by show w0.heap.size ≠ mb;omega) _,hown,h.mlo,h.bl⟩
end
theorem VB (a:Option Addr) (len cap bc:Nat) (w:World) (hs:St a len cap bc w) :
  Calls prog 57 #[.pointer (some ⟨bc,0,none⟩)] w fun e w'=> ∃ M u0 u1 u2 u3 u4 rq,e= .returned (.agg #[u0,u1,u2,u3,u4,.int .i64 M.now])/\(M.sm.length<=1000/\M.rm.length<=1000)/\(M.dk.length<=1000/\1<=M.dk.length/\M.dk.length<=8/\1<=M.rm.length)/\FullSmy (w.heap.size+1) w' u0 u1 u2 u3 u4 M rq/\St a len cap bc w'/\Off bc w w':=by
 have Hs:=Z9 hs;have hbc:=WI hs;clear hs;go_enter func57,ntmps57;go_wp2_with fail;have kr:Hid (Blk (w.alloc (.cells E6 32)) w.heap.size 32 E6):=Z9 (Blk.new _ _ _);have HO:Hid (Off bc w (w.alloc (.cells E6 32))):=Z9 ((Off.refl _ _).alloc _);replace Hs:Hid (St a len cap bc (w.alloc (.cells E6 32))):=Z9 ((uh Hs).alloc _);have hzW:w.heap.size+1<=(w.alloc (.cells E6 32)).heap.size:=by simp
 generalize w.alloc (.cells E6 32)=W at *;refine (Gs a len cap bc _ (uh Hs)).mono ?_;rintro e w1 ⟨M,u0,u1,u2,u3,u4,rq,rfl,ok1,hf,s9,p9⟩;have k6:=hf.smy;obtain ⟨b0,q0,b1,q1,b2,q2,b3,q3,b4,q4,rfl,rfl,rfl,rfl,rfl,_,_,_,_,_,_,_,_,_,_⟩:=k6.five;have HE:Hid (Ebox a len cap bc w (w1.alloc (.cells (S6 b0 q0 b1 q1 b2 q2 b3 q3 b4 q4 M) 32)) w1.heap.size M (.slice b0 M.rm.length q0) (.slice b1 M.gd.length q1) (.slice b2 M.sm.length q2) (.slice b3 M.dk.length q3) (.slice b4 M.pc.length q4) rq):=Z9 ⟨s9.alloc _,((uh HO).trans p9).alloc _,(hf.mono (by omega)).below ((ba _ _)),Blk.new _ _ _,((uh kr).away p9 (by omega)).alloc _,fun k e=>by have:=(hf.own e).2;omega,by have:=p9.size;omega,hbc⟩;have Hok:=Z9 ok1;clear k6 hf s9 p9 HO kr Hs ok1 hzW;go_upto_region 2 with fail;generalize w1.alloc (.cells (S6 b0 q0 b1 q1 b2 q2 b3 q3 b4 q4 M) 32)=W1 at *;generalize w1.heap.size=mb at *;go_wp2_with fail;refine (Draw.once_any a len cap bc 8 (by omega) (by omega) _ (uh HE).st).mono ?_;rintro e w2 ⟨bq,rfl,s9,p9⟩;replace HE:=Z9 ((uh HE).step s9 p9);clear s9 p9
 go_upto_if 8 with fail
 go_cut [] (fun wc=> ∃ M u0 u1 u2 u3 u4 rq,((M.sm.length<=1000/\M.rm.length<=1000)/\(M.dk.length<=1000/\1<=M.dk.length/\M.dk.length<=8/\1<=M.rm.length))/\Ebox a len cap bc w wc mb M u0 u1 u2 u3 u4 rq)
 case first=>
  have hlo:=ZU (uh Hok);have g3p:1<=M.dk.length:=by obtain ⟨j,hj,_⟩:=hlo.openD;omega
  have g3q:=V8 hlo;have g4p:1<=M.pc.length:=O5 hlo;have g4q:=S7 hlo;have g2q:=YH hlo;have g0q:M.rm.length<=3:=(Zj hlo.sane.hall).2.1;have g0p:1<=M.rm.length:=(Zj hlo.sane.hall).1;clear hlo;cases bq
  ·go_wp2_with fail
   go_meet;exact ⟨_,_,_,_,_,_,_,⟨by omega,by omega⟩,uh HE⟩
  go_wp2_with fail;refine (Draw.below_any a len cap bc 7 (by omega) (by omega) _ (uh HE).st).mono ?_;rintro e w3 ⟨y,rfl,y0,y1,s9,p9⟩;replace HE:=Z9 ((uh HE).step s9 p9);clear s9 p9
  rcases (show y=0\/y=1\/y=2\/y=3\/y=4\/y=5\/y=6 by omega) with rfl | rfl | rfl | rfl | rfl | rfl | rfl
  ·
   clear y0 y1;have x2:=(uh HE).kb.cell (i:=2) (v:= .slice b2 M.sm.length q2) rfl;go_wp2_with fail;refine ZI (S:=fun w'=>w'.cell? ⟨mb,2,none⟩=some (.slice b2 M.sm.length q2)) (by kernel_rfl) (Wz _ _) (by kernel_rfl) x2 (fun hHeld=> ?_);simp only [WA,WB,YL,YF,Nat.zero_add,Nat.reduceAdd]
   iterate 3 refine tz ?_
   refine rd 3 rfl (fun K hK=> ?_);go_simp;refine (KS a len cap bc _ (Vc (uh HE).st)).mono ?_;rintro e9 w5 ⟨⟨t0,t1,t2,t3,t4,t5,t6,t7,t8,t9,t10⟩,rfl,s9,p9⟩;replace HE:=Z9 ((uh HE).step s9 (U0 p9));clear s9 p9 x2;simp only [ZR];refine hK.out _ _ ((uh HE).kb.cell (i:=2) rfl) (fun hHeld=> ?_);clear hK K
   (try simp only [Act.put,sA,sZ,sS])
   refine rd 4 rfl (fun K hK=> ?_);go_simp;have hba:Below w5.heap.size w5 (w5.alloc (.cells (I11 t0 t1 t2 t3 t4 t5 t6 t7 t8 t9 t10) 38)):=ba _ _;refine hK.out _ _ (((uh HE).below hba).kb.cell (i:=2) rfl) (fun hHeld=> ?_);clear hK K
   (try simp only [Act.put,sA,sZ,sS])
   obtain ⟨u9,w9,hrun,hown9,hg9,hat9⟩:=XW tyS (w:=w5.alloc (.cells (I11 t0 t1 t2 t3 t4 t5 t6 t7 t8 t9 t10) 38)) (t:=28) (ty:=28) underlying28 (RecAt.later (uh HE).full.sm hba) (WH (t0,t1,t2,t3,t4,t5,t6,t7,t8,t9,t10) (g:=w5.heap.size) (c:=1) rfl (Z0 _) (by omega)) (by simp;omega) (by have:=(uh HE).off.size;have:=(uh HE).kr.lt;simp;omega);obtain ⟨kb9,E9⟩:=(uh HE).push hba hg9 hat9 hown9;have R9:=Z9 hrun;have HP:=Z9 E9;have K9:=Z9 kb9;obtain ⟨ua,uc,hu9⟩:=RecAt.shape hown9;obtain ⟨n9,hn9⟩:∃ q,q=(M.sm++[(t0,t1,t2,t3,t4,t5,t6,t7,t8,t9,t10)]).length:=⟨_,rfl⟩
   rw [<-hn9] at hu9;subst hu9;clear hrun E9 kb9 hown9 hg9 hat9 hn9;refine rd 5 rfl (fun K hK=> ?_);refine XY rfl (.tmp 14) (.tmp 17) 28 rfl rfl rfl (uh R9) ?_;refine hK.out _ _ ((uh K9).cell (i:=2) rfl) (fun hHeld=> ?_);clear hK K
   (try simp only [Act.put,sA,sZ,sS])
   refine tp 6 ?_;have x2:=(uh K9).cell (i:=2) (v:= .slice b2 M.sm.length q2) rfl;have f2:=(uh K9).free 2;clear hba;refine wpAnyH_done (by kernel_rfl) ?_ _;refine ZK rfl rfl ?_;go_simp;clear hHeld;go_wp2_with fail;go_meet;refine ⟨_,_,_,_,_,_,_,?_,by first | exact uh HP | exact (uh HP).drew⟩;constructor<;>(first | omega | (simp only [pushS,V1,List.length_append,YL,YF];omega))
  ·
   clear y0 y1;obtain ⟨g3,hga,_,_,_,_⟩:=RecAt.view Zt (by omega) (uh HE).full.dk rfl (by omega);cases hga;have x3:=(uh HE).kb.cell (i:=3) (v:= .slice (some ⟨g3,0,none⟩) M.dk.length q3) rfl;go_wp2_with fail;clear x3;refine (Draw.below_any a len cap bc (M.dk.length:Int) (by omega) (by omega) _ (uh HE).st).mono ?_;rintro e w4 ⟨kk,rfl,k0,k1,s9,p9⟩;replace HE:=Z9 ((uh HE).step s9 p9);clear s9 p9;obtain ⟨kn,rfl⟩:∃ kn:Nat,kk=(kn:Int):=⟨kk.toNat,by omega⟩
   have x3:=(uh HE).kb.cell (i:=3) (v:= .slice (some ⟨g3,0,none⟩) M.dk.length q3) rfl;go_wp2_with fail;refine ZI (S:=fun w'=>w'.cell? ⟨mb,3,none⟩=some (.slice (some ⟨g3,0,none⟩) M.dk.length q3)) (by kernel_rfl) (Wz _ _) (by kernel_rfl) x3 (fun hHeld=> ?_);simp only [WA,WB,YL,YF,Nat.zero_add,Nat.reduceAdd]
   iterate 4 refine tz ?_
   refine rd 4 rfl (fun K hK=> ?_);go_simp;refine (Draw.from_any a len cap bc (-2) 4 (by omega) (by omega) (by omega) _ (Vc (uh HE).st)).mono ?_;rintro e9 w5 ⟨v1,rfl,v10,v11,s9,p9⟩;replace HE:=Z9 ((uh HE).step s9 (U0 p9));clear s9 p9 x3;refine hK.out _ _ ((uh HE).kb.cell (i:=3) rfl) (fun hHeld=> ?_);clear hK K
   (try simp only [Act.put,sA,sZ,sS])
   refine tp 5 ?_;refine tp 6 ?_;obtain ⟨_,hga,_,_,hc3,hz3⟩:=RecAt.view Zt (by omega) (uh HE).full.dk rfl (by omega);cases hga;have dd:=hc3 kn (by omega) 1 _ rfl;have df:=hz3 (kn*3+1);clear hc3 hz3;refine wpAnyH_done (by kernel_rfl) ?_ _;refine ZK rfl rfl ?_;go_simp;clear hHeld;go_wp2_with fail;go_meet;refine ⟨_,_,_,_,_,_,_,?_,by first | exact (uh HE).putD rfl (j:=kn) (i:=1) (by omega) (by omega) (.int .i64 v1) ((Z8 M.dk kn).1,v1,(Z8 M.dk kn).2.2) rfl | exact ((uh HE).putD rfl (j:=kn) (i:=1) (by omega) (by omega) (.int .i64 v1) ((Z8 M.dk kn).1,v1,(Z8 M.dk kn).2.2) rfl).drew⟩;constructor<;>(first | omega | (simp only [pushS,V1,List.length_append,YL,YF];omega))
  ·
   clear y0 y1;obtain ⟨g3,hga,_,_,_,_⟩:=RecAt.view Zt (by omega) (uh HE).full.dk rfl (by omega);cases hga;have x3:=(uh HE).kb.cell (i:=3) (v:= .slice (some ⟨g3,0,none⟩) M.dk.length q3) rfl;go_wp2_with fail;refine ZI (S:=fun w'=>w'.cell? ⟨mb,3,none⟩=some (.slice (some ⟨g3,0,none⟩) M.dk.length q3)) (by kernel_rfl) (Wz _ _) (by kernel_rfl) x3 (fun hHeld=> ?_);simp only [WA,WB,YL,YF,Nat.zero_add,Nat.reduceAdd]
   iterate 5 refine tz ?_
   refine rd 5 rfl (fun K hK=> ?_);go_simp;refine hK.out _ _ hHeld (fun hHeld=> ?_);clear hK K
   (try simp only [Act.put,sA,sZ,sS])
   refine rd 6 rfl (fun K hK=> ?_);go_simp;refine (Draw.below_any a len cap bc (M.dk.length:Int) (by omega) (by omega) _ (Vc (uh HE).st)).mono ?_;rintro e9 w5 ⟨kk,rfl,k0,k1,s9,p9⟩;replace HE:=Z9 ((uh HE).step s9 (U0 p9));clear s9 p9 x3;obtain ⟨kn,rfl⟩:∃ kn:Nat,kk=(kn:Int):=⟨kk.toNat,by omega⟩
   refine hK.out _ _ ((uh HE).kb.cell (i:=3) rfl) (fun hHeld=> ?_);clear hK K
   (try simp only [Act.put,sA,sZ,sS])
   refine tp 7 ?_;refine tp 8 ?_;obtain ⟨_,hga,_,_,hc3,hz3⟩:=RecAt.view Zt (by omega) (uh HE).full.dk rfl (by omega);cases hga;have dd:=hc3 kn (by omega) 0 _ rfl;have df:=hz3 (kn*3+0);simp only [Nat.add_zero] at dd df;clear hc3 hz3;refine wpAnyH_done (by kernel_rfl) ?_ _;refine ZK rfl rfl ?_;go_simp;clear hHeld;go_wp2_with fail;go_meet;refine ⟨_,_,_,_,_,_,_,?_,by first | exact (uh HE).putD rfl (j:=kn) (i:=0) (by omega) (by omega) (.bool false) (false,(Z8 M.dk kn).2) rfl | exact ((uh HE).putD rfl (j:=kn) (i:=0) (by omega) (by omega) (.bool false) (false,(Z8 M.dk kn).2) rfl).drew⟩;constructor<;>(first | omega | (simp only [pushS,V1,List.length_append,YL,YF];omega))
  ·
   clear y0 y1;obtain ⟨g4,hga,_,_,_,_⟩:=RecAt.view Ze (by omega) (uh HE).full.pc rfl (by omega);cases hga;have x4:=(uh HE).kb.cell (i:=4) (v:= .slice (some ⟨g4,0,none⟩) M.pc.length q4) rfl;have hp0:0<M.pc.length:=by omega
   go_wp2_with fail;refine ZI (S:=fun w'=>w'.cell? ⟨mb,4,none⟩=some (.slice (some ⟨g4,0,none⟩) M.pc.length q4)) (by kernel_rfl) (Wz _ _) (by kernel_rfl) x4 (fun hHeld=> ?_);simp only [WA,WB,YL,YF,Nat.zero_add,Nat.reduceAdd]
   iterate 3 refine tz ?_
   refine rd 3 rfl (fun K hK=> ?_);go_simp;refine (Draw.from_any a len cap bc (-1) 4 (by omega) (by omega) (by omega) _ (Vc (uh HE).st)).mono ?_;rintro e9 w5 ⟨v1,rfl,v10,v11,s9,p9⟩;replace HE:=Z9 ((uh HE).step s9 (U0 p9));clear s9 p9 x4;refine hK.out _ _ ((uh HE).kb.cell (i:=4) rfl) (fun hHeld=> ?_);clear hK K
   (try simp only [Act.put,sA,sZ,sS])
   refine tp 4 ?_;obtain ⟨_,hga,_,_,hc4,hz4⟩:=RecAt.view Ze (by omega) (uh HE).full.pc rfl (by omega);cases hga;have dd:=hc4 0 (by omega) 0 _ rfl;have df:=hz4 0;simp only [Nat.zero_mul,Nat.add_zero] at dd;clear hc4 hz4;refine wpAnyH_done (by kernel_rfl) ?_ _;refine ZK rfl rfl ?_;go_simp;clear hHeld;go_wp2_with fail;go_meet;refine ⟨_,_,_,_,_,_,_,?_,by first | exact (uh HE).putP rfl (j:=0) (by omega) v1 | exact ((uh HE).putP rfl (j:=0) (by omega) v1).drew⟩;constructor<;>(first | omega | (simp only [pushS,V1,List.length_append,YL,YF];omega))
  ·
   clear y0 y1;go_wp2_with fail;have hlb:w3.heap.size ≠ bc:=by have:=(uh HE).off.size;omega
   replace HE:=Z9 ((uh HE).below ((Z3 _ _).alloc (Z0 _) (.cells #[.int .i64 (-1),.int .i64 1000000,.int .i64 1000001] 2)));have KL:Hid (Blk (w3.alloc (.cells #[.int .i64 (-1),.int .i64 1000000,.int .i64 1000001] 2)) w3.heap.size 2 #[.int .i64 (-1),.int .i64 1000000,.int .i64 1000001]):=Z9 (Blk.new _ _ _);generalize w3.alloc (.cells #[.int .i64 (-1),.int .i64 1000000,.int .i64 1000001] 2)=Wp at *;generalize w3.heap.size=lb at *;refine (Draw.below_any a len cap bc 3 (by omega) (by omega) _ (uh HE).st).mono ?_;rintro e w4 ⟨v5,rfl,v50,v51,s9,p9⟩;replace KL:=Z9 ((uh KL).away p9 hlb);replace HE:=Z9 ((uh HE).step s9 p9);clear s9 p9;have x5:=(uh HE).kb.cell (i:=5) (v:= .int .i64 M.now) rfl;have f5:=(uh HE).kb.free 5;obtain ⟨vv,hcell⟩:=MC (uh KL) v50 (by first | exact v51 | (simp;omega)) rfl;go_wp2_with fail;go_meet;refine ⟨_,_,_,_,_,_,_,?_,by first | exact (uh HE).now vv | exact ((uh HE).now vv).drew⟩;constructor<;>(first | omega | (simp only [pushS,V1,List.length_append,YL,YF];omega))
  ·
   clear y0 y1;go_wp2_with fail;refine (KR a len cap bc _ (uh HE).st).mono ?_;rintro e w4 ⟨gv,gs,rfl,_,hG⟩;have E4:=Z9 ((uh HE).step hG.st hG.off);have HP:=Z9 ((uh HE).gd hG.st hG.off hG.row);obtain ⟨ga,gc,rfl⟩:=RecAt.shape hG.row;have x1:=(uh E4).kb.cell (i:=1) (v:= .slice b1 M.gd.length q1) rfl;have f1:=(uh E4).kb.free 1;clear hG;go_wp2_with fail;go_meet;refine ⟨_,_,_,_,_,_,_,?_,by first | exact uh HP | exact (uh HP).drew⟩;constructor<;>(first | omega | (simp only [pushS,V1,List.length_append,YL,YF];omega))
  ·
   clear y0 y1;obtain ⟨g3,hga,_,_,_,_⟩:=RecAt.view Zt (by omega) (uh HE).full.dk rfl (by omega);cases hga;have hp0:0<M.dk.length:=by omega
   have x3:=(uh HE).kb.cell (i:=3) (v:= .slice (some ⟨g3,0,none⟩) M.dk.length q3) rfl;go_wp2_with fail;refine ZI (S:=fun w'=>w'.cell? ⟨mb,3,none⟩=some (.slice (some ⟨g3,0,none⟩) M.dk.length q3)) (by kernel_rfl) (Wz _ _) (by kernel_rfl) x3 (fun hHeld=> ?_);simp only [WA,WB,YL,YF,Nat.zero_add,Nat.reduceAdd]
   iterate 2 refine tz ?_
   refine tp 3 ?_;replace HE:=Z9 (uh HE).drew;generalize w3.drew=X0 at *;clear x3;refine wpAnyH_ready (rs:=[2,4]) (by kernel_rfl) (by simp) ?_;refine AllReadyH.cons rfl (fun K hK=> ?_) (AllReadyH.cons rfl (fun K hK=> ?_) AllReadyH.nil)
   ·
    go_simp;have hlb:X0.heap.size ≠ bc:=by have:=(uh HE).off.size;omega
    obtain ⟨Wp,hWp,hba,KL⟩:=Zc X0 2 #[.int .i64 0,.int .i64 500000,.int .i64 1000000000001];replace HE:=Z9 ((uh HE).below hba);rw [hWp];refine hK.out _ _ ((uh HE).kb.cell (i:=3) rfl) (fun hHeld=> ?_);clear hK K
    (try simp only [Act.put,sA,sZ,sS])
    clear hba;clear hWp;generalize X0.heap.size=lb at *;refine rd 4 rfl (fun K hK=> ?_);go_simp;refine (Draw.below_any a len cap bc 3 (by omega) (by omega) _ (uh HE).st).mono ?_;rintro e9 w5 ⟨v5,rfl,v50,v51,s9,p9⟩;replace KL:=Z9 ((uh KL).away p9 hlb);replace HE:=Z9 ((uh HE).step s9 p9);clear s9 p9;refine hK.out _ _ ((uh HE).kb.cell (i:=3) rfl) (fun hHeld=> ?_);clear hK K
    (try simp only [Act.put,sA,sZ,sS])
    obtain ⟨_,hga,_,_,hc3,hz3⟩:=RecAt.view Zt (by omega) (uh HE).full.dk rfl (by omega);cases hga;have dd:=hc3 0 (by omega) 2 _ rfl;have df:=hz3 (0*3+2);clear hc3 hz3;simp only [Nat.zero_mul,Nat.zero_add] at dd df;obtain ⟨vv,hcell⟩:=MC (uh KL) v50 (by first | exact v51 | (simp;omega)) rfl;refine tp 5 ?_;refine rd 6 rfl (fun K hK=> ?_);go_simp;refine hK.out _ _ ((uh HE).kb.cell (i:=3) rfl) (fun hHeld=> ?_);clear hK K
    (try simp only [Act.put,sA,sZ,sS])
    refine tp 7 ?_;refine tp 8 ?_;refine wpAnyH_done (by kernel_rfl) ?_ _;refine ZK rfl rfl ?_;go_simp;clear hHeld;have hq:=(uh HE).putD rfl (j:=0) (i:=2) (by omega) (by omega) (.int .i64 vv) ((Z8 M.dk 0).1,(Z8 M.dk 0).2.1,vv) rfl;simp only [Nat.zero_mul,Nat.zero_add] at hq;go_wp2_with fail;go_meet;refine ⟨_,_,_,_,_,_,_,?_,by first | exact hq | exact (hq).drew⟩;constructor<;>(first | omega | (simp only [pushS,V1,List.length_append,YL,YF];omega))
   ·
    go_simp;refine (Draw.below_any a len cap bc 3 (by omega) (by omega) _ (uh HE).st).mono ?_;rintro e9 w5 ⟨v5,rfl,v50,v51,s9,p9⟩;replace HE:=Z9 ((uh HE).step s9 p9);clear s9 p9;refine hK.out _ _ ((uh HE).kb.cell (i:=3) rfl) (fun hHeld=> ?_);clear hK K
    (try simp only [Act.put,sA,sZ,sS])
    refine rd 2 rfl (fun K hK=> ?_);go_simp;have hlb:w5.heap.size ≠ bc:=by have:=(uh HE).off.size;omega
    obtain ⟨Wp,hWp,hba,KL⟩:=Zc w5 2 #[.int .i64 0,.int .i64 500000,.int .i64 1000000000001];replace HE:=Z9 ((uh HE).below hba);rw [hWp];refine hK.out _ _ ((uh HE).kb.cell (i:=3) rfl) (fun hHeld=> ?_);clear hK K
    (try simp only [Act.put,sA,sZ,sS])
    clear hba;clear hWp;generalize w5.heap.size=lb at *;obtain ⟨_,hga,_,_,hc3,hz3⟩:=RecAt.view Zt (by omega) (uh HE).full.dk rfl (by omega);cases hga;have dd:=hc3 0 (by omega) 2 _ rfl;have df:=hz3 (0*3+2);clear hc3 hz3;simp only [Nat.zero_mul,Nat.zero_add] at dd df;obtain ⟨vv,hcell⟩:=MC (uh KL) v50 (by first | exact v51 | (simp;omega)) rfl;refine tp 5 ?_;refine rd 6 rfl (fun K hK=> ?_);go_simp;refine hK.out _ _ ((uh HE).kb.cell (i:=3) rfl) (fun hHeld=> ?_);clear hK K
    (try simp only [Act.put,sA,sZ,sS])
    refine tp 7 ?_;refine tp 8 ?_;refine wpAnyH_done (by kernel_rfl) ?_ _;refine ZK rfl rfl ?_;go_simp;clear hHeld;have hq:=(uh HE).putD rfl (j:=0) (i:=2) (by omega) (by omega) (.int .i64 vv) ((Z8 M.dk 0).1,(Z8 M.dk 0).2.1,vv) rfl;simp only [Nat.zero_mul,Nat.zero_add] at hq;go_wp2_with fail;go_meet;refine ⟨_,_,_,_,_,_,_,?_,by first | exact hq | exact (hq).drew⟩;constructor<;>(first | omega | (simp only [pushS,V1,List.length_append,YL,YF];omega))
 case rest=>
 obtain ⟨M9,u0,u1,u2,u3,u4,rq9,⟨hm1,hm2⟩,hE9⟩:=hcut;have Hm1:=Z9 hm1;have Hm2:=Z9 hm2;clear hm1 hm2;have k6:=hE9.full.smy;obtain ⟨c0,r0,c1,r1,c2,r2,c3,r3,c4,r4,rfl,rfl,rfl,rfl,rfl,_,_,_,_,_,_,_,_,_,_⟩:=k6.five;have H9:=Z9 hE9;clear hE9 k6 HE Hok;have x0:=(uh H9).kb.cell (i:=0) (v:= .slice c0 M9.rm.length r0) rfl;have o0:=(uh H9).kr.cell (i:=0) (v:= .slice none 0 0) rfl;have f0:=(uh H9).kr.free 0;have x1:=(uh H9).kb.cell (i:=1) (v:= .slice c1 M9.gd.length r1) rfl;have o1:=(uh H9).kr.cell (i:=1) (v:= .slice none 0 0) rfl;have f1:=(uh H9).kr.free 1;have x2:=(uh H9).kb.cell (i:=2) (v:= .slice c2 M9.sm.length r2) rfl;have o2:=(uh H9).kr.cell (i:=2) (v:= .slice none 0 0) rfl;have f2:=(uh H9).kr.free 2;have x3:=(uh H9).kb.cell (i:=3) (v:= .slice c3 M9.dk.length r3) rfl;have o3:=(uh H9).kr.cell (i:=3) (v:= .slice none 0 0) rfl;have f3:=(uh H9).kr.free 3;have x4:=(uh H9).kb.cell (i:=4) (v:= .slice c4 M9.pc.length r4) rfl;have o4:=(uh H9).kr.cell (i:=4) (v:= .slice none 0 0) rfl;have f4:=(uh H9).kr.free 4;have x5:=(uh H9).kb.cell (i:=5) (v:= .int .i64 M9.now) rfl;have o5:=(uh H9).kr.cell (i:=5) (v:= .int .i64 0) rfl;have f5:=(uh H9).kr.free 5;have hml:=(uh H9).mlo;go_wp2_with fail;refine Zz (v:= .agg (S6 c0 r0 c1 r1 c2 r2 c3 r3 c4 r4 M9)) (by simp [results,results57,go_sem, *]) rfl ⟨M9,_,_,_,_,_,rq9,rfl,uh Hm1,uh Hm2,?_,?_,?_⟩
 ·iterate 6 (refine FullSmy.set_off ?_ (fun k e=>by have:=((uh H9).full.own e).1;omega) _ _)
  exact (uh H9).full
 ·iterate 6 (refine St.newer ?_ (by omega) _ _)
  exact (uh H9).st
 ·iterate 6 (refine Off.newer ?_ (by omega) _ _)
  exact (uh H9).off
end Go.Proofs.YtgdpaigcmoifbaaGreat
namespace Go.Proofs.YtgdpaigcmoifbaaGreat
open Go.ChangeShapes Go.WideShapes Go.ChangeAt Go.RowKit Go.Sort Go.Proofs.Tryz
open Draw (St Off Row Cur)
set_option linter.unusedVariables false
set_option linter.unusedSimpArgs false
set_option maxRecDepth 100000
theorem SV (a:Option Addr) (len cap bc:Nat) (a0 a1 a2 a3 a4:Option Addr) (n0 n1 n2 n3 n4 p0 p1 p2 p3 p4:Nat) (now:Int) (hn:n3<=1000000) (w:World) (hs:St a len cap bc w) :
  Calls prog 59 #[.pointer (some ⟨bc,0,none⟩),.agg #[.slice a0 n0 p0,.slice a1 n1 p1,.slice a2 n2 p2,.slice a3 n3 p3,.slice a4 n4 p4,.int .i64 now]] w fun e w'=> ∃ x:Int,e= .returned (.int .i64 x)/\St a len cap bc w'/\Off bc w w':=by
 have Hs:=Z9 hs;have hbc:=WI hs;clear hs;go_enter func59,ntmps59;go_upto_region 1 with fail;have kb:Hid (Blk (w.alloc (.cells #[.slice a0 n0 p0,.slice a1 n1 p1,.slice a2 n2 p2,.slice a3 n3 p3,.slice a4 n4 p4,.int .i64 now] 32)) w.heap.size 32 #[.slice a0 n0 p0,.slice a1 n1 p1,.slice a2 n2 p2,.slice a3 n3 p3,.slice a4 n4 p4,.int .i64 now]):=Z9 (Blk.new _ _ _);have HO:Hid (Off bc w (w.alloc (.cells #[.slice a0 n0 p0,.slice a1 n1 p1,.slice a2 n2 p2,.slice a3 n3 p3,.slice a4 n4 p4,.int .i64 now] 32))):=Z9 ((Off.refl _ _).alloc _);replace Hs:Hid (St a len cap bc (w.alloc (.cells #[.slice a0 n0 p0,.slice a1 n1 p1,.slice a2 n2 p2,.slice a3 n3 p3,.slice a4 n4 p4,.int .i64 now] 32))):=Z9 ((uh Hs).alloc _);generalize w.alloc (.cells #[.slice a0 n0 p0,.slice a1 n1 p1,.slice a2 n2 p2,.slice a3 n3 p3,.slice a4 n4 p4,.int .i64 now] 32)=W at *;go_wp2_with fail;refine (Draw.once_any a len cap bc 10 (by omega) (by omega) _ (uh Hs)).mono ?_;rintro e w1 ⟨bq,rfl,s9,p9⟩;replace kb:=Z9 ((uh kb).away p9 (by omega));replace HO:=Z9 ((uh HO).trans p9);replace Hs:=Z9 s9;clear s9 p9;have x:=(uh kb).cell (i:=3) (v:= .slice a3 n3 p3) rfl;cases bq
 ·
  go_wp2_with fail;refine ck (Un 1 (n3:Int) _) fun wz hwz=> ?_;subst wz;obtain ⟨mx,hmx⟩:∃ q,q=max 1 (n3:Int):=⟨_,rfl⟩
  rw [<-hmx];have hm0:0<mx:=by omega
  have hm1:mx<=1000001:=by omega
  clear hmx x;go_wp2_with fail;refine (Draw.below_any a len cap bc mx hm0 (by omega) _ (uh Hs)).mono ?_;rintro e w2 ⟨v,rfl,v0,v1,s9,p9⟩;have HO2:=Z9 ((uh HO).trans p9);have Hs2:=Z9 s9;clear s9 p9;go_wp2_with fail;go_ret;exact ⟨_,rfl,uh Hs2,uh HO2⟩
 go_wp2_with fail;refine ZI (S:=fun w'=>w'.cell? ⟨w.heap.size,3,none⟩=some (.slice a3 n3 p3)) (by kernel_rfl) (Wz _ _) (by kernel_rfl) x (fun hHeld=> ?_);simp only [WA,WB,YL,YF,Nat.zero_add,Nat.reduceAdd]
 iterate 2 refine tz ?_
 refine tp 4 ?_;replace kb:=Z9 ((uh kb).below (Z3 _ _).drew (uh kb).lt);replace HO:=Z9 ((uh HO).trans (XD (Z3 _ _).drew));replace Hs:=Z9 (Vc (uh Hs));clear x;generalize w1.drew=X0 at *;refine wpAnyH_ready (rs:=[2,5]) (by kernel_rfl) (by simp) ?_;refine AllReadyH.cons rfl (fun K hK=> ?_) (AllReadyH.cons rfl (fun K hK=> ?_) AllReadyH.nil)
 ·
  go_simp;refine hK.out _ _ ((uh kb).cell (i:=3) rfl) (fun hHeld=> ?_);clear hK K
  (try simp only [Act.put,sA,sZ,sS])
  refine wpAnyH_ready (rs:=[3,5]) (by kernel_rfl) (by simp) ?_;refine AllReadyH.cons rfl (fun K hK=> ?_) (AllReadyH.cons rfl (fun K hK=> ?_) AllReadyH.nil)
  ·
   go_simp;have hlb:X0.heap.size ≠ bc:=by have:=(uh HO).size;omega
   obtain ⟨Wp,hWp,hba,KL⟩:=Zc X0 2 #[.int .i64 (-1),.int .i64 (n3:Int),.int .i64 8];replace kb:=bl kb hba;replace HO:=Z9 ((uh HO).trans (XD hba));replace Hs:=Z9 ((uh Hs).alloc (.cells #[.int .i64 (-1),.int .i64 (n3:Int),.int .i64 8] 2));rw [hWp];refine hK.out _ _ ((uh kb).cell (i:=3) rfl) (fun hHeld=> ?_);clear hK K
   (try simp only [Act.put,sA,sZ,sS])
   clear hba
   (try rw [hWp] at Hs);clear hWp
   generalize X0.heap.size=lb at *;refine rd 5 rfl (fun K hK=> ?_);go_simp;refine (Draw.below_any a len cap bc 3 (by omega) (by omega) _ (uh Hs)).mono ?_;rintro e9 w5 ⟨v5,rfl,v50,v51,s9,p9⟩;replace KL:=Z9 ((uh KL).away p9 hlb);replace kb:=Z9 ((uh kb).away p9 (by omega));replace HO:=Z9 ((uh HO).trans p9);replace Hs:=Z9 s9;clear s9 p9;refine hK.out _ _ ((uh kb).cell (i:=3) rfl) (fun hHeld=> ?_);clear hK K
   (try simp only [Act.put,sA,sZ,sS])
   have l0:=(uh KL).cell (i:=0) (v:= .int .i64 (-1)) rfl;have l1:=(uh KL).cell (i:=1) (v:= .int .i64 (n3:Int)) rfl;have l2:=(uh KL).cell (i:=2) (v:= .int .i64 8) rfl
   rcases (show v5=0\/v5=1\/v5=2 by omega) with rfl | rfl | rfl
   ·
    refine tp 6 ?_;refine rd 7 rfl (fun K hK=> ?_);go_simp;refine hK.out _ _ ((uh kb).cell (i:=3) rfl) (fun hHeld=> ?_);clear hK K
    (try simp only [Act.put,sA,sZ,sS])
    refine wpAnyH_done (by kernel_rfl) ?_ _;refine ZK rfl rfl ?_;go_simp;clear hHeld;go_wp2_with fail;go_ret;exact ⟨_,rfl,uh Hs,uh HO⟩
   ·
    refine tp 6 ?_;refine rd 7 rfl (fun K hK=> ?_);go_simp;refine hK.out _ _ ((uh kb).cell (i:=3) rfl) (fun hHeld=> ?_);clear hK K
    (try simp only [Act.put,sA,sZ,sS])
    refine wpAnyH_done (by kernel_rfl) ?_ _;refine ZK rfl rfl ?_;go_simp;clear hHeld;go_wp2_with fail;go_ret;exact ⟨_,rfl,uh Hs,uh HO⟩
   ·
    refine tp 6 ?_;refine rd 7 rfl (fun K hK=> ?_);go_simp;refine hK.out _ _ ((uh kb).cell (i:=3) rfl) (fun hHeld=> ?_);clear hK K
    (try simp only [Act.put,sA,sZ,sS])
    refine wpAnyH_done (by kernel_rfl) ?_ _;refine ZK rfl rfl ?_;go_simp;clear hHeld;go_wp2_with fail;go_ret;exact ⟨_,rfl,uh Hs,uh HO⟩
  ·
   go_simp;refine (Draw.below_any a len cap bc 3 (by omega) (by omega) _ (uh Hs)).mono ?_;rintro e9 w5 ⟨v5,rfl,v50,v51,s9,p9⟩;replace kb:=Z9 ((uh kb).away p9 (by omega));replace HO:=Z9 ((uh HO).trans p9);replace Hs:=Z9 s9;clear s9 p9;refine hK.out _ _ ((uh kb).cell (i:=3) rfl) (fun hHeld=> ?_);clear hK K
   (try simp only [Act.put,sA,sZ,sS])
   refine rd 3 rfl (fun K hK=> ?_);go_simp;have hlb:w5.heap.size ≠ bc:=by have:=(uh HO).size;omega
   obtain ⟨Wp,hWp,hba,KL⟩:=Zc w5 2 #[.int .i64 (-1),.int .i64 (n3:Int),.int .i64 8];replace kb:=bl kb hba;replace HO:=Z9 ((uh HO).trans (XD hba));replace Hs:=Z9 ((uh Hs).alloc (.cells #[.int .i64 (-1),.int .i64 (n3:Int),.int .i64 8] 2));rw [hWp];refine hK.out _ _ ((uh kb).cell (i:=3) rfl) (fun hHeld=> ?_);clear hK K
   (try simp only [Act.put,sA,sZ,sS])
   clear hba
   (try rw [hWp] at Hs);clear hWp
   generalize w5.heap.size=lb at *;have l0:=(uh KL).cell (i:=0) (v:= .int .i64 (-1)) rfl;have l1:=(uh KL).cell (i:=1) (v:= .int .i64 (n3:Int)) rfl;have l2:=(uh KL).cell (i:=2) (v:= .int .i64 8) rfl
   rcases (show v5=0\/v5=1\/v5=2 by omega) with rfl | rfl | rfl
   ·
    refine tp 6 ?_;refine rd 7 rfl (fun K hK=> ?_);go_simp;refine hK.out _ _ ((uh kb).cell (i:=3) rfl) (fun hHeld=> ?_);clear hK K
    (try simp only [Act.put,sA,sZ,sS])
    refine wpAnyH_done (by kernel_rfl) ?_ _;refine ZK rfl rfl ?_;go_simp;clear hHeld;go_wp2_with fail;go_ret;exact ⟨_,rfl,uh Hs,uh HO⟩
   ·
    refine tp 6 ?_;refine rd 7 rfl (fun K hK=> ?_);go_simp;refine hK.out _ _ ((uh kb).cell (i:=3) rfl) (fun hHeld=> ?_);clear hK K
    (try simp only [Act.put,sA,sZ,sS])
    refine wpAnyH_done (by kernel_rfl) ?_ _;refine ZK rfl rfl ?_;go_simp;clear hHeld;go_wp2_with fail;go_ret;exact ⟨_,rfl,uh Hs,uh HO⟩
   ·
    refine tp 6 ?_;refine rd 7 rfl (fun K hK=> ?_);go_simp;refine hK.out _ _ ((uh kb).cell (i:=3) rfl) (fun hHeld=> ?_);clear hK K
    (try simp only [Act.put,sA,sZ,sS])
    refine wpAnyH_done (by kernel_rfl) ?_ _;refine ZK rfl rfl ?_;go_simp;clear hHeld;go_wp2_with fail;go_ret;exact ⟨_,rfl,uh Hs,uh HO⟩
 ·
  go_simp;refine (Draw.below_any a len cap bc 3 (by omega) (by omega) _ (uh Hs)).mono ?_;rintro e9 w5 ⟨v5,rfl,v50,v51,s9,p9⟩;replace kb:=Z9 ((uh kb).away p9 (by omega));replace HO:=Z9 ((uh HO).trans p9);replace Hs:=Z9 s9;clear s9 p9;refine hK.out _ _ ((uh kb).cell (i:=3) rfl) (fun hHeld=> ?_);clear hK K
  (try simp only [Act.put,sA,sZ,sS])
  refine rd 2 rfl (fun K hK=> ?_);go_simp;refine hK.out _ _ ((uh kb).cell (i:=3) rfl) (fun hHeld=> ?_);clear hK K
  (try simp only [Act.put,sA,sZ,sS])
  refine rd 3 rfl (fun K hK=> ?_);go_simp;have hlb:w5.heap.size ≠ bc:=by have:=(uh HO).size;omega
  obtain ⟨Wp,hWp,hba,KL⟩:=Zc w5 2 #[.int .i64 (-1),.int .i64 (n3:Int),.int .i64 8];replace kb:=bl kb hba;replace HO:=Z9 ((uh HO).trans (XD hba));replace Hs:=Z9 ((uh Hs).alloc (.cells #[.int .i64 (-1),.int .i64 (n3:Int),.int .i64 8] 2));rw [hWp];refine hK.out _ _ ((uh kb).cell (i:=3) rfl) (fun hHeld=> ?_);clear hK K
  (try simp only [Act.put,sA,sZ,sS])
  clear hba
  (try rw [hWp] at Hs);clear hWp
  generalize w5.heap.size=lb at *;have l0:=(uh KL).cell (i:=0) (v:= .int .i64 (-1)) rfl;have l1:=(uh KL).cell (i:=1) (v:= .int .i64 (n3:Int)) rfl;have l2:=(uh KL).cell (i:=2) (v:= .int .i64 8) rfl
  rcases (show v5=0\/v5=1\/v5=2 by omega) with rfl | rfl | rfl
  ·
   refine tp 6 ?_;refine rd 7 rfl (fun K hK=> ?_);go_simp;refine hK.out _ _ ((uh kb).cell (i:=3) rfl) (fun hHeld=> ?_);clear hK K
   (try simp only [Act.put,sA,sZ,sS])
   refine wpAnyH_done (by kernel_rfl) ?_ _;refine ZK rfl rfl ?_;go_simp;clear hHeld;go_wp2_with fail;go_ret;exact ⟨_,rfl,uh Hs,uh HO⟩
  ·
   refine tp 6 ?_;refine rd 7 rfl (fun K hK=> ?_);go_simp;refine hK.out _ _ ((uh kb).cell (i:=3) rfl) (fun hHeld=> ?_);clear hK K
   (try simp only [Act.put,sA,sZ,sS])
   refine wpAnyH_done (by kernel_rfl) ?_ _;refine ZK rfl rfl ?_;go_simp;clear hHeld;go_wp2_with fail;go_ret;exact ⟨_,rfl,uh Hs,uh HO⟩
  ·
   refine tp 6 ?_;refine rd 7 rfl (fun K hK=> ?_);go_simp;refine hK.out _ _ ((uh kb).cell (i:=3) rfl) (fun hHeld=> ?_);clear hK K
   (try simp only [Act.put,sA,sZ,sS])
   refine wpAnyH_done (by kernel_rfl) ?_ _;refine ZK rfl rfl ?_;go_simp;clear hHeld;go_wp2_with fail;go_ret;exact ⟨_,rfl,uh Hs,uh HO⟩
theorem Rh (a:Option Addr) (len cap bc:Nat) (a0 a1 a2 a3 a4:Option Addr) (n0 n1 n2 n3 n4 p0 p1 p2 p3 p4:Nat) (now:Int) (hn:n2<=1000000) (w:World) (hs:St a len cap bc w) :
  Calls prog 58 #[.pointer (some ⟨bc,0,none⟩),.agg #[.slice a0 n0 p0,.slice a1 n1 p1,.slice a2 n2 p2,.slice a3 n3 p3,.slice a4 n4 p4,.int .i64 now]] w fun e w'=> ∃ x:Int,e= .returned (.int .i64 x)/\St a len cap bc w'/\Off bc w w':=by
 have Hs:=Z9 hs;have hbc:=WI hs;clear hs;go_enter func58,ntmps58;go_upto_region 1 with fail;have kb:Hid (Blk (w.alloc (.cells #[.slice a0 n0 p0,.slice a1 n1 p1,.slice a2 n2 p2,.slice a3 n3 p3,.slice a4 n4 p4,.int .i64 now] 32)) w.heap.size 32 #[.slice a0 n0 p0,.slice a1 n1 p1,.slice a2 n2 p2,.slice a3 n3 p3,.slice a4 n4 p4,.int .i64 now]):=Z9 (Blk.new _ _ _);have HO:Hid (Off bc w (w.alloc (.cells #[.slice a0 n0 p0,.slice a1 n1 p1,.slice a2 n2 p2,.slice a3 n3 p3,.slice a4 n4 p4,.int .i64 now] 32))):=Z9 ((Off.refl _ _).alloc _);replace Hs:Hid (St a len cap bc (w.alloc (.cells #[.slice a0 n0 p0,.slice a1 n1 p1,.slice a2 n2 p2,.slice a3 n3 p3,.slice a4 n4 p4,.int .i64 now] 32))):=Z9 ((uh Hs).alloc _);generalize w.alloc (.cells #[.slice a0 n0 p0,.slice a1 n1 p1,.slice a2 n2 p2,.slice a3 n3 p3,.slice a4 n4 p4,.int .i64 now] 32)=W at *;go_wp2_with fail;refine (Draw.once_any a len cap bc 10 (by omega) (by omega) _ (uh Hs)).mono ?_;rintro e w1 ⟨bq,rfl,s9,p9⟩;replace kb:=Z9 ((uh kb).away p9 (by omega));replace HO:=Z9 ((uh HO).trans p9);replace Hs:=Z9 s9;clear s9 p9;have x:=(uh kb).cell (i:=2) (v:= .slice a2 n2 p2) rfl;cases bq
 ·
  go_wp2_with fail;refine ck (Un 1 (n2:Int) _) fun wz hwz=> ?_;subst wz;obtain ⟨mx,hmx⟩:∃ q,q=max 1 (n2:Int):=⟨_,rfl⟩
  rw [<-hmx];have hm0:0<mx:=by omega
  have hm1:mx<=1000001:=by omega
  clear hmx x;go_wp2_with fail;refine (Draw.below_any a len cap bc mx hm0 (by omega) _ (uh Hs)).mono ?_;rintro e w2 ⟨v,rfl,v0,v1,s9,p9⟩;have HO2:=Z9 ((uh HO).trans p9);have Hs2:=Z9 s9;clear s9 p9;go_wp2_with fail;go_ret;exact ⟨_,rfl,uh Hs2,uh HO2⟩
 go_wp2_with fail;refine ZI (S:=fun w'=>w'.cell? ⟨w.heap.size,2,none⟩=some (.slice a2 n2 p2)) (by kernel_rfl) (Wz _ _) (by kernel_rfl) x (fun hHeld=> ?_);simp only [WA,WB,YL,YF,Nat.zero_add,Nat.reduceAdd]
 iterate 2 refine tz ?_
 refine tp 4 ?_;replace kb:=Z9 ((uh kb).below (Z3 _ _).drew (uh kb).lt);replace HO:=Z9 ((uh HO).trans (XD (Z3 _ _).drew));replace Hs:=Z9 (Vc (uh Hs));clear x;generalize w1.drew=X0 at *;refine wpAnyH_ready (rs:=[2,5]) (by kernel_rfl) (by simp) ?_;refine AllReadyH.cons rfl (fun K hK=> ?_) (AllReadyH.cons rfl (fun K hK=> ?_) AllReadyH.nil)
 ·
  go_simp;refine hK.out _ _ ((uh kb).cell (i:=2) rfl) (fun hHeld=> ?_);clear hK K
  (try simp only [Act.put,sA,sZ,sS])
  refine wpAnyH_ready (rs:=[3,5]) (by kernel_rfl) (by simp) ?_;refine AllReadyH.cons rfl (fun K hK=> ?_) (AllReadyH.cons rfl (fun K hK=> ?_) AllReadyH.nil)
  ·
   go_simp;have hlb:X0.heap.size ≠ bc:=by have:=(uh HO).size;omega
   obtain ⟨Wp,hWp,hba,KL⟩:=Zc X0 2 #[.int .i64 (-1),.int .i64 (n2:Int)];replace kb:=bl kb hba;replace HO:=Z9 ((uh HO).trans (XD hba));replace Hs:=Z9 ((uh Hs).alloc (.cells #[.int .i64 (-1),.int .i64 (n2:Int)] 2));rw [hWp];refine hK.out _ _ ((uh kb).cell (i:=2) rfl) (fun hHeld=> ?_);clear hK K
   (try simp only [Act.put,sA,sZ,sS])
   clear hba
   (try rw [hWp] at Hs);clear hWp
   generalize X0.heap.size=lb at *;refine rd 5 rfl (fun K hK=> ?_);go_simp;refine (Draw.below_any a len cap bc 2 (by omega) (by omega) _ (uh Hs)).mono ?_;rintro e9 w5 ⟨v5,rfl,v50,v51,s9,p9⟩;replace KL:=Z9 ((uh KL).away p9 hlb);replace kb:=Z9 ((uh kb).away p9 (by omega));replace HO:=Z9 ((uh HO).trans p9);replace Hs:=Z9 s9;clear s9 p9;refine hK.out _ _ ((uh kb).cell (i:=2) rfl) (fun hHeld=> ?_);clear hK K
   (try simp only [Act.put,sA,sZ,sS])
   have l0:=(uh KL).cell (i:=0) (v:= .int .i64 (-1)) rfl;have l1:=(uh KL).cell (i:=1) (v:= .int .i64 (n2:Int)) rfl
   rcases (show v5=0\/v5=1 by omega) with rfl | rfl
   ·
    refine tp 6 ?_;refine rd 7 rfl (fun K hK=> ?_);go_simp;refine hK.out _ _ ((uh kb).cell (i:=2) rfl) (fun hHeld=> ?_);clear hK K
    (try simp only [Act.put,sA,sZ,sS])
    refine wpAnyH_done (by kernel_rfl) ?_ _;refine ZK rfl rfl ?_;go_simp;clear hHeld;go_wp2_with fail;go_ret;exact ⟨_,rfl,uh Hs,uh HO⟩
   ·
    refine tp 6 ?_;refine rd 7 rfl (fun K hK=> ?_);go_simp;refine hK.out _ _ ((uh kb).cell (i:=2) rfl) (fun hHeld=> ?_);clear hK K
    (try simp only [Act.put,sA,sZ,sS])
    refine wpAnyH_done (by kernel_rfl) ?_ _;refine ZK rfl rfl ?_;go_simp;clear hHeld;go_wp2_with fail;go_ret;exact ⟨_,rfl,uh Hs,uh HO⟩
  ·
   go_simp;refine (Draw.below_any a len cap bc 2 (by omega) (by omega) _ (uh Hs)).mono ?_;rintro e9 w5 ⟨v5,rfl,v50,v51,s9,p9⟩;replace kb:=Z9 ((uh kb).away p9 (by omega));replace HO:=Z9 ((uh HO).trans p9);replace Hs:=Z9 s9;clear s9 p9;refine hK.out _ _ ((uh kb).cell (i:=2) rfl) (fun hHeld=> ?_);clear hK K
   (try simp only [Act.put,sA,sZ,sS])
   refine rd 3 rfl (fun K hK=> ?_);go_simp;have hlb:w5.heap.size ≠ bc:=by have:=(uh HO).size;omega
   obtain ⟨Wp,hWp,hba,KL⟩:=Zc w5 2 #[.int .i64 (-1),.int .i64 (n2:Int)];replace kb:=bl kb hba;replace HO:=Z9 ((uh HO).trans (XD hba));replace Hs:=Z9 ((uh Hs).alloc (.cells #[.int .i64 (-1),.int .i64 (n2:Int)] 2));rw [hWp];refine hK.out _ _ ((uh kb).cell (i:=2) rfl) (fun hHeld=> ?_);clear hK K
   (try simp only [Act.put,sA,sZ,sS])
   clear hba
   (try rw [hWp] at Hs);clear hWp
   generalize w5.heap.size=lb at *;have l0:=(uh KL).cell (i:=0) (v:= .int .i64 (-1)) rfl;have l1:=(uh KL).cell (i:=1) (v:= .int .i64 (n2:Int)) rfl
   rcases (show v5=0\/v5=1 by omega) with rfl | rfl
   ·
    refine tp 6 ?_;refine rd 7 rfl (fun K hK=> ?_);go_simp;refine hK.out _ _ ((uh kb).cell (i:=2) rfl) (fun hHeld=> ?_);clear hK K
    (try simp only [Act.put,sA,sZ,sS])
    refine wpAnyH_done (by kernel_rfl) ?_ _;refine ZK rfl rfl ?_;go_simp;clear hHeld;go_wp2_with fail;go_ret;exact ⟨_,rfl,uh Hs,uh HO⟩
   ·
    refine tp 6 ?_;refine rd 7 rfl (fun K hK=> ?_);go_simp;refine hK.out _ _ ((uh kb).cell (i:=2) rfl) (fun hHeld=> ?_);clear hK K
    (try simp only [Act.put,sA,sZ,sS])
    refine wpAnyH_done (by kernel_rfl) ?_ _;refine ZK rfl rfl ?_;go_simp;clear hHeld;go_wp2_with fail;go_ret;exact ⟨_,rfl,uh Hs,uh HO⟩
 ·
  go_simp;refine (Draw.below_any a len cap bc 2 (by omega) (by omega) _ (uh Hs)).mono ?_;rintro e9 w5 ⟨v5,rfl,v50,v51,s9,p9⟩;replace kb:=Z9 ((uh kb).away p9 (by omega));replace HO:=Z9 ((uh HO).trans p9);replace Hs:=Z9 s9;clear s9 p9;refine hK.out _ _ ((uh kb).cell (i:=2) rfl) (fun hHeld=> ?_);clear hK K
  (try simp only [Act.put,sA,sZ,sS])
  refine rd 2 rfl (fun K hK=> ?_);go_simp;refine hK.out _ _ ((uh kb).cell (i:=2) rfl) (fun hHeld=> ?_);clear hK K
  (try simp only [Act.put,sA,sZ,sS])
  refine rd 3 rfl (fun K hK=> ?_);go_simp;have hlb:w5.heap.size ≠ bc:=by have:=(uh HO).size;omega
  obtain ⟨Wp,hWp,hba,KL⟩:=Zc w5 2 #[.int .i64 (-1),.int .i64 (n2:Int)];replace kb:=bl kb hba;replace HO:=Z9 ((uh HO).trans (XD hba));replace Hs:=Z9 ((uh Hs).alloc (.cells #[.int .i64 (-1),.int .i64 (n2:Int)] 2));rw [hWp];refine hK.out _ _ ((uh kb).cell (i:=2) rfl) (fun hHeld=> ?_);clear hK K
  (try simp only [Act.put,sA,sZ,sS])
  clear hba
  (try rw [hWp] at Hs);clear hWp
  generalize w5.heap.size=lb at *;have l0:=(uh KL).cell (i:=0) (v:= .int .i64 (-1)) rfl;have l1:=(uh KL).cell (i:=1) (v:= .int .i64 (n2:Int)) rfl
  rcases (show v5=0\/v5=1 by omega) with rfl | rfl
  ·
   refine tp 6 ?_;refine rd 7 rfl (fun K hK=> ?_);go_simp;refine hK.out _ _ ((uh kb).cell (i:=2) rfl) (fun hHeld=> ?_);clear hK K
   (try simp only [Act.put,sA,sZ,sS])
   refine wpAnyH_done (by kernel_rfl) ?_ _;refine ZK rfl rfl ?_;go_simp;clear hHeld;go_wp2_with fail;go_ret;exact ⟨_,rfl,uh Hs,uh HO⟩
  ·
   refine tp 6 ?_;refine rd 7 rfl (fun K hK=> ?_);go_simp;refine hK.out _ _ ((uh kb).cell (i:=2) rfl) (fun hHeld=> ?_);clear hK K
   (try simp only [Act.put,sA,sZ,sS])
   refine wpAnyH_done (by kernel_rfl) ?_ _;refine ZK rfl rfl ?_;go_simp;clear hHeld;go_wp2_with fail;go_ret;exact ⟨_,rfl,uh Hs,uh HO⟩
end Go.Proofs.YtgdpaigcmoifbaaGreat
