/- Part 42 of what the proof rests on. No condition but those that a theorem names. -/
import Derived.Test.YtlcpgkakdieeaaaGreatXk20
import Derived.Test.YtlcpgkakdieeaaaGreatXk21
import Derived.Test.YtlcpgkakdieeaaaGreatXk40
import Derived.Test.YtlcpgkakdieeaaaGreatXk41
set_option maxHeartbeats 8000000
set_option maxRecDepth 100000
namespace Go.Proofs.YtlcpgkakdieeaaaGreat
open Go.ChangeShapes Go.WideShapes Go.ChangeAt Go.RowKit Go.Sort Go.Proofs.Tryz
open Draw (St Off Row Cur)
set_option linter.unusedVariables false
set_option linter.unusedSimpArgs false
set_option maxRecDepth 100000
theorem Of {w:World} {lb:Nat} {t:TypeId} {cs:Array Value} {j:Int} (h:Blk w lb t cs) (h0:0<=j) (h1:j<(cs.size:Int)) (hz:cs.toList.all Draw.isI64=true):∃ v,w.cell? ⟨lb,j.toNat,none⟩=some (.int .i64 v):=by
 obtain ⟨v,hv⟩:=Draw.pick_any cs j.toNat (by omega) hz;exact ⟨v,h.cell hv⟩
structure Ebox (a:Option Addr) (len cap bc:Nat) (w0 w:World) (mb:Nat) (M:Z6) (u0 u1 u2 u3 u4:Value) (rq:List (ZW × Value)):Prop where
 st:St a len cap bc w
 off:Off bc w0 w
 full:FullSmy (w0.heap.size+1) w u0 u1 u2 u3 u4 M rq
 kb:Blk w mb 32 #[u0,u1,u2,u3,u4,.int .i64 M.now]
 kr:Blk w w0.heap.size 32 E6
 own:∀ k,WM u0 u1 u2 u3 u4 rq k->k ≠ mb
 mlo:w0.heap.size+1<=mb
 bl:bc<w0.heap.size
section
variable {a : Option Addr} {len cap bc : Nat} {w0 w w1 w' : World} {mb : Nat} {M : Z6} {u0 u1 u2 u3 u4 : Value} {rq : List (ZW × Value)}
theorem Ebox.step (h:Ebox a len cap bc w0 w mb M u0 u1 u2 u3 u4 rq) (hs:St a len cap bc w') (ho:Off bc w w'):Ebox a len cap bc w0 w' mb M u0 u1 u2 u3 u4 rq:=
 have hb:=h.bl;have hm:=h.mlo
 ⟨hs,h.off.trans ho,h.full.away ho (by omega),h.kb.away ho (by omega),h.kr.away ho (by omega),h.own,h.mlo,h.bl⟩
theorem Ebox.below (h:Ebox a len cap bc w0 w mb M u0 u1 u2 u3 u4 rq) (hb:Below w.heap.size w w'):Ebox a len cap bc w0 w' mb M u0 u1 u2 u3 u4 rq:=
 h.step (XU h.st (hb.mono (V0 h.st))) (TF hb)
theorem Ebox.drew (h:Ebox a len cap bc w0 w mb M u0 u1 u2 u3 u4 rq):Ebox a len cap bc w0 w.drew mb M u0 u1 u2 u3 u4 rq:=h.below (ZZ _ _).drew
theorem Ebox.putD {g n c:Nat} (h:Ebox a len cap bc w0 w mb M u0 u1 u2 (.slice (some ⟨g,0,none⟩) n c) u4 rq) (hn:n=M.dk.length) {j i:Nat} (hj:j<M.dk.length) (hi:i<3) (u:Value) (x:Yd) (hx:Xb x=(Xb (Z8 M.dk j)).set i u):Ebox a len cap bc w0 (w.setCell ⟨g,j*3+i,none⟩ u) mb { M with dk:=M.dk.set j x } u0 u1 u2 (.slice (some ⟨g,0,none⟩) n c) u4 rq:=by
 have hb:=h.bl;have hg:=(h.full.own (k:=g) (.inr (.inr (.inr (.inr (.inl rfl)))))).1;have hgm:=h.own g (.inr (.inr (.inr (.inr (.inl rfl)))));exact ⟨St.newer h.st (by omega) _ _,Off.newer h.off (by omega) _ _,h.full.putD hn hj hi u x hx,h.kb.other (by show mb ≠ g;omega) _,h.kr.other (by show w0.heap.size ≠ g;omega) _,h.own,h.mlo,h.bl⟩
theorem Ebox.putP {g n c:Nat} (h:Ebox a len cap bc w0 w mb M u0 u1 u2 u3 (.slice (some ⟨g,0,none⟩) n c) rq) (hn:n=M.pc.length) {j:Nat} (hj:j<M.pc.length) (x:Int):Ebox a len cap bc w0 (w.setCell ⟨g,j,none⟩ (.int .i64 x)) mb { M with pc:=M.pc.set j x } u0 u1 u2 u3 (.slice (some ⟨g,0,none⟩) n c) rq:=by
 have hb:=h.bl;have hg:=(h.full.own (k:=g) (.inr (.inr (.inr (.inr (.inr rfl)))))).1;have hgm:=h.own g (.inr (.inr (.inr (.inr (.inr rfl)))));exact ⟨St.newer h.st (by omega) _ _,Off.newer h.off (by omega) _ _,h.full.putP hn hj x,h.kb.other (by show mb ≠ g;omega) _,h.kr.other (by show w0.heap.size ≠ g;omega) _,h.own,h.mlo,h.bl⟩
theorem Ebox.now (h:Ebox a len cap bc w0 w mb M u0 u1 u2 u3 u4 rq) (t:Int):Ebox a len cap bc w0 (w.setCell ⟨mb,5,none⟩ (.int .i64 t)) mb { M with now:=t } u0 u1 u2 u3 u4 rq:=by
 have hb:=h.bl;have hm:=h.mlo;have f:=h.full.set_off h.own 5 (.int .i64 t);exact ⟨St.newer h.st (by omega) _ _,Off.newer h.off (by omega) _ _,⟨f.hall,f.rm,f.gd,f.sm,f.dk,f.pc,f.h1,f.h2,f.h3,f.h4,f.a12,f.a13,f.a14,f.a23,f.a24,f.a34⟩,h.kb.set 5 _,h.kr.other (by show w0.heap.size ≠ mb;omega) _,h.own,h.mlo,h.bl⟩
theorem Ebox.gd (h:Ebox a len cap bc w0 w mb M u0 u1 u2 u3 u4 rq) {g:Value} {gs:List Zv} (hs:St a len cap bc w') (ho:Off bc w w') (hg:GuildsAt w.heap.size w' g gs):Ebox a len cap bc w0 (w'.setCell ⟨mb,1,none⟩ g) mb { M with gd:=gs } u0 g u2 u3 u4 rq:=by
 have hb:=h.bl;have hm:=h.mlo;have hml:=h.kb.lt;have hz:=h.off.size;have hE:=h.step hs ho;have f:=h.full.newG ho (by omega) hg (Z0 _) (by omega)
 have hown:∀ k,WM u0 g u2 u3 u4 rq k->k ≠ mb:=fun k e=>by
  rcases e with e | e | e | e | e | e
  ·exact h.own k (.inl e)
  ·exact h.own k (.inr (.inl e))
  ·have:=(RecAt.lt hg e).1;omega
  ·exact h.own k (.inr (.inr (.inr (.inl e))))
  ·exact h.own k (.inr (.inr (.inr (.inr (.inl e)))))
  ·exact h.own k (.inr (.inr (.inr (.inr (.inr e)))))
 exact ⟨St.newer hs (by omega) _ _,Off.newer hE.off (by omega) _ _,f.set_off hown 1 g,hE.kb.set 1 _,hE.kr.other (by show w0.heap.size ≠ mb;omega) _,hown,h.mlo,h.bl⟩
theorem Ebox.push (h:Ebox a len cap bc w0 w mb M u0 u1 u2 u3 u4 rq) {u:Value} {x:Z2} (hb1:Below w.heap.size w w1) (hg:w1.grownBy w' u2.ownBlock) (hat:u.ownBlock=u2.ownBlock\/u.ownBlock=some w1.heap.size) (hr:SmithsAt (w0.heap.size+1) w' u (M.sm++[x])) :
  Blk w' mb 32 #[u0,u1,u2,u3,u4,.int .i64 M.now]/\Ebox a len cap bc w0 (w'.setCell ⟨mb,2,none⟩ u) mb (pushS M x) u0 u1 u u3 u4 rq:=by
 have hb:=h.bl;have hm:=h.mlo;have hz:=h.off.size;have hz1:=hb1.size;have hml:=h.kb.lt;have h2:∀ k,u2.ownBlock=some k->w0.heap.size+1<=k/\k<w.heap.size/\k ≠ mb:=fun k e=>⟨(h.full.own (.inr (.inr (.inr (.inl e))))).1,(h.full.own (.inr (.inr (.inr (.inl e))))).2,h.own k (.inr (.inr (.inr (.inl e))))⟩
 have hB:Below (w0.heap.size+1) w w':=(hb1.mono (by omega)).trans ((ZZ _ _).grown hg (by omega) (fun k e=>(h2 k e).1));have f:=h.full.pushS hb1 hg hat hr;have kb1:Blk w' mb 32 #[u0,u1,u2,u3,u4,.int .i64 M.now]:=(h.kb.below hb1 hml).same (hg.block mb (by omega) (fun e=>(h2 mb e.symm).2.2 rfl))
 have hown:∀ k,WM u0 u1 u u3 u4 rq k->k ≠ mb:=fun k e=>by
  rcases e with e | e | e | e | e | e
  ·exact h.own k (.inl e)
  ·exact h.own k (.inr (.inl e))
  ·exact h.own k (.inr (.inr (.inl e)))
  ·rcases hat with e' | e'
   ·exact (h2 k (e'.symm.trans e)).2.2
   ·have:=Option.some.inj (e'.symm.trans e);omega
  ·exact h.own k (.inr (.inr (.inr (.inr (.inl e)))))
  ·exact h.own k (.inr (.inr (.inr (.inr (.inr e)))))
 have ho:Off bc w0 w':=⟨hB.os.trans h.off.os,hB.tape.trans h.off.tape,hB.output.trans h.off.output,XN hz hB.size,fun k hk hn=>(hB.block k (by omega)).trans (h.off.block k hk hn)⟩
 exact ⟨kb1,St.newer (XU h.st (hB.mono (by omega))) (by omega) _ _,Off.newer ho (by omega) _ _,f.set_off hown 2 u,kb1.set 2 _,(h.kr.below hB (by omega)).other (by show w0.heap.size ≠ mb;omega) _,hown,h.mlo,h.bl⟩
end
theorem NR (a:Option Addr) (len cap bc:Nat) (w:World) (hs:St a len cap bc w) :
  Calls prog 74 #[.pointer (some ⟨bc,0,none⟩)] w fun e w'=> ∃ M u0 u1 u2 u3 u4 rq,e= .returned (.agg #[u0,u1,u2,u3,u4,.int .i64 M.now])/\(M.sm.length<=1000/\M.rm.length<=1000)/\(M.dk.length<=1000/\1<=M.dk.length/\M.dk.length<=8/\1<=M.rm.length)/\FullSmy (w.heap.size+1) w' u0 u1 u2 u3 u4 M rq/\St a len cap bc w'/\Off bc w w':=by
 have Hs:=Z9 hs;have hbc:=V0 hs;clear hs;go_enter func74,ntmps74;go_wp2_with fail;have kr:Hid (Blk (w.alloc (.cells E6 32)) w.heap.size 32 E6):=Z9 (Blk.new _ _ _);have HO:Hid (Off bc w (w.alloc (.cells E6 32))):=Z9 ((Off.refl _ _).alloc _);replace Hs:Hid (St a len cap bc (w.alloc (.cells E6 32))):=Z9 ((uh Hs).alloc _);have hzW:w.heap.size+1<=(w.alloc (.cells E6 32)).heap.size:=by simp
 generalize w.alloc (.cells E6 32)=W at *;refine (Ja a len cap bc _ (uh Hs)).mono ?_;rintro e w1 ⟨M,u0,u1,u2,u3,u4,rq,rfl,ok1,hf,s9,p9⟩;have k6:=hf.smy;obtain ⟨b0,q0,b1,q1,b2,q2,b3,q3,b4,q4,rfl,rfl,rfl,rfl,rfl,_,_,_,_,_,_,_,_,_,_⟩:=k6.five;have HE:Hid (Ebox a len cap bc w (w1.alloc (.cells (S6 b0 q0 b1 q1 b2 q2 b3 q3 b4 q4 M) 32)) w1.heap.size M (.slice b0 M.rm.length q0) (.slice b1 M.gd.length q1) (.slice b2 M.sm.length q2) (.slice b3 M.dk.length q3) (.slice b4 M.pc.length q4) rq):=Z9 ⟨s9.alloc _,((uh HO).trans p9).alloc _,(hf.mono (by omega)).below ((ba _ _)),Blk.new _ _ _,((uh kr).away p9 (by omega)).alloc _,fun k e=>by have:=(hf.own e).2;omega,by have:=p9.size;omega,hbc⟩;have Hok:=Z9 ok1;clear k6 hf s9 p9 HO kr Hs ok1 hzW;go_upto_region 2 with fail;generalize w1.alloc (.cells (S6 b0 q0 b1 q1 b2 q2 b3 q3 b4 q4 M) 32)=W1 at *;generalize w1.heap.size=mb at *;go_wp2_with fail;refine (Draw.once_any a len cap bc 8 (by omega) (by omega) _ (uh HE).st).mono ?_;rintro e w2 ⟨bq,rfl,s9,p9⟩;replace HE:=Z9 ((uh HE).step s9 p9);clear s9 p9
 go_upto_if 8 with fail
 go_cut [] (fun wc=> ∃ M u0 u1 u2 u3 u4 rq,((M.sm.length<=1000/\M.rm.length<=1000)/\(M.dk.length<=1000/\1<=M.dk.length/\M.dk.length<=8/\1<=M.rm.length))/\Ebox a len cap bc w wc mb M u0 u1 u2 u3 u4 rq)
 case first=>
  have hlo:=ZM (uh Hok);have g3p:1<=M.dk.length:=by obtain ⟨j,hj,_⟩:=hlo.openD;omega
  have g3q:=We hlo;have g4p:1<=M.pc.length:=Qe hlo;have g4q:=TQ hlo;have g2q:=Zj hlo;have g0q:M.rm.length<=3:=(Zi hlo.sane.hall).2.1;have g0p:1<=M.rm.length:=(Zi hlo.sane.hall).1;clear hlo;cases bq
  ·go_wp2_with fail
   go_meet;exact ⟨_,_,_,_,_,_,_,⟨by omega,by omega⟩,uh HE⟩
  go_wp2_with fail;refine (Draw.below_any a len cap bc 7 (by omega) (by omega) _ (uh HE).st).mono ?_;rintro e w3 ⟨y,rfl,y0,y1,s9,p9⟩;replace HE:=Z9 ((uh HE).step s9 p9);clear s9 p9
  rcases (show y=0\/y=1\/y=2\/y=3\/y=4\/y=5\/y=6 by omega) with rfl | rfl | rfl | rfl | rfl | rfl | rfl
  ·
   clear y0 y1;have x2:=(uh HE).kb.cell (i:=2) (v:= .slice b2 M.sm.length q2) rfl;go_wp2_with fail;refine ZK (S:=fun w'=>w'.cell? ⟨mb,2,none⟩=some (.slice b2 M.sm.length q2)) (by kernel_rfl) (WN _ _) (by kernel_rfl) x2 (fun hHeld=> ?_);simp only [WO,WR,YN,Yx,Nat.zero_add,Nat.reduceAdd]
   iterate 3 refine tz ?_
   refine rd 3 rfl (fun K hK=> ?_);go_simp;refine (MG a len cap bc _ (RZ (uh HE).st)).mono ?_;rintro e9 w5 ⟨⟨t0,t1,t2,t3,t4,t5,t6,t7,t8,t9,t10⟩,rfl,s9,p9⟩;replace HE:=Z9 ((uh HE).step s9 (TN p9));clear s9 p9 x2;simp only [ZS];refine hK.out _ _ ((uh HE).kb.cell (i:=2) rfl) (fun hHeld=> ?_);clear hK K
   (try simp only [Act.put,sA,sZ,sS])
   refine rd 4 rfl (fun K hK=> ?_);go_simp;have hba:Below w5.heap.size w5 (w5.alloc (.cells (I11 t0 t1 t2 t3 t4 t5 t6 t7 t8 t9 t10) 42)):=ba _ _;refine hK.out _ _ (((uh HE).below hba).kb.cell (i:=2) rfl) (fun hHeld=> ?_);clear hK K
   (try simp only [Act.put,sA,sZ,sS])
   obtain ⟨u9,w9,hrun,hown9,hg9,hat9⟩:=Wv tyS (w:=w5.alloc (.cells (I11 t0 t1 t2 t3 t4 t5 t6 t7 t8 t9 t10) 42)) (t:=28) (ty:=28) underlying28 (RecAt.later (uh HE).full.sm hba) (Vs (t0,t1,t2,t3,t4,t5,t6,t7,t8,t9,t10) (g:=w5.heap.size) (c:=1) rfl (Z0 _) (by omega)) (by simp;omega) (by have:=(uh HE).off.size;have:=(uh HE).kr.lt;simp;omega);obtain ⟨kb9,E9⟩:=(uh HE).push hba hg9 hat9 hown9;have R9:=Z9 hrun;have HP:=Z9 E9;have K9:=Z9 kb9;obtain ⟨ua,uc,hu9⟩:=RecAt.shape hown9;obtain ⟨n9,hn9⟩:∃ q,q=(M.sm++[(t0,t1,t2,t3,t4,t5,t6,t7,t8,t9,t10)]).length:=⟨_,rfl⟩
   rw [<-hn9] at hu9;subst hu9;clear hrun E9 kb9 hown9 hg9 hat9 hn9;refine rd 5 rfl (fun K hK=> ?_);refine Wx rfl (.tmp 14) (.tmp 17) 28 rfl rfl rfl (uh R9) ?_;refine hK.out _ _ ((uh K9).cell (i:=2) rfl) (fun hHeld=> ?_);clear hK K
   (try simp only [Act.put,sA,sZ,sS])
   refine tp 6 ?_;have x2:=(uh K9).cell (i:=2) (v:= .slice b2 M.sm.length q2) rfl;have f2:=(uh K9).free 2;clear hba;refine wpAnyH_done (by kernel_rfl) ?_ _;refine Zu rfl rfl ?_;go_simp;clear hHeld;go_wp2_with fail;go_meet;refine ⟨_,_,_,_,_,_,_,?_,by first | exact uh HP | exact (uh HP).drew⟩;constructor<;>(first | omega | (simp only [pushS,Wz,List.length_append,YN,Yx];omega))
  ·
   clear y0 y1;obtain ⟨g3,hga,_,_,_,_⟩:=RecAt.view Zy (by omega) (uh HE).full.dk rfl (by omega);cases hga;have x3:=(uh HE).kb.cell (i:=3) (v:= .slice (some ⟨g3,0,none⟩) M.dk.length q3) rfl;go_wp2_with fail;clear x3;refine (Draw.below_any a len cap bc (M.dk.length:Int) (by omega) (by omega) _ (uh HE).st).mono ?_;rintro e w4 ⟨kk,rfl,k0,k1,s9,p9⟩;replace HE:=Z9 ((uh HE).step s9 p9);clear s9 p9;obtain ⟨kn,rfl⟩:∃ kn:Nat,kk=(kn:Int):=⟨kk.toNat,by omega⟩
   have x3:=(uh HE).kb.cell (i:=3) (v:= .slice (some ⟨g3,0,none⟩) M.dk.length q3) rfl;go_wp2_with fail;refine ZK (S:=fun w'=>w'.cell? ⟨mb,3,none⟩=some (.slice (some ⟨g3,0,none⟩) M.dk.length q3)) (by kernel_rfl) (WN _ _) (by kernel_rfl) x3 (fun hHeld=> ?_);simp only [WO,WR,YN,Yx,Nat.zero_add,Nat.reduceAdd]
   iterate 4 refine tz ?_
   refine rd 4 rfl (fun K hK=> ?_);go_simp;refine (Draw.from_any a len cap bc (-2) 4 (by omega) (by omega) (by omega) _ (RZ (uh HE).st)).mono ?_;rintro e9 w5 ⟨v1,rfl,v10,v11,s9,p9⟩;replace HE:=Z9 ((uh HE).step s9 (TN p9));clear s9 p9 x3;refine hK.out _ _ ((uh HE).kb.cell (i:=3) rfl) (fun hHeld=> ?_);clear hK K
   (try simp only [Act.put,sA,sZ,sS])
   refine tp 5 ?_;refine tp 6 ?_;obtain ⟨_,hga,_,_,hc3,hz3⟩:=RecAt.view Zy (by omega) (uh HE).full.dk rfl (by omega);cases hga;have dd:=hc3 kn (by omega) 1 _ rfl;have df:=hz3 (kn*3+1);clear hc3 hz3;refine wpAnyH_done (by kernel_rfl) ?_ _;refine Zu rfl rfl ?_;go_simp;clear hHeld;go_wp2_with fail;go_meet;refine ⟨_,_,_,_,_,_,_,?_,by first | exact (uh HE).putD rfl (j:=kn) (i:=1) (by omega) (by omega) (.int .i64 v1) ((Z8 M.dk kn).1,v1,(Z8 M.dk kn).2.2) rfl | exact ((uh HE).putD rfl (j:=kn) (i:=1) (by omega) (by omega) (.int .i64 v1) ((Z8 M.dk kn).1,v1,(Z8 M.dk kn).2.2) rfl).drew⟩;constructor<;>(first | omega | (simp only [pushS,Wz,List.length_append,YN,Yx];omega))
  ·
   clear y0 y1;obtain ⟨g3,hga,_,_,_,_⟩:=RecAt.view Zy (by omega) (uh HE).full.dk rfl (by omega);cases hga;have x3:=(uh HE).kb.cell (i:=3) (v:= .slice (some ⟨g3,0,none⟩) M.dk.length q3) rfl;go_wp2_with fail;refine ZK (S:=fun w'=>w'.cell? ⟨mb,3,none⟩=some (.slice (some ⟨g3,0,none⟩) M.dk.length q3)) (by kernel_rfl) (WN _ _) (by kernel_rfl) x3 (fun hHeld=> ?_);simp only [WO,WR,YN,Yx,Nat.zero_add,Nat.reduceAdd]
   iterate 5 refine tz ?_
   refine rd 5 rfl (fun K hK=> ?_);go_simp;refine hK.out _ _ hHeld (fun hHeld=> ?_);clear hK K
   (try simp only [Act.put,sA,sZ,sS])
   refine rd 6 rfl (fun K hK=> ?_);go_simp;refine (Draw.below_any a len cap bc (M.dk.length:Int) (by omega) (by omega) _ (RZ (uh HE).st)).mono ?_;rintro e9 w5 ⟨kk,rfl,k0,k1,s9,p9⟩;replace HE:=Z9 ((uh HE).step s9 (TN p9));clear s9 p9 x3;obtain ⟨kn,rfl⟩:∃ kn:Nat,kk=(kn:Int):=⟨kk.toNat,by omega⟩
   refine hK.out _ _ ((uh HE).kb.cell (i:=3) rfl) (fun hHeld=> ?_);clear hK K
   (try simp only [Act.put,sA,sZ,sS])
   refine tp 7 ?_;refine tp 8 ?_;obtain ⟨_,hga,_,_,hc3,hz3⟩:=RecAt.view Zy (by omega) (uh HE).full.dk rfl (by omega);cases hga;have dd:=hc3 kn (by omega) 0 _ rfl;have df:=hz3 (kn*3+0);simp only [Nat.add_zero] at dd df;clear hc3 hz3;refine wpAnyH_done (by kernel_rfl) ?_ _;refine Zu rfl rfl ?_;go_simp;clear hHeld;go_wp2_with fail;go_meet;refine ⟨_,_,_,_,_,_,_,?_,by first | exact (uh HE).putD rfl (j:=kn) (i:=0) (by omega) (by omega) (.bool false) (false,(Z8 M.dk kn).2) rfl | exact ((uh HE).putD rfl (j:=kn) (i:=0) (by omega) (by omega) (.bool false) (false,(Z8 M.dk kn).2) rfl).drew⟩;constructor<;>(first | omega | (simp only [pushS,Wz,List.length_append,YN,Yx];omega))
  ·
   clear y0 y1;obtain ⟨g4,hga,_,_,_,_⟩:=RecAt.view YP (by omega) (uh HE).full.pc rfl (by omega);cases hga;have x4:=(uh HE).kb.cell (i:=4) (v:= .slice (some ⟨g4,0,none⟩) M.pc.length q4) rfl;have hp0:0<M.pc.length:=by omega
   go_wp2_with fail;refine ZK (S:=fun w'=>w'.cell? ⟨mb,4,none⟩=some (.slice (some ⟨g4,0,none⟩) M.pc.length q4)) (by kernel_rfl) (WN _ _) (by kernel_rfl) x4 (fun hHeld=> ?_);simp only [WO,WR,YN,Yx,Nat.zero_add,Nat.reduceAdd]
   iterate 3 refine tz ?_
   refine rd 3 rfl (fun K hK=> ?_);go_simp;refine (Draw.from_any a len cap bc (-1) 4 (by omega) (by omega) (by omega) _ (RZ (uh HE).st)).mono ?_;rintro e9 w5 ⟨v1,rfl,v10,v11,s9,p9⟩;replace HE:=Z9 ((uh HE).step s9 (TN p9));clear s9 p9 x4;refine hK.out _ _ ((uh HE).kb.cell (i:=4) rfl) (fun hHeld=> ?_);clear hK K
   (try simp only [Act.put,sA,sZ,sS])
   refine tp 4 ?_;obtain ⟨_,hga,_,_,hc4,hz4⟩:=RecAt.view YP (by omega) (uh HE).full.pc rfl (by omega);cases hga;have dd:=hc4 0 (by omega) 0 _ rfl;have df:=hz4 0;simp only [Nat.zero_mul,Nat.add_zero] at dd;clear hc4 hz4;refine wpAnyH_done (by kernel_rfl) ?_ _;refine Zu rfl rfl ?_;go_simp;clear hHeld;go_wp2_with fail;go_meet;refine ⟨_,_,_,_,_,_,_,?_,by first | exact (uh HE).putP rfl (j:=0) (by omega) v1 | exact ((uh HE).putP rfl (j:=0) (by omega) v1).drew⟩;constructor<;>(first | omega | (simp only [pushS,Wz,List.length_append,YN,Yx];omega))
  ·
   clear y0 y1;go_wp2_with fail;have hlb:w3.heap.size ≠ bc:=by have:=(uh HE).off.size;omega
   replace HE:=Z9 ((uh HE).below ((ZZ _ _).alloc (Z0 _) (.cells #[.int .i64 (-1),.int .i64 1000000,.int .i64 1000001] 2)));have KL:Hid (Blk (w3.alloc (.cells #[.int .i64 (-1),.int .i64 1000000,.int .i64 1000001] 2)) w3.heap.size 2 #[.int .i64 (-1),.int .i64 1000000,.int .i64 1000001]):=Z9 (Blk.new _ _ _);generalize w3.alloc (.cells #[.int .i64 (-1),.int .i64 1000000,.int .i64 1000001] 2)=Wp at *;generalize w3.heap.size=lb at *;refine (Draw.below_any a len cap bc 3 (by omega) (by omega) _ (uh HE).st).mono ?_;rintro e w4 ⟨v5,rfl,v50,v51,s9,p9⟩;replace KL:=Z9 ((uh KL).away p9 hlb);replace HE:=Z9 ((uh HE).step s9 p9);clear s9 p9;have x5:=(uh HE).kb.cell (i:=5) (v:= .int .i64 M.now) rfl;have f5:=(uh HE).kb.free 5;obtain ⟨vv,hcell⟩:=Of (uh KL) v50 (by first | exact v51 | (simp;omega)) rfl;go_wp2_with fail;go_meet;refine ⟨_,_,_,_,_,_,_,?_,by first | exact (uh HE).now vv | exact ((uh HE).now vv).drew⟩;constructor<;>(first | omega | (simp only [pushS,Wz,List.length_append,YN,Yx];omega))
  ·
   clear y0 y1;go_wp2_with fail;refine (MF a len cap bc _ (uh HE).st).mono ?_;rintro e w4 ⟨gv,gs,rfl,_,hG⟩;have E4:=Z9 ((uh HE).step hG.st hG.off);have HP:=Z9 ((uh HE).gd hG.st hG.off hG.row);obtain ⟨ga,gc,rfl⟩:=RecAt.shape hG.row;have x1:=(uh E4).kb.cell (i:=1) (v:= .slice b1 M.gd.length q1) rfl;have f1:=(uh E4).kb.free 1;clear hG;go_wp2_with fail;go_meet;refine ⟨_,_,_,_,_,_,_,?_,by first | exact uh HP | exact (uh HP).drew⟩;constructor<;>(first | omega | (simp only [pushS,Wz,List.length_append,YN,Yx];omega))
  ·
   clear y0 y1;obtain ⟨g3,hga,_,_,_,_⟩:=RecAt.view Zy (by omega) (uh HE).full.dk rfl (by omega);cases hga;have hp0:0<M.dk.length:=by omega
   have x3:=(uh HE).kb.cell (i:=3) (v:= .slice (some ⟨g3,0,none⟩) M.dk.length q3) rfl;go_wp2_with fail;refine ZK (S:=fun w'=>w'.cell? ⟨mb,3,none⟩=some (.slice (some ⟨g3,0,none⟩) M.dk.length q3)) (by kernel_rfl) (WN _ _) (by kernel_rfl) x3 (fun hHeld=> ?_);simp only [WO,WR,YN,Yx,Nat.zero_add,Nat.reduceAdd]
   iterate 2 refine tz ?_
   refine tp 3 ?_;replace HE:=Z9 (uh HE).drew;generalize w3.drew=X0 at *;clear x3;refine wpAnyH_ready (rs:=[2,4]) (by kernel_rfl) (by simp) ?_;refine AllReadyH.cons rfl (fun K hK=> ?_) (AllReadyH.cons rfl (fun K hK=> ?_) AllReadyH.nil)
   ·
    go_simp;have hlb:X0.heap.size ≠ bc:=by have:=(uh HE).off.size;omega
    obtain ⟨Wp,hWp,hba,KL⟩:=Yn X0 2 #[.int .i64 0,.int .i64 500000,.int .i64 1000000000001];replace HE:=Z9 ((uh HE).below hba);rw [hWp];refine hK.out _ _ ((uh HE).kb.cell (i:=3) rfl) (fun hHeld=> ?_);clear hK K
    (try simp only [Act.put,sA,sZ,sS])
    clear hba;clear hWp;generalize X0.heap.size=lb at *;refine rd 4 rfl (fun K hK=> ?_);go_simp;refine (Draw.below_any a len cap bc 3 (by omega) (by omega) _ (uh HE).st).mono ?_;rintro e9 w5 ⟨v5,rfl,v50,v51,s9,p9⟩;replace KL:=Z9 ((uh KL).away p9 hlb);replace HE:=Z9 ((uh HE).step s9 p9);clear s9 p9;refine hK.out _ _ ((uh HE).kb.cell (i:=3) rfl) (fun hHeld=> ?_);clear hK K
    (try simp only [Act.put,sA,sZ,sS])
    obtain ⟨_,hga,_,_,hc3,hz3⟩:=RecAt.view Zy (by omega) (uh HE).full.dk rfl (by omega);cases hga;have dd:=hc3 0 (by omega) 2 _ rfl;have df:=hz3 (0*3+2);clear hc3 hz3;simp only [Nat.zero_mul,Nat.zero_add] at dd df;obtain ⟨vv,hcell⟩:=Of (uh KL) v50 (by first | exact v51 | (simp;omega)) rfl;refine tp 5 ?_;refine rd 6 rfl (fun K hK=> ?_);go_simp;refine hK.out _ _ ((uh HE).kb.cell (i:=3) rfl) (fun hHeld=> ?_);clear hK K
    (try simp only [Act.put,sA,sZ,sS])
    refine tp 7 ?_;refine tp 8 ?_;refine wpAnyH_done (by kernel_rfl) ?_ _;refine Zu rfl rfl ?_;go_simp;clear hHeld;have hq:=(uh HE).putD rfl (j:=0) (i:=2) (by omega) (by omega) (.int .i64 vv) ((Z8 M.dk 0).1,(Z8 M.dk 0).2.1,vv) rfl;simp only [Nat.zero_mul,Nat.zero_add] at hq;go_wp2_with fail;go_meet;refine ⟨_,_,_,_,_,_,_,?_,by first | exact hq | exact (hq).drew⟩;constructor<;>(first | omega | (simp only [pushS,Wz,List.length_append,YN,Yx];omega))
   ·
    go_simp;refine (Draw.below_any a len cap bc 3 (by omega) (by omega) _ (uh HE).st).mono ?_;rintro e9 w5 ⟨v5,rfl,v50,v51,s9,p9⟩;replace HE:=Z9 ((uh HE).step s9 p9);clear s9 p9;refine hK.out _ _ ((uh HE).kb.cell (i:=3) rfl) (fun hHeld=> ?_);clear hK K
    (try simp only [Act.put,sA,sZ,sS])
    refine rd 2 rfl (fun K hK=> ?_);go_simp;have hlb:w5.heap.size ≠ bc:=by have:=(uh HE).off.size;omega
    obtain ⟨Wp,hWp,hba,KL⟩:=Yn w5 2 #[.int .i64 0,.int .i64 500000,.int .i64 1000000000001];replace HE:=Z9 ((uh HE).below hba);rw [hWp];refine hK.out _ _ ((uh HE).kb.cell (i:=3) rfl) (fun hHeld=> ?_);clear hK K
    (try simp only [Act.put,sA,sZ,sS])
    clear hba;clear hWp;generalize w5.heap.size=lb at *;obtain ⟨_,hga,_,_,hc3,hz3⟩:=RecAt.view Zy (by omega) (uh HE).full.dk rfl (by omega);cases hga;have dd:=hc3 0 (by omega) 2 _ rfl;have df:=hz3 (0*3+2);clear hc3 hz3;simp only [Nat.zero_mul,Nat.zero_add] at dd df;obtain ⟨vv,hcell⟩:=Of (uh KL) v50 (by first | exact v51 | (simp;omega)) rfl;refine tp 5 ?_;refine rd 6 rfl (fun K hK=> ?_);go_simp;refine hK.out _ _ ((uh HE).kb.cell (i:=3) rfl) (fun hHeld=> ?_);clear hK K
    (try simp only [Act.put,sA,sZ,sS])
    refine tp 7 ?_;refine tp 8 ?_;refine wpAnyH_done (by kernel_rfl) ?_ _;refine Zu rfl rfl ?_;go_simp;clear hHeld;have hq:=(uh HE).putD rfl (j:=0) (i:=2) (by omega) (by omega) (.int .i64 vv) ((Z8 M.dk 0).1,(Z8 M.dk 0).2.1,vv) rfl;simp only [Nat.zero_mul,Nat.zero_add] at hq;go_wp2_with fail;go_meet;refine ⟨_,_,_,_,_,_,_,?_,by first | exact hq | exact (hq).drew⟩;constructor<;>(first | omega | (simp only [pushS,Wz,List.length_append,YN,Yx];omega))
 case rest=>
 obtain ⟨M9,u0,u1,u2,u3,u4,rq9,⟨hm1,hm2⟩,hE9⟩:=hcut;have Hm1:=Z9 hm1;have Hm2:=Z9 hm2;clear hm1 hm2;have k6:=hE9.full.smy;obtain ⟨c0,r0,c1,r1,c2,r2,c3,r3,c4,r4,rfl,rfl,rfl,rfl,rfl,_,_,_,_,_,_,_,_,_,_⟩:=k6.five;have H9:=Z9 hE9;clear hE9 k6 HE Hok;have x0:=(uh H9).kb.cell (i:=0) (v:= .slice c0 M9.rm.length r0) rfl;have o0:=(uh H9).kr.cell (i:=0) (v:= .slice none 0 0) rfl;have f0:=(uh H9).kr.free 0;have x1:=(uh H9).kb.cell (i:=1) (v:= .slice c1 M9.gd.length r1) rfl;have o1:=(uh H9).kr.cell (i:=1) (v:= .slice none 0 0) rfl;have f1:=(uh H9).kr.free 1;have x2:=(uh H9).kb.cell (i:=2) (v:= .slice c2 M9.sm.length r2) rfl;have o2:=(uh H9).kr.cell (i:=2) (v:= .slice none 0 0) rfl;have f2:=(uh H9).kr.free 2;have x3:=(uh H9).kb.cell (i:=3) (v:= .slice c3 M9.dk.length r3) rfl;have o3:=(uh H9).kr.cell (i:=3) (v:= .slice none 0 0) rfl;have f3:=(uh H9).kr.free 3;have x4:=(uh H9).kb.cell (i:=4) (v:= .slice c4 M9.pc.length r4) rfl;have o4:=(uh H9).kr.cell (i:=4) (v:= .slice none 0 0) rfl;have f4:=(uh H9).kr.free 4;have x5:=(uh H9).kb.cell (i:=5) (v:= .int .i64 M9.now) rfl;have o5:=(uh H9).kr.cell (i:=5) (v:= .int .i64 0) rfl;have f5:=(uh H9).kr.free 5;have hml:=(uh H9).mlo;go_wp2_with fail;refine ZE (v:= .agg (S6 c0 r0 c1 r1 c2 r2 c3 r3 c4 r4 M9)) (by simp [results,results74,go_sem, *]) rfl ⟨M9,_,_,_,_,_,rq9,rfl,uh Hm1,uh Hm2,?_,?_,?_⟩
 ·iterate 6 (refine FullSmy.set_off ?_ (fun k e=>by have:=((uh H9).full.own e).1;omega) _ _)
  exact (uh H9).full
 ·iterate 6 (refine St.newer ?_ (by omega) _ _)
  exact (uh H9).st
 ·iterate 6 (refine Off.newer ?_ (by omega) _ _)
  exact (uh H9).off
end Go.Proofs.YtlcpgkakdieeaaaGreat
namespace Go.Proofs.YtlcpgkakdieeaaaGreat
open Go.ChangeShapes Go.WideShapes Go.ChangeAt Go.RowKit Go.Sort Go.Proofs.Tryz
open Draw (St Off Row Cur)
set_option linter.unusedVariables false
set_option linter.unusedSimpArgs false
set_option maxRecDepth 100000
section
variable {a : Option Addr} {len cap bc : Nat} {w0 w : World} {mb : Nat} {M : Z6} {u0 u1 u3 u4 : Value} {rq : List (ZW × Value)}
theorem Ebox.putS {g n c:Nat} (h:Ebox a len cap bc w0 w mb M u0 u1 (.slice (some ⟨g,0,none⟩) n c) u3 u4 rq) (hn:n=M.sm.length) {j i:Nat} (hj:j<M.sm.length) (hi:i<11) (u:Value) (x:Z2) (hx:ZS x=(ZS (Z8 M.sm j)).set i u):Ebox a len cap bc w0 (w.setCell ⟨g,j*11+i,none⟩ u) mb { M with sm:=M.sm.set j x } u0 u1 (.slice (some ⟨g,0,none⟩) n c) u3 u4 rq:=by
 have hb:=h.bl;have hg:=(h.full.own (k:=g) (.inr (.inr (.inr (.inl rfl))))).1;have hgm:=h.own g (.inr (.inr (.inr (.inl rfl))));exact ⟨St.newer h.st (by omega) _ _,Off.newer h.off (by omega) _ _,h.full.putS hn hj hi u x hx,h.kb.other (by show mb ≠ g;omega) _,h.kr.other (by show w0.heap.size ≠ g;omega) _,h.own,h.mlo,h.bl⟩
end
theorem Jc (a:Option Addr) (len cap bc:Nat) (w:World) (hs:St a len cap bc w) :
  Calls prog 35 #[.pointer (some ⟨bc,0,none⟩)] w fun e w'=> ∃ M u0 u1 u2 u3 u4 rq,e= .returned (.agg #[u0,u1,u2,u3,u4,.int .i64 M.now])/\FullSmy (w.heap.size+1) w' u0 u1 u2 u3 u4 M rq/\St a len cap bc w'/\Off bc w w':=by
 have Hs:=Z9 hs;have hbc:=V0 hs;clear hs;go_enter func35,ntmps35;go_wp2_with fail;have kr:Hid (Blk (w.alloc (.cells E6 32)) w.heap.size 32 E6):=Z9 (Blk.new _ _ _);have HO:Hid (Off bc w (w.alloc (.cells E6 32))):=Z9 ((Off.refl _ _).alloc _);replace Hs:Hid (St a len cap bc (w.alloc (.cells E6 32))):=Z9 ((uh Hs).alloc _);have hzW:w.heap.size+1<=(w.alloc (.cells E6 32)).heap.size:=by simp
 generalize w.alloc (.cells E6 32)=W at *;refine (NR a len cap bc _ (uh Hs)).mono ?_;rintro e w1 ⟨M,u0,u1,u2,u3,u4,rq,rfl,hm2,hm3,hf,s9,p9⟩;have k6:=hf.smy;obtain ⟨b0,q0,b1,q1,b2,q2,b3,q3,b4,q4,rfl,rfl,rfl,rfl,rfl,_,_,_,_,_,_,_,_,_,_⟩:=k6.five;have hba:Below w1.heap.size w1 (w1.alloc (.cells (S6 b0 q0 b1 q1 b2 q2 b3 q3 b4 q4 M) 32)):=ba _ _
 have HE:Hid (Ebox a len cap bc w (w1.alloc (.cells (S6 b0 q0 b1 q1 b2 q2 b3 q3 b4 q4 M) 32)) w1.heap.size M (.slice b0 M.rm.length q0) (.slice b1 M.gd.length q1) (.slice b2 M.sm.length q2) (.slice b3 M.dk.length q3) (.slice b4 M.pc.length q4) rq):=Z9 (by
  have hz:=p9.size;have hbl:bc<w.heap.size:=hbc
  exact ⟨XU s9 (hba.mono (V0 s9)),((uh HO).trans p9).trans (TF hba),(hf.mono (by omega)).below hba,Blk.new _ _ _,((uh kr).away p9 (by omega)).alloc _,fun k e=>by have:=(hf.own e).2;omega,by omega,hbl⟩)
 have hsl:M.sm.length<=1000:=hm2.1;clear k6 hf s9 p9 HO kr Hs hm2 hm3 hzW hba;go_upto_region 2 with fail;generalize w1.alloc (.cells (S6 b0 q0 b1 q1 b2 q2 b3 q3 b4 q4 M) 32)=W1 at *;generalize w1.heap.size=mb at *;obtain ⟨okb,hok⟩:=ZL (ZI M);obtain ⟨x0,x1,x2,x3,x4,x5⟩:=(uh HE).kb.c6;go_wp2_with fail;refine ck (Wn hok (uh HE).full.smy) fun w2 hb=> ?_;replace HE:=Z9 ((uh HE).below hb);clear hb x0 x1 x2 x3 x4 x5;cases okb
 ·clear hok
  obtain ⟨x0,x1,x2,x3,x4,x5⟩:=(uh HE).kb.c6;obtain ⟨o0,o1,o2,o3,o4,o5⟩:=(uh HE).kr.c6;obtain ⟨f0,f1,f2,f3,f4,f5⟩:=(uh HE).kr.f6;have hml:=(uh HE).mlo;have hbl:=(uh HE).bl;go_wp2_with fail;refine ZE (v:= .agg (S6 b0 q0 b1 q1 b2 q2 b3 q3 b4 q4 M)) (by simp [results,results35,go_sem, *]) rfl ⟨M,_,_,_,_,_,rq,rfl,?_,?_,?_⟩
  ·iterate 6 (refine FullSmy.set_off ?_ (fun k e=>by have:=((uh HE).full.own e).1;omega) _ _)
   exact (uh HE).full
  ·iterate 6 (refine St.newer ?_ (by omega) _ _)
   exact (uh HE).st
  ·iterate 6 (refine Off.newer ?_ (by omega) _ _)
   exact (uh HE).off
 have HLo:=Z9 (ZM hok);clear hok;obtain ⟨x0,x1,x2,x3,x4,x5⟩:=(uh HE).kb.c6;go_wp2_with fail;clear x0 x1 x2 x3 x4 x5;refine (Draw.once_any a len cap bc 2 (by omega) (by omega) _ (uh HE).st).mono ?_;rintro e w3 ⟨bq,rfl,s9,p9⟩;replace HE:=Z9 ((uh HE).step s9 p9);clear s9 p9 HLo
 go_upto_if 12 with fail
 go_cut [] (fun wc=> ∃ M':Z6,M'.rm.length=M.rm.length/\M'.gd.length=M.gd.length/\M'.sm.length=M.sm.length/\M'.dk.length=M.dk.length/\M'.pc.length=M.pc.length/\Ebox a len cap bc w wc mb M' (.slice b0 M.rm.length q0) (.slice b1 M.gd.length q1) (.slice b2 M.sm.length q2) (.slice b3 M.dk.length q3) (.slice b4 M.pc.length q4) rq)
 case first=>
  cases bq
  ·go_wp2_with fail
   go_meet;exact ⟨M,rfl,rfl,rfl,rfl,rfl,uh HE⟩
  go_wp2_with fail
  go_loopw [4] (fun i wr=> ∃ (k:Nat) (M':Z6),k<=M.sm.length/\i= .int .i64 k/\(M'.rm.length=M.rm.length/\M'.gd.length=M.gd.length/\M'.sm.length=M.sm.length/\M'.dk.length=M.dk.length/\M'.pc.length=M.pc.length)/\Ebox a len cap bc w wr mb M' (.slice b0 M.rm.length q0) (.slice b1 M.gd.length q1) (.slice b2 M.sm.length q2) (.slice b3 M.dk.length q3) (.slice b4 M.pc.length q4) rq) (fun i _=>M.sm.length-(intOf i).toNat)
  case atStart=>exact ⟨0,M,ZC _,rfl,⟨rfl,rfl,rfl,rfl,rfl⟩,uh HE⟩
  case round=>
   obtain ⟨k,M',hk,rfl,hl,hE⟩:=hrel;have hl3:=hl.2.2.1;have Hl:=Z9 hl;clear HE hl;have HE:=Z9 hE;clear hE;have x2:=(uh HE).kb.cell (i:=2) (v:= .slice b2 M.sm.length q2) rfl;by_cases hlt:k<M.sm.length;rotate_left
   ·obtain rfl:k=M.sm.length:=by omega
    have Hl3:=Z9 hl3;clear hl3;go_wp2_with fail;go_meet;exact ⟨M',(uh Hl).1,(uh Hl).2.1,(uh Hl).2.2.1,(uh Hl).2.2.2.1,(uh Hl).2.2.2.2,uh HE⟩
   have hlt1:(k:Int)<(M.sm.length:Int):=by omega
   have hkm:k<M'.sm.length:=by omega
   obtain ⟨g2,hga,_,_,hc2,hz2⟩:=RecAt.view ZT (by omega) (uh HE).full.sm hl3.symm (by omega);cases hga;obtain ⟨st,hst⟩:=ZL ((Z8 M'.sm k).1);have d0:=hc2 k hkm 0 (.int .i64 st) (by rw [<-hst];rfl);simp only [Nat.add_zero] at d0;have Hl3:=Z9 hl3;clear hc2 hz2 hl3 hst;by_cases h0:st=0
   ·subst h0
    go_wp2_with fail;go_roundw
    case rel=>exact ⟨k+1,M',by omega,by go_num,uh Hl,uh HE⟩
    case measure=>exact ms
   have h0b:(st !=0)=true:=by simpa using h0
   have h0c:(st ==0)=false:=beq_eq_false_iff_ne.mpr h0;go_upto_region 7 with fail;clear d0 h0b h0c h0;refine ZK (S:=fun w'=>w'.cell? ⟨mb,2,none⟩=some (.slice (some ⟨g2,0,none⟩) M.sm.length q2)) (by kernel_rfl) (WN _ _) (by kernel_rfl) x2 (fun hHeld=> ?_);simp only [WO,WR,YN,Yx,Nat.zero_add,Nat.reduceAdd]
   iterate 4 refine tz ?_
   refine rd 4 rfl (fun K hK=> ?_);go_simp;refine (Draw.below_any a len cap bc 1025 (by omega) (by omega) _ (RZ (uh HE).st)).mono ?_;rintro e9 w5 ⟨v1,rfl,v10,v11,s9,p9⟩;replace HE:=Z9 ((uh HE).step s9 (TN p9));clear s9 p9 x2;refine hK.out _ _ ((uh HE).kb.cell (i:=2) rfl) (fun hHeld=> ?_);clear hK K
   (try simp only [Act.put,sA,sZ,sS])
   refine tp 5 ?_;refine tp 6 ?_;obtain ⟨_,hga,_,_,hc3,hz3⟩:=RecAt.view ZT (by omega) (uh HE).full.sm (uh Hl3).symm (by omega);cases hga;have dd:=hc3 k hkm 9 _ rfl;have df:=hz3 (k*11+9);clear hc3 hz3;refine wpAnyH_done (by kernel_rfl) ?_ _;refine Zu rfl rfl ?_;go_simp;clear hHeld;have HP:=Z9 ((uh HE).putS (uh Hl3).symm hkm (i:=9) (by omega) (.int .i64 v1) ((Z8 M'.sm k).1,(Z8 M'.sm k).2.1,(Z8 M'.sm k).2.2.1,(Z8 M'.sm k).2.2.2.1,(Z8 M'.sm k).2.2.2.2.1,(Z8 M'.sm k).2.2.2.2.2.1,(Z8 M'.sm k).2.2.2.2.2.2.1,(Z8 M'.sm k).2.2.2.2.2.2.2.1,(Z8 M'.sm k).2.2.2.2.2.2.2.2.1,v1,(Z8 M'.sm k).2.2.2.2.2.2.2.2.2.2) rfl);go_wp2_with fail;go_roundw
   case rel=>
    refine ⟨k+1,_,by omega,by go_num,?_,uh HP⟩;exact ⟨(uh Hl).1,(uh Hl).2.1,by simpa using uh Hl3,(uh Hl).2.2.2.1,(uh Hl).2.2.2.2⟩
   case measure=>exact ms
 case rest=>
  obtain ⟨M',h0,h1,h2,h3,h4,hE⟩:=hcut;clear HE;have HE:=Z9 hE;clear hE h0 h1 h2 h3 h4;obtain ⟨x0,x1,x2,x3,x4,x5⟩:=(uh HE).kb.c6;obtain ⟨o0,o1,o2,o3,o4,o5⟩:=(uh HE).kr.c6;obtain ⟨f0,f1,f2,f3,f4,f5⟩:=(uh HE).kr.f6;have hml:=(uh HE).mlo;have hbl:=(uh HE).bl;go_wp2_with fail;refine ZE (v:= .agg #[.slice b0 M.rm.length q0,.slice b1 M.gd.length q1,.slice b2 M.sm.length q2,.slice b3 M.dk.length q3,.slice b4 M.pc.length q4,.int .i64 M'.now]) (by simp [results,results35,go_sem, *]) rfl ⟨M',_,_,_,_,_,rq,rfl,?_,?_,?_⟩
  ·iterate 6 (refine FullSmy.set_off ?_ (fun k e=>by have:=((uh HE).full.own e).1;omega) _ _)
   exact (uh HE).full
  ·iterate 6 (refine St.newer ?_ (by omega) _ _)
   exact (uh HE).st
  ·iterate 6 (refine Off.newer ?_ (by omega) _ _)
   exact (uh HE).off
theorem Sh (a:Option Addr) (len cap:Nat) (w:World) (hr:Row w.heap.size w a len) :
  Calls prog 9 #[.slice a len cap] w fun e w'=> ∃ M u0 u1 u2 u3 u4 rq,e= .returned (.agg #[u0,u1,u2,u3,u4,.int .i64 M.now])/\FullSmy (w.heap.size+1) w' u0 u1 u2 u3 u4 M rq/\Below w.heap.size w w':=by
 have Hr:=Z9 (Draw.row_later hr ((ZZ _ _).alloc (Z0 _) (.cells E6 32)));clear hr;go_enter func9,ntmps9;go_wp2_with fail;have kr:Hid (Blk (w.alloc (.cells E6 32)) w.heap.size 32 E6):=Z9 (Blk.new _ _ _);have BB:Hid (Below w.heap.size w (w.alloc (.cells E6 32))):=Z9 ((ba _ _));have hzW:w.heap.size<(w.alloc (.cells E6 32)).heap.size:=by simp
 generalize w.alloc (.cells E6 32)=W at *;refine (Draw.new_any a len cap _ (uh Hr)).mono ?_;rintro e w1 ⟨rfl,s1,o1⟩;have Hs:=Z9 s1;replace kr:=Z9 ((uh kr).away o1 (by omega));replace BB:=Z9 ((uh BB).trans (o1.below (by omega) (uh BB).size));clear s1 o1 Hr;generalize W.heap.size=cb at *;go_wp2_with fail;refine (Jc a len cap cb _ (uh Hs)).mono ?_;rintro e w2 ⟨M,u0,u1,u2,u3,u4,rq,rfl,hf,s2,o2⟩;have hws:=(uh kr).lt;have hc1:=V0 (uh Hs);replace kr:=Z9 ((uh kr).away o2 (by omega));replace BB:=Z9 ((uh BB).trans (o2.below (by omega) (uh BB).size));clear s2 o2 Hs;obtain ⟨b0,q0,b1,q1,b2,q2,b3,q3,b4,q4,rfl,rfl,rfl,rfl,rfl,_⟩:=hf.smy.five;have HF:=Z9 hf;clear hf;obtain ⟨o0,o1,o2,o3,o4,o5⟩:=(uh kr).c6;obtain ⟨f0,f1,f2,f3,f4,f5⟩:=(uh kr).f6;go_wp2_with fail;refine ZE (v:= .agg (S6 b0 q0 b1 q1 b2 q2 b3 q3 b4 q4 M)) (by simp [results,results9,go_sem, *]) rfl ⟨M,_,_,_,_,_,rq,rfl,?_,?_⟩
 ·iterate 6 (refine FullSmy.set_off ?_ (fun k e=>by have:=((uh HF).own e).1;omega) _ _)
  exact (uh HF).mono (by omega)
 ·iterate 6 (refine XI ?_ (by show w.heap.size<=w.heap.size;omega) _)
  exact uh BB
theorem TI (a:Option Addr) (len cap:Nat) (w:World) (hr:Row w.heap.size w a len) :
  Calls prog 7 #[.slice a len cap] w fun e w'=> ∃ M u0 u1 u2 u3 u4 rq,e= .returned (.agg #[u0,u1,u2,u3,u4,.int .i64 M.now])/\FullSmy (w.heap.size+1) w' u0 u1 u2 u3 u4 M rq/\Below w.heap.size w w':=by
 have hb0:Below w.heap.size w (w.alloc (.cells E6 32)):=ba _ _;have Hr:=Z9 (Draw.row_later hr hb0);have hsz:(w.alloc (.cells E6 32)).heap.size=w.heap.size+1:=Yy _ _;clear hr;go_enter func7,ntmps7;go_wp2_with fail;have kr:Hid (Blk (w.alloc (.cells E6 32)) w.heap.size 32 E6):=Z9 (Blk.new _ _ _);have BB:=Z9 hb0;clear hb0;generalize w.alloc (.cells E6 32)=W at *;refine (Sh a len cap _ (uh Hr)).mono ?_;rintro e w2 ⟨M,u0,u1,u2,u3,u4,rq,rfl,hf,hb⟩;replace kr:=bl kr hb;replace BB:=bt BB hb;clear hb Hr;obtain ⟨b0,q0,b1,q1,b2,q2,b3,q3,b4,q4,rfl,rfl,rfl,rfl,rfl,_⟩:=hf.smy.five;have HF:=Z9 hf;clear hf;obtain ⟨o0,o1,o2,o3,o4,o5⟩:=(uh kr).c6;obtain ⟨f0,f1,f2,f3,f4,f5⟩:=(uh kr).f6;go_wp2_with fail;refine ZE (v:= .agg (S6 b0 q0 b1 q1 b2 q2 b3 q3 b4 q4 M)) (by simp [results,results7,go_sem, *]) rfl ⟨M,_,_,_,_,_,rq,rfl,?_,?_⟩
 ·iterate 6 (refine FullSmy.set_off ?_ (fun k e=>by have:=((uh HF).own e).1;omega) _ _)
  exact (uh HF).mono (by omega)
 ·exact Below.put6 _ _ _ _ _ _ (uh BB) (Z0 _)
end Go.Proofs.YtlcpgkakdieeaaaGreat
namespace Go.Proofs.YtlcpgkakdieeaaaGreat
open Go.ChangeShapes Go.WideShapes Go.ChangeAt Go.RowKit Go.Sort Go.Shelf Go.Proofs.Tryz
open Draw (Row Rz GR row_later Kz FY)
set_option linter.unusedVariables false
set_option linter.unusedSimpArgs false
set_option maxRecDepth 100000
theorem OM {x y:Int} {f:Bool} (h:SP none= .tuple #[.int .i64 x,.int .i64 y,.bool f]):0=x/\0=y/\false=f:=by
 simp only [SP] at h
 injection h with h
 injection h with h
 simpa using h
theorem ON {a b:Nat} {x y:Int} {f:Bool} (h:SP (some (a,b))= .tuple #[.int .i64 x,.int .i64 y,.bool f]):(a:Int)=x/\(b:Int)=y/\true=f:=by
 simp only [SP] at h
 injection h with h
 injection h with h
 simpa using h
theorem OR (a0:Option Addr) (len0 cap0:Nat) (z0:List Int) (w:World) (w0:Rz .u8 w a0 len0 cap0 z0) :
  cB 3 #[.slice a0 len0 cap0] w (.bool true):=by
 by_cases hbig:4096<len0
 ·go_enter func3,ntmps3
  go_wp2_with fail;refine (Kz _ _ _ _ hbig).mono ?_;rintro e w' ⟨rfl,rfl⟩;go_wp2_with fail;go_ret;exact ⟨rfl,ZZ _ _⟩
 have Hr:=Z9 (GR w0 (by omega));clear w0;go_enter func3,ntmps3;go_wp2_with fail;refine (FY _ _ _ _ (by omega)).mono ?_;rintro e w' ⟨rfl,hw'⟩;subst w';go_wp2_with fail;refine (TI _ _ _ _ (uh Hr)).mono ?_;rintro e w1 ⟨M,u0,u1,u2,u3,u4,rq,rfl,hm,hb⟩;obtain ⟨b0,q0,b1,q1,b2,q2,b3,q3,b4,q4,rfl,rfl,rfl,rfl,rfl,K⟩:=Bx.put (w:=w) hm.smy hb;clear hm hb;go_upto_region 4 with fail;generalize w1.alloc (.cells (S6 b0 q0 b1 q1 b2 q2 b3 q3 b4 q4 M) 32)=W1 at *;generalize w1.heap.size=mb at *;obtain ⟨X,hX⟩:=ZL (Za M);have HI:=Z9 (Vz K.smy);rw [hX] at HI;have HX:=Z9 hX;clear hX;obtain ⟨x0,x1,x2,x3,x4,x5⟩:=K.cells;go_wp2_with fail;clear x0 x1 x2 x3 x4 x5;refine (uh HI).mono ?_;rintro e w2 ⟨⟨y0,y1,y2,y3,y4,oq,rfl,ho⟩,hb⟩;replace K:=K.next hb;obtain ⟨c0,r0,c1,r1,c2,r2,c3,r3,c4,r4,rfl,rfl,rfl,rfl,rfl,KX⟩:=Bx.put (w:=w) ho.smy K.bb;replace K:=K.alloc (.cells (S6 c0 r0 c1 r1 c2 r2 c3 r3 c4 r4 X) 32);clear ho hb HI;go_upto_region 5 with fail;generalize w2.alloc (.cells (S6 c0 r0 c1 r1 c2 r2 c3 r3 c4 r4 X) 32)=W2 at *;generalize w2.heap.size=xb at *;have Hr2:=Z9 (row_later (uh Hr) K.bb);go_wp2_with fail;refine (Sh _ _ _ _ (uh Hr2)).mono ?_;rintro e w3 ⟨Q,u0,u1,u2,u3,u4,oq,rfl,hq,hb⟩;replace K:=K.next hb;replace KX:=KX.next hb;obtain ⟨d0,t0,d1,t1,d2,t2,d3,t3,d4,t4,rfl,rfl,rfl,rfl,rfl,KQ⟩:=Bx.put (w:=w) hq.smy K.bb;replace K:=K.alloc (.cells (S6 d0 t0 d1 t1 d2 t2 d3 t3 d4 t4 Q) 32);replace KX:=KX.alloc (.cells (S6 d0 t0 d1 t1 d2 t2 d3 t3 d4 t4 Q) 32);clear hq hb Hr Hr2;go_upto_region 6 with fail;generalize w3.alloc (.cells (S6 d0 t0 d1 t1 d2 t2 d3 t3 d4 t4 Q) 32)=W3 at *;generalize w3.heap.size=qb at *;obtain ⟨xm,ym,fm,htm⟩:=DE (Zb Q);obtain ⟨xw,yw,fw,htw⟩:=DE (YZ Q);have Htm:=Z9 htm;have Htw:=Z9 htw;clear htm htw;obtain ⟨x0,x1,x2,x3,x4,x5⟩:=KQ.cells;go_wp2_with fail;clear x0 x1 x2 x3 x4 x5;refine ck (KP (uh Htm) KQ.smy) fun w4 hb=> ?_;replace K:=K.next hb;replace KX:=KX.next hb;replace KQ:=KQ.next hb;clear hb;obtain ⟨x0,x1,x2,x3,x4,x5⟩:=KQ.cells;go_wp2_with fail;clear x0 x1 x2 x3 x4 x5;refine ck (MC (uh Htw) KQ.smy) fun w5 hb=> ?_;replace K:=K.next hb;replace KX:=KX.next hb;replace KQ:=KQ.next hb;clear hb;go_upto_region 8 with fail;obtain ⟨x0,x1,x2,x3,x4,x5⟩:=K.cells;obtain ⟨y0,y1,y2,y3,y4,y5⟩:=KX.cells;have km:=Z9 K.blk;have Hv:=Z9 K.smy;have kx:=Z9 KX.blk;have Hx:=Z9 KX.smy;have BB:=Z9 K.bb;clear K KX;refine ZK (S:=fun w'=>w'.cell? ⟨xb,0,none⟩=some (.slice c0 X.rm.length r0)/\w'.cell? ⟨xb,1,none⟩=some (.slice c1 X.gd.length r1)/\w'.cell? ⟨xb,2,none⟩=some (.slice c2 X.sm.length r2)/\w'.cell? ⟨xb,3,none⟩=some (.slice c3 X.dk.length r3)/\w'.cell? ⟨xb,4,none⟩=some (.slice c4 X.pc.length r4)/\w'.cell? ⟨xb,5,none⟩=some (.int .i64 X.now)/\w'.cell? ⟨mb,0,none⟩=some (.slice b0 M.rm.length q0)/\w'.cell? ⟨mb,1,none⟩=some (.slice b1 M.gd.length q1)/\w'.cell? ⟨mb,2,none⟩=some (.slice b2 M.sm.length q2)/\w'.cell? ⟨mb,3,none⟩=some (.slice b3 M.dk.length q3)/\w'.cell? ⟨mb,4,none⟩=some (.slice b4 M.pc.length q4)/\w'.cell? ⟨mb,5,none⟩=some (.int .i64 M.now)) (by kernel_rfl) (WN _ _) (by kernel_rfl) ⟨y0,y1,y2,y3,y4,y5,x0,x1,x2,x3,x4,x5⟩ (fun hHeld=> ?_)
 simp only [WO,WR,YN,Yx,Nat.zero_add,Nat.reduceAdd];clear x0 x1 x2 x3 x4 x5;clear y0 y1 y2 y3 y4 y5;have hb:Below w5.heap.size w5 w5.drew:=(ZZ _ _).drew;replace km:=bl km hb;replace Hv:=Z9 ((uh Hv).below hb);replace Hx:=Z9 ((uh Hx).below hb);replace kx:=bl kx hb;replace BB:=bt BB hb;replace KQ:=KQ.next hb;clear hb;generalize w5.drew=w5d at *
 iterate 2 refine tz ?_
 refine rd 2 rfl (fun K hK=> ?_);go_simp;have hS:=VH (uh Hv);rw [uh HX] at hS;refine hS.mono ?_;rintro e9 w5e ⟨⟨z0,z1,z2,z3,z4,zq,rfl,ho⟩,hb⟩;have k9:=ho.smy;obtain ⟨d0,t0,d1,t1,d2,t2,d3,t3,d4,t4,rfl,rfl,rfl,rfl,rfl,_,_,_,_,_,_,_,_,_,_⟩:=k9.five;have Hz:=Z9 k9;clear ho k9 hS;replace km:=bl km hb;replace Hv:=Z9 ((uh Hv).below hb);replace Hx:=Z9 ((uh Hx).below hb);replace kx:=bl kx hb;replace BB:=bt BB hb;replace KQ:=KQ.next hb;clear hb;refine hK.out _ _ ⟨(uh kx).cell (i:=0) rfl,(uh kx).cell (i:=1) rfl,(uh kx).cell (i:=2) rfl,(uh kx).cell (i:=3) rfl,(uh kx).cell (i:=4) rfl,(uh kx).cell (i:=5) rfl,(uh km).cell (i:=0) rfl,(uh km).cell (i:=1) rfl,(uh km).cell (i:=2) rfl,(uh km).cell (i:=3) rfl,(uh km).cell (i:=4) rfl,(uh km).cell (i:=5) rfl⟩ (fun hHeld=> ?_);clear hK K
 (try simp only [Act.put,sA,sZ,sS])
 refine rd 3 rfl (fun K hK=> ?_);go_simp;refine ck (VW (uh Hx) (uh Hz)) fun w5f hb=> ?_;replace km:=bl km hb;replace Hv:=Z9 ((uh Hv).below hb);replace Hx:=Z9 ((uh Hx).below hb);replace kx:=bl kx hb;replace BB:=bt BB hb;replace KQ:=KQ.next hb;clear hb;refine hK.out _ _ ⟨(uh kx).cell (i:=0) rfl,(uh kx).cell (i:=1) rfl,(uh kx).cell (i:=2) rfl,(uh kx).cell (i:=3) rfl,(uh kx).cell (i:=4) rfl,(uh kx).cell (i:=5) rfl,(uh km).cell (i:=0) rfl,(uh km).cell (i:=1) rfl,(uh km).cell (i:=2) rfl,(uh km).cell (i:=3) rfl,(uh km).cell (i:=4) rfl,(uh km).cell (i:=5) rfl⟩ (fun hHeld=> ?_);clear hK K
 (try simp only [Act.put,sA,sZ,sS])
 refine wpAnyH_done (by kernel_rfl) ?_ _;refine Zu rfl rfl ?_;go_simp;clear hHeld;have K:Bx w w5f mb b0 q0 b1 q1 b2 q2 b3 q3 b4 q4 M:=⟨uh Hv,uh km,uh BB⟩
 have KX:Bx w w5f xb c0 r0 c1 r1 c2 r2 c3 r3 c4 r4 X:=⟨uh Hx,uh kx,uh BB⟩
 clear Hz Hv km Hx kx BB;obtain ⟨x0,x1,x2,x3,x4,x5⟩:=KQ.cells;go_wp2_with fail;clear x0 x1 x2 x3 x4 x5;refine ck (Li (uh Htm) KQ.smy) fun w6 hb=> ?_;replace K:=K.next hb;replace KX:=KX.next hb;replace KQ:=KQ.next hb;clear hb;obtain ⟨x0,x1,x2,x3,x4,x5⟩:=KQ.cells;have hff:(fm !=fm)=false:=bne_self_eq_false fm;have hfw:(fw !=fw)=false:=bne_self_eq_false fw;go_wp2_with (first | rw [hff] | fail)
 clear x0 x1 x2 x3 x4 x5;refine ck (MY (uh Htw) KQ.smy) fun w7 hb=> ?_;replace K:=K.next hb;replace KX:=KX.next hb;replace KQ:=KQ.next hb;clear hb;go_upto_region 16 with (first | rw [hfw] | fail)
 clear hff hfw
 go_cut [132] (fun s wc=>s= .bool false/\Below w7.heap.size w7 wc)
 case first=>
  clear K KX HX;have HS:=Z9 (fun (X:World) (hX:Below w7.heap.size w7 X)=>KQ.smy.below hX);have HBB:=Z9 (fun (X:World)=>(rfl:X=X));obtain ⟨c0x,c1x,c2x,c3x,c4x,c5x⟩:=KQ.cells;have k0:=ZY c0x;have k1:=ZY c1x;have k2:=ZY c2x;have k3:=ZY c3x;have k4:=ZY c4x;have k5:=ZY c5x;obtain ⟨rm,hrm⟩:=ZL (Zb Q);obtain ⟨rw1,hrw⟩:=ZL (YZ Q);rw [hrm] at Htm;rw [hrw] at Htw;have Hrm:=Z9 hrm;have Hrw:=Z9 hrw;clear hrm hrw;cases rm with
  | none=>
   obtain ⟨rfl,rfl,rfl⟩:=OM (uh Htm);cases rw1 with
   | none=>
    obtain ⟨rfl,rfl,rfl⟩:=OM (uh Htw);refine wq ?_
    repeat (go_big_quiet_step (fail))
    refine wqn fun wq hbq=> ?_;go_wp2_with fail;go_meet;exact ⟨rfl,hbq⟩
   | some r2=>
    obtain ⟨wv,wc⟩:=r2;obtain ⟨rfl,rfl,rfl⟩:=ON (uh Htw);obtain ⟨hi2,hl2,hs2⟩:=Mt (uh Hrw);have HI2:=Z9 hi2;have hl2i:(wv:Int)<(Q.sm.length:Int):=by omega
    obtain ⟨_,_,hse,_,_,r9⟩:=KQ.smy.sm;cases hse
    rcases r9 with e0 | ⟨sb2,off2,h9,_,hcs⟩
    ·rw [e0] at hl2;simp at hl2
    cases h9;have z2:=hcs wv hl2 0 (.int .i64 2) (by rw [<-hs2];rfl);simp only [Nat.add_zero] at z2;have kz2:=ZY z2;clear hi2 hs2 hcs;refine wq ?_
    repeat (go_big_quiet_step (first | exact ZX (VZ (by first | exact uh HI2 | exact uh HI2) (uh HS _ (Z1 _ _ _)))))
    refine wqn fun wq hbq=> ?_;go_wp2_with fail;go_meet;exact ⟨rfl,hbq⟩
  | some r1=>
   obtain ⟨mv,mb2⟩:=r1;obtain ⟨rfl,rfl,rfl⟩:=ON (uh Htm);obtain ⟨hi1,hm1,hl1,hf1⟩:=CW (uh Hrm);have HI1:=Z9 hi1;have HMay:=Z9 hm1;have hl1i:(mv:Int)<(Q.sm.length:Int):=by omega
   obtain ⟨ow,how⟩:=ZL ((Z8 Q.sm mv).2.1);rw [how] at hf1;obtain ⟨fo,hfo⟩:=ZL (Zw Q.rm ow);obtain ⟨fb,hfb⟩:=ZL (Zw Q.rm (mb2:Int));rw [hfo,hfb] at hf1;have HF1:=Z9 hfo;have HF2:=Z9 hfb;have hle:¬ (fb<=fo):=by omega
   obtain ⟨_,_,hse,_,_,r9⟩:=KQ.smy.sm;cases hse
   rcases r9 with e0 | ⟨sb,off,h9,_,hcs⟩
   ·rw [e0] at hl1;simp at hl1
   cases h9;have z1:=hcs mv hl1 1 (.int .i64 ow) (by rw [<-how];rfl);have kz1:=ZY z1;clear hi1 hm1 hf1 how hfo hfb hcs;cases rw1 with
   | none=>
    obtain ⟨rfl,rfl,rfl⟩:=OM (uh Htw);refine wq ?_
    repeat (go_big_quiet_step (first | exact ZX (VZ (by first | exact uh HI1 | exact uh HI1) (uh HS _ (Z1 _ _ _))) | exact ZX (Vh (uh HMay) (uh HS _ (Z1 _ _ _))) | exact ZX (Calls.int_of (Ww _ (uh HS _ (Z1 _ _ _)).rm) (by first | exact uh HF1 | exact uh HF2))))
    refine wqn fun wq hbq=> ?_;go_wp2_with fail;go_meet;exact ⟨rfl,hbq⟩
   | some r2=>
    obtain ⟨wv,wc⟩:=r2;obtain ⟨rfl,rfl,rfl⟩:=ON (uh Htw);obtain ⟨hi2,hl2,hs2⟩:=Mt (uh Hrw);have HI2:=Z9 hi2;have hl2i:(wv:Int)<(Q.sm.length:Int):=by omega
    obtain ⟨_,_,hse,_,_,r9⟩:=KQ.smy.sm;cases hse
    rcases r9 with e0 | ⟨sb2,off2,h9,_,hcs⟩
    ·rw [e0] at hl2;simp at hl2
    cases h9;have z2:=hcs wv hl2 0 (.int .i64 2) (by rw [<-hs2];rfl);simp only [Nat.add_zero] at z2;have kz2:=ZY z2;clear hi2 hs2 hcs;refine wq ?_
    repeat (go_big_quiet_step (first | exact ZX (VZ (by first | exact uh HI1 | exact uh HI2) (uh HS _ (Z1 _ _ _))) | exact ZX (Vh (uh HMay) (uh HS _ (Z1 _ _ _))) | exact ZX (Calls.int_of (Ww _ (uh HS _ (Z1 _ _ _)).rm) (by first | exact uh HF1 | exact uh HF2))))
    refine wqn fun wq hbq=> ?_;go_wp2_with fail;go_meet;exact ⟨rfl,hbq⟩
 case rest=>
  obtain ⟨rfl,hb⟩:=hcut;replace K:=K.next hb;replace KX:=KX.next hb;clear hb KQ Htm Htw;obtain ⟨ok,Hok⟩:=Yt (ZI M);obtain ⟨x0,x1,x2,x3,x4,x5⟩:=K.cells;cases ok
  ·
   obtain rfl:X=XH:=by rw [<-uh HX];unfold Za;rw [uh Hok];rfl
   go_wp2_with fail;refine ck (Wn (uh Hok) K.smy) fun w8 hb=> ?_;replace KX:=KX.next hb;clear hb K x0 x1 x2 x3 x4 x5;obtain ⟨y0,y1,y2,y3,y4,y5⟩:=KX.cells;go_wp2_with fail;refine ck (VW KX.smy (Vx 0 _).smy) fun w9 hb=> ?_;replace KX:=KX.next hb;clear hb y0 y1 y2 y3 y4 y5;go_wp2_with fail;go_ret;exact ⟨rfl,KX.bb⟩
  have hXl:X=XX M:=by rw [<-uh HX];unfold Za;rw [uh Hok];rfl
  have HR:Hid (ZI X=true/\Za X=X):=Z9 (by rw [hXl];exact ⟨Up (uh Hok),Jh (uh Hok)⟩);have HD:Hid (Yf X=none):=Z9 (by rw [hXl];exact LQ M);clear hXl HX;go_wp2_with fail;refine ck (Wn (uh Hok) K.smy) fun w8 hb=> ?_;replace KX:=KX.next hb;clear hb K x0 x1 x2 x3 x4 x5 Hok;go_wp2_with fail
  go_loopw [18] (fun i wr=> ∃ k:Nat,k<=X.sm.length/\i= .int .i64 k/\Below w8.heap.size w8 wr) (fun i _=>X.sm.length-(intOf i).toNat)
  case atStart=>exact ⟨0,ZC _,rfl,ZZ _ _⟩
  case round=>
   obtain ⟨k,hk,rfl,hb⟩:=hrel;have HB:=Z9 hb;replace KX:=KX.next hb;clear hb;by_cases hlt:k<X.sm.length
   ·
    have hlt1:(k:Int)<(X.sm.length:Int):=by omega
    obtain ⟨_,_,hse,_,_,r9⟩:=KX.smy.sm;cases hse
    rcases r9 with e0 | ⟨sb,so,rfl,_,hcl⟩
    ·rw [e0] at hlt;simp at hlt
    obtain ⟨s0,s1,s2,s3,s4,s5,s6,s7,s8,s9,s10⟩:=ZB hcl hlt;clear hcl;obtain ⟨⟨st,be,rk,my,gu,lo,hi,hd,ca,ut,wk⟩,hrk⟩:=ZL (Z8 X.sm k);rw [hrk] at s0 s1 s2 s3 s4 s5 s6 s7 s8 s9 s10;simp only at s0 s1 s2 s3 s4 s5 s6 s7 s8 s9 s10;obtain ⟨ps,hps⟩:=ZL (ZQ (st,be,rk,my,gu,lo,hi,hd,ca,ut,wk));have Hps:=Z9 hps;have Hrk:=Z9 hrk;clear hps hrk;obtain ⟨_,_,y2,_,_,_⟩:=KX.cells;go_upto_region 24 with fail;obtain ⟨V1,hV1,hb,ka⟩:=Yn wr 42 (I11 st be rk my gu lo hi hd ca ut wk);replace KX:=KX.next hb;replace HB:=Z9 ((uh HB).trans (hb.mono (uh HB).size));clear hb y2 s0 s1 s2 s3 s4 s5 s6 s7 s8 s9 s10;rw [hV1];clear hV1;generalize wr.heap.size=ab at *;obtain ⟨s0,s1,s2,s3,s4,s5,s6,s7,s8,s9,s10⟩:=(uh ka).c11;go_wp2_with fail;refine ck (Ma (uh Hps) _) fun V2 hb=> ?_;replace ka:=bl ka hb;replace KX:=KX.next hb;replace HB:=Z9 ((uh HB).trans (hb.mono (uh HB).size));clear hb s0 s1 s2 s3 s4 s5 s6 s7 s8 s9 s10;cases ps
    ·go_wp2_with fail
     go_roundw
     case rel=>exact ⟨k+1,by omega,by go_num,uh HB⟩
     case measure=>exact ms
    have hpr:ZQ (Z8 X.sm k)=true:=by rw [uh Hrk];exact uh Hps
    obtain ⟨wq,hwq⟩:=ZL (Y8 X (k:Int));have Hwq:=Z9 ((Ca (uh HR).1 hlt hpr).trans hwq);have Hwq2:=Z9 hwq;have Hpr:=Z9 hpr;clear hwq hpr;obtain ⟨y0,y1,y2,y3,y4,y5⟩:=KX.cells;go_wp2_with fail;refine ck (OJ (uh Hwq) KX.smy) fun V3 hb=> ?_;replace ka:=bl ka hb;replace KX:=KX.next hb;replace HB:=Z9 ((uh HB).trans (hb.mono (uh HB).size));clear hb y0 y1 y2 y3 y4 y5 Hwq;go_wp2_with fail
    go_loopw [21] (fun i wz=> ∃ j:Nat,j<=X.dk.length/\i= .int .i64 j/\Below V3.heap.size V3 wz) (fun i _=>X.dk.length-(intOf i).toNat)
    case atStart=>exact ⟨0,ZC _,rfl,ZZ _ _⟩
    case round=>
     obtain ⟨j,hj,rfl,hb⟩:=hrel;have HZ:=Z9 hb;replace ka:=bl ka hb;replace KX:=KX.next hb;clear hb;obtain ⟨y0,y1,y2,y3,y4,y5⟩:=KX.cells;by_cases hltj:j<X.dk.length
     ·
      have hltj1:(j:Int)<(X.dk.length:Int):=by omega
      obtain ⟨iq,hiq⟩:=ZL (YD X j);obtain ⟨mq,hmq⟩:=ZL (YA X (k:Int) j);have Hiq:=Z9 ((BI (uh HR).1 hltj).trans hiq);have Hmq:=Z9 ((Bc (uh HR).1 hlt (uh Hpr) hltj).trans hmq);have Hii:=Z9 hiq;have Hmm:=Z9 hmq;clear hiq hmq;go_wp2_with fail;refine ck (VZ (uh Hiq) KX.smy) fun V4 hb=> ?_;replace ka:=bl ka hb;replace KX:=KX.next hb;replace HZ:=Z9 ((uh HZ).trans (hb.mono (uh HZ).size));clear hb y0 y1 y2 y3 y4 y5;cases iq
      ·go_wp2_with fail
       go_roundw
       case rel=>exact ⟨j+1,by omega,by go_num,uh HZ⟩
       case measure=>exact ms
      obtain ⟨y0,y1,y2,y3,y4,y5⟩:=KX.cells;go_wp2_with fail;refine ck (Vh (uh Hmq) KX.smy) fun V5 hb=> ?_;replace ka:=bl ka hb;replace KX:=KX.next hb;replace HZ:=Z9 ((uh HZ).trans (hb.mono (uh HZ).size));clear hb y0 y1 y2 y3 y4 y5;cases mq
      ·go_wp2_with fail
       go_roundw
       case rel=>exact ⟨j+1,by omega,by go_num,uh HZ⟩
       case measure=>exact ms
      obtain ⟨hn2,hor⟩:=BE (uh HR).1 (uh HD) hlt (uh Hpr) hltj (uh Hii) (uh Hmm);rw [uh Hrk] at hn2 hor;rw [uh Hwq2] at hor;simp only at hn2 hor;obtain ⟨f1,hf1⟩:=ZL (Zw X.rm (j:Int));obtain ⟨f2,hf2⟩:=ZL (Zw X.rm be);rw [hf1,hf2] at hor;have Hf1:=Z9 hf1;have Hf2:=Z9 hf2;have hst1:(st ==2)=false:=beq_eq_false_iff_ne.mpr hn2;have hst2:decide (st=2)=false:=Xs hn2;obtain ⟨q1,hq1⟩:=ZL (YG wq 0 f1);rw [hq1] at hor;have Hq1:=Z9 hq1;have Hor:=Z9 hor;clear hf1 hf2 hq1 hor;obtain ⟨y0,y1,y2,y3,y4,y5⟩:=KX.cells;have s0:=(uh ka).cell (i:=0) (v:= .int .i64 st) rfl;have s1:=(uh ka).cell (i:=1) (v:= .int .i64 be) rfl;go_wp2_with fail;have hS:=Ww (j:Int) KX.smy.rm;rw [uh Hf1] at hS;refine hS.mono ?_;rintro e V6 ⟨rfl,hb⟩;replace ka:=bl ka hb;replace KX:=KX.next hb;replace HZ:=Z9 ((uh HZ).trans (hb.mono (uh HZ).size));clear hb y0 y1 y2 y3 y4 y5 s0 s1 hst1 hst2 hS;go_wp2_with fail;have hS:=WZ wq 0 f1 V6;rw [uh Hq1] at hS;refine hS.mono ?_;rintro e w' ⟨rfl,hw'⟩;subst w';clear hS;cases q1
      ·go_wp2_with fail
       go_roundw
       case rel=>exact ⟨j+1,by omega,by go_num,uh HZ⟩
       case measure=>exact ms
      have hq2:YG wq 0 f2=true:=by rcases uh Hor with h | h;(· cases h);exact h
      have Hq2:=Z9 hq2;clear hq2 Hor;obtain ⟨y0,y1,y2,y3,y4,y5⟩:=KX.cells;have s1:=(uh ka).cell (i:=1) (v:= .int .i64 be) rfl;go_wp2_with fail;have hS:=Ww be KX.smy.rm;rw [uh Hf2] at hS;refine hS.mono ?_;rintro e V7 ⟨rfl,hb⟩;replace HZ:=Z9 ((uh HZ).trans (hb.mono (uh HZ).size));clear hb y0 y1 y2 y3 y4 y5 s1 hS;go_wp2_with fail;have hS:=WZ wq 0 f2 V7;rw [uh Hq2] at hS;refine hS.mono ?_;rintro e w' ⟨rfl,hw'⟩;subst w';clear hS;go_wp2_with fail;go_roundw
      case rel=>exact ⟨j+1,by omega,by go_num,uh HZ⟩
      case measure=>exact ms
     ·
      obtain rfl:j=X.dk.length:=by omega
      replace HB:=Z9 ((uh HB).trans ((uh HZ).mono (uh HB).size));go_wp2_with fail;go_roundw
      case rel=>exact ⟨k+1,by omega,by go_num,uh HB⟩
      case measure=>exact ms
   ·
    obtain rfl:k=X.sm.length:=by omega
    have kx:=Z9 KX.blk;have Hx:=Z9 KX.smy;have BB:=Z9 KX.bb;obtain ⟨y0,y1,y2,y3,y4,y5⟩:=KX.cells;clear KX HB HD hlt;go_wp2_with fail;refine wp_region_held_drew (S:=fun w'=>w'.cell? ⟨xb,0,none⟩=some (.slice c0 X.rm.length r0)/\w'.cell? ⟨xb,1,none⟩=some (.slice c1 X.gd.length r1)/\w'.cell? ⟨xb,2,none⟩=some (.slice c2 X.sm.length r2)/\w'.cell? ⟨xb,3,none⟩=some (.slice c3 X.dk.length r3)/\w'.cell? ⟨xb,4,none⟩=some (.slice c4 X.pc.length r4)/\w'.cell? ⟨xb,5,none⟩=some (.int .i64 X.now)) (by kernel_rfl) ⟨y0,y1,y2,y3,y4,y5⟩ (fun hHeld=> ?_);simp only [List.size_toArray,YN,Yx,Nat.zero_add,Nat.reduceAdd];clear y0 y1 y2 y3 y4 y5;have hb:Below wr.heap.size wr wr.drew:=(ZZ _ _).drew;replace Hx:=Z9 ((uh Hx).below hb);replace kx:=bl kx hb;replace BB:=bt BB hb;clear hb;generalize wr.drew=U1 at *;refine tp 0 ?_;refine rd 1 rfl (fun K hK=> ?_);go_simp;refine ck (VT _ _ _ _ _ _ X true (uh HR).1 (uh Hx)) fun U2 hb=> ?_;replace Hx:=Z9 ((uh Hx).below hb);replace kx:=bl kx hb;replace BB:=bt BB hb;clear hb;refine hK.out _ _ (uh kx).c6 (fun hHeld=> ?_);clear hK K
    (try simp only [Act.put,sA,sZ,sS])
    refine tp 2 ?_;refine tp 3 ?_;refine tp 5 ?_;refine rd 4 rfl (fun K hK=> ?_);go_simp;have hS:=Vz (uh Hx);rw [(uh HR).2] at hS;refine hS.mono ?_;rintro e9 U3 ⟨⟨z0,z1,z2,z3,z4,zq,rfl,ho⟩,hb⟩;have Hz:=Z9 ho.smy;clear ho hS;replace Hx:=Z9 ((uh Hx).below hb);replace kx:=bl kx hb;replace BB:=bt BB hb;clear hb;refine hK.out _ _ (uh kx).c6 (fun hHeld=> ?_);clear hK K
    (try simp only [Act.put,sA,sZ,sS])
    refine rd 6 rfl (fun K hK=> ?_);go_simp;refine ck (VW (uh Hz) (uh Hx)) fun U4 hb=> ?_;replace Hx:=Z9 ((uh Hx).below hb);replace kx:=bl kx hb;replace BB:=bt BB hb;clear hb;refine hK.out _ _ (uh kx).c6 (fun hHeld=> ?_);clear hK K
    (try simp only [Act.put,sA,sZ,sS])
    refine rd 7 rfl (fun K hK=> ?_);go_simp;refine hK.out _ _ (uh kx).c6 (fun hHeld=> ?_);clear hK K
    (try simp only [Act.put,sA,sZ,sS])
    refine rd 8 rfl (fun K hK=> ?_);go_simp;refine hK.out _ _ (uh kx).c6 (fun hHeld=> ?_);clear hK K
    (try simp only [Act.put,sA,sZ,sS])
    refine wpAnyH_done (by kernel_rfl) ?_ _;clear hHeld;go_wp2_with fail;go_ret;exact ⟨rfl,uh BB⟩
set_option maxRecDepth 100000
theorem Fa {m:Z6} (h:ZI m=true) {k:Nat} (hk:k<m.dk.length):UR m (k:Int)=atV m.sm (k:Int) m.sm.length:=by
 unfold UR;rw [h,show Yz m (k:Int)=true from Zo (by omega) (by omega)];rfl
theorem Fe {p:Nat->Bool} {k n:Nat} {b:Bool} (h:cnt p k=n) (hb:p k=b):cnt p (k+1)=n+(if b then 1 else 0):=by
 show cnt p k+(if p k then 1 else 0)=_;rw [h,hb]
theorem Ij (a0:Option Addr) (len0 cap0:Nat) (z0:List Int) (w:World) (w0:Rz .u8 w a0 len0 cap0 z0) :
  cB 4 #[.slice a0 len0 cap0] w (.bool true):=by
 by_cases hbig:4096<len0
 ·go_enter func4,ntmps4
  go_wp2_with fail;refine (Kz _ _ _ _ hbig).mono ?_;rintro e w' ⟨rfl,rfl⟩;go_wp2_with fail;go_ret;exact ⟨rfl,ZZ _ _⟩
 have Hr:=Z9 (GR w0 (by omega));clear w0;go_enter func4,ntmps4;go_wp2_with fail;refine (FY _ _ _ _ (by omega)).mono ?_;rintro e w' ⟨rfl,hw'⟩;subst w';go_wp2_with fail;refine (TI _ _ _ _ (uh Hr)).mono ?_;rintro e w1 ⟨M,u0,u1,u2,u3,u4,rq,rfl,hm,hb⟩;obtain ⟨b0,q0,b1,q1,b2,q2,b3,q3,b4,q4,rfl,rfl,rfl,rfl,rfl,K⟩:=Bx.put (w:=w) hm.smy hb;clear hm hb;go_upto_region 4 with fail;generalize w1.alloc (.cells (S6 b0 q0 b1 q1 b2 q2 b3 q3 b4 q4 M) 32)=W1 at *;generalize w1.heap.size=mb at *;obtain ⟨X,hX⟩:=ZL (Za M);have HI:=Z9 (Vz K.smy);rw [hX] at HI;have HX:=Z9 hX;clear hX;obtain ⟨x0,x1,x2,x3,x4,x5⟩:=K.cells;go_wp2_with fail;clear x0 x1 x2 x3 x4 x5;refine (uh HI).mono ?_;rintro e w2 ⟨⟨y0,y1,y2,y3,y4,oq,rfl,ho⟩,hb⟩;replace K:=K.next hb;obtain ⟨c0,r0,c1,r1,c2,r2,c3,r3,c4,r4,rfl,rfl,rfl,rfl,rfl,KX⟩:=Bx.put (w:=w) ho.smy K.bb;replace K:=K.alloc (.cells (S6 c0 r0 c1 r1 c2 r2 c3 r3 c4 r4 X) 32);clear ho hb HI;clear Hr;go_upto_region 5 with fail;generalize w2.alloc (.cells (S6 c0 r0 c1 r1 c2 r2 c3 r3 c4 r4 X) 32)=W2 at *;generalize w2.heap.size=xb at *;obtain ⟨x0,x1,x2,x3,x4,x5⟩:=K.cells;obtain ⟨y0,y1,y2,y3,y4,y5⟩:=KX.cells;have km:=Z9 K.blk;have Hv:=Z9 K.smy;have kx:=Z9 KX.blk;have Hx:=Z9 KX.smy;have BB:=Z9 K.bb;clear K KX;refine ZK (S:=fun w'=>w'.cell? ⟨xb,0,none⟩=some (.slice c0 X.rm.length r0)/\w'.cell? ⟨xb,1,none⟩=some (.slice c1 X.gd.length r1)/\w'.cell? ⟨xb,2,none⟩=some (.slice c2 X.sm.length r2)/\w'.cell? ⟨xb,3,none⟩=some (.slice c3 X.dk.length r3)/\w'.cell? ⟨xb,4,none⟩=some (.slice c4 X.pc.length r4)/\w'.cell? ⟨xb,5,none⟩=some (.int .i64 X.now)/\w'.cell? ⟨mb,0,none⟩=some (.slice b0 M.rm.length q0)/\w'.cell? ⟨mb,1,none⟩=some (.slice b1 M.gd.length q1)/\w'.cell? ⟨mb,2,none⟩=some (.slice b2 M.sm.length q2)/\w'.cell? ⟨mb,3,none⟩=some (.slice b3 M.dk.length q3)/\w'.cell? ⟨mb,4,none⟩=some (.slice b4 M.pc.length q4)/\w'.cell? ⟨mb,5,none⟩=some (.int .i64 M.now)) (by kernel_rfl) (WN _ _) (by kernel_rfl) ⟨y0,y1,y2,y3,y4,y5,x0,x1,x2,x3,x4,x5⟩ (fun hHeld=> ?_);simp only [WO,WR,YN,Yx,Nat.zero_add,Nat.reduceAdd];clear x0 x1 x2 x3 x4 x5;clear y0 y1 y2 y3 y4 y5;have hb:Below W2.heap.size W2 W2.drew:=(ZZ _ _).drew;replace km:=bl km hb;replace Hv:=Z9 ((uh Hv).below hb);replace Hx:=Z9 ((uh Hx).below hb);replace kx:=bl kx hb;replace BB:=bt BB hb;clear hb;generalize W2.drew=W2d at *
 iterate 2 refine tz ?_
 refine rd 2 rfl (fun K hK=> ?_);go_simp;have hS:=VH (uh Hv);rw [uh HX] at hS;refine hS.mono ?_;rintro e9 W2e ⟨⟨z0,z1,z2,z3,z4,zq,rfl,ho⟩,hb⟩;have k9:=ho.smy;obtain ⟨d0,t0,d1,t1,d2,t2,d3,t3,d4,t4,rfl,rfl,rfl,rfl,rfl,_,_,_,_,_,_,_,_,_,_⟩:=k9.five;have Hz:=Z9 k9;clear ho k9 hS;replace km:=bl km hb;replace Hv:=Z9 ((uh Hv).below hb);replace Hx:=Z9 ((uh Hx).below hb);replace kx:=bl kx hb;replace BB:=bt BB hb;clear hb;refine hK.out _ _ ⟨(uh kx).cell (i:=0) rfl,(uh kx).cell (i:=1) rfl,(uh kx).cell (i:=2) rfl,(uh kx).cell (i:=3) rfl,(uh kx).cell (i:=4) rfl,(uh kx).cell (i:=5) rfl,(uh km).cell (i:=0) rfl,(uh km).cell (i:=1) rfl,(uh km).cell (i:=2) rfl,(uh km).cell (i:=3) rfl,(uh km).cell (i:=4) rfl,(uh km).cell (i:=5) rfl⟩ (fun hHeld=> ?_);clear hK K
 (try simp only [Act.put,sA,sZ,sS])
 refine rd 3 rfl (fun K hK=> ?_);go_simp;refine ck (VW (uh Hx) (uh Hz)) fun W2f hb=> ?_;replace km:=bl km hb;replace Hv:=Z9 ((uh Hv).below hb);replace Hx:=Z9 ((uh Hx).below hb);replace kx:=bl kx hb;replace BB:=bt BB hb;clear hb;refine hK.out _ _ ⟨(uh kx).cell (i:=0) rfl,(uh kx).cell (i:=1) rfl,(uh kx).cell (i:=2) rfl,(uh kx).cell (i:=3) rfl,(uh kx).cell (i:=4) rfl,(uh kx).cell (i:=5) rfl,(uh km).cell (i:=0) rfl,(uh km).cell (i:=1) rfl,(uh km).cell (i:=2) rfl,(uh km).cell (i:=3) rfl,(uh km).cell (i:=4) rfl,(uh km).cell (i:=5) rfl⟩ (fun hHeld=> ?_);clear hK K
 (try simp only [Act.put,sA,sZ,sS])
 refine wpAnyH_done (by kernel_rfl) ?_ _;refine Zu rfl rfl ?_;go_simp;clear hHeld;have K:Bx w W2f mb b0 q0 b1 q1 b2 q2 b3 q3 b4 q4 M:=⟨uh Hv,uh km,uh BB⟩
 have KX:Bx w W2f xb c0 r0 c1 r1 c2 r2 c3 r3 c4 r4 X:=⟨uh Hx,uh kx,uh BB⟩
 clear Hz Hv km Hx kx BB;obtain ⟨ok,Hok⟩:=Yt (ZI M);obtain ⟨x0,x1,x2,x3,x4,x5⟩:=K.cells;cases ok
 ·
  have hd0:X.dk.length=0:=by rw [<-uh HX];unfold Za;rw [uh Hok];rfl
  have hd1:((X.dk.length:Int) ==0)=true:=by rw [hd0];rfl
  have hd2:decide ((X.dk.length:Int)=0)=true:=by rw [hd0];rfl
  clear hd0 HX;go_wp2_with fail;refine ck (Wn (uh Hok) K.smy) fun w6 hb=> ?_;replace KX:=KX.next hb;clear hb K x0 x1 x2 x3 x4 x5;obtain ⟨y0,y1,y2,y3,y4,y5⟩:=KX.cells;go_wp2_with fail;go_ret;exact ⟨rfl,KX.bb⟩
 have hXl:X=XX M:=by rw [<-uh HX];unfold Za;rw [uh Hok];rfl
 have hk0:=Gv (uh Hok);rw [<-hXl] at hk0;have hXr:ZI X=true:=by rw [hXl];exact Up (uh Hok)
 have HXr:=Z9 hXr;have HK:=Z9 hk0.1;have HC:=Z9 hk0.2;have hdl:X.dk.length=M.dk.length:=hk0.1.dk;have hsl:X.sm.length=M.sm.length:=hk0.1.sm;have hnw:X.now=M.now:=hk0.1.now;have hd8:M.dk.length<=8:=(ZM (uh Hok)).sane.eight;have Hdl:=Z9 hdl;have Hsl:=Z9 hsl;have Hnw:=Z9 hnw;clear hXl hk0 hXr HX hdl hsl hnw;go_wp2_with fail;refine ck (Wn (uh Hok) K.smy) fun w6 hb=> ?_;replace K:=K.next hb;replace KX:=KX.next hb;clear hb x0 x1 x2 x3 x4 x5;go_wp2_with fail
 go_loopw [5,6,7] (fun bu wa i wr=> ∃ k c1 c2:Nat,k<=M.dk.length/\i= .int .i64 k/\bu= .int .i64 c1/\wa= .int .i64 c2/\cnt (Xt X) k=c1/\cnt (Xt M) k=c2/\Below w6.heap.size w6 wr) (fun _ _ i _=>M.dk.length-(intOf i).toNat)
 case atStart=>exact ⟨0,0,0,ZC _,rfl,rfl,rfl,rfl,rfl,ZZ _ _⟩
 case round=>
  obtain ⟨k,c1,c2,hk,rfl,rfl,rfl,hc1,hc2,hb⟩:=hrel;have HB:=Z9 hb;replace K:=K.next hb;replace KX:=KX.next hb;clear hb;have hb1:c1<=8:=by have:=PZ (Xt X) k;omega
  have hb2:c2<=8:=by have:=PZ (Xt M) k;omega
  by_cases hlt:k<M.dk.length
  ·
   have hlt1:(k:Int)<(M.dk.length:Int):=by omega
   have hltx:k<X.dk.length:=by rw [uh Hdl];exact hlt
   have hax:=Fa (uh HXr) hltx;have ham:=Fa (uh Hok) hlt;obtain ⟨lx,hlx⟩:=ZL (UR X (k:Int));obtain ⟨lm,hlm⟩:=ZL (UR M (k:Int));have hqx:Xt X k= !decide (lx.length=0):=by unfold Xt;rw [<-hax,hlx]
   have hqm:Xt M k= !decide (lm.length=0):=by unfold Xt;rw [<-ham,hlm]
   have Hlx:=Z9 hlx;have Hlm:=Z9 hlm;have Hs1:=Z9 (Fe hc1 hqx);have Hs2:=Z9 (Fe hc2 hqm);clear hax ham hlx hlm hqx hqm hc1 hc2;obtain ⟨_,_,_,x3,_,_⟩:=K.cells;obtain ⟨y0,y1,y2,y3,y4,y5⟩:=KX.cells;go_wp2_with fail;have hS:=Ru (k:Int) KX.smy;rw [uh Hlx] at hS;refine hS.mono ?_;rintro e w7 ⟨v9,rfl,hv9,hb⟩;obtain ⟨va,vc,rfl⟩:=EntsAt.shape hv9;have HB7:=Z9 ((uh HB).trans (hb.mono (uh HB).size));replace K:=K.next hb;clear hb hS x3 y0 y1 y2 y3 y4 y5 hv9 KX HB;obtain ⟨x0,x1,x2,x3,x4,x5⟩:=K.cells;by_cases hp1:0<lx.length
   ·have hp1i:(0:Int)<(lx.length:Int):=by omega
    have hs1:=uh Hs1;rw [decide_eq_false (show ¬ lx.length=0 by omega)] at hs1;go_wp2_with fail;have hS:=Ru (k:Int) K.smy;rw [uh Hlm] at hS;refine hS.mono ?_;rintro e w8 ⟨v9,rfl,hv9,hb⟩;obtain ⟨va2,vc2,rfl⟩:=EntsAt.shape hv9;have HB8:=Z9 ((uh HB7).trans (hb.mono (uh HB7).size));clear hb hS x0 x1 x2 x3 x4 x5 hv9 K HB7;by_cases hp2:0<lm.length
    ·have hp2i:(0:Int)<(lm.length:Int):=by omega
     have hs2:=uh Hs2;rw [decide_eq_false (show ¬ lm.length=0 by omega)] at hs2;go_wp2_with fail;go_roundw
     case rel=>exact ⟨k+1,_,_,by omega,by go_num,by go_num,by go_num,hs1,hs2,uh HB8⟩
     case measure=>exact ms
    ·have hp2i:(lm.length:Int)=0:=by omega
     have hs2:=uh Hs2;rw [decide_eq_true (show lm.length=0 by omega)] at hs2;go_wp2_with fail;go_roundw
     case rel=>exact ⟨k+1,_,_,by omega,by go_num,by go_num,by go_num,hs1,hs2,uh HB8⟩
     case measure=>exact ms
   ·have hp1i:(lx.length:Int)=0:=by omega
    have hs1:=uh Hs1;rw [decide_eq_true (show lx.length=0 by omega)] at hs1;go_wp2_with fail;have hS:=Ru (k:Int) K.smy;rw [uh Hlm] at hS;refine hS.mono ?_;rintro e w8 ⟨v9,rfl,hv9,hb⟩;obtain ⟨va2,vc2,rfl⟩:=EntsAt.shape hv9;have HB8:=Z9 ((uh HB7).trans (hb.mono (uh HB7).size));clear hb hS x0 x1 x2 x3 x4 x5 hv9 K HB7;by_cases hp2:0<lm.length
    ·have hp2i:(0:Int)<(lm.length:Int):=by omega
     have hs2:=uh Hs2;rw [decide_eq_false (show ¬ lm.length=0 by omega)] at hs2;go_wp2_with fail;go_roundw
     case rel=>exact ⟨k+1,_,_,by omega,by go_num,by go_num,by go_num,hs1,hs2,uh HB8⟩
     case measure=>exact ms
    ·have hp2i:(lm.length:Int)=0:=by omega
     have hs2:=uh Hs2;rw [decide_eq_true (show lm.length=0 by omega)] at hs2;go_wp2_with fail;go_roundw
     case rel=>exact ⟨k+1,_,_,by omega,by go_num,by go_num,by go_num,hs1,hs2,uh HB8⟩
     case measure=>exact ms
  ·
   obtain rfl:k=M.dk.length:=by omega
   have hge:c2<=c1:=by rw [<-hc1,<-hc2];exact uh HC
   have hgei:(c2:Int)<=(c1:Int):=by omega
   obtain ⟨_,_,_,x3,_,_⟩:=K.cells;go_wp2_with fail;clear x3 HB HC HXr Hok Hdl
   go_loopw [8] (fun i wz=> ∃ j:Nat,j<=M.sm.length/\i= .int .i64 j/\Below wr.heap.size wr wz) (fun i _=>M.sm.length-(intOf i).toNat)
   case atStart=>exact ⟨0,ZC _,rfl,ZZ _ _⟩
   case round=>
    obtain ⟨j,hj,rfl,hb⟩:=hrel;have HB:=Z9 hb;replace K:=K.next hb;replace KX:=KX.next hb;clear hb;by_cases hlt:j<M.sm.length
    ·
     have hltm:(j:Int)<(M.sm.length:Int):=by omega
     have hltx:j<X.sm.length:=by rw [uh Hsl];exact hlt
     have hltxi:(j:Int)<(X.sm.length:Int):=by omega
     obtain ⟨ep,em,et⟩:=(uh HK).each j hlt;obtain ⟨_,_,hse,_,_,r9⟩:=K.smy.sm;cases hse
     rcases r9 with e0 | ⟨sb,so,rfl,_,hcl⟩
     ·rw [e0] at hlt;simp at hlt
     obtain ⟨_,_,hse,_,_,r9⟩:=KX.smy.sm;cases hse
     rcases r9 with e0 | ⟨tb,tof,rfl,_,hcx⟩
     ·rw [e0] at hltx;simp at hltx
     obtain ⟨s0,s1,s2,s3,s4,s5,s6,s7,s8,s9,s10⟩:=ZB hcl hlt;have HP:=Z9 (ZB hcx hltx);clear hcl hcx;obtain ⟨⟨st,be,rk,my,gu,lo,hi,hd,ca,ut,wk⟩,hrk⟩:=ZL (Z8 M.sm j);obtain ⟨⟨zst,zbe,zrk,zmy,zgu,zlo,zhi,zhd,zca,zut,zwk⟩,hrx⟩:=ZL (Z8 X.sm j);rw [hrk] at s0 s1 s2 s3 s4 s5 s6 s7 s8 s9 s10 ep em et;rw [hrx] at ep em et HP;simp only [Prod.mk.injEq] at em et;obtain rfl:=em;obtain ⟨rfl,rfl⟩:=et;simp only at s0 s1 s2 s3 s4 s5 s6 s7 s8 s9 s10;obtain ⟨ps,hps⟩:=ZL (ZQ (st,be,rk,zmy,gu,lo,hi,hd,ca,zut,zwk));rw [hps] at ep;have Hpa:=Z9 hps;have Hpb:=Z9 ep;clear hrk hrx hps ep;obtain ⟨_,_,x2,_,_,_⟩:=K.cells;go_upto_region 22 with fail;have ka:Hid (Blk (wr.alloc (.cells (I11 st be rk zmy gu lo hi hd ca zut zwk) 42)) wr.heap.size 42 (I11 st be rk zmy gu lo hi hd ca zut zwk)):=Z9 (Blk.new _ _ _);replace KX:=KX.alloc (.cells (I11 st be rk zmy gu lo hi hd ca zut zwk) 42);have hb:Below wr.heap.size wr (wr.alloc (.cells (I11 st be rk zmy gu lo hi hd ca zut zwk) 42)):=ba _ _;replace HB:=Z9 ((uh HB).trans (hb.mono (uh HB).size));obtain ⟨p0,p1,p2,p3,p4,p5,p6,p7,p8,p9,p10⟩:=uh HP;simp only at p0 p1 p2 p3 p4 p5 p6 p7 p8 p9 p10;replace p0:=(hb.cell (World.block_lt_of_cell? _ _ p0)).trans p0;replace p1:=(hb.cell (World.block_lt_of_cell? _ _ p1)).trans p1;replace p2:=(hb.cell (World.block_lt_of_cell? _ _ p2)).trans p2;replace p3:=(hb.cell (World.block_lt_of_cell? _ _ p3)).trans p3;replace p4:=(hb.cell (World.block_lt_of_cell? _ _ p4)).trans p4;replace p5:=(hb.cell (World.block_lt_of_cell? _ _ p5)).trans p5;replace p6:=(hb.cell (World.block_lt_of_cell? _ _ p6)).trans p6;replace p7:=(hb.cell (World.block_lt_of_cell? _ _ p7)).trans p7;replace p8:=(hb.cell (World.block_lt_of_cell? _ _ p8)).trans p8;replace p9:=(hb.cell (World.block_lt_of_cell? _ _ p9)).trans p9;replace p10:=(hb.cell (World.block_lt_of_cell? _ _ p10)).trans p10;clear hb HP K x2 s0 s1 s2 s3 s4 s5 s6 s7 s8 s9 s10;generalize wr.alloc (.cells (I11 st be rk zmy gu lo hi hd ca zut zwk) 42)=V1 at *;generalize wr.heap.size=ab at *;obtain ⟨_,_,y2,_,_,_⟩:=KX.cells;go_upto_region 23 with fail;obtain ⟨V2,hV2,hb,kb⟩:=Yn V1 42 (I11 zst zbe zrk zmy zgu zlo zhi zhd zca zut zwk);replace HB:=Z9 ((uh HB).trans (hb.mono (uh HB).size));replace ka:=bl ka hb;clear hb KX y2 p0 p1 p2 p3 p4 p5 p6 p7 p8 p9 p10;rw [hV2];clear hV2;generalize V1.heap.size=bb at *
     go_cut [92] (fun s wc=>s= .bool false/\Below V2.heap.size V2 wc)
     case first=>
      obtain ⟨e0,e1,e2,e3,e4,e5,e6,e7,e8,e9,e10⟩:=(uh ka).c11;obtain ⟨g0,g1,g2,g3,g4,g5,g6,g7,g8,g9,g10⟩:=(uh kb).c11;have re0:=ZY e0;have re1:=ZY e1;have re2:=ZY e2;have re3:=ZY e3;have re4:=ZY e4;have re5:=ZY e5;have re6:=ZY e6;have re7:=ZY e7;have re8:=ZY e8;have re9:=ZY e9;have re10:=ZY e10;have rg0:=ZY g0;have rg1:=ZY g1;have rg2:=ZY g2;have rg3:=ZY g3;have rg4:=ZY g4;have rg5:=ZY g5;have rg6:=ZY g6;have rg7:=ZY g7;have rg8:=ZY g8;have rg9:=ZY g9;have rg10:=ZY g10;have hpp:(ps !=ps)=false:=bne_self_eq_false ps;refine wq ?_
      repeat (go_big_quiet_step (first | exact ZX (Ma (by first | exact uh Hpa | exact uh Hpb) _) | rw [hpp]))
      refine wqn fun wq hbq=> ?_;go_wp2_with (first | rw [hpp] | fail)
      go_meet;exact ⟨rfl,hbq⟩
     case rest=>
      obtain ⟨rfl,hb⟩:=hcut;replace HB:=Z9 ((uh HB).trans (hb.mono (uh HB).size));clear hb;go_wp2_with fail;go_roundw
      case rel=>exact ⟨j+1,by omega,by go_num,uh HB⟩
      case measure=>exact ms
    ·
     obtain rfl:j=M.sm.length:=by omega
     obtain ⟨_,_,x2,_,_,x5⟩:=K.cells;obtain ⟨_,_,_,_,_,y5⟩:=KX.cells;rw [uh Hnw] at y5;go_wp2_with fail;go_ret;exact ⟨rfl,K.bb⟩
end Go.Proofs.YtlcpgkakdieeaaaGreat
