/- Part 25 of what the proof rests on. No condition but those that a theorem names. -/
import Derived.Test.YtmdgokjeobnnaaaGreatDoorXt22
import Derived.Test.YtmdgokjeobnnaaaGreatDoorXt23
set_option maxHeartbeats 8000000
set_option maxRecDepth 100000
namespace Go.Proofs.YtmdgokjeobnnaaaGreatDoor
open Go.ChangeShapes Go.WideShapes Go.ChangeAt Go.RowKit Go.Sort Go.Proofs.Tryz
set_option linter.unusedVariables false
set_option linter.unusedSimpArgs false
variable {w w' w0 w1 w2 w3 w₀ wr W W' X A B C : World} {v v0 v1 v2 v3 v4 u u0 u1 u2 u3 u4 : Value} {m : Z7}
theorem Sr (h:Loose m):0<m.pc.length:=by
 rw [Xc h];have hd:=h.head;unfold YI at hd;simp only [ZR,YV] at hd;have:=(Zo hd.1).1;omega
theorem RY {R n₀:Nat}  {qs:List (Z5 × Value)} {nw:Int} (hn:m.now=nw) (kb:Blk w R 40 #[v0,v1,v2,v3,v4,.int .i64 nw]) (hf:FullSmy n₀ w v0 v1 v2 v3 v4 m qs) (h2:v2.ownBlock ≠ some R) (h3:v3.ownBlock ≠ some R) (hl:m.sm.length<=800) (hd:m.dk.length<=1000) :
  Calls prog 132 #[.pointer (some ⟨R,0,none⟩)] w fun e w'=>e= .returned (.tuple #[.agg #[v0,v1,v2,v3,v4,.int .i64 nw],.int .i64 0])/\FullSmy n₀ w' v0 v1 v2 v3 v4 (ZL m) qs/\Two v2.ownBlock v3.ownBlock w w':=by
 subst hn;exact Ue kb hf h2 h3 hl hd
theorem LL  (h:Smy w v0 v1 v2 v3 v4 m) (hok:ZJ m=true) :
  Calls prog 114 #[.agg #[v0,v1,v2,v3,v4,.int .i64 m.now]] w fun e w'=>UF w.heap.size (Lt m) 0 e w'/\Below w.heap.size w w':=by
 obtain ⟨X,hX⟩:=ZE (Lt m);rw [hX];have HX:=Z9 hX;clear hX;obtain ⟨a0,p0,a1,p1,a2,p2,a3,p3,a4,p4,rfl,rfl,rfl,rfl,rfl,-⟩:=h.five;refine op1 h hok func114 ntmps114 ?_
 intros
 rename_i Hok HLo HFew b0 q0 b1 q1 b2 q2 b3 q3 b4 q4 oq W2 ob H
 obtain ⟨kb,kr,Hv,HO,ko,LO,hob,BB⟩:=H.out;clear H;have Hv0:=Z9 h;clear h;have hpp:=Sr (uh HLo);have hpr:=Xc (uh HLo);have HSn:=Z9 (uh HLo).sane;have hp9:=(uh HFew).nums;obtain ⟨g4,hga,_,hg4w,_,_⟩:=RecAt.view Yo (by omega) (uh HO).pc rfl (by omega);cases hga;have hg4o:=(uh LO g4 (.inr (.inr (.inr (.inr (.inr rfl))))))
 have Hpr:=Z9 hpr;clear hpr;go_wp2_with fail
 go_loopw [5] (fun i wr=> ∃ k:Nat,k<=m.pc.length/\i= .int .i64 k/\FullSmy (w.heap.size+2) wr (.slice b0 m.rm.length q0) (.slice b1 m.gd.length q1) (.slice b2 m.sm.length q2) (.slice b3 m.dk.length q3) (.slice (some ⟨g4,0,none⟩) m.pc.length q4) (SM m k) oq/\Two none (some g4) W2 wr) (fun i _=>m.pc.length-(intOf i).toNat)
 case atStart=>exact ⟨0,Zi _,rfl,uh HO,Two.refl _ _ _⟩
 case round=>
  obtain ⟨k,hk,rfl,hf1,htw⟩:=hrel;have hbw:=(uh BB).trans (htw.below (uh BB).size (fun _ e=>by cases e) (fun j e=>by cases e;omega));have B1:=Z9 hbw;have Hv1:=Z9 ((uh Hv0).below hbw);have kb1:=Z9 ((uh kb).two htw (by simp) (fun e=>by cases e;omega));have ko1:=Z9 ((uh ko).two htw (by simp) (fun e=>by cases e;omega));have kr1:=Z9 ((uh kr).two htw (by simp) (fun e=>by cases e;omega));have HF1:=Z9 hf1;have Tw:=Z9 htw;clear hbw hf1 htw;by_cases hlt:k<m.pc.length
  ·
   obtain ⟨c0,c1,c2,c3,c4,c5⟩:=(uh kb1).c6;have x4:=(uh ko1).cell (i:=4) (v:= .slice (some ⟨g4,0,none⟩) m.pc.length q4) rfl;have hkp1:(k:Int)<(m.pc.length:Int):=by omega
   go_wp2_with fail;refine ZN (S:=fun w'=>w'.cell? ⟨w.heap.size,0,none⟩=some (.slice a0 m.rm.length p0)/\w'.cell? ⟨w.heap.size,1,none⟩=some (.slice a1 m.gd.length p1)/\w'.cell? ⟨w.heap.size,2,none⟩=some (.slice a2 m.sm.length p2)/\w'.cell? ⟨w.heap.size,3,none⟩=some (.slice a3 m.dk.length p3)/\w'.cell? ⟨w.heap.size,4,none⟩=some (.slice a4 m.pc.length p4)/\w'.cell? ⟨w.heap.size,5,none⟩=some (.int .i64 m.now)/\w'.cell? ⟨ob,4,none⟩=some (.slice (some ⟨g4,0,none⟩) m.pc.length q4)) (by kernel_rfl) (WV _ _) (by kernel_rfl) ⟨c0,c1,c2,c3,c4,c5,x4⟩ (fun hHeld=> ?_);clear c0 c1 c2 c3 c4 c5 x4;simp only [WW,WX,Zn,Y2,Nat.zero_add,Nat.reduceAdd]
   iterate 5 refine tz ?_
   refine rd 5 rfl (fun K hK=> ?_);go_simp;refine ck (PM (r:=k) ((uh Hv1).below (Z2 _ _).drew) (uh HSn) (by rw [<-uh Hpr];exact hlt)) fun w9 hb8=> ?_;have hb9:Below wr.heap.size wr w9:=(Z2 wr.heap.size wr).drew.trans hb8;clear hb8;have kb9:=(uh kb1).below hb9 (uh kb1).lt;have ko9:=(uh ko1).below hb9 (uh ko1).lt;refine hK.out _ _ ⟨kb9.cell (i:=0) rfl,kb9.cell (i:=1) rfl,kb9.cell (i:=2) rfl,kb9.cell (i:=3) rfl,kb9.cell (i:=4) rfl,kb9.cell (i:=5) rfl,ko9.cell (i:=4) rfl⟩ (fun hHeld=> ?_);clear hK K kb9 ko9
   (try simp only [Act.put,sA,sZ,sS])
   have HF9:=Z9 ((uh HF1).below hb9);have T9:=Z9 ((uh Tw).trans (Two.of_below hb9));have hal:m.pc.length=(SM m k).pc.length:=(TJ m k).2.2.2.2.2.symm;obtain ⟨_,hga,_,_,hc4,hz4⟩:=RecAt.view Yo (by omega) (uh HF9).pc hal (by omega);cases hga;have s0:=hc4 k (by omega) 0 _ rfl;have f0:=hz4 k;have hput:=(uh HF9).putP hal (j:=k) (by omega) (U1 m k);simp only [Nat.add_zero,Nat.mul_one] at s0;have HP:=Z9 hput;clear hc4 hz4 hput hb9 hal;refine tp 6 ?_;refine wpAnyH_done (by kernel_rfl) ?_ _;refine ZH rfl rfl ?_;go_simp;clear hHeld;go_wp2_with fail;go_roundw
   case rel=>exact ⟨k+1,by omega,by go_num,uh HP,(uh T9).trans (Two.of_set _ (.inr rfl) _ _)⟩
   case measure=>exact ms
  ·
   obtain rfl:k=m.pc.length:=by omega
   have c4:=(uh kb1).cell (i:=4) (v:= .slice a4 m.pc.length p4) rfl;have hno:¬ ((m.pc.length:Nat):Int)<(m.pc.length:Int):=by omega
   obtain ⟨e1,e2,e3,e4,e5,e6⟩:=TJ m m.pc.length;have hfw:=uh HFew;go_wp2_with fail;have hofR:∀ k,WE (.slice b0 m.rm.length q0) (.slice b1 m.gd.length q1) (.slice b2 m.sm.length q2) (.slice b3 m.dk.length q3) (.slice (some ⟨g4,0,none⟩) m.pc.length q4) oq k->k ≠ ob:=fun k e=>by have:=(uh LO k e).2;omega
   refine (RY (m:=SM m m.pc.length) e5 (uh ko1) (uh HF1) (fun e=>hofR _ (.inr (.inr (.inr (.inl e)))) rfl) (fun e=>hofR _ (.inr (.inr (.inr (.inr (.inl e))))) rfl) (by rw [e3];have:=hfw.sm;omega) (by rw [e4];exact hfw.dk)).mono ?_;rintro e w3 ⟨rfl,hf9,ht9⟩;replace kr:=Z9 ((uh kr1).two ht9 (fun e=>by have:=(uh LO _ (.inr (.inr (.inr (.inl e))))).1;omega) (fun e=>by have:=(uh LO _ (.inr (.inr (.inr (.inr (.inl e)))))).1;omega));replace BB:=Z9 ((uh B1).trans (ht9.below (uh B1).size (fun k e=>by have:=(uh LO k (.inr (.inr (.inr (.inl e))))).1;omega) (fun k e=>by have:=(uh LO k (.inr (.inr (.inr (.inr (.inl e)))))).1;omega)));have hnow:(ZL (SM m m.pc.length)).now=m.now:=(Zp _ _).2.2.2.1.trans e5;have HF9:=Z9 hf9;have Hn9:=Z9 hnow;clear hf9 ht9 hofR e1 e2 e3 e4 e5 e6 hnow c4;obtain ⟨o0,o1,o2,o3,o4,o5⟩:=(uh kr).c6;obtain ⟨f0,f1,f2,f3,f4,f5⟩:=(uh kr).f6;go_wp2_with fail;refine Zz (v:= .tuple #[.agg (S6 b0 q0 b1 q1 b2 q2 b3 q3 (some ⟨g4,0,none⟩) q4 m),.int .i64 0]) (by simp [results,results114,go_sem, *]) rfl ⟨?_,?_⟩
   ·rw [<-uh HX];refine ⟨_,_,_,_,_,oq,by unfold Lt;rw [uh Hn9],?_⟩
    iterate 6 (refine FullSmy.set_off ?_ (fun k e=>by have:=(uh LO k e).1;omega) _ _)
    exact (uh HF9).mono (by omega)
   ·iterate 6 (refine YU ?_ (by show _<=w.heap.size+1;omega) _)
    exact uh BB
end Go.Proofs.YtmdgokjeobnnaaaGreatDoor
