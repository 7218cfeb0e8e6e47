/- Part 26 of what the proof rests on. No condition but those that a theorem names. -/
import Derived.Test.YtaegckehjlkaaaaGreatXc25
set_option maxHeartbeats 8000000
set_option maxRecDepth 100000
namespace Go.Proofs.YtaegckehjlkaaaaGreat
open Go.ChangeShapes Go.WideShapes Go.ChangeAt Go.RowKit Go.Sort
set_option linter.unusedVariables false
set_option linter.unusedSimpArgs false
variable {w w' w0 w1 w2 w3 w₀ wr W W' X A B C : World} {v v0 v1 v2 v3 v4 u u0 u1 u2 u3 u4 : Value} {m : Z6}
theorem Two.set_new {p q:Option Nat} (h:Two p q w w') {g:Nat} (hg:w.heap.size<=g) (o:Nat) (u:Value):Two p q w (w'.setCell ⟨g,o,none⟩ u):=
 ⟨h.os,h.tape,h.output,by simpa using h.size,fun i hi hp hq=>(heap_setCell_other w' _ i u (by show i ≠ g;omega)).trans (h.block i hi hp hq)⟩
theorem FullSmy.lt {n₀:Nat}  {qs:List (Z3 × Value)} (h:FullSmy n₀ w v0 v1 v2 v3 v4 m qs) {k:Nat} (e:v0.ownBlock=some k\/(∃ q ∈ qs,q.2.ownBlock=some k)\/v1.ownBlock=some k\/v2.ownBlock=some k\/v3.ownBlock=some k\/v4.ownBlock=some k):n₀<=k/\k<w.heap.size:=by
 rcases e with e | e | e | e | e | e
 ·exact h.hall.lt (.inl e)
 ·exact h.hall.lt (.inr e)
 ·exact RecAt.lt h.guilds e
 ·exact RecAt.lt h.smiths e
 ·exact RecAt.lt h.desks e
 ·exact RecAt.lt h.paces e
theorem YU {R n₀:Nat}  {qs:List (Z3 × Value)} (kb:Blk w R 32 #[v0,v1,v2,v3,v4,.int .i64 m.now]) (hf:FullSmy n₀ w v0 v1 v2 v3 v4 m qs) (h2:v2.ownBlock ≠ some R) (h3:v3.ownBlock ≠ some R) (hl:m.smiths.length<=800) (hd:m.desks.length<=1000) :
  Calls Tryz.prog 279 #[.pointer (some ⟨R,0,none⟩)] w fun e w'=>e= .returned (.tuple #[.agg #[v0,v1,v2,v3,v4,.int .i64 m.now],.int .i64 0])/\FullSmy n₀ w' v0 v1 v2 v3 v4 (ZO m) qs/\Two v2.ownBlock v3.ownBlock w w':=by
 have hfl:=fun k e=>(hf.lt (k:=k) e).2
 obtain ⟨a0,p0,rfl⟩:=hf.hall.shape
 obtain ⟨a1,p1,rfl⟩:=RecAt.shape hf.guilds
 obtain ⟨a2,p2,rfl⟩:=RecAt.shape hf.smiths
 obtain ⟨a3,p3,rfl⟩:=RecAt.shape hf.desks
 obtain ⟨a4,p4,rfl⟩:=RecAt.shape hf.paces
 have Kb:=Z9 kb
 have HF:=Z9 hf
 have H2:=Z9 h2
 have H3:=Z9 h3
 have HL:=Z9 hfl
 have hR:=kb.lt
 clear kb hf h2 h3 hfl
 go_enter Tryz.func279,Tryz.ntmps279
 go_wp2_with fail
 have Ba:Below w.heap.size w (w.alloc (.cells #[.slice none 0 0,.slice none 0 0,.slice none 0 0,.slice none 0 0,.slice none 0 0,.int .i64 0] 32)):=(Below.refl _ _).alloc (Nat.le_refl _) _
 have kz:=Blk.new w 32 #[.slice none 0 0,.slice none 0 0,.slice none 0 0,.slice none 0 0,.slice none 0 0,.int .i64 0]
 refine (SP ((uh Kb).below Ba hR) ((uh HF).below Ba) (uh H2) (uh H3) hl hd).mono ?_
 rintro e w1 ⟨rfl,hf1,ht1⟩
 have T1:=(Two.of_below Ba).trans ht1
 have kb1:=(uh Kb).two T1 (uh H2) (uh H3)
 have hnz:∀ k,(_\/_\/_\/_\/_\/_)->k ≠ w.heap.size:=fun k e=>by have:=uh HL k e;omega
 have kz1:=kz.two ht1 (fun e=>hnz _ (.inr (.inr (.inr (.inl e)))) rfl) (fun e=>hnz _ (.inr (.inr (.inr (.inr (.inl e))))) rfl)
 obtain ⟨c0,c1,c2,c3,c4,c5⟩:=kb1.c6
 have o0:=kz1.cell (i:=0) (v:= .slice none 0 0) rfl
 have f0:=kz1.free 0
 have o1:=kz1.cell (i:=1) (v:= .slice none 0 0) rfl
 have f1:=kz1.free 1
 have o2:=kz1.cell (i:=2) (v:= .slice none 0 0) rfl
 have f2:=kz1.free 2
 have o3:=kz1.cell (i:=3) (v:= .slice none 0 0) rfl
 have f3:=kz1.free 3
 have o4:=kz1.cell (i:=4) (v:= .slice none 0 0) rfl
 have f4:=kz1.free 4
 have o5:=kz1.cell (i:=5) (v:= .int .i64 0) rfl
 have f5:=kz1.free 5
 have HF1:=Z9 hf1
 have TT:=Z9 T1
 have HN:=Z9 hnz
 clear hf1 ht1 T1 kb1 kz1 kz Ba hnz
 go_wp2_with fail
 refine bodyPost_ret (v:= .tuple #[.agg #[.slice a0 qs.length p0,.slice a1 m.guilds.length p1,.slice a2 m.smiths.length p2,.slice a3 m.desks.length p3,.slice a4 m.paces.length p4,.int .i64 m.now],.int .i64 0]) (by simp [results,Tryz.results279,go_sem, *]) rfl ⟨rfl,?_,?_⟩
 ·iterate 6 (refine FullSmy.set_off ?_ (uh HN) _ _)
  exact uh HF1
 ·iterate 6 (refine Two.set_new ?_ (Nat.le_refl _) _ _)
  exact uh TT
theorem OH {R n₀:Nat}  {qs:List (Z3 × Value)} (kb:Blk w R 32 #[v0,v1,v2,v3,v4,.int .i64 m.now]) (hf:FullSmy n₀ w v0 v1 v2 v3 v4 m qs) (h2:v2.ownBlock ≠ some R) (h3:v3.ownBlock ≠ some R) {k:Nat} (hk:k<m.smiths.length) (b:Int) :
  Calls Tryz.prog 278 #[.pointer (some ⟨R,0,none⟩),.int .i64 (k:Int),.int .i64 b] w fun e w'=>e= .returned (.tuple #[])/\FullSmy n₀ w' v0 v1 v2 v3 v4 (setS m k (2,b,(Z8 m.smiths k).2.2)) qs/\Two v2.ownBlock v3.ownBlock w w':=by
 obtain ⟨a2,p2,rfl⟩:=RecAt.shape hf.smiths
 obtain ⟨g2,rfl,hg2,hg2w,hc2,hz2⟩:=RecAt.view ZT (by omega) hf.smiths rfl (by omega)
 have s0:=hc2 k hk 0 _ rfl
 have f0:=hz2 (k*11)
 have c2:=kb.cell (i:=2) (v:= .slice (some ⟨g2,0,none⟩) m.smiths.length p2) rfl
 have hp1:=hf.putS rfl (j:=k) (i:=0) hk (by omega) (.int .i64 2) (stS (Z8 m.smiths k) 2) rfl
 have hlen:(m.smiths.set k (stS (Z8 m.smiths k) 2)).length=m.smiths.length:=by simp
 have hs1:Z8 (m.smiths.set k (stS (Z8 m.smiths k) 2)) k=stS (Z8 m.smiths k) 2:=by rw [ZF hk,if_pos rfl]
 have hp2:=hp1.putS hlen.symm (j:=k) (i:=1) (by show k<(m.smiths.set k _).length;omega) (by omega) (.int .i64 b) (2,b,(Z8 m.smiths k).2.2) (by show ZR (2,b,(Z8 m.smiths k).2.2)=(ZR (Z8 (m.smiths.set k (stS (Z8 m.smiths k) 2)) k)).set 1 _;rw [hs1];rfl)
 obtain ⟨_,hga,_,_,hc3,hz3⟩:=RecAt.view ZT (by omega) hp1.smiths hlen.symm (by show 0<(m.smiths.set k _).length;omega)
 cases hga
 have s1:=hc3 k (by show k<(m.smiths.set k _).length;omega) 1 _ rfl
 have f1:=hz3 (k*11+1)
 have hgR:g2 ≠ R:=fun e=>h2 (by rw [e];rfl)
 have c2':=(kb.other (a:=⟨g2,k*11,none⟩) (fun e=>hgR e.symm) (.int .i64 2)).cell (i:=2) (v:= .slice (some ⟨g2,0,none⟩) m.smiths.length p2) rfl
 simp only [Nat.add_zero,List.set_set] at s0 hp1 hp2 s1 f1
 have HP2:=Z9 hp2
 have hk1:(k:Int)<(m.smiths.length:Int):=by omega
 clear hc2 hz2 hc3 hz3 hp1 hp2 hf kb hs1 hlen h2 h3 hgR
 go_enter Tryz.func278,Tryz.ntmps278
 go_wp2_with fail
 go_end0
 exact ⟨rfl,uh HP2,(Two.of_set w (.inl rfl) _ _).trans (Two.of_set _ (.inl rfl) _ _)⟩
theorem UZ {R n₀:Nat}  {qs:List (Z3 × Value)} (kb:Blk w R 32 #[v0,v1,v2,v3,v4,.int .i64 m.now]) (hf:FullSmy n₀ w v0 v1 v2 v3 v4 m qs) (h2:v2.ownBlock ≠ some R) (h3:v3.ownBlock ≠ some R) {k bn b:Nat} (hk:k<m.smiths.length) (hbn:(Z8 m.smiths k).2.1=(bn:Int)) (hbn1:bn<m.desks.length) (hb:b<m.desks.length) :
  Calls Tryz.prog 283 #[.pointer (some ⟨R,0,none⟩),.int .i64 (k:Int),.int .i64 (b:Int)] w fun e w'=>e= .returned (.tuple #[])/\FullSmy n₀ w' v0 v1 v2 v3 v4 (setS m k (putS m (Z8 m.smiths k) b)) qs/\Two v2.ownBlock v3.ownBlock w w':=by
 obtain ⟨a2,p2,rfl⟩:=RecAt.shape hf.smiths
 obtain ⟨a3,p3,rfl⟩:=RecAt.shape hf.desks
 obtain ⟨g2,rfl,hg2,hg2w,hc2,hz2⟩:=RecAt.view ZT (by omega) hf.smiths rfl (by omega)
 obtain ⟨g3,rfl,hg3,hg3w,hc3,hz3⟩:=RecAt.view Zm (by omega) hf.desks rfl (by omega)
 have s1:=hc2 k hk 1 _ rfl
 have s7:=hc2 k hk 7 _ rfl
 have f1:=hz2 (k*11+1)
 have f7:=hz2 (k*11+7)
 have d1:=hc3 bn hbn1 2 _ rfl
 have d2:=hc3 b hb 2 _ rfl
 have c2:=kb.cell (i:=2) (v:= .slice (some ⟨g2,0,none⟩) m.smiths.length p2) rfl
 have c3:=kb.cell (i:=3) (v:= .slice (some ⟨g3,0,none⟩) m.desks.length p3) rfl
 have hmv:Zh (V7 (Z8 m.smiths k)) (Xw m (Z8 m.smiths k).2.1) (Xw m (b:Int))=Zh (Z8 m.smiths k).2.2.2.2.2.2.2.1 (Z8 m.desks bn).2.2 (Z8 m.desks b).2.2:=by unfold Xw V7;rw [hbn];simp
 have hx1:∃ x1:Z5,x1=((Z8 m.smiths k).1,(Z8 m.smiths k).2.1,(Z8 m.smiths k).2.2.1,(Z8 m.smiths k).2.2.2.1,(Z8 m.smiths k).2.2.2.2.1,(Z8 m.smiths k).2.2.2.2.2.1,(Z8 m.smiths k).2.2.2.2.2.2.1,Zh (Z8 m.smiths k).2.2.2.2.2.2.2.1 (Z8 m.desks bn).2.2 (Z8 m.desks b).2.2,(Z8 m.smiths k).2.2.2.2.2.2.2.2):=⟨_,rfl⟩
 obtain ⟨x1,hx1⟩:=hx1
 have hp1:=hf.putS rfl (j:=k) (i:=7) hk (by omega) (.int .i64 (Zh (Z8 m.smiths k).2.2.2.2.2.2.2.1 (Z8 m.desks bn).2.2 (Z8 m.desks b).2.2)) x1 (by rw [hx1];rfl)
 have hlen:(m.smiths.set k x1).length=m.smiths.length:=by simp
 have hs1:Z8 (m.smiths.set k x1) k=x1:=by rw [ZF hk,if_pos rfl]
 have hp2:=hp1.putS hlen.symm (j:=k) (i:=1) (by show k<(m.smiths.set k _).length;omega) (by omega) (.int .i64 (b:Int)) (putS m (Z8 m.smiths k) b) (by show ZR (putS m (Z8 m.smiths k) b)=(ZR (Z8 (m.smiths.set k x1) k)).set 1 _;rw [hs1,hx1];unfold putS;rw [hmv];rfl)
 obtain ⟨_,hga,_,_,hc4,hz4⟩:=RecAt.view ZT (by omega) hp1.smiths hlen.symm (by show 0<(m.smiths.set k _).length;omega)
 cases hga
 have s2:=hc4 k (by show k<(m.smiths.set k _).length;omega) 1 _ rfl
 have f2:=hz4 (k*11+1)
 simp only [List.set_set] at hp2
 have HP2:=Z9 hp2
 have hk1:(k:Int)<(m.smiths.length:Int):=by omega
 have hbn2:(bn:Int)<(m.desks.length:Int):=by omega
 have hb2:(b:Int)<(m.desks.length:Int):=by omega
 rw [hbn] at s1
 clear hc2 hz2 hc3 hz3 hc4 hz4 hp1 hp2 hf kb hs1 hlen h2 h3 hmv hx1 hbn
 generalize (Z8 m.smiths k).2.2.2.2.2.2.2.1=hd0 at *
 generalize (Z8 m.desks bn).2.2=mk1 at *
 generalize (Z8 m.desks b).2.2=mk2 at *
 go_enter Tryz.func283,Tryz.ntmps283
 go_wp2_with fail
 refine ZL (S:=fun w'=>w'.cell? ⟨g2,k*11+7,none⟩=some (.int .i64 hd0)/\w'.cell? ⟨R,3,none⟩=some (.slice (some ⟨g3,0,none⟩) m.desks.length p3)/\w'.cell? ⟨g2,k*11+1,none⟩=some (.int .i64 (bn:Int))/\w'.cell? ⟨g3,bn*3+2,none⟩=some (.int .i64 mk1)/\w'.cell? ⟨g3,b*3+2,none⟩=some (.int .i64 mk2)) (by kernel_rfl) (List.cons_ne_nil _ _) (by kernel_rfl) ⟨s7,c3,s1,d1,d2⟩ (fun hHeld=> ?_)
 simp only [List.dropLast_cons_cons,List.dropLast_singleton,List.length_cons,List.length_nil,Nat.zero_add,Nat.reduceAdd]
 (refine tk 0 rfl (by assumption) ?_;(try simp only [Act.put,sA,sZ,sS]))
 (refine tk 1 rfl (by assumption) ?_;(try simp only [Act.put,sA,sZ,sS]))
 (refine tk 2 rfl (by assumption) ?_;(try simp only [Act.put,sA,sZ,sS]))
 (refine tk 3 rfl (by assumption) ?_;(try simp only [Act.put,sA,sZ,sS]))
 (refine tk 4 rfl (by assumption) ?_;(try simp only [Act.put,sA,sZ,sS]))
 (refine tk 5 rfl (by assumption) ?_;(try simp only [Act.put,sA,sZ,sS]))
 (refine tk 6 rfl (by assumption) ?_;(try simp only [Act.put,sA,sZ,sS]))
 (refine tk 7 rfl (by assumption) ?_;(try simp only [Act.put,sA,sZ,sS]))
 (refine tk 8 rfl (by assumption) ?_;(try simp only [Act.put,sA,sZ,sS]))
 (refine tk 9 rfl (by assumption) ?_;(try simp only [Act.put,sA,sZ,sS]))
 (refine tk 10 rfl (by assumption) ?_;(try simp only [Act.put,sA,sZ,sS]))
 (refine tk 11 rfl (by assumption) ?_;(try simp only [Act.put,sA,sZ,sS]))
 (refine tk 12 rfl (by assumption) ?_;(try simp only [Act.put,sA,sZ,sS]))
 (refine tk 13 rfl (by assumption) ?_;(try simp only [Act.put,sA,sZ,sS]))
 (refine tk 14 rfl (by assumption) ?_;(try simp only [Act.put,sA,sZ,sS]))
 (refine tk 15 rfl (by assumption) ?_;(try simp only [Act.put,sA,sZ,sS]))
 (refine tk 16 rfl (by assumption) ?_;(try simp only [Act.put,sA,sZ,sS]))
 (refine tk 17 rfl (by assumption) ?_;(try simp only [Act.put,sA,sZ,sS]))
 (refine tk 18 rfl (by assumption) ?_;(try simp only [Act.put,sA,sZ,sS]))
 (refine tk 19 rfl (by assumption) ?_;(try simp only [Act.put,sA,sZ,sS]))
 (refine tk 20 rfl (by assumption) ?_;(try simp only [Act.put,sA,sZ,sS]))
 (refine tk 21 rfl (by assumption) ?_;(try simp only [Act.put,sA,sZ,sS]))
 (refine tk 22 rfl (by assumption) ?_;(try simp only [Act.put,sA,sZ,sS]))
 (refine tk 23 rfl (by assumption) ?_;(try simp only [Act.put,sA,sZ,sS]))
 refine rd 24 rfl (fun K hK=> ?_)
 go_simp
 refine (Sg hd0 mk1 mk2 _).mono ?_
 rintro e9 w9 ⟨rfl,hw9⟩
 subst w9
 refine hK.out _ _ hHeld (fun hHeld=> ?_)
 clear hK K
 (try simp only [Act.put,sA,sZ,sS])
 (refine tk 25 rfl (by assumption) ?_;(try simp only [Act.put,sA,sZ,sS]))
 (refine tk 26 rfl (by assumption) ?_;(try simp only [Act.put,sA,sZ,sS]))
 refine wpAnyH_done (by kernel_rfl) ?_ _
 refine ZM rfl rfl ?_
 go_simp
 clear hHeld
 go_wp2_with fail
 go_end0
 exact ⟨rfl,(uh HP2).below (Below.refl _ _).drew,((Two.of_set w (.inl rfl) _ _).trans (Two.of_set _ (.inl rfl) _ _)).trans (Two.of_below (Below.refl _ _).drew)⟩
theorem Yh  (h:Smy w v0 v1 v2 v3 v4 m) :
  Calls Tryz.prog 246 #[.agg #[v0,v1,v2,v3,v4,.int .i64 m.now]] w fun e w'=>e= .returned (.tuple #[.agg #[.slice none 0 0,.slice none 0 0,.slice none 0 0,.slice none 0 0,.slice none 0 0,.int .i64 0],.int .i64 3])/\Below w.heap.size w w':=by
 obtain ⟨a0,p0,a1,p1,a2,p2,a3,p3,a4,p4,rfl,rfl,rfl,rfl,rfl,_,_,_,_,_,_,_,_,_,_⟩:=h.five
 clear h
 go_enter Tryz.func246,Tryz.ntmps246
 go_wp2_with fail
 exact bodyPost_ret (v:= .tuple #[.agg #[.slice none 0 0,.slice none 0 0,.slice none 0 0,.slice none 0 0,.slice none 0 0,.int .i64 0],.int .i64 3]) (by simp [results,Tryz.results246,go_sem]) rfl ⟨rfl,((Below.refl _ _).alloc (Nat.le_refl _) _).alloc (by simp) _⟩
def UF (m:Z6) (b:Int):Z6 × Int:=
 if ZS m then (if Yq m b then (if (Z8 m.desks b.toNat).1 then (m,2) else (ZO (Ys m b.toNat true),0)) else (m,1)) else (X9,3)
theorem JP {b:Int} (h:Yq m b=true):∃ k:Nat,b=(k:Int)/\k<m.desks.length:=by
 have:=ZV (show inB b 0 ((m.desks.length:Int)-1)=true from h)
 exact ⟨b.toNat,by omega,by omega⟩
theorem I6 (h:ZS m=true) (b:Int):ZS (UF m b).1=true:=by
 unfold UF
 rw [h]
 simp only [if_true]
 split
 ·rename_i hw
  obtain ⟨k,rfl,hk⟩:=JP hw
  rw [show ((k:Int)).toNat=k by simp]
  split
  ·exact h
  ·exact YM (FA (ZZ h) hk)
 ·exact h
theorem Pd  (bench:Int) (h:Smy w v0 v1 v2 v3 v4 m) :
  Calls Tryz.prog 255 #[.agg #[v0,v1,v2,v3,v4,.int .i64 m.now],.int .i64 bench] w fun e w'=>Wt w.heap.size (UF m bench).1 (UF m bench).2 e w'/\Below w.heap.size w w':=by
 obtain ⟨X,hX⟩:∃ x,UF m bench=x:=⟨_,rfl⟩
 rw [hX]
 have HX:=Z9 hX
 clear hX
 have Hv0:=Z9 h
 obtain ⟨a0,p0,a1,p1,a2,p2,a3,p3,a4,p4,rfl,rfl,rfl,rfl,rfl,_,_,_,_,_,_,_,_,_,_⟩:=h.five
 clear h
 obtain ⟨ok,hok⟩:∃ q,ZS m=q:=⟨_,rfl⟩
 have Hok:=Z9 hok
 clear hok
 go_enter Tryz.func255,Tryz.ntmps255
 go_wp2_with fail
 obtain ⟨W,hW,kb,kr,BB⟩:=Yw w 32 (S6 a0 p0 a1 p1 a2 p2 a3 p3 a4 p4 m) 32 E6
 have Hv:=Z9 ((uh Hv0).below (uh BB))
 clear Hv0
 rw [hW]
 clear hW
 refine (Zd (uh Hok) (uh Hv)).mono ?_
 rintro e w1 ⟨rfl,hb⟩
 replace kb:=bl kb hb
 replace kr:=bl kr hb
 replace Hv:=Z9 ((uh Hv).below hb)
 replace BB:=bt BB hb
 clear hb
 cases ok
 ·
  obtain ⟨c0,c1,c2,c3,c4,c5⟩:=(uh kb).c6
  go_wp2_with fail
  clear c0 c1 c2 c3 c4 c5
  refine (Yh (uh Hv)).mono ?_
  rintro e w2 ⟨rfl,hb⟩
  replace kb:=bl kb hb
  replace kr:=bl kr hb
  replace Hv:=Z9 ((uh Hv).below hb)
  replace BB:=bt BB hb
  clear hb
  obtain ⟨o0,o1,o2,o3,o4,o5⟩:=(uh kr).c6
  obtain ⟨f0,f1,f2,f3,f4,f5⟩:=(uh kr).f6
  go_wp2_with fail
  have hX0:X=(X9,3):=by rw [<-uh HX];unfold UF;rw [uh Hok];rfl
  refine bodyPost_ret (v:= .tuple #[.agg #[.slice none 0 0,.slice none 0 0,.slice none 0 0,.slice none 0 0,.slice none 0 0,.int .i64 0],.int .i64 3]) (by simp [results,Tryz.results255,go_sem, *]) rfl ⟨?_,?_⟩
  ·rw [hX0];exact ⟨_,_,_,_,_,[],rfl,Yl _ _⟩
  ·iterate 6 (refine Below.setCell ?_ (by show _<=w.heap.size+1;omega) _)
   exact uh BB
 have hlo:=ZZ (uh Hok)
 have HLo:=Z9 hlo
 have HFew:=Z9 (WZ hlo)
 clear hlo
 obtain ⟨c0,c1,c2,c3,c4,c5⟩:=(uh kb).c6
 go_wp2_with fail
 clear c0 c1 c2 c3 c4 c5
 have hWs:w.heap.size+2<=w1.heap.size:=by have:=(uh kr).lt;omega
 refine (Zy (uh Hv) (uh HFew)).mono ?_
 rintro e w2 ⟨y0,y1,y2,y3,y4,oq,rfl,ho,hb⟩
 have k9:=ho.smy
 obtain ⟨b0,q0,b1,q1,b2,q2,b3,q3,b4,q4,rfl,rfl,rfl,rfl,rfl,_,_,_,_,_,_,_,_,_,_⟩:=k9.five
 clear k9
 replace kb:=bl kb hb
 replace kr:=bl kr hb
 replace Hv:=Z9 ((uh Hv).below hb)
 replace BB:=bt BB hb
 have HO:=Z9 (ho.mono hWs)
 have LO:Hid (∀ k,Ye (.slice b0 m.rooms.length q0) (.slice b1 m.guilds.length q1) (.slice b2 m.smiths.length q2) (.slice b3 m.desks.length q3) (.slice b4 m.paces.length q4) oq k->w.heap.size+2<=k/\k<w2.heap.size):=Z9 (fun k e=>(uh HO).own e)
 have hsz9:=hb.size
 clear ho hb
 go_upto_region 4 with fail
 obtain ⟨W2,hW2,hba,ko⟩:=Zo w2 32 (S6 b0 q0 b1 q1 b2 q2 b3 q3 b4 q4 m)
 replace kb:=bl kb hba
 replace kr:=bl kr hba
 replace Hv:=Z9 ((uh Hv).below hba)
 replace HO:=Z9 ((uh HO).below hba)
 replace BB:=bt BB hba
 have hob:w.heap.size+2<=w2.heap.size:=Nat.le_trans hWs hsz9
 clear hba hsz9 hWs
 rw [hW2]
 clear hW2
 generalize w2.heap.size=ob at *
 obtain ⟨qw,hqw⟩:∃ q,Yq m bench=q:=⟨_,rfl⟩
 have Hqw:=Z9 hqw
 clear hqw
 obtain ⟨c0,c1,c2,c3,c4,c5⟩:=(uh kb).c6
 go_wp2_with fail
 clear c0 c1 c2 c3 c4 c5
 refine (UU (uh Hqw) (uh Hv)).mono ?_
 rintro e w3 ⟨rfl,hb⟩
 replace kb:=bl kb hb
 replace kr:=bl kr hb
 replace Hv:=Z9 ((uh Hv).below hb)
 replace HO:=Z9 ((uh HO).below hb)
 replace ko:=bl ko hb
 replace BB:=bt BB hb
 clear hb
 cases qw
 ·
  obtain ⟨x0,x1,x2,x3,x4,x5⟩:=(uh ko).c6
  obtain ⟨o0,o1,o2,o3,o4,o5⟩:=(uh kr).c6
  obtain ⟨f0,f1,f2,f3,f4,f5⟩:=(uh kr).f6
  go_wp2_with fail
  have hX0:X=(m,1):=by rw [<-uh HX];unfold UF;rw [uh Hok,uh Hqw];rfl
  refine bodyPost_ret (v:= .tuple #[.agg #[.slice b0 m.rooms.length q0,.slice b1 m.guilds.length q1,.slice b2 m.smiths.length q2,.slice b3 m.desks.length q3,.slice b4 m.paces.length q4,.int .i64 m.now],.int .i64 1]) (by simp [results,Tryz.results255,go_sem, *]) rfl ⟨?_,?_⟩
  ·rw [hX0];refine ⟨_,_,_,_,_,oq,rfl,?_⟩
   iterate 6 (refine FullSmy.set_off ?_ (fun k e=>by have:=(uh LO k e).1;omega) _ _)
   exact (uh HO).mono (by omega)
  ·iterate 6 (refine Below.setCell ?_ (by show _<=w.heap.size+1;omega) _)
   exact uh BB
 obtain ⟨k,rfl,hk⟩:=JP (uh Hqw)
 have hk1:(k:Int)<(m.desks.length:Int):=by omega
 obtain ⟨_,_,hde,_,_,r3⟩:=(uh Hv).desks
 cases hde
 rcases r3 with e0 | ⟨db,off,rfl,hbw,hcl⟩
 ·rw [e0] at hk;simp at hk
 obtain ⟨d0,_,_⟩:=Zf hcl hk
 clear hcl
 obtain ⟨op,hop⟩:∃ q,(Z8 m.desks k).1=q:=⟨_,rfl⟩
 rw [hop] at d0
 have Hop:=Z9 hop
 clear hop
 have c3:=(uh kb).cell (i:=3) (v:= .slice (some ⟨db,off,none⟩) m.desks.length p3) rfl
 cases op
 rotate_left
 ·
  obtain ⟨x0,x1,x2,x3,x4,x5⟩:=(uh ko).c6
  obtain ⟨o0,o1,o2,o3,o4,o5⟩:=(uh kr).c6
  obtain ⟨f0,f1,f2,f3,f4,f5⟩:=(uh kr).f6
  go_wp2_with fail
  have hX0:X=(m,2):=by rw [<-uh HX];unfold UF;rw [uh Hok,uh Hqw];simp only [if_true,Int.toNat_natCast];rw [uh Hop];rfl
  refine bodyPost_ret (v:= .tuple #[.agg #[.slice b0 m.rooms.length q0,.slice b1 m.guilds.length q1,.slice b2 m.smiths.length q2,.slice b3 m.desks.length q3,.slice b4 m.paces.length q4,.int .i64 m.now],.int .i64 2]) (by simp [results,Tryz.results255,go_sem, *]) rfl ⟨?_,?_⟩
  ·rw [hX0];refine ⟨_,_,_,_,_,oq,rfl,?_⟩
   iterate 6 (refine FullSmy.set_off ?_ (fun k e=>by have:=(uh LO k e).1;omega) _ _)
   exact (uh HO).mono (by omega)
  ·iterate 6 (refine Below.setCell ?_ (by show _<=w.heap.size+1;omega) _)
   exact uh BB
 obtain ⟨g3,hga,_,_,hc3,hz3⟩:=RecAt.view Zm (by omega) (uh HO).desks rfl (by omega)
 cases hga
 have s0:=hc3 k hk 0 _ rfl
 have f0:=hz3 (k*3)
 have x3:=(uh ko).cell (i:=3) (v:= .slice (some ⟨g3,0,none⟩) m.desks.length q3) rfl
 have hput:=(uh HO).putD rfl (j:=k) (i:=0) hk (by omega) (.bool true) (true,(Z8 m.desks k).2) rfl
 simp only [Nat.add_zero] at s0 hput
 have hg3o:=(uh LO g3 (.inr (.inr (.inr (.inr (.inl rfl))))))
 clear hc3 hz3
 go_upto_region 9 with fail
 clear s0 f0 x3 c3 d0
 have HP:=Z9 hput
 clear hput HO
 replace ko:Hid (Blk (w3.setCell ⟨g3,k*3,none⟩ (.bool true)) ob 32 #[.slice b0 m.rooms.length q0,.slice b1 m.guilds.length q1,.slice b2 m.smiths.length q2,.slice (some ⟨g3,0,none⟩) m.desks.length q3,.slice b4 m.paces.length q4,.int .i64 m.now]):=Z9 ((uh ko).other (a:=⟨g3,k*3,none⟩) (by show ob ≠ g3;omega) _)
 replace kr:Hid (Blk (w3.setCell ⟨g3,k*3,none⟩ (.bool true)) (w.heap.size+1) 32 #[.slice none 0 0,.slice none 0 0,.slice none 0 0,.slice none 0 0,.slice none 0 0,.int .i64 0]):=Z9 ((uh kr).other (a:=⟨g3,k*3,none⟩) (by show w.heap.size+1 ≠ g3;omega) _)
 replace BB:Hid (Below w.heap.size w (w3.setCell ⟨g3,k*3,none⟩ (.bool true))):=Z9 ((uh BB).setCell (p:=⟨g3,k*3,none⟩) (by show w.heap.size<=g3;omega) _)
 clear kb Hv
 generalize w3.setCell ⟨g3,k*3,none⟩ (.bool true)=W3 at *
 have hfw:=uh HFew
 go_wp2_with fail
 have hofR:∀ k,Ye (.slice b0 m.rooms.length q0) (.slice b1 m.guilds.length q1) (.slice b2 m.smiths.length q2) (.slice (some ⟨g3,0,none⟩) m.desks.length q3) (.slice b4 m.paces.length q4) oq k->k ≠ ob:=fun k e=>by have:=(uh LO k e).2;omega
 refine (YU (m:=Ys m k true) (uh ko) (uh HP) (fun e=>hofR _ (.inr (.inr (.inr (.inl e)))) rfl) (fun e=>hofR _ (.inr (.inr (.inr (.inr (.inl e))))) rfl) (by show m.smiths.length<=800;have:=hfw.smiths;omega) (by show (m.desks.set k _).length<=_;rw [List.length_set];exact hfw.desks)).mono ?_
 rintro e w4 ⟨rfl,hf9,ht9⟩
 replace kr:=Z9 ((uh kr).two ht9 (fun e=>by have:=(uh LO _ (.inr (.inr (.inr (.inl e))))).1;omega) (fun e=>by have:=(uh LO _ (.inr (.inr (.inr (.inr (.inl e)))))).1;omega))
 replace BB:=Z9 ((uh BB).trans (ht9.below (uh BB).size (fun k e=>by have:=(uh LO k (.inr (.inr (.inr (.inl e))))).1;omega) (fun k e=>by have:=(uh LO k (.inr (.inr (.inr (.inr (.inl e)))))).1;omega)))
 have HF9:=Z9 hf9
 clear hf9 ht9 hofR
 obtain ⟨o0,o1,o2,o3,o4,o5⟩:=(uh kr).c6
 obtain ⟨f0,f1,f2,f3,f4,f5⟩:=(uh kr).f6
 go_wp2_with fail
 have hX0:X=(ZO (Ys m k true),0):=by rw [<-uh HX];unfold UF;rw [uh Hok,uh Hqw];simp only [if_true,Int.toNat_natCast];rw [uh Hop];rfl
 have hnow:(ZO (Ys m k true)).now=m.now:=(ZK _ _).2.2.2.1
 refine bodyPost_ret (v:= .tuple #[.agg #[.slice b0 m.rooms.length q0,.slice b1 m.guilds.length q1,.slice b2 m.smiths.length q2,.slice (some ⟨g3,0,none⟩) m.desks.length q3,.slice b4 m.paces.length q4,.int .i64 m.now],.int .i64 0]) (by simp [results,Tryz.results255,go_sem,setS,Ux,Ys,pushS, *]) rfl ⟨?_,?_⟩
 ·rw [hX0];refine ⟨_,_,_,_,_,oq,by rw [hnow],?_⟩
  iterate 6 (refine FullSmy.set_off ?_ (fun k e=>by have:=(uh LO k e).1;omega) _ _)
  exact (uh HF9).mono (by omega)
 ·iterate 6 (refine Below.setCell ?_ (by show _<=w.heap.size+1;omega) _)
  exact uh BB
def We (m:Z6) (room pace:Int):Z6 × Int:=
 if ZS m then (if Pt m room then (if inB pace 0 (((ZU m.rooms room.toNat).2.length:Int)-1) then (ZO (Ux m room.toNat pace),0) else (m,3)) else (m,1)) else (X9,3)
theorem Ke (h:ZS m=true) (room pace:Int):ZS (We m room pace).1=true:=by
 unfold We
 rw [h]
 simp only [if_true]
 split
 ·rename_i hw
  obtain ⟨k,rfl,hk⟩:=G9 hw
  rw [show ((k:Int)).toNat=k by simp]
  split
  ·rename_i hp
   have:=ZV hp
   exact YM (MZ (ZZ h) hk (by omega) (by omega))
  ·exact h
 ·exact h
theorem WA (h:Loose m):m.paces.length=m.rooms.length:=by
 have hd:=h.head
 unfold YG at hd
 simp only [Bool.and_eq_true,decide_eq_true_eq] at hd
 exact hd.2.2.2.2.1
theorem PT  (room:Int) (pace:Int) (h:Smy w v0 v1 v2 v3 v4 m) :
  Calls Tryz.prog 257 #[.agg #[v0,v1,v2,v3,v4,.int .i64 m.now],.int .i64 room,.int .i64 pace] w fun e w'=>Wt w.heap.size (We m room pace).1 (We m room pace).2 e w'/\Below w.heap.size w w':=by
 obtain ⟨X,hX⟩:∃ x,We m room pace=x:=⟨_,rfl⟩
 rw [hX]
 have HX:=Z9 hX
 clear hX
 have Hv0:=Z9 h
 obtain ⟨a0,p0,a1,p1,a2,p2,a3,p3,a4,p4,rfl,rfl,rfl,rfl,rfl,_,_,_,_,_,_,_,_,_,_⟩:=h.five
 clear h
 obtain ⟨ok,hok⟩:∃ q,ZS m=q:=⟨_,rfl⟩
 have Hok:=Z9 hok
 clear hok
 go_enter Tryz.func257,Tryz.ntmps257
 go_wp2_with fail
 obtain ⟨W,hW,kb,kr,BB⟩:=Yw w 32 (S6 a0 p0 a1 p1 a2 p2 a3 p3 a4 p4 m) 32 E6
 have Hv:=Z9 ((uh Hv0).below (uh BB))
 clear Hv0
 rw [hW]
 clear hW
 refine (Zd (uh Hok) (uh Hv)).mono ?_
 rintro e w1 ⟨rfl,hb⟩
 replace kb:=bl kb hb
 replace kr:=bl kr hb
 replace Hv:=Z9 ((uh Hv).below hb)
 replace BB:=bt BB hb
 clear hb
 cases ok
 ·
  obtain ⟨c0,c1,c2,c3,c4,c5⟩:=(uh kb).c6
  go_wp2_with fail
  clear c0 c1 c2 c3 c4 c5
  refine (Yh (uh Hv)).mono ?_
  rintro e w2 ⟨rfl,hb⟩
  replace kb:=bl kb hb
  replace kr:=bl kr hb
  replace Hv:=Z9 ((uh Hv).below hb)
  replace BB:=bt BB hb
  clear hb
  obtain ⟨o0,o1,o2,o3,o4,o5⟩:=(uh kr).c6
  obtain ⟨f0,f1,f2,f3,f4,f5⟩:=(uh kr).f6
  go_wp2_with fail
  have hX0:X=(X9,3):=by rw [<-uh HX];unfold We;rw [uh Hok];rfl
  refine bodyPost_ret (v:= .tuple #[.agg #[.slice none 0 0,.slice none 0 0,.slice none 0 0,.slice none 0 0,.slice none 0 0,.int .i64 0],.int .i64 3]) (by simp [results,Tryz.results257,go_sem, *]) rfl ⟨?_,?_⟩
  ·rw [hX0];exact ⟨_,_,_,_,_,[],rfl,Yl _ _⟩
  ·iterate 6 (refine Below.setCell ?_ (by show _<=w.heap.size+1;omega) _)
   exact uh BB
 have hlo:=ZZ (uh Hok)
 have HLo:=Z9 hlo
 have HFew:=Z9 (WZ hlo)
 clear hlo
 obtain ⟨c0,c1,c2,c3,c4,c5⟩:=(uh kb).c6
 go_wp2_with fail
 clear c0 c1 c2 c3 c4 c5
 have hWs:w.heap.size+2<=w1.heap.size:=by have:=(uh kr).lt;omega
 refine (Zy (uh Hv) (uh HFew)).mono ?_
 rintro e w2 ⟨y0,y1,y2,y3,y4,oq,rfl,ho,hb⟩
 have k9:=ho.smy
 obtain ⟨b0,q0,b1,q1,b2,q2,b3,q3,b4,q4,rfl,rfl,rfl,rfl,rfl,_,_,_,_,_,_,_,_,_,_⟩:=k9.five
 clear k9
 replace kb:=bl kb hb
 replace kr:=bl kr hb
 replace Hv:=Z9 ((uh Hv).below hb)
 replace BB:=bt BB hb
 have HO:=Z9 (ho.mono hWs)
 have LO:Hid (∀ k,Ye (.slice b0 m.rooms.length q0) (.slice b1 m.guilds.length q1) (.slice b2 m.smiths.length q2) (.slice b3 m.desks.length q3) (.slice b4 m.paces.length q4) oq k->w.heap.size+2<=k/\k<w2.heap.size):=Z9 (fun k e=>(uh HO).own e)
 have hsz9:=hb.size
 clear ho hb
 go_upto_region 4 with fail
 obtain ⟨W2,hW2,hba,ko⟩:=Zo w2 32 (S6 b0 q0 b1 q1 b2 q2 b3 q3 b4 q4 m)
 replace kb:=bl kb hba
 replace kr:=bl kr hba
 replace Hv:=Z9 ((uh Hv).below hba)
 replace HO:=Z9 ((uh HO).below hba)
 replace BB:=bt BB hba
 have hob:w.heap.size+2<=w2.heap.size:=Nat.le_trans hWs hsz9
 clear hba hsz9 hWs
 rw [hW2]
 clear hW2
 generalize w2.heap.size=ob at *
 obtain ⟨qw,hqw⟩:∃ q,Pt m room=q:=⟨_,rfl⟩
 have Hqw:=Z9 hqw
 clear hqw
 obtain ⟨c0,c1,c2,c3,c4,c5⟩:=(uh kb).c6
 go_wp2_with fail
 clear c0 c1 c2 c3 c4 c5
 refine (FD (uh Hqw) (uh Hv)).mono ?_
 rintro e w3 ⟨rfl,hb⟩
 replace kb:=bl kb hb
 replace kr:=bl kr hb
 replace Hv:=Z9 ((uh Hv).below hb)
 replace HO:=Z9 ((uh HO).below hb)
 replace ko:=bl ko hb
 replace BB:=bt BB hb
 clear hb
 cases qw
 ·
  obtain ⟨x0,x1,x2,x3,x4,x5⟩:=(uh ko).c6
  obtain ⟨o0,o1,o2,o3,o4,o5⟩:=(uh kr).c6
  obtain ⟨f0,f1,f2,f3,f4,f5⟩:=(uh kr).f6
  go_wp2_with fail
  have hX0:X=(m,1):=by rw [<-uh HX];unfold We;rw [uh Hok,uh Hqw];rfl
  refine bodyPost_ret (v:= .tuple #[.agg #[.slice b0 m.rooms.length q0,.slice b1 m.guilds.length q1,.slice b2 m.smiths.length q2,.slice b3 m.desks.length q3,.slice b4 m.paces.length q4,.int .i64 m.now],.int .i64 1]) (by simp [results,Tryz.results257,go_sem, *]) rfl ⟨?_,?_⟩
  ·rw [hX0];refine ⟨_,_,_,_,_,oq,rfl,?_⟩
   iterate 6 (refine FullSmy.set_off ?_ (fun k e=>by have:=(uh LO k e).1;omega) _ _)
   exact (uh HO).mono (by omega)
  ·iterate 6 (refine Below.setCell ?_ (by show _<=w.heap.size+1;omega) _)
   exact uh BB
 obtain ⟨k,rfl,hk⟩:=G9 (uh Hqw)
 have hk1:(k:Int)<(m.rooms.length:Int):=by omega
 have hkp:k<m.paces.length:=by rw [WA (uh HLo)];exact hk
 have hkp1:(k:Int)<(m.paces.length:Int):=by omega
 obtain ⟨_,_,hre,_,_,r0⟩:=(uh Hv).rooms
 cases hre
 rcases r0 with e0 | ⟨rb,off,rfl,hbw,hcl⟩
 ·rw [e0] at hk;simp at hk
 obtain ⟨_,pv,d1,pa,pc,rfl,hpc,hpm,_⟩:=hcl k hk
 clear hcl
 obtain ⟨op,hop⟩:∃ q,inB pace 0 (((ZU m.rooms k).2.length:Int)-1)=q:=⟨_,rfl⟩
 have Hop:=Z9 hop
 have hpl:(ZU m.rooms k).2.length<=9223372036854775807:=by omega
 have c0:=(uh kb).cell (i:=0) (v:= .slice (some ⟨rb,off,none⟩) m.rooms.length p0) rfl
 obtain ⟨nl,hnl⟩:∃ q,(ZU m.rooms k).2.length=q:=⟨_,rfl⟩
 rw [hnl] at hop d1 hpl
 have Hop2:=Z9 hop
 clear hop hnl hpc
 go_wp2_with fail
 refine (Z0 _ _ _ _).mono ?_
 rw [uh Hop2]
 rintro e w9 ⟨rfl,hw9⟩
 subst w9
 cases op
 ·
  obtain ⟨x0,x1,x2,x3,x4,x5⟩:=(uh ko).c6
  obtain ⟨o0,o1,o2,o3,o4,o5⟩:=(uh kr).c6
  obtain ⟨f0,f1,f2,f3,f4,f5⟩:=(uh kr).f6
  go_wp2_with fail
  have hX0:X=(m,3):=by rw [<-uh HX];unfold We;rw [uh Hok,uh Hqw];simp only [if_true,Int.toNat_natCast];rw [uh Hop];rfl
  refine bodyPost_ret (v:= .tuple #[.agg #[.slice b0 m.rooms.length q0,.slice b1 m.guilds.length q1,.slice b2 m.smiths.length q2,.slice b3 m.desks.length q3,.slice b4 m.paces.length q4,.int .i64 m.now],.int .i64 3]) (by simp [results,Tryz.results257,go_sem, *]) rfl ⟨?_,?_⟩
  ·rw [hX0];refine ⟨_,_,_,_,_,oq,rfl,?_⟩
   iterate 6 (refine FullSmy.set_off ?_ (fun k e=>by have:=(uh LO k e).1;omega) _ _)
   exact (uh HO).mono (by omega)
  ·iterate 6 (refine Below.setCell ?_ (by show _<=w.heap.size+1;omega) _)
   exact uh BB
 obtain ⟨g4,hga,_,_,hc4,hz4⟩:=RecAt.view YK (by omega) (uh HO).paces rfl (by omega)
 cases hga
 have s0:=hc4 k hkp 0 _ rfl
 have f0:=hz4 k
 have x4:=(uh ko).cell (i:=4) (v:= .slice (some ⟨g4,0,none⟩) m.paces.length q4) rfl
 have hput:=(uh HO).putP rfl (j:=k) hkp pace
 simp only [Nat.add_zero,Nat.mul_one] at s0
 have hg4o:=(uh LO g4 (.inr (.inr (.inr (.inr (.inr rfl))))))
 clear hc4 hz4
 go_upto_region 9 with fail
 clear s0 f0 x4 c0 d1
 have HP:=Z9 hput
 clear hput HO
 replace ko:Hid (Blk (w3.setCell ⟨g4,k,none⟩ (.int .i64 pace)) ob 32 #[.slice b0 m.rooms.length q0,.slice b1 m.guilds.length q1,.slice b2 m.smiths.length q2,.slice b3 m.desks.length q3,.slice (some ⟨g4,0,none⟩) m.paces.length q4,.int .i64 m.now]):=Z9 ((uh ko).other (a:=⟨g4,k,none⟩) (by show ob ≠ g4;omega) _)
 replace kr:Hid (Blk (w3.setCell ⟨g4,k,none⟩ (.int .i64 pace)) (w.heap.size+1) 32 #[.slice none 0 0,.slice none 0 0,.slice none 0 0,.slice none 0 0,.slice none 0 0,.int .i64 0]):=Z9 ((uh kr).other (a:=⟨g4,k,none⟩) (by show w.heap.size+1 ≠ g4;omega) _)
 replace BB:Hid (Below w.heap.size w (w3.setCell ⟨g4,k,none⟩ (.int .i64 pace))):=Z9 ((uh BB).setCell (p:=⟨g4,k,none⟩) (by show w.heap.size<=g4;omega) _)
 clear kb Hv
 generalize w3.setCell ⟨g4,k,none⟩ (.int .i64 pace)=W3 at *
 have hfw:=uh HFew
 go_wp2_with fail
 have hofR:∀ k,Ye (.slice b0 m.rooms.length q0) (.slice b1 m.guilds.length q1) (.slice b2 m.smiths.length q2) (.slice b3 m.desks.length q3) (.slice (some ⟨g4,0,none⟩) m.paces.length q4) oq k->k ≠ ob:=fun k e=>by have:=(uh LO k e).2;omega
 refine (YU (m:=Ux m k pace) (uh ko) (uh HP) (fun e=>hofR _ (.inr (.inr (.inr (.inl e)))) rfl) (fun e=>hofR _ (.inr (.inr (.inr (.inr (.inl e))))) rfl) (by show m.smiths.length<=800;have:=hfw.smiths;omega) hfw.desks).mono ?_
 rintro e w4 ⟨rfl,hf9,ht9⟩
 replace kr:=Z9 ((uh kr).two ht9 (fun e=>by have:=(uh LO _ (.inr (.inr (.inr (.inl e))))).1;omega) (fun e=>by have:=(uh LO _ (.inr (.inr (.inr (.inr (.inl e)))))).1;omega))
 replace BB:=Z9 ((uh BB).trans (ht9.below (uh BB).size (fun k e=>by have:=(uh LO k (.inr (.inr (.inr (.inl e))))).1;omega) (fun k e=>by have:=(uh LO k (.inr (.inr (.inr (.inr (.inl e)))))).1;omega)))
 have HF9:=Z9 hf9
 clear hf9 ht9 hofR
 obtain ⟨o0,o1,o2,o3,o4,o5⟩:=(uh kr).c6
 obtain ⟨f0,f1,f2,f3,f4,f5⟩:=(uh kr).f6
 go_wp2_with fail
 have hX0:X=(ZO (Ux m k pace),0):=by rw [<-uh HX];unfold We;rw [uh Hok,uh Hqw];simp only [if_true,Int.toNat_natCast];rw [uh Hop];rfl
 have hnow:(ZO (Ux m k pace)).now=m.now:=(ZK _ _).2.2.2.1
 refine bodyPost_ret (v:= .tuple #[.agg #[.slice b0 m.rooms.length q0,.slice b1 m.guilds.length q1,.slice b2 m.smiths.length q2,.slice b3 m.desks.length q3,.slice (some ⟨g4,0,none⟩) m.paces.length q4,.int .i64 m.now],.int .i64 0]) (by simp [results,Tryz.results257,go_sem,setS,Ux,Ys,pushS, *]) rfl ⟨?_,?_⟩
 ·rw [hX0];refine ⟨_,_,_,_,_,oq,by rw [hnow],?_⟩
  iterate 6 (refine FullSmy.set_off ?_ (fun k e=>by have:=(uh LO k e).1;omega) _ _)
  exact (uh HF9).mono (by omega)
 ·iterate 6 (refine Below.setCell ?_ (by show _<=w.heap.size+1;omega) _)
  exact uh BB
set_option maxRecDepth 100000
theorem NI  {r:Nat} (h:Smy w v0 v1 v2 v3 v4 m) (hS:Sane m) (hr:r<m.rooms.length) :
  Calls Tryz.prog 287 #[.agg #[v0,v1,v2,v3,v4,.int .i64 m.now],.int .i64 (r:Int)] w fun e w'=>e= .returned (.int .i64 (TU m r))/\Below w.heap.size w w':=by
 have Hv:=Z9 (h.alloc (.cells #[v0,v1,v2,v3,v4,.int .i64 m.now] 32))
 obtain ⟨a0,p0,a1,p1,a2,p2,a3,p3,a4,p4,rfl,rfl,rfl,rfl,rfl,_,_,_,_,_,_,_,_,_,_⟩:=h.five
 clear h
 have kb:Hid (Blk (w.alloc (.cells #[.slice a0 m.rooms.length p0,.slice a1 m.guilds.length p1,.slice a2 m.smiths.length p2,.slice a3 m.desks.length p3,.slice a4 m.paces.length p4,.int .i64 m.now] 32)) w.heap.size 32 #[.slice a0 m.rooms.length p0,.slice a1 m.guilds.length p1,.slice a2 m.smiths.length p2,.slice a3 m.desks.length p3,.slice a4 m.paces.length p4,.int .i64 m.now]):=Z9 (Blk.new w _ _)
 have BB:Hid (Below w.heap.size w (w.alloc (.cells #[.slice a0 m.rooms.length p0,.slice a1 m.guilds.length p1,.slice a2 m.smiths.length p2,.slice a3 m.desks.length p3,.slice a4 m.paces.length p4,.int .i64 m.now] 32))):=Z9 ((Below.refl _ _).alloc (Nat.le_refl _) _)
 obtain ⟨x,hx⟩:∃ x,TU m r=x:=⟨_,rfl⟩
 rw [hx]
 obtain ⟨ms,hms⟩:∃ q,Y1 m (r:Int) m.desks.length=q:=⟨_,rfl⟩
 have Hx:Hid (XI (ZU m.rooms r) ms.1=x):=Z9 (by rw [<-hx,<-hms];rfl)
 have Hms:=Z9 hms
 have HS:=Z9 hS
 have hr1:(r:Int)<(m.rooms.length:Int):=by omega
 clear hx hms hS
 obtain ⟨mo,al⟩:=ms
 go_enter Tryz.func287,Tryz.ntmps287
 go_wp2_with fail
 generalize w.alloc (.cells #[.slice a0 m.rooms.length p0,.slice a1 m.guilds.length p1,.slice a2 m.smiths.length p2,.slice a3 m.desks.length p3,.slice a4 m.paces.length p4,.int .i64 m.now] 32)=W at *
 refine (P7 (r:Int) (uh Hv) (uh HS)).mono ?_
 rw [uh Hms]
 rintro e w1 ⟨rfl,hb⟩
 replace Hv:=Z9 ((uh Hv).below hb)
 replace kb:=bl kb hb
 replace BB:=bt BB hb
 clear hb
 obtain ⟨_,_,hre,_,_,r0⟩:=(uh Hv).rooms
 cases hre
 rcases r0 with e0 | ⟨rb,off,rfl,hbw,hcl⟩
 ·rw [e0] at hr;simp at hr
 obtain ⟨d0,pv,d1,hpv⟩:=hcl r hr
 have Hpv:=Z9 hpv
 obtain ⟨pa,pc,rfl,_,_,_⟩:=hpv
 obtain ⟨⟨bn,ps⟩,hrm⟩:∃ q,ZU m.rooms r=q:=⟨_,rfl⟩
 rw [hrm] at d0 d1 Hpv Hx
 simp only at d0 d1
 clear hcl hrm
 have c0:=(uh kb).cell (i:=0) (v:= .slice (some ⟨rb,off,none⟩) m.rooms.length p0) rfl
 go_wp2_with fail
 refine (Tm bn mo (uh Hpv)).mono ?_
 rintro e w2 ⟨rfl,hb⟩
 replace BB:=bt BB hb
 clear hb
 go_wp2_with fail
 go_ret
 exact ⟨ZJ (uh Hx),uh BB⟩
theorem P6  {b:Nat} (h:Smy w v0 v1 v2 v3 v4 m) (hb0:b<m.desks.length) (hl:m.smiths.length<=800) :
  Calls Tryz.prog 298 #[.agg #[v0,v1,v2,v3,v4,.int .i64 m.now],.int .i64 (b:Int)] w fun e w'=>e= .returned (.bool (Wf m b))/\Below w.heap.size w w':=by
 have Hv:=Z9 (h.alloc (.cells #[v0,v1,v2,v3,v4,.int .i64 m.now] 32))
 obtain ⟨a0,p0,a1,p1,a2,p2,a3,p3,a4,p4,rfl,rfl,rfl,rfl,rfl,_,_,_,_,_,_,_,_,_,_⟩:=h.five
 clear h
 have kb:Hid (Blk (w.alloc (.cells #[.slice a0 m.rooms.length p0,.slice a1 m.guilds.length p1,.slice a2 m.smiths.length p2,.slice a3 m.desks.length p3,.slice a4 m.paces.length p4,.int .i64 m.now] 32)) w.heap.size 32 #[.slice a0 m.rooms.length p0,.slice a1 m.guilds.length p1,.slice a2 m.smiths.length p2,.slice a3 m.desks.length p3,.slice a4 m.paces.length p4,.int .i64 m.now]):=Z9 (Blk.new w _ _)
 have BB:Hid (Below w.heap.size w (w.alloc (.cells #[.slice a0 m.rooms.length p0,.slice a1 m.guilds.length p1,.slice a2 m.smiths.length p2,.slice a3 m.desks.length p3,.slice a4 m.paces.length p4,.int .i64 m.now] 32))):=Z9 ((Below.refl _ _).alloc (Nat.le_refl _) _)
 have hb1:(b:Int)<(m.desks.length:Int):=by omega
 obtain ⟨qs,hqs⟩:∃ q,atV m.smiths (b:Int) m.smiths.length=q:=⟨_,rfl⟩
 obtain ⟨op,hop⟩:∃ q,(Z8 m.desks b).1=q:=⟨_,rfl⟩
 have hI:Wf m b=(op && decide (qs.length=0)):=by unfold Wf;rw [hqs,hop]
 rw [hI]
 have Hqs:=Z9 hqs
 have Hop:=Z9 hop
 clear hI hqs hop
 go_enter Tryz.func298,Tryz.ntmps298
 go_upto_region 1 with fail
 generalize w.alloc (.cells #[.slice a0 m.rooms.length p0,.slice a1 m.guilds.length p1,.slice a2 m.smiths.length p2,.slice a3 m.desks.length p3,.slice a4 m.paces.length p4,.int .i64 m.now] 32)=W at *
 obtain ⟨_,_,hde,_,_,r3⟩:=(uh Hv).desks
 cases hde
 rcases r3 with e0 | ⟨db,off,rfl,hbw,hcl⟩
 ·rw [e0] at hb0;simp at hb0
 obtain ⟨d0,_,_⟩:=Zf hcl hb0
 rw [uh Hop] at d0
 clear hcl Hop
 obtain ⟨c0,c1,c2,c3,c4,c5⟩:=(uh kb).c6
 cases op
 ·go_wp2_with fail
  go_ret
  exact ⟨rfl,uh BB⟩
 go_wp2_with fail
 refine (Sp (b:Int) (uh Hv) (by omega)).mono ?_
 rw [uh Hqs]
 rintro e w2 ⟨v',rfl,he,hb⟩
 obtain ⟨ua,uc,rfl⟩:=EntsAt.shape he
 replace BB:=bt BB hb
 clear hb he c0 c1 c2 c3 c4 c5
 go_wp2_with fail
 go_ret
 exact ⟨Z7 (by rw [Bool.true_and,Bool.eq_iff_iff];simp only [beq_iff_eq,decide_eq_true_eq];omega),uh BB⟩
def Gc:Option (Nat × Nat)->Value
 | none=> .tuple #[.int .i64 0,.int .i64 0,.bool false]
 | some (w,b)=> .tuple #[.int .i64 (w:Int),.int .i64 (b:Int),.bool true]
theorem Gk {b w:Nat} {k n:Nat} (h:VE m b k=some w) (hn:k<=n):VE m b n=some w:=by
 obtain ⟨d,rfl⟩:∃ d,n=k+d:=⟨n-k,by omega⟩
 clear hn
 induction d with
 | zero=>exact h
 | succ d ih=>
  show VE m b (k+d+1)=some w
  unfold VE
  rw [ih]
theorem JB {w b:Nat} {k n:Nat} (h:WT m k=some (w,b)) (hn:k<=n):WT m n=some (w,b):=by
 obtain ⟨d,rfl⟩:∃ d,n=k+d:=⟨n-k,by omega⟩
 clear hn
 induction d with
 | zero=>exact h
 | succ d ih=>
  show WT m (k+d+1)=some (w,b)
  unfold WT
  rw [ih]
theorem Fk {w b:Nat} {k n:Nat} (h:VX m w k=some b) (hn:k<=n):VX m w n=some b:=by
 obtain ⟨d,rfl⟩:∃ d,n=k+d:=⟨n-k,by omega⟩
 clear hn
 induction d with
 | zero=>exact h
 | succ d ih=>
  show VX m w (k+d+1)=some b
  unfold VX
  rw [ih]
theorem D7 {w b:Nat} {k n:Nat} (h:Uc m k=some (w,b)) (hn:k<=n):Uc m n=some (w,b):=by
 obtain ⟨d,rfl⟩:∃ d,n=k+d:=⟨n-k,by omega⟩
 clear hn
 induction d with
 | zero=>exact h
 | succ d ih=>
  show Uc m (k+d+1)=some (w,b)
  unfold Uc
  rw [ih]
end Go.Proofs.YtaegckehjlkaaaaGreat
