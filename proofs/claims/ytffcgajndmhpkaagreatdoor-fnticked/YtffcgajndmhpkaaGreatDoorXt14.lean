/- Part 14 of what the proof rests on. No condition but those that a theorem names. -/
import Derived.Test.YtffcgajndmhpkaaGreatDoorXt13
set_option maxHeartbeats 8000000
set_option maxRecDepth 100000
namespace Go.Proofs.YtffcgajndmhpkaaGreatDoor
open Go.ChangeShapes Go.WideShapes Go.ChangeAt Go.RowKit Go.Sort
set_option linter.unusedVariables false
set_option linter.unusedSimpArgs false
theorem Two.set_new {p q:Option Nat} {w w':World} (h:Two p q w w') {g:Nat} (hg:w.heap.size<=g) (o:Nat) (u:Value):Two p q w (w'.setCell ⟨g,o,none⟩ u):=
 ⟨h.os,h.tape,h.output,by simpa using h.size,fun i hi hp hq=>(heap_setCell_other w' _ i u (by show i ≠ g;omega)).trans (h.block i hi hp hq)⟩
theorem FullSmy.lt {n₀:Nat} {w:World} {v0 v1 v2 v3 v4:Value} {m:Z6} {qs:List (Z2 × Value)} (h:FullSmy n₀ w v0 v1 v2 v3 v4 m qs) {k:Nat} (e:v0.ownBlock=some k\/(∃ q ∈ qs,q.2.ownBlock=some k)\/v1.ownBlock=some k\/v2.ownBlock=some k\/v3.ownBlock=some k\/v4.ownBlock=some k):n₀<=k/\k<w.heap.size:=by
 rcases e with e | e | e | e | e | e
 ·exact h.hall.lt (.inl e)
 ·exact h.hall.lt (.inr e)
 ·exact RecAt.lt h.guilds e
 ·exact RecAt.lt h.smiths e
 ·exact RecAt.lt h.desks e
 ·exact RecAt.lt h.paces e
theorem Tc {w:World} {R n₀:Nat} {v0 v1 v2 v3 v4:Value} {m:Z6} {qs:List (Z2 × Value)} (kb:Blk w R 32 #[v0,v1,v2,v3,v4,.int .i64 m.now]) (hf:FullSmy n₀ w v0 v1 v2 v3 v4 m qs) (h2:v2.ownBlock ≠ some R) (h3:v3.ownBlock ≠ some R) (hl:m.smiths.length<=800) (hd:m.desks.length<=1000) :
  Calls Tryz.prog 44 #[.pointer (some ⟨R,0,none⟩)] w fun e w'=>e= .returned (.tuple #[.agg #[v0,v1,v2,v3,v4,.int .i64 m.now],.int .i64 0])/\FullSmy n₀ w' v0 v1 v2 v3 v4 (ZQ m) qs/\Two v2.ownBlock v3.ownBlock w w':=by
 have hfl:=fun k e=>(hf.lt (k:=k) e).2
 obtain ⟨a0,p0,rfl⟩:=hf.hall.shape
 obtain ⟨a1,p1,rfl⟩:=RecAt.shape hf.guilds
 obtain ⟨a2,p2,rfl⟩:=RecAt.shape hf.smiths
 obtain ⟨a3,p3,rfl⟩:=RecAt.shape hf.desks
 obtain ⟨a4,p4,rfl⟩:=RecAt.shape hf.paces
 have Kb:=Z9 kb
 have HF:=Z9 hf
 have H2:=Z9 h2
 have H3:=Z9 h3
 have HL:=Z9 hfl
 have hR:=kb.lt
 clear kb hf h2 h3 hfl
 go_enter Tryz.func44,Tryz.ntmps44
 go_wp2_with fail
 have Ba:Below w.heap.size w (w.alloc (.cells E6 32)):=ba _ _
 have kz:=Blk.new w 32 E6
 refine (S9 ((uh Kb).below Ba hR) ((uh HF).below Ba) (uh H2) (uh H3) hl hd).mono ?_
 rintro e w1 ⟨rfl,hf1,ht1⟩
 have T1:=(Two.of_below Ba).trans ht1
 have kb1:=(uh Kb).two T1 (uh H2) (uh H3)
 have hnz:∀ k,(_\/_\/_\/_\/_\/_)->k ≠ w.heap.size:=fun k e=>by have:=uh HL k e;omega
 have kz1:=kz.two ht1 (fun e=>hnz _ (.inr (.inr (.inr (.inl e)))) rfl) (fun e=>hnz _ (.inr (.inr (.inr (.inr (.inl e))))) rfl)
 obtain ⟨c0,c1,c2,c3,c4,c5⟩:=kb1.c6
 have o0:=kz1.cell (i:=0) (v:= .slice none 0 0) rfl
 have f0:=kz1.free 0
 have o1:=kz1.cell (i:=1) (v:= .slice none 0 0) rfl
 have f1:=kz1.free 1
 have o2:=kz1.cell (i:=2) (v:= .slice none 0 0) rfl
 have f2:=kz1.free 2
 have o3:=kz1.cell (i:=3) (v:= .slice none 0 0) rfl
 have f3:=kz1.free 3
 have o4:=kz1.cell (i:=4) (v:= .slice none 0 0) rfl
 have f4:=kz1.free 4
 have o5:=kz1.cell (i:=5) (v:= .int .i64 0) rfl
 have f5:=kz1.free 5
 have HF1:=Z9 hf1
 have TT:=Z9 T1
 have HN:=Z9 hnz
 clear hf1 ht1 T1 kb1 kz1 kz Ba hnz
 go_wp2_with fail
 refine bodyPost_ret (v:= .tuple #[.agg #[.slice a0 qs.length p0,.slice a1 m.guilds.length p1,.slice a2 m.smiths.length p2,.slice a3 m.desks.length p3,.slice a4 m.paces.length p4,.int .i64 m.now],.int .i64 0]) (by simp [results,Tryz.results44,go_sem, *]) rfl ⟨rfl,?_,?_⟩
 ·iterate 6 (refine FullSmy.set_off ?_ (uh HN) _ _)
  exact uh HF1
 ·iterate 6 (refine Two.set_new ?_ (Nat.le_refl _) _ _)
  exact uh TT
theorem OB {w:World} {R n₀:Nat} {v0 v1 v2 v3 v4:Value} {m:Z6} {qs:List (Z2 × Value)} (kb:Blk w R 32 #[v0,v1,v2,v3,v4,.int .i64 m.now]) (hf:FullSmy n₀ w v0 v1 v2 v3 v4 m qs) (h2:v2.ownBlock ≠ some R) (h3:v3.ownBlock ≠ some R) {k:Nat} (hk:k<m.smiths.length) (b:Int) :
  Calls Tryz.prog 277 #[.pointer (some ⟨R,0,none⟩),.int .i64 (k:Int),.int .i64 b] w fun e w'=>e= .returned (.tuple #[])/\FullSmy n₀ w' v0 v1 v2 v3 v4 (setS m k (2,b,(Z8 m.smiths k).2.2)) qs/\Two v2.ownBlock v3.ownBlock w w':=by
 obtain ⟨a2,p2,rfl⟩:=RecAt.shape hf.smiths
 obtain ⟨g2,rfl,hg2,hg2w,hc2,hz2⟩:=RecAt.view ZW (by omega) hf.smiths rfl (by omega)
 have s0:=hc2 k hk 0 _ rfl
 have f0:=hz2 (k*11)
 have c2:=kb.cell (i:=2) (v:= .slice (some ⟨g2,0,none⟩) m.smiths.length p2) rfl
 have hp1:=hf.putS rfl (j:=k) (i:=0) hk (by omega) (.int .i64 2) (stS (Z8 m.smiths k) 2) rfl
 have hlen:(m.smiths.set k (stS (Z8 m.smiths k) 2)).length=m.smiths.length:=by simp
 have hs1:Z8 (m.smiths.set k (stS (Z8 m.smiths k) 2)) k=stS (Z8 m.smiths k) 2:=by rw [ZK hk,if_pos rfl]
 have hp2:=hp1.putS hlen.symm (j:=k) (i:=1) (by show k<(m.smiths.set k _).length;omega) (by omega) (.int .i64 b) (2,b,(Z8 m.smiths k).2.2) (by show ZX (2,b,(Z8 m.smiths k).2.2)=(ZX (Z8 (m.smiths.set k (stS (Z8 m.smiths k) 2)) k)).set 1 _;rw [hs1];rfl)
 obtain ⟨_,hga,_,_,hc3,hz3⟩:=RecAt.view ZW (by omega) hp1.smiths hlen.symm (by show 0<(m.smiths.set k _).length;omega)
 cases hga
 have s1:=hc3 k (by show k<(m.smiths.set k _).length;omega) 1 _ rfl
 have f1:=hz3 (k*11+1)
 have hgR:g2 ≠ R:=fun e=>h2 (by rw [e];rfl)
 have c2':=(kb.other (a:=⟨g2,k*11,none⟩) (fun e=>hgR e.symm) (.int .i64 2)).cell (i:=2) (v:= .slice (some ⟨g2,0,none⟩) m.smiths.length p2) rfl
 simp only [Nat.add_zero,List.set_set] at s0 hp1 hp2 s1 f1
 have HP2:=Z9 hp2
 have hk1:(k:Int)<(m.smiths.length:Int):=by omega
 clear hc2 hz2 hc3 hz3 hp1 hp2 hf kb hs1 hlen h2 h3 hgR
 go_enter Tryz.func277,Tryz.ntmps277
 go_wp2_with fail
 go_end0
 exact ⟨rfl,uh HP2,(Two.of_set w (.inl rfl) _ _).trans (Two.of_set _ (.inl rfl) _ _)⟩
theorem Vm {w:World} {R n₀:Nat} {v0 v1 v2 v3 v4:Value} {m:Z6} {qs:List (Z2 × Value)} (kb:Blk w R 32 #[v0,v1,v2,v3,v4,.int .i64 m.now]) (hf:FullSmy n₀ w v0 v1 v2 v3 v4 m qs) (h2:v2.ownBlock ≠ some R) (h3:v3.ownBlock ≠ some R) {k bn b:Nat} (hk:k<m.smiths.length) (hbn:(Z8 m.smiths k).2.1=(bn:Int)) (hbn1:bn<m.desks.length) (hb:b<m.desks.length) :
  Calls Tryz.prog 282 #[.pointer (some ⟨R,0,none⟩),.int .i64 (k:Int),.int .i64 (b:Int)] w fun e w'=>e= .returned (.tuple #[])/\FullSmy n₀ w' v0 v1 v2 v3 v4 (setS m k (putS m (Z8 m.smiths k) b)) qs/\Two v2.ownBlock v3.ownBlock w w':=by
 obtain ⟨a2,p2,rfl⟩:=RecAt.shape hf.smiths
 obtain ⟨a3,p3,rfl⟩:=RecAt.shape hf.desks
 obtain ⟨g2,rfl,hg2,hg2w,hc2,hz2⟩:=RecAt.view ZW (by omega) hf.smiths rfl (by omega)
 obtain ⟨g3,rfl,hg3,hg3w,hc3,hz3⟩:=RecAt.view ZF (by omega) hf.desks rfl (by omega)
 have s1:=hc2 k hk 1 _ rfl
 have s7:=hc2 k hk 7 _ rfl
 have f1:=hz2 (k*11+1)
 have f7:=hz2 (k*11+7)
 have d1:=hc3 bn hbn1 2 _ rfl
 have d2:=hc3 b hb 2 _ rfl
 have c2:=kb.cell (i:=2) (v:= .slice (some ⟨g2,0,none⟩) m.smiths.length p2) rfl
 have c3:=kb.cell (i:=3) (v:= .slice (some ⟨g3,0,none⟩) m.desks.length p3) rfl
 have hmv:Zq (XL (Z8 m.smiths k)) (XO m (Z8 m.smiths k).2.1) (XO m (b:Int))=Zq (Z8 m.smiths k).2.2.2.2.2.2.2.1 (Z8 m.desks bn).2.2 (Z8 m.desks b).2.2:=by unfold XO XL;rw [hbn];simp
 have hx1:∃ x1:Z3,x1=((Z8 m.smiths k).1,(Z8 m.smiths k).2.1,(Z8 m.smiths k).2.2.1,(Z8 m.smiths k).2.2.2.1,(Z8 m.smiths k).2.2.2.2.1,(Z8 m.smiths k).2.2.2.2.2.1,(Z8 m.smiths k).2.2.2.2.2.2.1,Zq (Z8 m.smiths k).2.2.2.2.2.2.2.1 (Z8 m.desks bn).2.2 (Z8 m.desks b).2.2,(Z8 m.smiths k).2.2.2.2.2.2.2.2):=⟨_,rfl⟩
 obtain ⟨x1,hx1⟩:=hx1
 have hp1:=hf.putS rfl (j:=k) (i:=7) hk (by omega) (.int .i64 (Zq (Z8 m.smiths k).2.2.2.2.2.2.2.1 (Z8 m.desks bn).2.2 (Z8 m.desks b).2.2)) x1 (by rw [hx1];rfl)
 have hlen:(m.smiths.set k x1).length=m.smiths.length:=by simp
 have hs1:Z8 (m.smiths.set k x1) k=x1:=by rw [ZK hk,if_pos rfl]
 have hp2:=hp1.putS hlen.symm (j:=k) (i:=1) (by show k<(m.smiths.set k _).length;omega) (by omega) (.int .i64 (b:Int)) (putS m (Z8 m.smiths k) b) (by show ZX (putS m (Z8 m.smiths k) b)=(ZX (Z8 (m.smiths.set k x1) k)).set 1 _;rw [hs1,hx1];unfold putS;rw [hmv];rfl)
 obtain ⟨_,hga,_,_,hc4,hz4⟩:=RecAt.view ZW (by omega) hp1.smiths hlen.symm (by show 0<(m.smiths.set k _).length;omega)
 cases hga
 have s2:=hc4 k (by show k<(m.smiths.set k _).length;omega) 1 _ rfl
 have f2:=hz4 (k*11+1)
 simp only [List.set_set] at hp2
 have HP2:=Z9 hp2
 have hk1:(k:Int)<(m.smiths.length:Int):=by omega
 have hbn2:(bn:Int)<(m.desks.length:Int):=by omega
 have hb2:(b:Int)<(m.desks.length:Int):=by omega
 rw [hbn] at s1
 clear hc2 hz2 hc3 hz3 hc4 hz4 hp1 hp2 hf kb hs1 hlen h2 h3 hmv hx1 hbn
 generalize (Z8 m.smiths k).2.2.2.2.2.2.2.1=hd0 at *
 generalize (Z8 m.desks bn).2.2=mk1 at *
 generalize (Z8 m.desks b).2.2=mk2 at *
 go_enter Tryz.func282,Tryz.ntmps282
 go_wp2_with fail
 refine ZR (S:=fun w'=>w'.cell? ⟨g2,k*11+7,none⟩=some (.int .i64 hd0)/\w'.cell? ⟨R,3,none⟩=some (.slice (some ⟨g3,0,none⟩) m.desks.length p3)/\w'.cell? ⟨g2,k*11+1,none⟩=some (.int .i64 (bn:Int))/\w'.cell? ⟨g3,bn*3+2,none⟩=some (.int .i64 mk1)/\w'.cell? ⟨g3,b*3+2,none⟩=some (.int .i64 mk2)) (by kernel_rfl) (List.cons_ne_nil _ _) (by kernel_rfl) ⟨s7,c3,s1,d1,d2⟩ (fun hHeld=> ?_)
 simp only [List.dropLast_cons_cons,List.dropLast_singleton,List.length_cons,List.length_nil,Nat.zero_add,Nat.reduceAdd]
 (refine tq 0 ?_;(try simp only [Act.put,sA,sZ,sS]))
 (refine tq 1 ?_;(try simp only [Act.put,sA,sZ,sS]))
 (refine tq 2 ?_;(try simp only [Act.put,sA,sZ,sS]))
 (refine tq 3 ?_;(try simp only [Act.put,sA,sZ,sS]))
 (refine tq 4 ?_;(try simp only [Act.put,sA,sZ,sS]))
 (refine tq 5 ?_;(try simp only [Act.put,sA,sZ,sS]))
 (refine tq 6 ?_;(try simp only [Act.put,sA,sZ,sS]))
 (refine tq 7 ?_;(try simp only [Act.put,sA,sZ,sS]))
 (refine tq 8 ?_;(try simp only [Act.put,sA,sZ,sS]))
 (refine tq 9 ?_;(try simp only [Act.put,sA,sZ,sS]))
 (refine tq 10 ?_;(try simp only [Act.put,sA,sZ,sS]))
 (refine tq 11 ?_;(try simp only [Act.put,sA,sZ,sS]))
 (refine tq 12 ?_;(try simp only [Act.put,sA,sZ,sS]))
 (refine tq 13 ?_;(try simp only [Act.put,sA,sZ,sS]))
 (refine tq 14 ?_;(try simp only [Act.put,sA,sZ,sS]))
 (refine tq 15 ?_;(try simp only [Act.put,sA,sZ,sS]))
 (refine tq 16 ?_;(try simp only [Act.put,sA,sZ,sS]))
 (refine tq 17 ?_;(try simp only [Act.put,sA,sZ,sS]))
 (refine tq 18 ?_;(try simp only [Act.put,sA,sZ,sS]))
 (refine tq 19 ?_;(try simp only [Act.put,sA,sZ,sS]))
 (refine tq 20 ?_;(try simp only [Act.put,sA,sZ,sS]))
 (refine tq 21 ?_;(try simp only [Act.put,sA,sZ,sS]))
 (refine tq 22 ?_;(try simp only [Act.put,sA,sZ,sS]))
 (refine tq 23 ?_;(try simp only [Act.put,sA,sZ,sS]))
 refine rd 24 rfl (fun K hK=> ?_)
 go_simp
 refine ck (Sv hd0 mk1 mk2 _) fun w9 hw9=> ?_
 subst w9
 refine hK.out _ _ hHeld (fun hHeld=> ?_)
 clear hK K
 (try simp only [Act.put,sA,sZ,sS])
 (refine tq 25 ?_;(try simp only [Act.put,sA,sZ,sS]))
 (refine tq 26 ?_;(try simp only [Act.put,sA,sZ,sS]))
 refine wpAnyH_done (by kernel_rfl) ?_ _
 refine ZE rfl rfl ?_
 go_simp
 clear hHeld
 go_wp2_with fail
 go_end0
 exact ⟨rfl,(uh HP2).below (Below.refl _ _).drew,((Two.of_set w (.inl rfl) _ _).trans (Two.of_set _ (.inl rfl) _ _)).trans (Two.of_below (Below.refl _ _).drew)⟩
theorem Yx {w:World} {v0 v1 v2 v3 v4:Value} {m:Z6} (h:Smy w v0 v1 v2 v3 v4 m) :
  Calls Tryz.prog 38 #[.agg #[v0,v1,v2,v3,v4,.int .i64 m.now]] w fun e w'=>e= .returned (.tuple #[.agg E6,.int .i64 3])/\Below w.heap.size w w':=by
 obtain ⟨a0,p0,a1,p1,a2,p2,a3,p3,a4,p4,rfl,rfl,rfl,rfl,rfl,_,_,_,_,_,_,_,_,_,_⟩:=h.five
 clear h
 go_enter Tryz.func38,Tryz.ntmps38
 go_wp2_with fail
 exact bodyPost_ret (v:= .tuple #[.agg E6,.int .i64 3]) (by simp [results,Tryz.results38,go_sem]) rfl ⟨rfl,((ba _ _)).alloc (by simp) _⟩
def Xb (v0 v1 v2 v3 v4:Value) (qs:List (Z2 × Value)) (k:Nat):Prop:=v0.ownBlock=some k\/(∃ q ∈ qs,q.2.ownBlock=some k)\/v1.ownBlock=some k\/v2.ownBlock=some k\/v3.ownBlock=some k\/v4.ownBlock=some k
section
variable {n₀ : Nat} {w w' : World} {v0 v1 v2 v3 v4 : Value} {m : Z6} {qs : List (Z2 × Value)}
theorem FullSmy.own (h:FullSmy n₀ w v0 v1 v2 v3 v4 m qs) {k:Nat} (e:Xb v0 v1 v2 v3 v4 qs k):n₀<=k/\k<w.heap.size:=by
 rcases e with e | e | e | e | e | e
 ·exact h.hall.lt (.inl e)
 ·exact h.hall.lt (.inr e)
 ·exact RecAt.lt h.guilds e
 ·exact RecAt.lt h.smiths e
 ·exact RecAt.lt h.desks e
 ·exact RecAt.lt h.paces e
theorem FullSmy.keep (h:FullSmy n₀ w v0 v1 v2 v3 v4 m qs) (hs:∀ k,Xb v0 v1 v2 v3 v4 qs k->w'.heap[k]?=w.heap[k]?):FullSmy n₀ w' v0 v1 v2 v3 v4 m qs:=
 ⟨⟨XX h.hall.row (fun k e=>hs k (.inl e)),fun q hq=>XX (h.hall.paces q hq) (fun k e=>hs k (.inr (.inl ⟨q,hq,e⟩))),h.hall.off,h.hall.apart⟩,h.rooms,RecAt.same h.guilds fun k e=>hs k (.inr (.inr (.inl e))),RecAt.same h.smiths fun k e=>hs k (.inr (.inr (.inr (.inl e)))),RecAt.same h.desks fun k e=>hs k (.inr (.inr (.inr (.inr (.inl e))))),RecAt.same h.paces fun k e=>hs k (.inr (.inr (.inr (.inr (.inr e))))),h.h1,h.h2,h.h3,h.h4,h.a12,h.a13,h.a14,h.a23,h.a24,h.a34⟩
end
end Go.Proofs.YtffcgajndmhpkaaGreatDoor
namespace Go.Proofs.YtffcgajndmhpkaaGreatDoor
open Go.ChangeShapes Go.WideShapes Go.ChangeAt Go.RowKit Go.Sort
set_option linter.unusedVariables false
def TH (n₀:Nat) (M:Z6) (c:Int) (e:Ending) (w':World):Prop:=
 ∃ u0 u1 u2 u3 u4 qs,e= .returned (.tuple #[.agg #[u0,u1,u2,u3,u4,.int .i64 M.now],.int .i64 c])/\FullSmy n₀ w' u0 u1 u2 u3 u4 M qs
theorem Vl {w:World} {v0 v1 v2 v3 v4:Value} {m:Z6} {who:Int} {q:Bool} (hq:UT m who=q) (h:Smy w v0 v1 v2 v3 v4 m) :
  Calls Tryz.prog 278 #[.agg #[v0,v1,v2,v3,v4,.int .i64 m.now],.int .i64 who] w fun e w'=>e= .returned (.bool q)/\Below w.heap.size w w':=by
 subst hq
 obtain ⟨a0,p0,rfl,_,_⟩:=IsRooms.shape h.rooms
 obtain ⟨a1,p1,rfl,_,_⟩:=IsRec.shape h.guilds
 obtain ⟨a2,p2,rfl,hc2,hm2,r2⟩:=h.smiths
 obtain ⟨a3,p3,rfl,_,_⟩:=IsRec.shape h.desks
 obtain ⟨a4,p4,rfl,_,_⟩:=IsRec.shape h.paces
 clear h
 have Ba:Hid (Below w.heap.size w (w.alloc (.cells (S6 a0 p0 a1 p1 a2 p2 a3 p3 a4 p4 m) 32))):=Z9 ((ba _ _))
 cases hi:inB who 0 ((m.smiths.length:Int)-1)
 ·have hw:UT m who=false:=by unfold UT;rw [hi];rfl
  have Hi:=Z9 hi
  rw [hw]
  clear hi hw r2
  go_enter Tryz.func278,Tryz.ntmps278
  go_wp2_with (go_at_call 40;refine (Z1 _ _ _ _).mono ?_;rw [uh Hi];rintro e w' ⟨rfl,h9⟩;subst w')
  go_ret
  exact ⟨rfl,uh Ba⟩
 ·obtain ⟨i0,i1⟩:=ZU hi
  obtain ⟨k,rfl⟩:∃ k:Nat,who=k:=⟨who.toNat,by omega⟩
  have hk:k<m.smiths.length:=by omega
  have hw:UT m (k:Int)= !((Z8 m.smiths k).1 ==0):=by unfold UT;rw [hi];simp
  rcases r2 with e0 | ⟨sb,off,rfl,hbw,hcl⟩
  ·rw [e0] at hk;simp at hk
  obtain ⟨d0,_⟩:=ZB hcl hk
  have Hi:=Z9 hi
  rw [hw]
  clear hi hw hcl
  have hk1:(k:Int)<(m.smiths.length:Int):=by omega
  generalize (Z8 m.smiths k).1=st at *
  go_enter Tryz.func278,Tryz.ntmps278
  go_wp2_with (go_at_call 40;refine (Z1 _ _ _ _).mono ?_;rw [uh Hi];rintro e w' ⟨rfl,h9⟩;subst w')
  go_ret
  exact ⟨rfl,uh Ba⟩
theorem FullSmy.putW {n₀ n cap g:Nat} {w:World} {v0 v1 v3 v4:Value} {m:Z6} {qs:List (Z2 × Value)} (hf:FullSmy n₀ w v0 v1 (.slice (some ⟨g,0,none⟩) n cap) v3 v4 m qs) (hn:n=m.smiths.length) {j:Nat} (hj:j<m.smiths.length) (x:Z3) :
  FullSmy n₀ (OX w g (j*11) (ZX x)) v0 v1 (.slice (some ⟨g,0,none⟩) n cap) v3 v4 { m with smiths:=m.smiths.set j x } qs:=by
 have hb:(Value.slice (some ⟨g,0,none⟩) n cap).ownBlock=some g:=rfl
 obtain ⟨hput,hg⟩:=RecAt.put ZW (by omega) hf.smiths hn hj x
 have hne:∀ k,k<w.heap.size->k ≠ g->(OX w g (j*11) (ZX x)).heap[k]?=w.heap[k]?:=fun k hk hkg=>hg.block k hk (fun e=>hkg (by cases e;rfl))
 refine ⟨hf.hall.same2 fun k e=>hne k (hf.hall.lt e).2 fun e'=> ?_,hf.rooms,RecAt.same hf.guilds fun k e=>hne k (RecAt.lt hf.guilds e).2 fun e'=> ?_,hput,RecAt.same hf.desks fun k e=>hne k (RecAt.lt hf.desks e).2 fun e'=> ?_,RecAt.same hf.paces fun k e=>hne k (RecAt.lt hf.paces e).2 fun e'=> ?_,hf.h1,hf.h2,hf.h3,hf.h4,hf.a12,hf.a13,hf.a14,hf.a23,hf.a24,hf.a34⟩
 ·subst e'
  rcases e with e | ⟨q,hq,e⟩
  ·exact hf.h2.1 _ hb e
  ·exact hf.h2.2 q hq _ hb e
 ·subst e';exact hf.a12 _ e hb
 ·subst e';exact hf.a23 _ hb e
 ·subst e';exact hf.a24 _ hb e
theorem Sg (w:World) (g o:Nat) (c0 c1 c2 c3 c4 c5 c6 c7 c8 c9 c10:Value):OX w g o [c0,c1,c2,c3,c4,c5,c6,c7,c8,c9,c10]=((((((((((w.setCell ⟨g,o,none⟩ c0).setCell ⟨g,o+1,none⟩ c1).setCell ⟨g,o+2,none⟩ c2).setCell ⟨g,o+3,none⟩ c3).setCell ⟨g,o+4,none⟩ c4).setCell ⟨g,o+5,none⟩ c5).setCell ⟨g,o+6,none⟩ c6).setCell ⟨g,o+7,none⟩ c7).setCell ⟨g,o+8,none⟩ c8).setCell ⟨g,o+9,none⟩ c9).setCell ⟨g,o+10,none⟩ c10:=rfl
theorem Zr {w W:World} {X:Z6 × Int} {M:Z6} {c nw:Int} {v0 v1 v2 v3 v4 u0 u1 u2 u3 u4 u5:Value} {oq:List (Z2 × Value)} (hX:X=(M,c)) (hn:M.now=nw) (hF:FullSmy (w.heap.size+2) W v0 v1 v2 v3 v4 M oq) (hB:Below w.heap.size w W):TH w.heap.size X.1 X.2 (.returned (.tuple #[.agg #[v0,v1,v2,v3,v4,.int .i64 nw],.int .i64 c])) ((((((W.setCell ⟨w.heap.size+1,0,none⟩ u0).setCell ⟨w.heap.size+1,1,none⟩ u1).setCell ⟨w.heap.size+1,2,none⟩ u2).setCell ⟨w.heap.size+1,3,none⟩ u3).setCell ⟨w.heap.size+1,4,none⟩ u4).setCell ⟨w.heap.size+1,5,none⟩ u5)/\Below w.heap.size w ((((((W.setCell ⟨w.heap.size+1,0,none⟩ u0).setCell ⟨w.heap.size+1,1,none⟩ u1).setCell ⟨w.heap.size+1,2,none⟩ u2).setCell ⟨w.heap.size+1,3,none⟩ u3).setCell ⟨w.heap.size+1,4,none⟩ u4).setCell ⟨w.heap.size+1,5,none⟩ u5):=by
 constructor
 ·rw [hX];refine ⟨_,_,_,_,_,oq,by rw [hn],?_⟩
  refine FullSmy.mono (n₀:=w.heap.size+2) ?_ (by omega)
  iterate 6 (refine FullSmy.set_off ?_ (fun k e=>by have:=(hF.own e).1;omega) _ _)
  exact hF
 ·iterate 6 (refine Below.setCell ?_ (by show _<=w.heap.size+1;omega) _)
  exact hB
theorem VW {w W:World} {ob:Nat} {v0 v1 v2 v3 v4:Value} {m:Z6} {oq:List (Z2 × Value)} (ko:Blk W ob 32 #[v0,v1,v2,v3,v4,.int .i64 m.now]) (hF:FullSmy (w.heap.size+2) W v0 v1 v2 v3 v4 m oq) (lo:∀ k,Xb v0 v1 v2 v3 v4 oq k->k ≠ ob) (kr:Blk W (w.heap.size+1) 32 E6) (BB:Below w.heap.size w W) (hl:m.smiths.length<=800) (hd:m.desks.length<=1000):Calls Tryz.prog 44 #[.pointer (some ⟨ob,0,none⟩)] W fun e w'=>e= .returned (.tuple #[.agg #[v0,v1,v2,v3,v4,.int .i64 m.now],.int .i64 0])/\Hid (FullSmy (w.heap.size+2) w' v0 v1 v2 v3 v4 (ZQ m) oq)/\Hid (Blk w' (w.heap.size+1) 32 E6)/\Hid (Below w.heap.size w w'):=by
 refine (Tc ko hF (fun e=>lo _ (.inr (.inr (.inr (.inl e)))) rfl) (fun e=>lo _ (.inr (.inr (.inr (.inr (.inl e))))) rfl) hl hd).mono ?_
 rintro e w' ⟨rfl,h1,h2⟩
 have g2:∀ k,v2.ownBlock=some k->w.heap.size+2<=k:=fun k e=>(hF.own (.inr (.inr (.inr (.inl e))))).1
 have g3:∀ k,v3.ownBlock=some k->w.heap.size+2<=k:=fun k e=>(hF.own (.inr (.inr (.inr (.inr (.inl e)))))).1
 exact ⟨rfl,Z9 h1,Z9 (kr.two h2 (fun e=>by have:=g2 _ e;omega) (fun e=>by have:=g3 _ e;omega)),Z9 (BB.trans (h2.below BB.size (fun k e=>by have:=g2 k e;omega) (fun k e=>by have:=g3 k e;omega)))⟩
theorem Va {w W:World} {a0 a1 a2 a3 a4:Option Addr} {p0 p1 p2 p3 p4:Nat} {m:Z6} (h:Smy W (.slice a0 m.rooms.length p0) (.slice a1 m.guilds.length p1) (.slice a2 m.smiths.length p2) (.slice a3 m.desks.length p3) (.slice a4 m.paces.length p4) m) (hf:Few m) (kb:Blk W w.heap.size 32 (S6 a0 p0 a1 p1 a2 p2 a3 p3 a4 p4 m)) (kr:Blk W (w.heap.size+1) 32 E6) (BB:Below w.heap.size w W):Calls Tryz.prog 39 #[.agg (S6 a0 p0 a1 p1 a2 p2 a3 p3 a4 p4 m)] W fun e w'=> ∃ b0 q0 b1 q1 b2 q2 b3 q3 b4 q4 oq,e= .returned (.agg (S6 b0 q0 b1 q1 b2 q2 b3 q3 b4 q4 m))/\ ∃ W2 ob,w'.alloc (.cells (S6 b0 q0 b1 q1 b2 q2 b3 q3 b4 q4 m) 32)=W2/\w'.heap.size=ob/\Hid (Blk W2 w.heap.size 32 (S6 a0 p0 a1 p1 a2 p2 a3 p3 a4 p4 m))/\Hid (Blk W2 (w.heap.size+1) 32 E6)/\Hid (Smy W2 (.slice a0 m.rooms.length p0) (.slice a1 m.guilds.length p1) (.slice a2 m.smiths.length p2) (.slice a3 m.desks.length p3) (.slice a4 m.paces.length p4) m)/\Hid (FullSmy (w.heap.size+2) W2 (.slice b0 m.rooms.length q0) (.slice b1 m.guilds.length q1) (.slice b2 m.smiths.length q2) (.slice b3 m.desks.length q3) (.slice b4 m.paces.length q4) m oq)/\Hid (Blk W2 ob 32 (S6 b0 q0 b1 q1 b2 q2 b3 q3 b4 q4 m))/\Hid (∀ k,Xb (.slice b0 m.rooms.length q0) (.slice b1 m.guilds.length q1) (.slice b2 m.smiths.length q2) (.slice b3 m.desks.length q3) (.slice b4 m.paces.length q4) oq k->w.heap.size+2<=k/\k<ob)/\w.heap.size+2<=ob/\Hid (Below w.heap.size w W2):=by
 have hs:w.heap.size+2<=W.heap.size:=by have:=kr.lt;omega
 refine (Ys h hf).mono ?_
 rintro e w2 ⟨y0,y1,y2,y3,y4,oq,rfl,ho,hb⟩
 obtain ⟨b0,q0,b1,q1,b2,q2,b3,q3,b4,q4,rfl,rfl,rfl,rfl,rfl,_⟩:=ho.smy.five
 have hba:Below w2.heap.size w2 (w2.alloc (.cells (S6 b0 q0 b1 q1 b2 q2 b3 q3 b4 q4 m) 32)):=ba _ _
 have h2:Below W.heap.size W (w2.alloc (.cells (S6 b0 q0 b1 q1 b2 q2 b3 q3 b4 q4 m) 32)):=hb.trans (hba.mono hb.size)
 have hO:=ho.mono hs
 exact ⟨b0,q0,b1,q1,b2,q2,b3,q3,b4,q4,oq,rfl,_,_,rfl,rfl,Z9 (kb.below h2 kb.lt),Z9 (kr.below h2 kr.lt),Z9 (h.below h2),Z9 (hO.below hba),Z9 (Blk.new _ _ _),Z9 (fun k e=>hO.own e),Nat.le_trans hs hb.size,Z9 (BB.trans (h2.mono BB.size))⟩
set_option linter.unusedSimpArgs false
def Vg (m:Z6) (room pace:Int):Z6 × Int:=
 if ZO m then (if Pv m room then (if inB pace 0 (((ZV m.rooms room.toNat).2.length:Int)-1) then (ZQ (UQ m room.toNat pace),0) else (m,3)) else (m,1)) else (YF,3)
theorem JC {m:Z6} (h:ZO m=true) (room pace:Int):ZO (Vg m room pace).1=true:=by
 unfold Vg
 rw [h]
 simp only [if_true]
 split
 ·rename_i hw
  obtain ⟨k,rfl,hk⟩:=Gx hw
  rw [show ((k:Int)).toNat=k by simp]
  split
  ·rename_i hp
   have:=ZU hp
   exact Y0 (MC (ZT h) hk (by omega) (by omega))
  ·exact h
 ·exact h
theorem XH {m:Z6} (h:Loose m):m.paces.length=m.rooms.length:=by
 have hd:=h.head
 unfold YY at hd
 simp only [Bool.and_eq_true,decide_eq_true_eq] at hd
 exact hd.2.2.2.2.1
theorem PQ {w:World} {v0 v1 v2 v3 v4:Value} {m:Z6} (room:Int) (pace:Int) (h:Smy w v0 v1 v2 v3 v4 m) :
  Calls Tryz.prog 21 #[.agg #[v0,v1,v2,v3,v4,.int .i64 m.now],.int .i64 room,.int .i64 pace] w fun e w'=>TH w.heap.size (Vg m room pace).1 (Vg m room pace).2 e w'/\Below w.heap.size w w':=by
 obtain ⟨X,hX⟩:∃ x,Vg m room pace=x:=⟨_,rfl⟩
 rw [hX]
 have HX:=Z9 hX
 clear hX
 have Hv0:=Z9 h
 obtain ⟨a0,p0,a1,p1,a2,p2,a3,p3,a4,p4,rfl,rfl,rfl,rfl,rfl,_,_,_,_,_,_,_,_,_,_⟩:=h.five
 clear h
 obtain ⟨ok,hok⟩:∃ q,ZO m=q:=⟨_,rfl⟩
 have Hok:=Z9 hok
 clear hok
 go_enter Tryz.func21,Tryz.ntmps21
 go_wp2_with fail
 obtain ⟨W,hW,kb,kr,BB⟩:=YK w 32 (S6 a0 p0 a1 p1 a2 p2 a3 p3 a4 p4 m) 32 E6
 have Hv:=Z9 ((uh Hv0).below (uh BB))
 clear Hv0
 rw [hW]
 clear hW
 refine ck (XF (uh Hok) (uh Hv)) fun w1 hb=> ?_
 replace kb:=bl kb hb
 replace kr:=bl kr hb
 replace Hv:=Z9 ((uh Hv).below hb)
 replace BB:=bt BB hb
 clear hb
 cases ok
 ·
  obtain ⟨c0,c1,c2,c3,c4,c5⟩:=(uh kb).c6
  go_wp2_with fail
  clear c0 c1 c2 c3 c4 c5
  refine ck (Yx (uh Hv)) fun w2 hb=> ?_
  replace kb:=bl kb hb
  replace kr:=bl kr hb
  replace Hv:=Z9 ((uh Hv).below hb)
  replace BB:=bt BB hb
  clear hb
  obtain ⟨o0,o1,o2,o3,o4,o5⟩:=(uh kr).c6
  obtain ⟨f0,f1,f2,f3,f4,f5⟩:=(uh kr).f6
  go_wp2_with fail
  have hX0:X=(YF,3):=by rw [<-uh HX];unfold Vg;rw [uh Hok];rfl
  exact bodyPost_ret (v:= .tuple #[.agg E6,.int .i64 3]) (by simp [results,Tryz.results21,go_sem, *]) rfl (Zr hX0 rfl (YP _ _) (uh BB))
 have hlo:=ZT (uh Hok)
 have HLo:=Z9 hlo
 have HFew:=Z9 (XE hlo)
 clear hlo
 obtain ⟨c0,c1,c2,c3,c4,c5⟩:=(uh kb).c6
 go_wp2_with fail
 clear c0 c1 c2 c3 c4 c5
 refine (Va (uh Hv) (uh HFew) (uh kb) (uh kr) (uh BB)).mono ?_
 clear kb kr Hv BB
 rintro e w2 ⟨b0,q0,b1,q1,b2,q2,b3,q3,b4,q4,oq,rfl,W2,ob,hW2,hob2,kb,kr,Hv,HO,ko,LO,hob,BB⟩
 go_upto_region 4 with fail
 (try rw [hW2])
 (try rw [hob2])
 clear hW2 hob2
 obtain ⟨qw,hqw⟩:∃ q,Pv m room=q:=⟨_,rfl⟩
 have Hqw:=Z9 hqw
 clear hqw
 obtain ⟨c0,c1,c2,c3,c4,c5⟩:=(uh kb).c6
 go_wp2_with fail
 clear c0 c1 c2 c3 c4 c5
 refine ck (E5 (uh Hqw) (uh Hv)) fun w3 hb=> ?_
 replace kb:=bl kb hb
 replace kr:=bl kr hb
 replace Hv:=Z9 ((uh Hv).below hb)
 replace HO:=Z9 ((uh HO).below hb)
 replace ko:=bl ko hb
 replace BB:=bt BB hb
 clear hb
 cases qw
 ·
  obtain ⟨x0,x1,x2,x3,x4,x5⟩:=(uh ko).c6
  obtain ⟨o0,o1,o2,o3,o4,o5⟩:=(uh kr).c6
  obtain ⟨f0,f1,f2,f3,f4,f5⟩:=(uh kr).f6
  go_wp2_with fail
  have hX0:X=(m,1):=by rw [<-uh HX];unfold Vg;rw [uh Hok,uh Hqw];rfl
  exact bodyPost_ret (v:= .tuple #[.agg (S6 b0 q0 b1 q1 b2 q2 b3 q3 b4 q4 m),.int .i64 1]) (by simp [results,Tryz.results21,go_sem, *]) rfl (Zr hX0 rfl (uh HO) (uh BB))
 obtain ⟨k,rfl,hk⟩:=Gx (uh Hqw)
 have hk1:(k:Int)<(m.rooms.length:Int):=by omega
 have hkp:k<m.paces.length:=by rw [XH (uh HLo)];exact hk
 have hkp1:(k:Int)<(m.paces.length:Int):=by omega
 obtain ⟨_,_,hre,_,_,r0⟩:=(uh Hv).rooms
 cases hre
 rcases r0 with e0 | ⟨rb,off,rfl,hbw,hcl⟩
 ·rw [e0] at hk;simp at hk
 obtain ⟨_,pv,d1,pa,pc,rfl,hpc,hpm,_⟩:=hcl k hk
 clear hcl
 obtain ⟨op,hop⟩:∃ q,inB pace 0 (((ZV m.rooms k).2.length:Int)-1)=q:=⟨_,rfl⟩
 have Hop:=Z9 hop
 have hpl:(ZV m.rooms k).2.length<=9223372036854775807:=by omega
 have c0:=(uh kb).cell (i:=0) (v:= .slice (some ⟨rb,off,none⟩) m.rooms.length p0) rfl
 obtain ⟨nl,hnl⟩:∃ q,(ZV m.rooms k).2.length=q:=⟨_,rfl⟩
 rw [hnl] at hop d1 hpl
 have Hop2:=Z9 hop
 clear hop hnl hpc
 go_wp2_with fail
 refine (Z1 _ _ _ _).mono ?_
 rw [uh Hop2]
 rintro e w9 ⟨rfl,hw9⟩
 subst w9
 cases op
 ·
  obtain ⟨x0,x1,x2,x3,x4,x5⟩:=(uh ko).c6
  obtain ⟨o0,o1,o2,o3,o4,o5⟩:=(uh kr).c6
  obtain ⟨f0,f1,f2,f3,f4,f5⟩:=(uh kr).f6
  go_wp2_with fail
  have hX0:X=(m,3):=by rw [<-uh HX];unfold Vg;rw [uh Hok,uh Hqw];simp only [if_true,Int.toNat_natCast];rw [uh Hop];rfl
  exact bodyPost_ret (v:= .tuple #[.agg (S6 b0 q0 b1 q1 b2 q2 b3 q3 b4 q4 m),.int .i64 3]) (by simp [results,Tryz.results21,go_sem, *]) rfl (Zr hX0 rfl (uh HO) (uh BB))
 obtain ⟨g4,hga,_,_,hc4,hz4⟩:=RecAt.view YH (by omega) (uh HO).paces rfl (by omega)
 cases hga
 have s0:=hc4 k hkp 0 _ rfl
 have f0:=hz4 k
 have x4:=(uh ko).cell (i:=4) (v:= .slice (some ⟨g4,0,none⟩) m.paces.length q4) rfl
 have hput:=(uh HO).putP rfl (j:=k) hkp pace
 simp only [Nat.add_zero,Nat.mul_one] at s0
 have hg4o:=(uh LO g4 (.inr (.inr (.inr (.inr (.inr rfl))))))
 clear hc4 hz4
 go_upto_region 9 with fail
 clear s0 f0 x4 c0 d1
 have HP:=Z9 hput
 clear hput HO
 replace ko:Hid (Blk (w3.setCell ⟨g4,k,none⟩ (.int .i64 pace)) ob 32 (S6 b0 q0 b1 q1 b2 q2 b3 q3 (some ⟨g4,0,none⟩) q4 m)):=Z9 ((uh ko).other (a:=⟨g4,k,none⟩) (by show ob ≠ g4;omega) _)
 replace kr:Hid (Blk (w3.setCell ⟨g4,k,none⟩ (.int .i64 pace)) (w.heap.size+1) 32 E6):=Z9 ((uh kr).other (a:=⟨g4,k,none⟩) (by show w.heap.size+1 ≠ g4;omega) _)
 replace BB:Hid (Below w.heap.size w (w3.setCell ⟨g4,k,none⟩ (.int .i64 pace))):=Z9 ((uh BB).setCell (p:=⟨g4,k,none⟩) (by show w.heap.size<=g4;omega) _)
 clear kb Hv
 generalize w3.setCell ⟨g4,k,none⟩ (.int .i64 pace)=W3 at *
 have hfw:=uh HFew
 go_wp2_with fail
 refine (VW (m:=UQ m k pace) (uh ko) (uh HP) (fun k e=>by have:=(uh LO k e).2;omega) (uh kr) (uh BB) (by show m.smiths.length<=800;have:=hfw.smiths;omega) hfw.desks).mono ?_
 clear kr BB
 rintro e w4 ⟨rfl,HF9,kr,BB⟩
 obtain ⟨o0,o1,o2,o3,o4,o5⟩:=(uh kr).c6
 obtain ⟨f0,f1,f2,f3,f4,f5⟩:=(uh kr).f6
 go_wp2_with fail
 have hX0:X=(ZQ (UQ m k pace),0):=by rw [<-uh HX];unfold Vg;rw [uh Hok,uh Hqw];simp only [if_true,Int.toNat_natCast];rw [uh Hop];rfl
 have hnow:(ZQ (UQ m k pace)).now=m.now:=(ZM _ _).2.2.2.1
 exact bodyPost_ret (v:= .tuple #[.agg (S6 b0 q0 b1 q1 b2 q2 b3 q3 (some ⟨g4,0,none⟩) q4 m),.int .i64 0]) (by simp [results,Tryz.results21,go_sem,setS,UQ,YD,pushS, *]) rfl (Zr hX0 hnow (uh HF9) (uh BB))
theorem V6 {w:World} {v:Value} {rs:List Z2} (n:Int) (h:IsRooms w v rs) (h1:Zb rs n=true) :
  Calls Tryz.prog 303 #[.agg #[v],.int .i64 n] w fun e w'=>e= .returned (.int .i64 (VE (ZV rs (XN rs n)).2))/\Below w.heap.size w w':=by
 have Hv:=Z9 h
 obtain ⟨a,cap,rfl,hc,hm⟩:∃ a cap,v= .slice a rs.length cap/\rs.length<=cap/\cap<=9223372036854775807:=by obtain ⟨a,cap,rfl,hc,hm,_⟩:=h;exact ⟨a,cap,rfl,hc,hm⟩
 clear h
 have hlt:=Vu h1
 have Hh:=Z9 (Wm h1).1
 have H1:=Z9 h1
 have hl3:rs.length<=3:=(Zo (Wm h1).1).2.1
 clear h1
 have hw1:=(uh Hv).alloc (.cells #[.slice a rs.length cap] 26)
 have Hw1:=Z9 hw1
 obtain ⟨b,off,a',cap',rfl,hbw,d1,p1,p4,sp,hbw',d2⟩:=CX hw1 hlt (uh Hh)
 obtain ⟨b',off',sp'⟩:=a'
 simp only at sp hbw' d2
 subst sp
 clear hw1
 have k0:=cell_regrown (w:=w.alloc (.cells #[.slice (some ⟨b,off,none⟩) rs.length cap] 26)) (a:=⟨w.heap.size,0,none⟩) (v:= .slice (some ⟨b,off,none⟩) rs.length cap) (by simp)
 have k1:=cell_regrown d1
 have k2:=cell_regrown d2
 clear d1 d2
 go_enter Tryz.func303,Tryz.ntmps303
 go_wp2_with fail
 refine wq ?_
 repeat (go_big_quiet_step (exact Calls.regrown_of (TS n ((uh Hw1).below (below_regrown _ _ _)) (uh H1))))
 refine wpQuiet_nil ?_
 intro _ hw'
 obtain ⟨⟨dq,osq⟩,hw''⟩:=hw'
 subst hw''
 generalize hr1:XN rs n=r at *
 generalize hr2:VE (ZV rs r).2=fo at *
 generalize (ZV rs r).2.length=m at *
 have Hr1:=Z9 hr1
 have Hr2:=Z9 hr2
 clear hr1 hr2
 go_wp2_with fail
 go_ret
 exact ⟨ZD (by rw [uh Hr1,uh Hr2]),((ba _ _)).trans ((below_regrown _ _ _).mono (by simp))⟩
theorem Vn (x:Int) (w:World):Calls Tryz.prog 185 #[.int .i64 x] w fun e w'=>e= .returned (.bool (inB x 0 1000000))/\w'=w:=by
 go_enter Tryz.func185,Tryz.ntmps185
 go_wp2_with (go_at_call 40;refine (Z1 _ _ _ _).mono ?_;rintro e w' ⟨rfl,rfl⟩)
 go_ret
 exact ⟨rfl,rfl⟩
theorem TG {w:World} {v:Value} {ps:List Z4} (b need:Int) (h:IsPaces w v ps) :
  Calls Tryz.prog 120 #[.agg #[.int .i64 b,v],.int .i64 need] w fun e w'=>e= .returned (.int .i64 (XM (b,ps) need))/\Below w.heap.size w w':=by
 have Hv:=Z9 h
 obtain ⟨a,cap,rfl,hc,hm,hrow⟩:=h
 clear hrow
 cases hr:Zn (b,ps)
 ·rw [Km hr]
  go_enter Tryz.func120,Tryz.ntmps120
  go_wp2_with fail
  refine ck (YU b ((uh Hv).below ((ba _ _)))) fun w1 hb=> ?_
  have B1:Hid (Below w.heap.size w w1):=Z9 (((ba _ _)).trans (hb.mono (by simp)))
  clear hb
  go_wp2_with fail
  go_ret
  exact ⟨rfl,uh B1⟩
 cases hn:inB need 0 1000000
 ·rw [Kn hn]
  go_enter Tryz.func120,Tryz.ntmps120
  go_wp2_with fail
  refine ck (YU b ((uh Hv).below ((ba _ _)))) fun w1 hb=> ?_
  have B1:Hid (Below w.heap.size w w1):=Z9 (((ba _ _)).trans (hb.mono (by simp)))
  clear hb
  go_wp2_with (go_at_call 185;refine (Vn _ _).mono ?_;rintro e w' ⟨rfl,rfl⟩)
  go_ret
  exact ⟨rfl,uh B1⟩
 rw [Iq hr hn]
 have Hr:=Z9 hr
 have hn':=hn
 obtain ⟨n0,n1⟩:=ZU hn'
 clear hn'
 go_enter Tryz.func120,Tryz.ntmps120
 go_wp2_with fail
 refine ck (YU b ((uh Hv).below ((ba _ _)))) fun w1 hb=> ?_
 have x1:w1.cell? ⟨w.heap.size,1,none⟩=some (.slice a ps.length cap):=(hb.cell (p:=⟨w.heap.size,1,none⟩) (by simp)).trans (by simp)
 have B1:Hid (Below w.heap.size w w1):=Z9 (((ba _ _)).trans (hb.mono (by simp)))
 clear hb
 have hv1:=(uh Hv).below (uh B1)
 obtain ⟨a',cap',he,_,_,hrow⟩:=hv1
 cases he
 have hbd:=Mb (uh Hr)
 simp only at hbd
 obtain ⟨_,_,hl1,hl4⟩:=hbd
 rcases hrow with h0 | ⟨bk,off,rfl,hbw,hcl⟩
 ·rw [h0] at hl1;simp at hl1
 have Hcl:=Z9 hcl
 clear hcl
 go_wp2_with (go_at_call 185;refine (Vn _ _).mono ?_;rintro e w' ⟨rfl,rfl⟩)
 clear hr hn
 go_loop [5] (fun i=> ∃ k:Nat,k+1<=ps.length/\i= .int .i64 k/\(∀ j,j<k->SF need (Z7 ps j)=false)) (fun i=>ps.length-(intOf i).toNat)
 case atStart=>exact ⟨0,by omega,rfl,fun j hj=>by omega⟩
 case round=>
  obtain ⟨k,hk,rfl,hlo⟩:=hrel
  have Hlo:=Z9 hlo
  clear hlo
  by_cases hlast:k+1=ps.length
  ·have Hp:=Z9 (OM need ps k hk (uh Hlo) (.inl hlast))
   have hd:¬ (k:Int)+1<(ps.length:Int):=by omega
   go_wp2_with fail
   go_ret
   exact ⟨ZD (by rw [uh Hp]),uh B1⟩
  ·have hd:(k:Int)+1<(ps.length:Int):=by omega
   obtain ⟨c0,c1⟩:=uh Hcl k (by omega)
   have hpb:=MQ (uh Hr) (k:=k) (show k<ps.length by omega)
   simp only at hpb
   generalize hp:Z7 ps k=p at c0 c1 hpb
   have Hp:=Z9 hp
   clear hp
   obtain ⟨f,c⟩:=p
   simp only at c0 c1 hpb
   obtain ⟨f0,f1,_,_⟩:=hpb
   by_cases hen:4*f<5*need
   ·go_wp2_with fail
    go_round
    case rel=>exact ⟨k+1,by omega,by go_num,Yu (uh Hlo) (by rw [uh Hp];exact Ds hen)⟩
    case measure=>exact ms
   ·have Hq:=Z9 (OM need ps k hk (uh Hlo) (.inr (by rw [uh Hp];exact Dt (by simp only;omega))))
    go_wp2_with fail
    go_ret
    exact ⟨ZD (by rw [uh Hq]),uh B1⟩
theorem PO {w:World} {v:Value} {ps:List Z4} (b pace work:Int) (h:IsPaces w v ps) :
  Calls Tryz.prog 322 #[.agg #[.int .i64 b,v],.int .i64 pace,.int .i64 work] w fun e w'=>e= .returned (.int .i64 (XK (b,ps) pace work))/\Below w.heap.size w w':=by
 have Hv:=Z9 h
 obtain ⟨a,cap,rfl,hc,hm,hrow⟩:=h
 clear hrow
 have hl:(ps.length:Int)<=9223372036854775807:=by omega
 cases hr:Zn (b,ps)
 ·rw [P2 hr]
  go_enter Tryz.func322,Tryz.ntmps322
  go_wp2_with fail
  refine ck (YU b ((uh Hv).below ((ba _ _)))) fun w1 hb=> ?_
  have B1:Hid (Below w.heap.size w w1):=Z9 (((ba _ _)).trans (hb.mono (by simp)))
  clear hb
  go_wp2_with fail
  go_ret
  exact ⟨rfl,uh B1⟩
 cases hn:inB work 0 1000000
 ·rw [P4 hn]
  go_enter Tryz.func322,Tryz.ntmps322
  go_wp2_with fail
  refine ck (YU b ((uh Hv).below ((ba _ _)))) fun w1 hb=> ?_
  have B1:Hid (Below w.heap.size w w1):=Z9 (((ba _ _)).trans (hb.mono (by simp)))
  clear hb
  go_wp2_with (go_at_call 185;refine (Vn _ _).mono ?_;rintro e w' ⟨rfl,rfl⟩)
  go_ret
  exact ⟨rfl,uh B1⟩
 cases hp:inB pace 0 ((ps.length:Int)-1)
 ·rw [P5 hp]
  go_enter Tryz.func322,Tryz.ntmps322
  go_wp2_with fail
  refine ck (YU b ((uh Hv).below ((ba _ _)))) fun w1 hb=> ?_
  have x1:w1.cell? ⟨w.heap.size,1,none⟩=some (.slice a ps.length cap):=(hb.cell (p:=⟨w.heap.size,1,none⟩) (by simp)).trans (by simp)
  have B1:Hid (Below w.heap.size w w1):=Z9 (((ba _ _)).trans (hb.mono (by simp)))
  clear hb
  go_wp2_with (first | (go_at_call 185;refine (Vn _ _).mono ?_;rintro e w' ⟨rfl,rfl⟩) | (go_at_call 40;refine (Z1 _ _ _ _).mono ?_;rintro e w' ⟨rfl,rfl⟩))
  go_ret
  exact ⟨rfl,uh B1⟩
 rw [NV hr hn hp]
 have hpp:=ZU hp
 obtain ⟨hp0,hp1⟩:=hpp
 obtain ⟨k,rfl⟩:=Int.eq_ofNat_of_zero_le hp0
 have hk:k<ps.length:=by omega
 rw [Int.toNat_natCast]
 simp only
 generalize hpk:Z7 ps k=p
 have Hpk:=Z9 hpk
 clear hpk
 obtain ⟨f,c⟩:=p
 simp only
 go_enter Tryz.func322,Tryz.ntmps322
 go_wp2_with fail
 refine ck (YU b ((uh Hv).below ((ba _ _)))) fun w1 hb=> ?_
 have x1:w1.cell? ⟨w.heap.size,1,none⟩=some (.slice a ps.length cap):=(hb.cell (p:=⟨w.heap.size,1,none⟩) (by simp)).trans (by simp)
 have B1:Hid (Below w.heap.size w w1):=Z9 (((ba _ _)).trans (hb.mono (by simp)))
 clear hb
 have hv1:=(uh Hv).below (uh B1)
 obtain ⟨a',cap',he,_,_,hrow⟩:=hv1
 cases he
 rcases hrow with h0 | ⟨bk,off,rfl,hbw,hcl⟩
 ·rw [h0] at hk;simp at hk
 obtain ⟨c0,c1⟩:=hcl k hk
 clear hcl
 rw [uh Hpk] at c0 c1
 simp only at c0 c1
 go_wp2_with (first | (go_at_call 185;refine (Vn _ _).mono ?_;rintro e w' ⟨rfl,rfl⟩) | (go_at_call 40;refine (Z1 _ _ _ _).mono ?_;rintro e w' ⟨rfl,rfl⟩))
 go_quiet (exact Calls.quiet_of_same (O9 _ _ _ _))
 go_wp2_with fail
 go_ret
 exact ⟨rfl,Yd (uh B1) _⟩
theorem RN {w:World} {v:Value} {ps:List Z4} (b need work:Int) (h:IsPaces w v ps) :
  Calls Tryz.prog 321 #[.agg #[.int .i64 b,v],.int .i64 need,.int .i64 work] w fun e w'=>e= .returned (.int .i64 (LV (b,ps) need work))/\Below w.heap.size w w':=by
 have Hv:=Z9 h
 obtain ⟨a,cap,rfl,hc,hm,hrow⟩:=h
 clear hrow
 have k0:=cell_regrown (w:=w.alloc (.cells #[.int .i64 b,.slice a ps.length cap] 45)) (a:=⟨w.heap.size,0,none⟩) (v:= .int .i64 b) (by simp)
 have k1:=cell_regrown (w:=w.alloc (.cells #[.int .i64 b,.slice a ps.length cap] 45)) (a:=⟨w.heap.size,1,none⟩) (v:= .slice a ps.length cap) (by simp)
 have Ha:Hid (IsPaces (w.alloc (.cells #[.int .i64 b,.slice a ps.length cap] 45)) (.slice a ps.length cap) ps):=Z9 ((uh Hv).below ((ba _ _)))
 go_enter Tryz.func321,Tryz.ntmps321
 go_wp2_with fail
 refine wq ?_
 repeat (go_big_quiet_step (first | exact Calls.regrown_of (TG b need ((uh Ha).below (below_regrown _ _ _))) | exact Calls.regrown_of (PO b _ work ((uh Ha).below (below_regrown _ _ _)))))
 refine wpQuiet_nil ?_
 intro _ hw'
 obtain ⟨⟨dq,osq⟩,hw''⟩:=hw'
 subst hw''
 go_wp2_with fail
 go_ret
 exact ⟨rfl,((ba _ _)).trans ((below_regrown _ _ _).mono (by simp))⟩
end Go.Proofs.YtffcgajndmhpkaaGreatDoor
