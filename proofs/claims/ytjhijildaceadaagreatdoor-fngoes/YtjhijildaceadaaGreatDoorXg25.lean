/- Part 25 of what the proof rests on. No condition but those that a theorem names. -/
import Derived.Test.YtjhijildaceadaaGreatDoorXg18
set_option maxHeartbeats 8000000
set_option maxRecDepth 100000
namespace Go.Proofs.YtjhijildaceadaaGreatDoor
open Go.ChangeShapes Go.WideShapes Go.ChangeAt Go.RowKit Go.Sort
set_option linter.unusedVariables false
set_option linter.unusedSimpArgs false
theorem SM {w:World} {v0 v1 v2 v3 v4:Value} {m:Z4} (who:Int) (h:Smy w v0 v1 v2 v3 v4 m) :
  Calls Tryz.prog 48 #[.agg #[v0,v1,v2,v3,v4,.int .i64 m.now],.int .i64 who] w fun e w'=>TX w.heap.size (Yf m who).1 (Yf m who).2 e w'/\Below w.heap.size w w':=by
 obtain ⟨X,hX⟩:∃ x,Yf m who=x:=⟨_,rfl⟩
 rw [hX]
 have HX:=Z9 hX
 clear hX
 have Hv0:=Z9 h
 obtain ⟨a0,p0,a1,p1,a2,p2,a3,p3,a4,p4,rfl,rfl,rfl,rfl,rfl,_,_,_,_,_,_,_,_,_,_⟩:=h.five
 clear h
 obtain ⟨ok,hok⟩:∃ q,ZP m=q:=⟨_,rfl⟩
 have Hok:=Z9 hok
 clear hok
 go_enter Tryz.func48,Tryz.ntmps48
 go_wp2_with fail
 obtain ⟨W,hW,kb,kr,BB⟩:=YQ w 32 (S6 a0 p0 a1 p1 a2 p2 a3 p3 a4 p4 m) 32 E6
 have Hv:=Z9 ((uh Hv0).below (uh BB))
 clear Hv0
 rw [hW]
 clear hW
 refine (Yb (uh Hok) (uh Hv)).mono ?_
 rintro e w1 ⟨rfl,hb⟩
 replace kb:=bl kb hb
 replace kr:=bl kr hb
 replace Hv:=Z9 ((uh Hv).below hb)
 replace BB:=bt BB hb
 clear hb
 cases ok
 ·
  obtain ⟨c0,c1,c2,c3,c4,c5⟩:=(uh kb).c6
  go_wp2_with fail
  clear c0 c1 c2 c3 c4 c5
  refine (YC (uh Hv)).mono ?_
  rintro e w2 ⟨rfl,hb⟩
  replace kb:=bl kb hb
  replace kr:=bl kr hb
  replace Hv:=Z9 ((uh Hv).below hb)
  replace BB:=bt BB hb
  clear hb
  obtain ⟨o0,o1,o2,o3,o4,o5⟩:=(uh kr).c6
  obtain ⟨f0,f1,f2,f3,f4,f5⟩:=(uh kr).f6
  go_wp2_with fail
  have hX0:X=(YM,3):=by rw [<-uh HX];unfold Yf;rw [uh Hok];rfl
  refine bodyPost_ret (v:= .tuple #[.agg E6,.int .i64 3]) (by simp [results,Tryz.results48,go_sem, *]) rfl ⟨?_,?_⟩
  ·rw [hX0];exact ⟨_,_,_,_,_,[],rfl,Zd _ _⟩
  ·iterate 6 (refine Below.setCell ?_ (by show _<=w.heap.size+1;omega) _)
   exact uh BB
 have hlo:=ZU (uh Hok)
 have HLo:=Z9 hlo
 have HFew:=Z9 (XO hlo)
 clear hlo
 obtain ⟨c0,c1,c2,c3,c4,c5⟩:=(uh kb).c6
 go_wp2_with fail
 clear c0 c1 c2 c3 c4 c5
 have hWs:w.heap.size+2<=w1.heap.size:=by have:=(uh kr).lt;omega
 refine (ZB (uh Hv) (uh HFew)).mono ?_
 rintro e w2 ⟨y0,y1,y2,y3,y4,oq,rfl,ho,hb⟩
 have k9:=ho.smy
 obtain ⟨b0,q0,b1,q1,b2,q2,b3,q3,b4,q4,rfl,rfl,rfl,rfl,rfl,_,_,_,_,_,_,_,_,_,_⟩:=k9.five
 clear k9
 replace kb:=bl kb hb
 replace kr:=bl kr hb
 replace Hv:=Z9 ((uh Hv).below hb)
 replace BB:=bt BB hb
 have HO:=Z9 (ho.mono hWs)
 have LO:Hid (∀ k,YG (.slice b0 m.rooms.length q0) (.slice b1 m.guilds.length q1) (.slice b2 m.smiths.length q2) (.slice b3 m.desks.length q3) (.slice b4 m.paces.length q4) oq k->w.heap.size+2<=k/\k<w2.heap.size):=Z9 (fun k e=>(uh HO).own e)
 have hsz9:=hb.size
 clear ho hb
 go_upto_region 4 with fail
 obtain ⟨W2,hW2,hba,ko⟩:=ZA w2 32 (S6 b0 q0 b1 q1 b2 q2 b3 q3 b4 q4 m)
 replace kb:=bl kb hba
 replace kr:=bl kr hba
 replace Hv:=Z9 ((uh Hv).below hba)
 replace HO:=Z9 ((uh HO).below hba)
 replace BB:=bt BB hba
 have hob:w.heap.size+2<=w2.heap.size:=Nat.le_trans hWs hsz9
 clear hba hsz9 hWs
 rw [hW2]
 clear hW2
 generalize w2.heap.size=ob at *
 obtain ⟨qw,hqw⟩:∃ q,Xl m who=q:=⟨_,rfl⟩
 have Hqw:=Z9 hqw
 clear hqw
 obtain ⟨c0,c1,c2,c3,c4,c5⟩:=(uh kb).c6
 go_wp2_with fail
 clear c0 c1 c2 c3 c4 c5
 refine (Vs (uh Hqw) (uh Hv)).mono ?_
 rintro e w3 ⟨rfl,hb⟩
 replace kb:=bl kb hb
 replace kr:=bl kr hb
 replace Hv:=Z9 ((uh Hv).below hb)
 replace HO:=Z9 ((uh HO).below hb)
 replace ko:=bl ko hb
 replace BB:=bt BB hb
 clear hb
 cases qw
 ·
  obtain ⟨x0,x1,x2,x3,x4,x5⟩:=(uh ko).c6
  obtain ⟨o0,o1,o2,o3,o4,o5⟩:=(uh kr).c6
  obtain ⟨f0,f1,f2,f3,f4,f5⟩:=(uh kr).f6
  go_wp2_with fail
  have hX0:X=(m,1):=by rw [<-uh HX];unfold Yf;rw [uh Hok,uh Hqw];rfl
  refine bodyPost_ret (v:= .tuple #[.agg (S6 b0 q0 b1 q1 b2 q2 b3 q3 b4 q4 m),.int .i64 1]) (by simp [results,Tryz.results48,go_sem, *]) rfl ⟨?_,?_⟩
  ·rw [hX0];refine ⟨_,_,_,_,_,oq,rfl,?_⟩
   iterate 6 (refine FullSmy.set_off ?_ (fun k e=>by have:=(uh LO k e).1;omega) _ _)
   exact (uh HO).mono (by omega)
  ·iterate 6 (refine Below.setCell ?_ (by show _<=w.heap.size+1;omega) _)
   exact uh BB
 obtain ⟨k,rfl,hk,hs0⟩:=Yz (uh Hqw)
 have hk1:(k:Int)<(m.smiths.length:Int):=by omega
 obtain ⟨g2,hga,_,_,hc2,hz2⟩:=RecAt.view ZZ (by omega) (uh HO).smiths rfl (by omega)
 cases hga
 have hg2o:=(uh LO g2 (.inr (.inr (.inr (.inl rfl)))))
 have x2:=(uh ko).cell (i:=2) (v:= .slice (some ⟨g2,0,none⟩) m.smiths.length q2) rfl
 have s0:=hc2 k hk 0 _ rfl
 have g0:=hz2 (k*11+0)
 have s1:=hc2 k hk 1 _ rfl
 have g1:=hz2 (k*11+1)
 have s2:=hc2 k hk 2 _ rfl
 have g2:=hz2 (k*11+2)
 have s3:=hc2 k hk 3 _ rfl
 have g3:=hz2 (k*11+3)
 have s4:=hc2 k hk 4 _ rfl
 have g4:=hz2 (k*11+4)
 have s5:=hc2 k hk 5 _ rfl
 have g5:=hz2 (k*11+5)
 have s6:=hc2 k hk 6 _ rfl
 have g6:=hz2 (k*11+6)
 have s7:=hc2 k hk 7 _ rfl
 have g7:=hz2 (k*11+7)
 have s8:=hc2 k hk 8 _ rfl
 have g8:=hz2 (k*11+8)
 have s9:=hc2 k hk 9 _ rfl
 have g9:=hz2 (k*11+9)
 have s10:=hc2 k hk 10 _ rfl
 have g10:=hz2 (k*11+10)
 simp only [Nat.add_zero] at s0 g0
 have hput:=(uh HO).putW rfl hk (XC)
 rw [show Z0 (XC)=[.int .i64 0,.int .i64 0,.int .i64 0,.int .i64 0,.int .i64 0,.int .i64 0,.int .i64 0,.int .i64 0,.int .i64 0,.int .i64 0,.int .i64 0] from rfl,Sz] at hput
 have HP:=Z9 hput
 clear hput hc2 hz2 HO
 go_upto_region 7 with fail
 clear x2 s0 g0 s1 g1 s2 g2 s3 g3 s4 g4 s5 g5 s6 g6 s7 g7 s8 g8 s9 g9 s10 g10
 replace ko:Hid (Blk ((((((((((((w3).setCell ⟨g2,k*11,none⟩ (.int .i64 0)).setCell ⟨g2,k*11+1,none⟩ (.int .i64 0)).setCell ⟨g2,k*11+2,none⟩ (.int .i64 0)).setCell ⟨g2,k*11+3,none⟩ (.int .i64 0)).setCell ⟨g2,k*11+4,none⟩ (.int .i64 0)).setCell ⟨g2,k*11+5,none⟩ (.int .i64 0)).setCell ⟨g2,k*11+6,none⟩ (.int .i64 0)).setCell ⟨g2,k*11+7,none⟩ (.int .i64 0)).setCell ⟨g2,k*11+8,none⟩ (.int .i64 0)).setCell ⟨g2,k*11+9,none⟩ (.int .i64 0)).setCell ⟨g2,k*11+10,none⟩ (.int .i64 0)) ob 32 (S6 b0 q0 b1 q1 (some ⟨g2,0,none⟩) q2 b3 q3 b4 q4 m)):=Z9 ((((((((((((uh ko).other (a:=⟨g2,k*11,none⟩) (by show ob ≠ g2;omega) (.int .i64 0)).other (a:=⟨g2,k*11+1,none⟩) (by show ob ≠ g2;omega) (.int .i64 0)).other (a:=⟨g2,k*11+2,none⟩) (by show ob ≠ g2;omega) (.int .i64 0)).other (a:=⟨g2,k*11+3,none⟩) (by show ob ≠ g2;omega) (.int .i64 0)).other (a:=⟨g2,k*11+4,none⟩) (by show ob ≠ g2;omega) (.int .i64 0)).other (a:=⟨g2,k*11+5,none⟩) (by show ob ≠ g2;omega) (.int .i64 0)).other (a:=⟨g2,k*11+6,none⟩) (by show ob ≠ g2;omega) (.int .i64 0)).other (a:=⟨g2,k*11+7,none⟩) (by show ob ≠ g2;omega) (.int .i64 0)).other (a:=⟨g2,k*11+8,none⟩) (by show ob ≠ g2;omega) (.int .i64 0)).other (a:=⟨g2,k*11+9,none⟩) (by show ob ≠ g2;omega) (.int .i64 0)).other (a:=⟨g2,k*11+10,none⟩) (by show ob ≠ g2;omega) (.int .i64 0))
 replace kr:Hid (Blk ((((((((((((w3).setCell ⟨g2,k*11,none⟩ (.int .i64 0)).setCell ⟨g2,k*11+1,none⟩ (.int .i64 0)).setCell ⟨g2,k*11+2,none⟩ (.int .i64 0)).setCell ⟨g2,k*11+3,none⟩ (.int .i64 0)).setCell ⟨g2,k*11+4,none⟩ (.int .i64 0)).setCell ⟨g2,k*11+5,none⟩ (.int .i64 0)).setCell ⟨g2,k*11+6,none⟩ (.int .i64 0)).setCell ⟨g2,k*11+7,none⟩ (.int .i64 0)).setCell ⟨g2,k*11+8,none⟩ (.int .i64 0)).setCell ⟨g2,k*11+9,none⟩ (.int .i64 0)).setCell ⟨g2,k*11+10,none⟩ (.int .i64 0)) (w.heap.size+1) 32 E6):=Z9 ((((((((((((uh kr).other (a:=⟨g2,k*11,none⟩) (by show w.heap.size+1 ≠ g2;omega) (.int .i64 0)).other (a:=⟨g2,k*11+1,none⟩) (by show w.heap.size+1 ≠ g2;omega) (.int .i64 0)).other (a:=⟨g2,k*11+2,none⟩) (by show w.heap.size+1 ≠ g2;omega) (.int .i64 0)).other (a:=⟨g2,k*11+3,none⟩) (by show w.heap.size+1 ≠ g2;omega) (.int .i64 0)).other (a:=⟨g2,k*11+4,none⟩) (by show w.heap.size+1 ≠ g2;omega) (.int .i64 0)).other (a:=⟨g2,k*11+5,none⟩) (by show w.heap.size+1 ≠ g2;omega) (.int .i64 0)).other (a:=⟨g2,k*11+6,none⟩) (by show w.heap.size+1 ≠ g2;omega) (.int .i64 0)).other (a:=⟨g2,k*11+7,none⟩) (by show w.heap.size+1 ≠ g2;omega) (.int .i64 0)).other (a:=⟨g2,k*11+8,none⟩) (by show w.heap.size+1 ≠ g2;omega) (.int .i64 0)).other (a:=⟨g2,k*11+9,none⟩) (by show w.heap.size+1 ≠ g2;omega) (.int .i64 0)).other (a:=⟨g2,k*11+10,none⟩) (by show w.heap.size+1 ≠ g2;omega) (.int .i64 0))
 replace BB:Hid (Below w.heap.size w ((((((((((((w3).setCell ⟨g2,k*11,none⟩ (.int .i64 0)).setCell ⟨g2,k*11+1,none⟩ (.int .i64 0)).setCell ⟨g2,k*11+2,none⟩ (.int .i64 0)).setCell ⟨g2,k*11+3,none⟩ (.int .i64 0)).setCell ⟨g2,k*11+4,none⟩ (.int .i64 0)).setCell ⟨g2,k*11+5,none⟩ (.int .i64 0)).setCell ⟨g2,k*11+6,none⟩ (.int .i64 0)).setCell ⟨g2,k*11+7,none⟩ (.int .i64 0)).setCell ⟨g2,k*11+8,none⟩ (.int .i64 0)).setCell ⟨g2,k*11+9,none⟩ (.int .i64 0)).setCell ⟨g2,k*11+10,none⟩ (.int .i64 0))):=Z9 ((((((((((((uh BB).setCell (p:=⟨g2,k*11,none⟩) (by show w.heap.size<=g2;omega) (.int .i64 0)).setCell (p:=⟨g2,k*11+1,none⟩) (by show w.heap.size<=g2;omega) (.int .i64 0)).setCell (p:=⟨g2,k*11+2,none⟩) (by show w.heap.size<=g2;omega) (.int .i64 0)).setCell (p:=⟨g2,k*11+3,none⟩) (by show w.heap.size<=g2;omega) (.int .i64 0)).setCell (p:=⟨g2,k*11+4,none⟩) (by show w.heap.size<=g2;omega) (.int .i64 0)).setCell (p:=⟨g2,k*11+5,none⟩) (by show w.heap.size<=g2;omega) (.int .i64 0)).setCell (p:=⟨g2,k*11+6,none⟩) (by show w.heap.size<=g2;omega) (.int .i64 0)).setCell (p:=⟨g2,k*11+7,none⟩) (by show w.heap.size<=g2;omega) (.int .i64 0)).setCell (p:=⟨g2,k*11+8,none⟩) (by show w.heap.size<=g2;omega) (.int .i64 0)).setCell (p:=⟨g2,k*11+9,none⟩) (by show w.heap.size<=g2;omega) (.int .i64 0)).setCell (p:=⟨g2,k*11+10,none⟩) (by show w.heap.size<=g2;omega) (.int .i64 0))
 clear kb Hv
 generalize (((((((((((w3).setCell ⟨g2,k*11,none⟩ (.int .i64 0)).setCell ⟨g2,k*11+1,none⟩ (.int .i64 0)).setCell ⟨g2,k*11+2,none⟩ (.int .i64 0)).setCell ⟨g2,k*11+3,none⟩ (.int .i64 0)).setCell ⟨g2,k*11+4,none⟩ (.int .i64 0)).setCell ⟨g2,k*11+5,none⟩ (.int .i64 0)).setCell ⟨g2,k*11+6,none⟩ (.int .i64 0)).setCell ⟨g2,k*11+7,none⟩ (.int .i64 0)).setCell ⟨g2,k*11+8,none⟩ (.int .i64 0)).setCell ⟨g2,k*11+9,none⟩ (.int .i64 0)).setCell ⟨g2,k*11+10,none⟩ (.int .i64 0)=W3 at *
 have hfw:=uh HFew
 go_wp2_with fail
 have hofR:∀ k,YG (.slice b0 m.rooms.length q0) (.slice b1 m.guilds.length q1) (.slice (some ⟨g2,0,none⟩) m.smiths.length q2) (.slice b3 m.desks.length q3) (.slice b4 m.paces.length q4) oq k->k ≠ ob:=fun k e=>by have:=(uh LO k e).2;omega
 refine (Zf (m:=setS m k XC) (uh ko) (uh HP) (fun e=>hofR _ (.inr (.inr (.inr (.inl e)))) rfl) (fun e=>hofR _ (.inr (.inr (.inr (.inr (.inl e))))) rfl) (by show (m.smiths.set k _).length<=800;have:=hfw.smiths;simp;omega) hfw.desks).mono ?_
 rintro e w4 ⟨rfl,hf9,ht9⟩
 replace kr:=Z9 ((uh kr).two ht9 (fun e=>by have:=(uh LO _ (.inr (.inr (.inr (.inl e))))).1;omega) (fun e=>by have:=(uh LO _ (.inr (.inr (.inr (.inr (.inl e)))))).1;omega))
 replace BB:=Z9 ((uh BB).trans (ht9.below (uh BB).size (fun k e=>by have:=(uh LO k (.inr (.inr (.inr (.inl e))))).1;omega) (fun k e=>by have:=(uh LO k (.inr (.inr (.inr (.inr (.inl e)))))).1;omega)))
 have HF9:=Z9 hf9
 clear hf9 ht9 hofR
 obtain ⟨o0,o1,o2,o3,o4,o5⟩:=(uh kr).c6
 obtain ⟨f0,f1,f2,f3,f4,f5⟩:=(uh kr).f6
 go_wp2_with fail
 have hX0:X=(ZV (setS m k XC),0):=by rw [<-uh HX];unfold Yf;rw [uh Hok,uh Hqw];simp only [if_true,Int.toNat_natCast]
 have hnow:(ZV (setS m k XC)).now=m.now:=(ZQ _ _).2.2.2.1
 refine bodyPost_ret (v:= .tuple #[.agg (S6 b0 q0 b1 q1 (some ⟨g2,0,none⟩) q2 b3 q3 b4 q4 m),.int .i64 0]) (by simp [results,Tryz.results48,go_sem,setS,U4,YJ,pushS, *]) rfl ⟨?_,?_⟩
 ·rw [hX0];refine ⟨_,_,_,_,_,oq,by rw [hnow],?_⟩
  iterate 6 (refine FullSmy.set_off ?_ (fun k e=>by have:=(uh LO k e).1;omega) _ _)
  exact (uh HF9).mono (by omega)
 ·iterate 6 (refine Below.setCell ?_ (by show _<=w.heap.size+1;omega) _)
  exact uh BB
end Go.Proofs.YtjhijildaceadaaGreatDoor
namespace Go.Proofs.YtjhijildaceadaaGreatDoor.Draw
open Go.ChangeShapes Go.WideShapes Go.ChangeAt Go.RowKit
set_option linter.unusedVariables false
theorem Z9 {p:Prop} (h:p):Hid p:=h
theorem uh {p:Prop} (h:Hid p):p:=h
theorem Zy {k:IntKind} {a b:Int} (h:a=b):Ending.returned (.int k a)= .returned (.int k b):=by rw [h]
theorem Ud (n:Int):bits .and .i64 n 255=n%256:=by
 have h127:(BitVec.ofInt 64 255).toNat=2 ^ 8-1:=by decide
 have key:(BitVec.ofInt 64 n &&& BitVec.ofInt 64 255).toNat=(n%((2 ^ 64:Nat):Int)).toNat%2 ^ 8:=by
  rw [BitVec.toNat_and,BitVec.toNat_ofInt,h127,Nat.and_two_pow_sub_one_eq_mod]
 show IntKind.i64.wrap ((BitVec.ofInt 64 n &&& BitVec.ofInt 64 255).toNat:Nat)=n%256
 rw [key,IntKind.wrap_i64]
 omega
structure Off (bc:Nat) (w w':World):Prop where
 os:w'.os=w.os
 tape:w'.tape=w.tape
 output:w'.output=w.output
 size:w.heap.size<=w'.heap.size
 block:∀ k,k<w.heap.size->k ≠ bc->w'.heap[k]?=w.heap[k]?
theorem Off.refl (bc:Nat) (w:World):Off bc w w:=⟨rfl,rfl,rfl,Nat.le_refl _,fun _ _ _=>rfl⟩
theorem Off.trans {bc:Nat} {a b c:World} (h:Off bc a b) (k:Off bc b c):Off bc a c:=
 ⟨k.os.trans h.os,k.tape.trans h.tape,k.output.trans h.output,Nat.le_trans h.size k.size,fun i hi hn=>(k.block i (Nat.lt_of_lt_of_le hi h.size) hn).trans (h.block i hi hn)⟩
theorem Off.drewN {bc:Nat} {a w:World} (h:Off bc a w) (n:Nat):Off bc a (w.drewN n):=⟨h.os,h.tape,h.output,h.size,h.block⟩
theorem Off.alloc {bc:Nat} {a w:World} (h:Off bc a w) (o:Obj):Off bc a (w.alloc o):=
 h.trans ⟨rfl,rfl,rfl,by simp,fun k hk _=>Below.heap_alloc w o k hk⟩
theorem Off.setCell {bc:Nat} {a w:World} (h:Off bc a w) (o:Nat) (v:Value):Off bc a (w.setCell ⟨bc,o,none⟩ v):=
 h.trans ⟨rfl,rfl,rfl,by simp,fun k hk hn=>Below.heap_setCell w ⟨bc,o,none⟩ v k hn⟩
theorem Off.below {bc:Nat} {a w:World} (h:Off bc a w) {B:Nat} (hB:B<=bc) (hs:B<=a.heap.size):Below B a w:=
 ⟨h.os,h.tape,h.output,h.size,fun k hk=>h.block k (Nat.lt_of_lt_of_le hk hs) (by omega)⟩
theorem Off.cell {bc:Nat} {w w':World} (h:Off bc w w') {p:Addr} (hp:p.block<w.heap.size) (hn:p.block ≠ bc):w'.cell? p=w.cell? p:=
 World.cell?_of_block (w:=w) (h.block p.block hp hn)
theorem Qs (w:World) (o:Nat):w.frozen? ⟨w.heap.size,o,none⟩=false:=by simp [World.frozen?]
def Row (B:Nat) (w:World) (a:Option Addr) (len:Nat):Prop:=
 len<=4096/\(len=0\/ ∃ b off,a=some ⟨b,off,none⟩/\b<B/\ ∀ i,i<len-> ∃ n:Int,0<=n/\n<=255/\w.cell? ⟨b,off+i,none⟩=some (.int .u8 n))
def Cur (a:Option Addr) (len cap bc:Nat) (w:World):Prop:=
 bc<w.heap.size/\ ∃ i h:Int,0<=i/\i<=4096/\w.cell? ⟨bc,0,none⟩=some (.slice a len cap)/\w.cell? ⟨bc,1,none⟩=some (.int .i64 i)/\w.cell? ⟨bc,2,none⟩=some (.int .i64 h)
  /\w.frozen? ⟨bc,1,none⟩=false/\w.frozen? ⟨bc,2,none⟩=false
structure St (a:Option Addr) (len cap bc:Nat) (w:World):Prop where
 cur:Cur a len cap bc w
 row:Row bc w a len
theorem Row.off {bc:Nat} {w w':World} {a:Option Addr} {len:Nat} (h:Row bc w a len) (ho:Off bc w w') (hb:bc<=w.heap.size):Row bc w' a len:=by
 refine ⟨h.1,?_⟩
 rcases h.2 with h0 | ⟨b,off,ha,hlt,hc⟩
 ·exact .inl h0
 ·refine .inr ⟨b,off,ha,hlt,fun i hi=> ?_⟩
  obtain ⟨n,n0,n1,hn⟩:=hc i hi
  exact ⟨n,n0,n1,by rw [ho.cell (p:=⟨b,off+i,none⟩) (Nat.lt_of_lt_of_le hlt hb) (Nat.ne_of_lt hlt)];exact hn⟩
theorem St.drewN {a:Option Addr} {len cap bc:Nat} {w:World} (h:St a len cap bc w) (n:Nat):St a len cap bc (w.drewN n):=⟨h.cur,h.row⟩
theorem St.alloc {a:Option Addr} {len cap bc:Nat} {w:World} (h:St a len cap bc w) (o:Obj):St a len cap bc (w.alloc o):=by
 obtain ⟨⟨hb,i,x,h0,h1,c0,c1,c2,f1,f2⟩,hr⟩:=h
 have hne:∀ o,(⟨bc,o,none⟩:Addr).block ≠ w.heap.size:=fun _=>Nat.ne_of_lt hb
 refine ⟨⟨by simp;omega,i,x,h0,h1,?_,?_,?_,?_,?_⟩,hr.off ((Off.refl _ _).alloc o) (Nat.le_of_lt hb)⟩
 ·rw [World.cell?_alloc_old _ _ _ (hne 0)];exact c0
 ·rw [World.cell?_alloc_old _ _ _ (hne 1)];exact c1
 ·rw [World.cell?_alloc_old _ _ _ (hne 2)];exact c2
 ·rw [World.frozen?_alloc_old _ _ _ (hne 1)];exact f1
 ·rw [World.frozen?_alloc_old _ _ _ (hne 2)];exact f2
theorem St.setH {a:Option Addr} {len cap bc:Nat} {w:World} (h:St a len cap bc w) (x:Int):St a len cap bc (w.setCell ⟨bc,2,none⟩ (.int .i64 x)):=by
 obtain ⟨⟨hb,i,y,h0,h1,c0,c1,c2,f1,f2⟩,hr⟩:=h
 refine ⟨⟨by simpa using hb,i,x,h0,h1,?_,?_,?_,?_,?_⟩,hr.off ((Off.refl _ _).setCell 2 _) (Nat.le_of_lt hb)⟩
 ·rw [World.cell?_setCell_other _ _ _ _ (by simp)];exact c0
 ·rw [World.cell?_setCell_other _ _ _ _ (by simp)];exact c1
 ·exact World.cell?_setCell_same _ _ _ c2
 ·rw [World.frozen?_setCell];exact f1
 ·rw [World.frozen?_setCell];exact f2
theorem St.setI {a:Option Addr} {len cap bc:Nat} {w:World} (h:St a len cap bc w) (x:Int) (x0:0<=x) (x1:x<=4096):St a len cap bc (w.setCell ⟨bc,1,none⟩ (.int .i64 x)):=by
 obtain ⟨⟨hb,i,y,h0,h1,c0,c1,c2,f1,f2⟩,hr⟩:=h
 refine ⟨⟨by simpa using hb,x,y,x0,x1,?_,?_,?_,?_,?_⟩,hr.off ((Off.refl _ _).setCell 1 _) (Nat.le_of_lt hb)⟩
 ·rw [World.cell?_setCell_other _ _ _ _ (by simp)];exact c0
 ·exact World.cell?_setCell_same _ _ _ c1
 ·rw [World.cell?_setCell_other _ _ _ _ (by simp)];exact c2
 ·rw [World.frozen?_setCell];exact f1
 ·rw [World.frozen?_setCell];exact f2
theorem Tf (a:Option Addr) (len cap bc:Nat) (w:World) (hs:St a len cap bc w) :
  Calls Tryz.prog 144 #[.pointer (some ⟨bc,0,none⟩)] w fun e w'=> ∃ x:Int,e= .returned (.int .i64 x)/\0<=x/\x<=255/\St a len cap bc w'/\Off bc w w':=by
 have Hs:=Z9 hs
 obtain ⟨⟨hb,i,h,h0,h1,c0,c1,c2,f1,f2⟩,hl,hr⟩:=hs
 by_cases hge:i<(len:Int)
 ·have Hr:=Z9 hr
  rcases hr with hr | ⟨b,off,rfl,hlt,hc⟩
  ·omega
  obtain ⟨k,rfl⟩:=Int.eq_ofNat_of_zero_le h0
  obtain ⟨n,n0,n1,hn⟩:=hc k (by omega)
  have hneb:b ≠ bc:=Nat.ne_of_lt hlt
  clear hc Hr
  go_enter Tryz.func144,Tryz.ntmps144
  go_wp2_with fail
  go_quiet (fail)
  go_wp2_with fail
  go_quiet (fail)
  go_wp2_with fail
  go_quiet (fail)
  go_wp2_with fail
  go_ret
  refine ⟨_,rfl,?_,?_,(((uh Hs).setH _).drewN _).setI _ (by omega) (by omega),(((Off.refl _ _).setCell 2 _).drewN _).setCell 1 _⟩
  ·rw [Ud];omega
  ·rw [Ud];omega
 ·go_enter Tryz.func144,Tryz.ntmps144
  go_wp2_with fail
  go_quiet (fail)
  go_wp2_with fail
  go_quiet (fail)
  go_wp2_with fail
  go_ret
  refine ⟨_,rfl,?_,?_,(((uh Hs).setH _).drewN _).drewN _,(((Off.refl _ _).setCell 2 _).drewN _).drewN _⟩
  ·rw [Ud];omega
  ·rw [Ud];omega
theorem below_any (a:Option Addr) (len cap bc:Nat) (n:Int) (hn:0<n) (hm:n<=4611686018427387904) (w:World) (hs:St a len cap bc w) :
  Calls Tryz.prog 61 #[.pointer (some ⟨bc,0,none⟩),.int .i64 n] w fun e w'=> ∃ x:Int,e= .returned (.int .i64 x)/\0<=x/\x<n/\St a len cap bc w'/\Off bc w w':=by
 have Hs:=Z9 hs
 clear hs
 by_cases h256:n<=256
 ·go_enter Tryz.func61,Tryz.ntmps61
  go_wp2_with fail
  refine (Tf a len cap bc _ (uh Hs)).mono ?_
  rintro e w1 ⟨x,rfl,x0,x1,s1,o1⟩
  have Hs1:=Z9 s1
  have Ho1:=Z9 o1
  clear s1 o1
  go_wp2_with fail
  go_ret
  exact ⟨_,rfl,Int.emod_nonneg _ (by omega),Int.emod_lt_of_pos _ hn,uh Hs1,uh Ho1⟩
 ·go_enter Tryz.func61,Tryz.ntmps61
  go_wp2_with fail
  refine (Tf a len cap bc _ (uh Hs)).mono ?_
  rintro e w1 ⟨x,rfl,x0,x1,s1,o1⟩
  have Hs1:=Z9 s1
  have Ho1:=Z9 o1
  clear s1 o1
  go_wp2_with fail
  refine (Tf a len cap bc _ (uh Hs1)).mono ?_
  rintro e w2 ⟨y,rfl,y0,y1,s2,o2⟩
  have Hs2:=Z9 s2
  have Ho2:=Z9 o2
  clear s2 o2
  go_wp2_with fail
  refine (Tf a len cap bc _ (uh Hs2)).mono ?_
  rintro e w3 ⟨z,rfl,z0,z1,s3,o3⟩
  have Hs3:=Z9 s3
  have Ho3:=Z9 o3
  clear s3 o3
  go_wp2_with fail
  refine (Tf a len cap bc _ (uh Hs3)).mono ?_
  rintro e w4 ⟨v,rfl,v0,v1,s4,o4⟩
  have Hs4:=Z9 s4
  have Ho4:=Z9 o4
  clear s4 o4
  go_wp2_with fail
  go_ret
  exact ⟨_,rfl,Int.emod_nonneg _ (by omega),Int.emod_lt_of_pos _ hn,uh Hs4,(((uh Ho1).trans (uh Ho2)).trans (uh Ho3)).trans (uh Ho4)⟩
theorem once_any (a:Option Addr) (len cap bc:Nat) (n:Int) (hn:0<n) (hm:n<=4611686018427387904) (w:World) (hs:St a len cap bc w) :
  Calls Tryz.prog 63 #[.pointer (some ⟨bc,0,none⟩),.int .i64 n] w fun e w'=> ∃ b:Bool,e= .returned (.bool b)/\St a len cap bc w'/\Off bc w w':=by
 have Hs:=Z9 hs
 clear hs
 go_enter Tryz.func63,Tryz.ntmps63
 go_wp2_with fail
 refine (below_any a len cap bc n hn hm _ (uh Hs)).mono ?_
 rintro e w1 ⟨x,rfl,x0,x1,s1,o1⟩
 have Hs1:=Z9 s1
 have Ho1:=Z9 o1
 clear s1 o1
 go_wp2_with fail
 go_ret
 exact ⟨_,rfl,uh Hs1,uh Ho1⟩
theorem from_any (a:Option Addr) (len cap bc:Nat) (lo hi:Int) (h:lo<=hi) (h1 : -1000000000000<=lo) (h2:hi<=1000000000000) (w:World) (hs:St a len cap bc w) :
  Calls Tryz.prog 57 #[.pointer (some ⟨bc,0,none⟩),.int .i64 lo,.int .i64 hi] w fun e w'=> ∃ x:Int,e= .returned (.int .i64 x)/\lo<=x/\x<=hi/\St a len cap bc w'/\Off bc w w':=by
 have Hs:=Z9 hs
 clear hs
 go_enter Tryz.func57,Tryz.ntmps57
 go_wp2_with fail
 refine (below_any a len cap bc _ (by omega) (by omega) _ (uh Hs)).mono ?_
 rintro e w1 ⟨x,rfl,x0,x1,s1,o1⟩
 have Hs1:=Z9 s1
 have Ho1:=Z9 o1
 clear s1 o1
 go_wp2_with fail
 go_ret
 exact ⟨_,rfl,by omega,by omega,uh Hs1,uh Ho1⟩
theorem CS {a:Option Addr} {len cap:Nat} {w:World} (hr:Row w.heap.size w a len) {t:TypeId} (x:Int):St a len cap w.heap.size (w.alloc (.cells #[.slice a len cap,.int .i64 0,.int .i64 x] t)):=by
 refine ⟨⟨by simp,0,x,by omega,by omega,?_,?_,?_,?_,?_⟩,hr.off ((Off.refl _ _).alloc _) (Nat.le_refl _)⟩
 ·simp
 ·simp
 ·simp
 ·rw [frozen?_alloc_cells];exact Qs _ _
 ·rw [frozen?_alloc_cells];exact Qs _ _
theorem new_any (a:Option Addr) (len cap:Nat) (w:World) (hr:Row w.heap.size w a len) :
  Calls Tryz.prog 54 #[.slice a len cap] w fun e w'=>e= .returned (.pointer (some ⟨w.heap.size,0,none⟩))/\St a len cap w.heap.size w'/\Off w.heap.size w w':=by
 have Hr:=Z9 hr
 obtain ⟨hl,hr⟩:=hr
 have Hc:=Z9 hr
 clear hr
 go_enter Tryz.func54,Tryz.ntmps54
 go_wp2_with fail
 go_loop [3,4] (fun t i=> ∃ k:Nat,k<=len/\i= .int .i64 k/\ ∃ x:Int,t= .int .i64 x) (fun _ i=>len-(intOf i).toNat)
 case atStart=>exact ⟨0,Nat.zero_le _,rfl,_,rfl⟩
 case round=>
  obtain ⟨k,hk,rfl,x,rfl⟩:=hrel
  by_cases hlt:k<len
  ·rcases uh Hc with h0 | ⟨b,off,rfl,hb,hc⟩
   ·omega
   obtain ⟨n,n0,n1,hn⟩:=hc k hlt
   clear hc
   go_wp2_with fail
   go_round
   case rel=>exact ⟨k+1,by omega,by go_num,_,rfl⟩
   case measure=>simp [intOf];omega
  ·go_wp2_with fail
   go_ret
   refine ⟨rfl,CS (uh Hr) _,(Off.refl _ _).alloc _⟩
def IsRow (k:IntKind) (w:World) (a:Option Addr) (len cap:Nat) (zs:List Int):Prop:=
 (a=none/\len=0/\cap=0/\zs=[])\/
 ∃ x,a=some x/\len<=cap/\cap<=maxLen/\zs.length=cap/\(∀ i,i<zs.length->w.cell? (x.add i)=some (.int k (zs.getD i 0)))/\ ∀ n ∈ zs,(Lit.int k n).wf=true
theorem EV {w:World} {a:Option Addr} {len cap:Nat} {zs:List Int} (h:IsRow .u8 w a len cap zs) (hl:len<=4096):Row w.heap.size w a len:=by
 refine ⟨hl,?_⟩
 rcases h with ⟨_,h0,_,_⟩ | ⟨x,rfl,hlc,hm,hz,hcell,hwz⟩
 ·exact .inl h0
 ·by_cases h0:len=0
  ·exact .inl h0
  ·obtain ⟨b,off,spot⟩:=x
   have hc:=hcell 0 (by omega)
   have hspot:spot=none:=by simpa [Addr.add] using World.cell?_spot hc
   subst hspot
   have hlt:=World.block_lt_of_cell? _ _ hc
   refine .inr ⟨b,off,rfl,hlt,fun i hi=> ?_⟩
   have hiz:i<zs.length:=by omega
   have hb:=bounds_u8 (hwz zs[i] (List.getElem_mem hiz))
   have hci:=hcell i hiz
   rw [show zs.getD i 0=zs[i] from by simp [List.getD,hiz]] at hci
   refine ⟨zs[i],hb.1,hb.2,?_⟩
   by_cases hi0:i=0
   ·subst hi0;simpa [Addr.add] using hci
   ·simpa [Addr.add,hi0] using hci
theorem row_below {B:Nat} {w w':World} {a:Option Addr} {len:Nat} (h:Row B w a len) (hb:Below B w w'):Row B w' a len:=by
 refine ⟨h.1,?_⟩
 rcases h.2 with h0 | ⟨b,off,ha,hlt,hc⟩
 ·exact .inl h0
 ·refine .inr ⟨b,off,ha,hlt,fun i hi=> ?_⟩
  obtain ⟨n,n0,n1,hn⟩:=hc i hi
  exact ⟨n,n0,n1,by rw [hb.cell (p:=⟨b,off+i,none⟩) hlt];exact hn⟩
theorem CZ {B B':Nat} {w:World} {a:Option Addr} {len:Nat} (h:Row B w a len) (hB:B<=B'):Row B' w a len:=by
 refine ⟨h.1,?_⟩
 rcases h.2 with h0 | ⟨b,off,ha,hlt,hc⟩
 ·exact .inl h0
 ·exact .inr ⟨b,off,ha,Nat.lt_of_lt_of_le hlt hB,hc⟩
theorem row_later {w w':World} {a:Option Addr} {len:Nat} (h:Row w.heap.size w a len) (hb:Below w.heap.size w w'):Row w'.heap.size w' a len:=CZ (row_below h hb) hb.size
theorem DY (a:Option Addr) (len cap:Nat) (w:World) (hl:len<=4096):Calls Tryz.prog 13 #[.slice a len cap] w fun e w'=>e= .returned (.bool false)/\w'=w:=by
 have h:¬ (4096:Int)<len:=by omega
 go_enter Tryz.func13,Tryz.ntmps13
 go_wp2
 go_ret
 exact ⟨rfl,rfl⟩
theorem GI (a:Option Addr) (len cap:Nat) (w:World) (hl:4096<len):Calls Tryz.prog 13 #[.slice a len cap] w fun e w'=>e= .returned (.bool true)/\w'=w:=by
 have h:(4096:Int)<len:=by omega
 go_enter Tryz.func13,Tryz.ntmps13
 go_wp2
 go_ret
 exact ⟨rfl,rfl⟩
def isI64:Value->Bool
 | .int .i64 _=>true
 | _=>false
theorem pick_any (cs:Array Value) (j:Nat) (hj:j<cs.size) (h:cs.toList.all isI64=true):∃ v:Int,cs[j]?=some (.int .i64 v):=by
 rw [Array.all_toList,Array.all_eq_true] at h
 have:=h j hj
 rw [Array.getElem?_eq_getElem hj]
 generalize cs[j]=c at *
 unfold isI64 at this
 split at this
 ·exact ⟨_,rfl⟩
 ·cases this
end Go.Proofs.YtjhijildaceadaaGreatDoor.Draw
namespace Go.Proofs.YtjhijildaceadaaGreatDoor
open Go.ChangeShapes Go.WideShapes Go.ChangeAt Go.RowKit Go.Sort
open Draw (St Off Row Cur)
set_option linter.unusedVariables false
theorem Yc {a:Option Addr} {len cap bc:Nat} {w w':World} (h:St a len cap bc w) (hb:Below (bc+1) w w'):St a len cap bc w':=by
 obtain ⟨⟨hlt,i,x,h0,h1,c0,c1,c2,f1,f2⟩,hr⟩:=h
 have hc:∀ o,w'.cell? ⟨bc,o,none⟩=w.cell? ⟨bc,o,none⟩:=fun o=>hb.cell (p:=⟨bc,o,none⟩) (Nat.lt_succ_self bc)
 have hf:∀ o,w'.frozen? ⟨bc,o,none⟩=w.frozen? ⟨bc,o,none⟩:=fun o=>hb.frozen (p:=⟨bc,o,none⟩) (Nat.lt_succ_self bc)
 refine ⟨⟨Nat.lt_of_lt_of_le hlt hb.size,i,x,h0,h1,(hc 0).trans c0,(hc 1).trans c1,(hc 2).trans c2,(hf 1).trans f1,(hf 2).trans f2⟩,Draw.row_below hr (hb.mono (Nat.le_succ bc))⟩
theorem Wz {a:Option Addr} {len cap bc:Nat} {w:World} (h:St a len cap bc w):bc<w.heap.size:=h.cur.1
theorem UI {bc:Nat} {a b c:World} (h:Off bc a b) (k:Below a.heap.size b c):Off bc a c:=
 ⟨k.os.trans h.os,k.tape.trans h.tape,k.output.trans h.output,Nat.le_trans h.size k.size,fun i hi hn=>(k.block i hi).trans (h.block i hi hn)⟩
theorem UJ {bc:Nat} {w w':World} (h:Off bc w.drew w'):Off bc w w':=⟨h.os,h.tape,h.output,h.size,h.block⟩
theorem Uv {a:Option Addr} {len cap bc:Nat} {w:World} (h:St a len cap bc w):St a len cap bc w.drew:=⟨h.cur,h.row⟩
theorem Gd {bc:Nat} {w w':World} {cs:Array Value} {t:TypeId} {j:Int} (p:Off bc (w.alloc (.cells cs t)) w') (hb:bc<w.heap.size) (h0:0<=j) (h1:j<cs.size) (hz:cs.toList.all Draw.isI64=true):∃ v,w'.cell? ⟨w.heap.size,j.toNat,none⟩=some (.int .i64 v):=by
 obtain ⟨v,hv⟩:=Draw.pick_any cs j.toNat (by omega) hz
 exact ⟨v,by rw [p.cell (p:=⟨w.heap.size,j.toNat,none⟩) (by simp) (by simp;omega),World.cell?_alloc_at _ _ _ _ rfl];exact hv⟩
theorem FullSmy.away {n₀ bc:Nat} {w w':World} {v0 v1 v2 v3 v4:Value} {m:Z4} {qs:List (Z2 × Value)} (h:FullSmy n₀ w v0 v1 v2 v3 v4 m qs) (ho:Off bc w w') (hb:bc<n₀):FullSmy n₀ w' v0 v1 v2 v3 v4 m qs:=
 h.keep fun k e=>ho.block k (h.own e).2 (by have:=(h.own e).1;omega)
theorem Blk.away {bc R:Nat} {w w':World} {t:TypeId} {cs:Array Value} (h:Blk w R t cs) (ho:Off bc w w') (hb:R ≠ bc):Blk w' R t cs:=h.same (ho.block R h.lt hb)
theorem WS {bc:Nat} {w w':World} (h:Below w.heap.size w w'):Off bc w w':=⟨h.os,h.tape,h.output,h.size,fun k hk _=>h.block k hk⟩
theorem Off.newer {bc tb:Nat} {w0 w:World} (h:Off bc w0 w) (ht:w0.heap.size<=tb) (o:Nat) (v:Value):Off bc w0 (w.setCell ⟨tb,o,none⟩ v):=
 ⟨h.os,h.tape,h.output,by simpa using h.size,fun k hk hn=>(heap_setCell_other _ _ _ _ (by show k ≠ tb;omega)).trans (h.block k hk hn)⟩
theorem St.newer {a:Option Addr} {len cap bc tb:Nat} {w:World} (h:St a len cap bc w) (ht:bc<tb) (o:Nat) (v:Value):St a len cap bc (w.setCell ⟨tb,o,none⟩ v):=
 Yc h ((Below.refl _ _).setCell (p:=⟨tb,o,none⟩) (by show bc+1<=tb;omega) _)
end Go.Proofs.YtjhijildaceadaaGreatDoor
