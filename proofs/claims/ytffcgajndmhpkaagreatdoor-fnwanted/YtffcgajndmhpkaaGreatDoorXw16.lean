/- Part 16 of what the proof rests on. No condition but those that a theorem names. -/
import Derived.Test.YtffcgajndmhpkaaGreatDoorXw13
import Derived.Test.YtffcgajndmhpkaaGreatDoorXw15
set_option maxHeartbeats 8000000
set_option maxRecDepth 100000
namespace Go.Proofs.YtffcgajndmhpkaaGreatDoor
open Go.ChangeShapes Go.WideShapes Go.ChangeAt Go.RowKit Go.Sort
set_option linter.unusedVariables false
variable {w w' w0 w1 w2 w3 w₀ wr W W' X A B C : World} {v v0 v1 v2 v3 v4 u u0 u1 u2 u3 u4 : Value} {m : Z4}
def TC (n₀:Nat) (M:Z4) (c:Int) (e:Ending) (w':World):Prop:=
 ∃ u0 u1 u2 u3 u4 qs,e= .returned (.tuple #[.agg #[u0,u1,u2,u3,u4,.int .i64 M.now],.int .i64 c])/\FullSmy n₀ w' u0 u1 u2 u3 u4 M qs
theorem Va  {who:Int} {q:Bool} (hq:UP m who=q) (h:Smy w v0 v1 v2 v3 v4 m) :
  Calls Tryz.prog 278 #[.agg #[v0,v1,v2,v3,v4,.int .i64 m.now],.int .i64 who] w fun e w'=>e= .returned (.bool q)/\Below w.heap.size w w':=by
 subst hq
 obtain ⟨a0,p0,rfl,_,_⟩:=IsRooms.shape h.rooms
 obtain ⟨a1,p1,rfl,_,_⟩:=IsRec.shape h.guilds
 obtain ⟨a2,p2,rfl,hc2,hm2,r2⟩:=h.smiths
 obtain ⟨a3,p3,rfl,_,_⟩:=IsRec.shape h.desks
 obtain ⟨a4,p4,rfl,_,_⟩:=IsRec.shape h.paces
 clear h
 have Ba:Hid (Below w.heap.size w (w.alloc (.cells (S6 a0 p0 a1 p1 a2 p2 a3 p3 a4 p4 m) 32))):=Z9 ((ba _ _))
 cases hi:inB who 0 ((m.smiths.length:Int)-1)
 ·have hw:UP m who=false:=by unfold UP;rw [hi];rfl
  have Hi:=Z9 hi
  rw [hw]
  clear hi hw r2
  go_enter Tryz.func278,Tryz.ntmps278
  go_wp2_with (go_at_call 40;refine (ZZ _ _ _ _).mono ?_;rw [uh Hi];rintro e w' ⟨rfl,h9⟩;subst w')
  go_ret
  exact ⟨rfl,uh Ba⟩
 ·obtain ⟨i0,i1⟩:=ZU hi
  obtain ⟨k,rfl⟩:∃ k:Nat,who=k:=⟨who.toNat,by omega⟩
  have hk:k<m.smiths.length:=by omega
  have hw:UP m (k:Int)= !((Z8 m.smiths k).1 ==0):=by unfold UP;rw [hi];simp
  rcases r2 with e0 | ⟨sb,off,rfl,hbw,hcl⟩
  ·rw [e0] at hk;simp at hk
  obtain ⟨d0,_⟩:=ZC hcl hk
  have Hi:=Z9 hi
  rw [hw]
  clear hi hw hcl
  have hk1:(k:Int)<(m.smiths.length:Int):=by omega
  generalize (Z8 m.smiths k).1=st at *
  go_enter Tryz.func278,Tryz.ntmps278
  go_wp2_with (go_at_call 40;refine (ZZ _ _ _ _).mono ?_;rw [uh Hi];rintro e w' ⟨rfl,h9⟩;subst w')
  go_ret
  exact ⟨rfl,uh Ba⟩
theorem FullSmy.putW {n₀ n cap g:Nat}  {qs:List (Z2 × Value)} (hf:FullSmy n₀ w v0 v1 (.slice (some ⟨g,0,none⟩) n cap) v3 v4 m qs) (hn:n=m.smiths.length) {j:Nat} (hj:j<m.smiths.length) (x:Z3) :
  FullSmy n₀ (LS w g (j*11) (ZV x)) v0 v1 (.slice (some ⟨g,0,none⟩) n cap) v3 v4 { m with smiths:=m.smiths.set j x } qs:=by
 have hb:(Value.slice (some ⟨g,0,none⟩) n cap).ownBlock=some g:=rfl
 obtain ⟨hput,hg⟩:=RecAt.put ZT (by omega) hf.smiths hn hj x
 have hne:∀ k,k<w.heap.size->k ≠ g->(LS w g (j*11) (ZV x)).heap[k]?=w.heap[k]?:=fun k hk hkg=>hg.block k hk (fun e=>hkg (by cases e;rfl))
 refine ⟨hf.hall.same2 fun k e=>hne k (hf.hall.lt e).2 fun e'=> ?_,hf.rooms,RecAt.same hf.guilds fun k e=>hne k (RecAt.lt hf.guilds e).2 fun e'=> ?_,hput,RecAt.same hf.desks fun k e=>hne k (RecAt.lt hf.desks e).2 fun e'=> ?_,RecAt.same hf.paces fun k e=>hne k (RecAt.lt hf.paces e).2 fun e'=> ?_,hf.h1,hf.h2,hf.h3,hf.h4,hf.a12,hf.a13,hf.a14,hf.a23,hf.a24,hf.a34⟩
 ·subst e'
  rcases e with e | ⟨q,hq,e⟩
  ·exact hf.h2.1 _ hb e
  ·exact hf.h2.2 q hq _ hb e
 ·subst e';exact hf.a12 _ e hb
 ·subst e';exact hf.a23 _ hb e
 ·subst e';exact hf.a24 _ hb e
theorem QQ (w:World) (g o:Nat) (c0 c1 c2 c3 c4 c5 c6 c7 c8 c9 c10:Value):LS w g o [c0,c1,c2,c3,c4,c5,c6,c7,c8,c9,c10]=((((((((((w.setCell ⟨g,o,none⟩ c0).setCell ⟨g,o+1,none⟩ c1).setCell ⟨g,o+2,none⟩ c2).setCell ⟨g,o+3,none⟩ c3).setCell ⟨g,o+4,none⟩ c4).setCell ⟨g,o+5,none⟩ c5).setCell ⟨g,o+6,none⟩ c6).setCell ⟨g,o+7,none⟩ c7).setCell ⟨g,o+8,none⟩ c8).setCell ⟨g,o+9,none⟩ c9).setCell ⟨g,o+10,none⟩ c10:=rfl
theorem Zr {X:Z4 × Int} {M:Z4} {c nw:Int} {v0 v1 v2 v3 v4 u0 u1 u2 u3 u4 u5:Value} {oq:List (Z2 × Value)} (hX:X=(M,c)) (hn:M.now=nw) (hF:FullSmy (w.heap.size+2) W v0 v1 v2 v3 v4 M oq) (hB:Below w.heap.size w W):TC w.heap.size X.1 X.2 (.returned (.tuple #[.agg #[v0,v1,v2,v3,v4,.int .i64 nw],.int .i64 c])) ((((((W.setCell ⟨w.heap.size+1,0,none⟩ u0).setCell ⟨w.heap.size+1,1,none⟩ u1).setCell ⟨w.heap.size+1,2,none⟩ u2).setCell ⟨w.heap.size+1,3,none⟩ u3).setCell ⟨w.heap.size+1,4,none⟩ u4).setCell ⟨w.heap.size+1,5,none⟩ u5)/\Below w.heap.size w ((((((W.setCell ⟨w.heap.size+1,0,none⟩ u0).setCell ⟨w.heap.size+1,1,none⟩ u1).setCell ⟨w.heap.size+1,2,none⟩ u2).setCell ⟨w.heap.size+1,3,none⟩ u3).setCell ⟨w.heap.size+1,4,none⟩ u4).setCell ⟨w.heap.size+1,5,none⟩ u5):=by
 constructor
 ·rw [hX];refine ⟨_,_,_,_,_,oq,by rw [hn],?_⟩
  refine FullSmy.mono (n₀:=w.heap.size+2) ?_ (by omega)
  iterate 6 (refine FullSmy.set_off ?_ (fun k e=>by have:=(hF.own e).1;omega) _ _)
  exact hF
 ·iterate 6 (refine Below.setCell ?_ (by show _<=w.heap.size+1;omega) _)
  exact hB
theorem VP {ob:Nat}  {oq:List (Z2 × Value)} (ko:Blk W ob 32 #[v0,v1,v2,v3,v4,.int .i64 m.now]) (hF:FullSmy (w.heap.size+2) W v0 v1 v2 v3 v4 m oq) (lo:∀ k,WW v0 v1 v2 v3 v4 oq k->k ≠ ob) (kr:Blk W (w.heap.size+1) 32 E6) (BB:Below w.heap.size w W) (hl:m.smiths.length<=800) (hd:m.desks.length<=1000):Calls Tryz.prog 44 #[.pointer (some ⟨ob,0,none⟩)] W fun e w'=>e= .returned (.tuple #[.agg #[v0,v1,v2,v3,v4,.int .i64 m.now],.int .i64 0])/\Hid (FullSmy (w.heap.size+2) w' v0 v1 v2 v3 v4 (ZX m) oq)/\Hid (Blk w' (w.heap.size+1) 32 E6)/\Hid (Below w.heap.size w w'):=by
 refine (SY ko hF (fun e=>lo _ (.inr (.inr (.inr (.inl e)))) rfl) (fun e=>lo _ (.inr (.inr (.inr (.inr (.inl e))))) rfl) hl hd).mono ?_
 rintro e w' ⟨rfl,h1,h2⟩
 have g2:∀ k,v2.ownBlock=some k->w.heap.size+2<=k:=fun k e=>(hF.own (.inr (.inr (.inr (.inl e))))).1
 have g3:∀ k,v3.ownBlock=some k->w.heap.size+2<=k:=fun k e=>(hF.own (.inr (.inr (.inr (.inr (.inl e)))))).1
 exact ⟨rfl,Z9 h1,Z9 (kr.two h2 (fun e=>by have:=g2 _ e;omega) (fun e=>by have:=g3 _ e;omega)),Z9 (BB.trans (h2.below BB.size (fun k e=>by have:=g2 k e;omega) (fun k e=>by have:=g3 k e;omega)))⟩
theorem U2 {a0 a1 a2 a3 a4:Option Addr} {p0 p1 p2 p3 p4:Nat} (h:Smy W (.slice a0 m.rooms.length p0) (.slice a1 m.guilds.length p1) (.slice a2 m.smiths.length p2) (.slice a3 m.desks.length p3) (.slice a4 m.paces.length p4) m) (hf:Few m) (kb:Blk W w.heap.size 32 (S6 a0 p0 a1 p1 a2 p2 a3 p3 a4 p4 m)) (kr:Blk W (w.heap.size+1) 32 E6) (BB:Below w.heap.size w W):Calls Tryz.prog 39 #[.agg (S6 a0 p0 a1 p1 a2 p2 a3 p3 a4 p4 m)] W fun e w'=> ∃ b0 q0 b1 q1 b2 q2 b3 q3 b4 q4 oq,e= .returned (.agg (S6 b0 q0 b1 q1 b2 q2 b3 q3 b4 q4 m))/\ ∃ W2 ob,w'.alloc (.cells (S6 b0 q0 b1 q1 b2 q2 b3 q3 b4 q4 m) 32)=W2/\w'.heap.size=ob/\Hid (Blk W2 w.heap.size 32 (S6 a0 p0 a1 p1 a2 p2 a3 p3 a4 p4 m))/\Hid (Blk W2 (w.heap.size+1) 32 E6)/\Hid (Smy W2 (.slice a0 m.rooms.length p0) (.slice a1 m.guilds.length p1) (.slice a2 m.smiths.length p2) (.slice a3 m.desks.length p3) (.slice a4 m.paces.length p4) m)/\Hid (FullSmy (w.heap.size+2) W2 (.slice b0 m.rooms.length q0) (.slice b1 m.guilds.length q1) (.slice b2 m.smiths.length q2) (.slice b3 m.desks.length q3) (.slice b4 m.paces.length q4) m oq)/\Hid (Blk W2 ob 32 (S6 b0 q0 b1 q1 b2 q2 b3 q3 b4 q4 m))/\Hid (∀ k,WW (.slice b0 m.rooms.length q0) (.slice b1 m.guilds.length q1) (.slice b2 m.smiths.length q2) (.slice b3 m.desks.length q3) (.slice b4 m.paces.length q4) oq k->w.heap.size+2<=k/\k<ob)/\w.heap.size+2<=ob/\Hid (Below w.heap.size w W2):=by
 have hs:w.heap.size+2<=W.heap.size:=by have:=kr.lt;omega
 refine (YE h hf).mono ?_
 rintro e w2 ⟨y0,y1,y2,y3,y4,oq,rfl,ho,hb⟩
 obtain ⟨b0,q0,b1,q1,b2,q2,b3,q3,b4,q4,rfl,rfl,rfl,rfl,rfl,_⟩:=ho.smy.five
 have hba:Below w2.heap.size w2 (w2.alloc (.cells (S6 b0 q0 b1 q1 b2 q2 b3 q3 b4 q4 m) 32)):=ba _ _
 have h2:Below W.heap.size W (w2.alloc (.cells (S6 b0 q0 b1 q1 b2 q2 b3 q3 b4 q4 m) 32)):=hb.trans (hba.mono hb.size)
 have hO:=ho.mono hs
 exact ⟨b0,q0,b1,q1,b2,q2,b3,q3,b4,q4,oq,rfl,_,_,rfl,rfl,Z9 (kb.below h2 kb.lt),Z9 (kr.below h2 kr.lt),Z9 (h.below h2),Z9 (hO.below hba),Z9 (Blk.new _ _ _),Z9 (fun k e=>hO.own e),Nat.le_trans hs hb.size,Z9 (BB.trans (h2.mono BB.size))⟩
set_option linter.unusedSimpArgs false
def Yf (m:Z4) (room pace:Int):Z4 × Int:=
 if ZP m then (if Yu m room then (if inB pace 0 (((Z0 m.rooms room.toNat).2.length:Int)-1) then (ZX (Xq m room.toNat pace),0) else (m,3)) else (m,1)) else (YJ,3)
theorem Jt (h:ZP m=true) (room pace:Int):ZP (Yf m room pace).1=true:=by
 unfold Yf
 rw [h]
 simp only [if_true]
 split
 ·rename_i hw
  obtain ⟨k,rfl,hk⟩:=VG hw
  rw [show ((k:Int)).toNat=k by simp]
  split
  ·rename_i hp
   have:=ZU hp
   exact Y4 (Qw (ZY h) hk (by omega) (by omega))
  ·exact h
 ·exact h
theorem XC (h:Loose m):m.paces.length=m.rooms.length:=by
 have hd:=h.head
 unfold Y2 at hd
 simp only [Bool.and_eq_true,decide_eq_true_eq] at hd
 exact hd.2.2.2.2.1
theorem Ty  (room:Int) (pace:Int) (h:Smy w v0 v1 v2 v3 v4 m) :
  Calls Tryz.prog 21 #[.agg #[v0,v1,v2,v3,v4,.int .i64 m.now],.int .i64 room,.int .i64 pace] w fun e w'=>TC w.heap.size (Yf m room pace).1 (Yf m room pace).2 e w'/\Below w.heap.size w w':=by
 obtain ⟨X,hX⟩:∃ x,Yf m room pace=x:=⟨_,rfl⟩
 rw [hX]
 have HX:=Z9 hX
 clear hX
 have Hv0:=Z9 h
 obtain ⟨a0,p0,a1,p1,a2,p2,a3,p3,a4,p4,rfl,rfl,rfl,rfl,rfl,_,_,_,_,_,_,_,_,_,_⟩:=h.five
 clear h
 obtain ⟨ok,hok⟩:∃ q,ZP m=q:=⟨_,rfl⟩
 have Hok:=Z9 hok
 clear hok
 go_enter Tryz.func21,Tryz.ntmps21
 go_wp2_with fail
 obtain ⟨W,hW,kb,kr,BB⟩:=YS w 32 (S6 a0 p0 a1 p1 a2 p2 a3 p3 a4 p4 m) 32 E6
 have Hv:=Z9 ((uh Hv0).below (uh BB))
 clear Hv0
 rw [hW]
 clear hW
 refine ck (XX (uh Hok) (uh Hv)) fun w1 hb=> ?_
 replace kb:=bl kb hb
 replace kr:=bl kr hb
 replace Hv:=Z9 ((uh Hv).below hb)
 replace BB:=bt BB hb
 clear hb
 cases ok
 ·
  obtain ⟨c0,c1,c2,c3,c4,c5⟩:=(uh kb).c6
  go_wp2_with fail
  clear c0 c1 c2 c3 c4 c5
  refine ck (Yy (uh Hv)) fun w2 hb=> ?_
  replace kb:=bl kb hb
  replace kr:=bl kr hb
  replace Hv:=Z9 ((uh Hv).below hb)
  replace BB:=bt BB hb
  clear hb
  obtain ⟨o0,o1,o2,o3,o4,o5⟩:=(uh kr).c6
  obtain ⟨f0,f1,f2,f3,f4,f5⟩:=(uh kr).f6
  go_wp2_with fail
  have hX0:X=(YJ,3):=by rw [<-uh HX];unfold Yf;rw [uh Hok];rfl
  exact bodyPost_ret (v:= .tuple #[.agg E6,.int .i64 3]) (by simp [results,Tryz.results21,go_sem, *]) rfl (Zr hX0 rfl (Y1 _ _) (uh BB))
 have hlo:=ZY (uh Hok)
 have HLo:=Z9 hlo
 have HFew:=Z9 (XJ hlo)
 clear hlo
 obtain ⟨c0,c1,c2,c3,c4,c5⟩:=(uh kb).c6
 go_wp2_with fail
 clear c0 c1 c2 c3 c4 c5
 refine (U2 (uh Hv) (uh HFew) (uh kb) (uh kr) (uh BB)).mono ?_
 clear kb kr Hv BB
 rintro e w2 ⟨b0,q0,b1,q1,b2,q2,b3,q3,b4,q4,oq,rfl,W2,ob,hW2,hob2,kb,kr,Hv,HO,ko,LO,hob,BB⟩
 go_upto_region 4 with fail
 (try rw [hW2])
 (try rw [hob2])
 clear hW2 hob2
 obtain ⟨qw,hqw⟩:∃ q,Yu m room=q:=⟨_,rfl⟩
 have Hqw:=Z9 hqw
 clear hqw
 obtain ⟨c0,c1,c2,c3,c4,c5⟩:=(uh kb).c6
 go_wp2_with fail
 clear c0 c1 c2 c3 c4 c5
 refine ck (Qx (uh Hqw) (uh Hv)) fun w3 hb=> ?_
 replace kb:=bl kb hb
 replace kr:=bl kr hb
 replace Hv:=Z9 ((uh Hv).below hb)
 replace HO:=Z9 ((uh HO).below hb)
 replace ko:=bl ko hb
 replace BB:=bt BB hb
 clear hb
 cases qw
 ·
  obtain ⟨x0,x1,x2,x3,x4,x5⟩:=(uh ko).c6
  obtain ⟨o0,o1,o2,o3,o4,o5⟩:=(uh kr).c6
  obtain ⟨f0,f1,f2,f3,f4,f5⟩:=(uh kr).f6
  go_wp2_with fail
  have hX0:X=(m,1):=by rw [<-uh HX];unfold Yf;rw [uh Hok,uh Hqw];rfl
  exact bodyPost_ret (v:= .tuple #[.agg (S6 b0 q0 b1 q1 b2 q2 b3 q3 b4 q4 m),.int .i64 1]) (by simp [results,Tryz.results21,go_sem, *]) rfl (Zr hX0 rfl (uh HO) (uh BB))
 obtain ⟨k,rfl,hk⟩:=VG (uh Hqw)
 have hk1:(k:Int)<(m.rooms.length:Int):=by omega
 have hkp:k<m.paces.length:=by rw [XC (uh HLo)];exact hk
 have hkp1:(k:Int)<(m.paces.length:Int):=by omega
 obtain ⟨_,_,hre,_,_,r0⟩:=(uh Hv).rooms
 cases hre
 rcases r0 with e0 | ⟨rb,off,rfl,hbw,hcl⟩
 ·rw [e0] at hk;simp at hk
 obtain ⟨_,pv,d1,pa,pc,rfl,hpc,hpm,_⟩:=hcl k hk
 clear hcl
 obtain ⟨op,hop⟩:∃ q,inB pace 0 (((Z0 m.rooms k).2.length:Int)-1)=q:=⟨_,rfl⟩
 have Hop:=Z9 hop
 have hpl:(Z0 m.rooms k).2.length<=9223372036854775807:=by omega
 have c0:=(uh kb).cell (i:=0) (v:= .slice (some ⟨rb,off,none⟩) m.rooms.length p0) rfl
 obtain ⟨nl,hnl⟩:∃ q,(Z0 m.rooms k).2.length=q:=⟨_,rfl⟩
 rw [hnl] at hop d1 hpl
 have Hop2:=Z9 hop
 clear hop hnl hpc
 go_wp2_with fail
 refine (ZZ _ _ _ _).mono ?_
 rw [uh Hop2]
 rintro e w9 ⟨rfl,hw9⟩
 subst w9
 cases op
 ·
  obtain ⟨x0,x1,x2,x3,x4,x5⟩:=(uh ko).c6
  obtain ⟨o0,o1,o2,o3,o4,o5⟩:=(uh kr).c6
  obtain ⟨f0,f1,f2,f3,f4,f5⟩:=(uh kr).f6
  go_wp2_with fail
  have hX0:X=(m,3):=by rw [<-uh HX];unfold Yf;rw [uh Hok,uh Hqw];simp only [if_true,Int.toNat_natCast];rw [uh Hop];rfl
  exact bodyPost_ret (v:= .tuple #[.agg (S6 b0 q0 b1 q1 b2 q2 b3 q3 b4 q4 m),.int .i64 3]) (by simp [results,Tryz.results21,go_sem, *]) rfl (Zr hX0 rfl (uh HO) (uh BB))
 obtain ⟨g4,hga,_,_,hc4,hz4⟩:=RecAt.view Zb (by omega) (uh HO).paces rfl (by omega)
 cases hga
 have s0:=hc4 k hkp 0 _ rfl
 have f0:=hz4 k
 have x4:=(uh ko).cell (i:=4) (v:= .slice (some ⟨g4,0,none⟩) m.paces.length q4) rfl
 have hput:=(uh HO).putP rfl (j:=k) hkp pace
 simp only [Nat.add_zero,Nat.mul_one] at s0
 have hg4o:=(uh LO g4 (.inr (.inr (.inr (.inr (.inr rfl))))))
 clear hc4 hz4
 go_upto_region 9 with fail
 clear s0 f0 x4 c0 d1
 have HP:=Z9 hput
 clear hput HO
 replace ko:Hid (Blk (w3.setCell ⟨g4,k,none⟩ (.int .i64 pace)) ob 32 (S6 b0 q0 b1 q1 b2 q2 b3 q3 (some ⟨g4,0,none⟩) q4 m)):=Z9 ((uh ko).other (a:=⟨g4,k,none⟩) (by show ob ≠ g4;omega) _)
 replace kr:Hid (Blk (w3.setCell ⟨g4,k,none⟩ (.int .i64 pace)) (w.heap.size+1) 32 E6):=Z9 ((uh kr).other (a:=⟨g4,k,none⟩) (by show w.heap.size+1 ≠ g4;omega) _)
 replace BB:Hid (Below w.heap.size w (w3.setCell ⟨g4,k,none⟩ (.int .i64 pace))):=Z9 ((uh BB).setCell (p:=⟨g4,k,none⟩) (by show w.heap.size<=g4;omega) _)
 clear kb Hv
 generalize w3.setCell ⟨g4,k,none⟩ (.int .i64 pace)=W3 at *
 have hfw:=uh HFew
 go_wp2_with fail
 refine (VP (m:=Xq m k pace) (uh ko) (uh HP) (fun k e=>by have:=(uh LO k e).2;omega) (uh kr) (uh BB) (by show m.smiths.length<=800;have:=hfw.smiths;omega) hfw.desks).mono ?_
 clear kr BB
 rintro e w4 ⟨rfl,HF9,kr,BB⟩
 obtain ⟨o0,o1,o2,o3,o4,o5⟩:=(uh kr).c6
 obtain ⟨f0,f1,f2,f3,f4,f5⟩:=(uh kr).f6
 go_wp2_with fail
 have hX0:X=(ZX (Xq m k pace),0):=by rw [<-uh HX];unfold Yf;rw [uh Hok,uh Hqw];simp only [if_true,Int.toNat_natCast];rw [uh Hop];rfl
 have hnow:(ZX (Xq m k pace)).now=m.now:=(ZQ _ _).2.2.2.1
 exact bodyPost_ret (v:= .tuple #[.agg (S6 b0 q0 b1 q1 b2 q2 b3 q3 (some ⟨g4,0,none⟩) q4 m),.int .i64 0]) (by simp [results,Tryz.results21,go_sem,setS,Xq,YH,pushS, *]) rfl (Zr hX0 hnow (uh HF9) (uh BB))
theorem V3  {rs:List Z2} (n:Int) (h:IsRooms w v rs) (h1:YN rs n=true) :
  Calls Tryz.prog 303 #[.agg #[v],.int .i64 n] w fun e w'=>e= .returned (.int .i64 (Vu (Z0 rs (Yw rs n)).2))/\Below w.heap.size w w':=by
 have Hv:=Z9 h
 obtain ⟨a,cap,rfl,hc,hm⟩:∃ a cap,v= .slice a rs.length cap/\rs.length<=cap/\cap<=9223372036854775807:=by obtain ⟨a,cap,rfl,hc,hm,_⟩:=h;exact ⟨a,cap,rfl,hc,hm⟩
 clear h
 have hlt:=OK h1
 have Hh:=Z9 (WM h1).1
 have H1:=Z9 h1
 have hl3:rs.length<=3:=(Zy (WM h1).1).2.1
 clear h1
 have hw1:=(uh Hv).alloc (.cells #[.slice a rs.length cap] 26)
 have Hw1:=Z9 hw1
 obtain ⟨b,off,a',cap',rfl,hbw,d1,p1,p4,sp,hbw',d2⟩:=CD hw1 hlt (uh Hh)
 obtain ⟨b',off',sp'⟩:=a'
 simp only at sp hbw' d2
 subst sp
 clear hw1
 have k0:=cell_regrown (w:=w.alloc (.cells #[.slice (some ⟨b,off,none⟩) rs.length cap] 26)) (a:=⟨w.heap.size,0,none⟩) (v:= .slice (some ⟨b,off,none⟩) rs.length cap) (by simp)
 have k1:=cell_regrown d1
 have k2:=cell_regrown d2
 clear d1 d2
 go_enter Tryz.func303,Tryz.ntmps303
 go_wp2_with fail
 refine wq ?_
 repeat (go_big_quiet_step (exact Calls.regrown_of (TM n ((uh Hw1).below (below_regrown _ _ _)) (uh H1))))
 refine wpQuiet_nil ?_
 intro _ hw'
 obtain ⟨⟨dq,osq⟩,hw''⟩:=hw'
 subst hw''
 generalize hr1:Yw rs n=r at *
 generalize hr2:Vu (Z0 rs r).2=fo at *
 generalize (Z0 rs r).2.length=m at *
 have Hr1:=Z9 hr1
 have Hr2:=Z9 hr2
 clear hr1 hr2
 go_wp2_with fail
 go_ret
 exact ⟨ZI (by rw [uh Hr1,uh Hr2]),((ba _ _)).trans ((below_regrown _ _ _).mono (by simp))⟩
theorem GA (f c need:Int) (w:World) (f0:1<=f) (f1:f<=1024) (n0:0<=need) (n1:need<=1000000) :
  Calls Tryz.prog 184 #[.int .i64 f,.int .i64 need] w fun e w'=>e= .returned (.bool (XI need (f,c)))/\Below w.heap.size w w':=
 (LF f need w (by omega) (by omega) n0 (by omega)).mono fun _ _ ⟨he,hw⟩=>⟨he,hw ▸ Below.refl _ _⟩
theorem KC  {ps:List Z6} (b need:Int) (h:IsPaces w v ps) (hr:Zt (b,ps)=true) (hn:inB need 0 1000000=true) :
  Calls Tryz.prog 118 #[v,.int .i64 need] w fun e w'=>e= .returned (.int .i64 (W7 need ps))/\Below w.heap.size w w':=by
 obtain ⟨a,cap,rfl,hc,hm,hrow⟩:=h
 have hbd:=Rv hr
 simp only at hbd
 obtain ⟨_,_,hl1,hl4⟩:=hbd
 obtain ⟨n0,n1⟩:=ZU hn
 rcases hrow with h0 | ⟨bk,off,rfl,hbw,hcl⟩
 ·rw [h0] at hl1;simp at hl1
 have Hcl:=Z9 hcl
 have Hr:=Z9 hr
 clear hcl hr hn
 go_enter Tryz.func118,Tryz.ntmps118
 go_wp2_with fail
 go_step3
 go_wp2_with fail
 go_step3
 go_wp2_with fail
 go_loopw [5] (fun i wr=> ∃ k:Nat,k+1<=ps.length/\i= .int .i64 k/\(∀ j,j<k->XI need (Z7 ps j)=false)/\Below w.heap.size w wr) (fun i _=>ps.length-(intOf i).toNat)
 case atStart=>exact ⟨0,by omega,rfl,fun j hj=>by omega,Below.refl _ _⟩
 case round=>
  obtain ⟨k,hk,rfl,hlo,hb⟩:=hrel
  have Hlo:=Z9 hlo
  have Hb:=Z9 hb
  clear hlo
  by_cases hlast:k+1=ps.length
  ·clear hb
   have he:(k:Int)=(ps.length:Int)-1:=by omega
   have Hp:=Z9 (Te need ps k hk (uh Hlo) (.inl hlast))
   go_wp2_with fail
   (try rw [Exit.noGoto_ret])
   go_ret
   exact ⟨ZI (by rw [uh Hp]),uh Hb⟩
  ·have hne:¬ (k:Int)=(ps.length:Int)-1:=by omega
   obtain ⟨c0,c1⟩:=uh Hcl k (by omega)
   rw [<-hb.cell (p:=⟨bk,off+k*2,none⟩) hbw] at c0
   rw [<-hb.cell (p:=⟨bk,off+k*2+1,none⟩) hbw] at c1
   have hpb:=QN (uh Hr) (k:=k) (show k<ps.length by omega)
   simp only at hpb
   generalize hp:Z7 ps k=p at c0 c1 hpb
   have Hp:=Z9 hp
   clear hp hb
   obtain ⟨f,c⟩:=p
   simp only at c0 c1 hpb
   obtain ⟨f0,f1,_,_⟩:=hpb
   go_wp2_with fail
   refine ck (GA f c need _ f0 f1 n0 n1) fun w1 hb1=> ?_
   have Hb1:=Z9 hb1
   clear hb1
   cases hen:XI need (f,c)
   ·go_wp2_with fail
    go_roundw
    case rel=>exact ⟨k+1,by omega,by go_num,YF (uh Hlo) (by rw [uh Hp];exact hen),(uh Hb).trans ((uh Hb1).mono (uh Hb).size)⟩
    case measure=>exact ms
   ·have Hq:=Z9 (Te need ps k hk (uh Hlo) (.inr (by rw [uh Hp];exact hen)))
    go_wp2_with fail
    (try rw [Exit.noGoto_ret])
    go_ret
    exact ⟨ZI (by rw [uh Hq]),(uh Hb).trans ((uh Hb1).mono (uh Hb).size)⟩
theorem Pv  {ps:List Z6} (b need:Int) (h:IsPaces w v ps) :
  Calls Tryz.prog 54 #[.agg #[.int .i64 b,v],.int .i64 need] w fun e w'=>e= .returned (.int .i64 (Yi (b,ps) need))/\Below w.heap.size w w':=by
 have Hv:=Z9 h
 obtain ⟨a,cap,rfl,hc,hm,hrow⟩:=h
 clear hrow
 cases hr:Zt (b,ps)
 ·rw [P4 hr]
  go_enter Tryz.func54,Tryz.ntmps54
  go_wp2_with fail
  refine ck (Xn b ((uh Hv).below ((ba _ _)))) fun w1 hb=> ?_
  have B1:Hid (Below w.heap.size w w1):=Z9 (((ba _ _)).trans (hb.mono (by simp)))
  clear hb
  go_wp2_with fail
  go_ret
  exact ⟨rfl,uh B1⟩
 cases hn:inB need 0 1000000
 ·rw [P5 hn]
  go_enter Tryz.func54,Tryz.ntmps54
  go_wp2_with fail
  refine ck (Xn b ((uh Hv).below ((ba _ _)))) fun w1 hb=> ?_
  have B1:Hid (Below w.heap.size w w1):=Z9 (((ba _ _)).trans (hb.mono (by simp)))
  clear hb
  go_wp2_with (go_at_call 117;refine (ZD _ _ _ _).mono ?_;rintro e w' ⟨rfl,rfl⟩)
  go_ret
  exact ⟨rfl,uh B1⟩
 ·rw [OA hr hn]
  have Hr:=Z9 hr
  go_enter Tryz.func54,Tryz.ntmps54
  go_wp2_with fail
  refine ck (Xn b ((uh Hv).below ((ba _ _)))) fun w1 hb=> ?_
  have x1:w1.cell? ⟨w.heap.size,1,none⟩=some (.slice a ps.length cap):=(hb.cell (p:=⟨w.heap.size,1,none⟩) (by simp)).trans (by simp)
  have B1:Hid (Below w.heap.size w w1):=Z9 (((ba _ _)).trans (hb.mono (by simp)))
  clear hb
  go_wp2_with (go_at_call 117;refine (ZD _ _ _ _).mono ?_;rintro e w' ⟨rfl,rfl⟩)
  refine ck (KC b need ((uh Hv).below (uh B1)) (uh Hr) hn) fun w2 hb2=> ?_
  have Hb2:=Z9 hb2
  clear hb2
  go_wp2_with fail
  go_ret
  exact ⟨rfl,(uh B1).trans ((uh Hb2).mono (uh B1).size)⟩
theorem Vc (x:Int) (w:World):Calls Tryz.prog 185 #[.int .i64 x] w fun e w'=>e= .returned (.bool (inB x 0 1000000))/\w'=w:=by
 go_enter Tryz.func185,Tryz.ntmps185
 go_wp2_with (go_at_call 40;refine (ZZ _ _ _ _).mono ?_;rintro e w' ⟨rfl,rfl⟩)
 go_ret
 exact ⟨rfl,rfl⟩
theorem Tz  {ps:List Z6} (b need:Int) (h:IsPaces w v ps) :
  Calls Tryz.prog 120 #[.agg #[.int .i64 b,v],.int .i64 need] w fun e w'=>e= .returned (.int .i64 (Yi (b,ps) need))/\Below w.heap.size w w':=by
 have Hv:=Z9 h
 obtain ⟨a,cap,rfl,hc,hm,hrow⟩:=h
 clear hrow
 cases hr:Zt (b,ps)
 ·rw [P4 hr]
  go_enter Tryz.func120,Tryz.ntmps120
  go_wp2_with fail
  refine ck (YX b ((uh Hv).below ((ba _ _)))) fun w1 hb=> ?_
  have B1:Hid (Below w.heap.size w w1):=Z9 (((ba _ _)).trans (hb.mono (by simp)))
  clear hb
  go_wp2_with fail
  go_ret
  exact ⟨rfl,uh B1⟩
 cases hn:inB need 0 1000000
 ·rw [P5 hn]
  go_enter Tryz.func120,Tryz.ntmps120
  go_wp2_with fail
  refine ck (YX b ((uh Hv).below ((ba _ _)))) fun w1 hb=> ?_
  have B1:Hid (Below w.heap.size w w1):=Z9 (((ba _ _)).trans (hb.mono (by simp)))
  clear hb
  go_wp2_with (go_at_call 185;refine (Vc _ _).mono ?_;rintro e w' ⟨rfl,rfl⟩)
  go_ret
  exact ⟨rfl,uh B1⟩
 rw [OA hr hn]
 have Hr:=Z9 hr
 have hn':=hn
 obtain ⟨n0,n1⟩:=ZU hn'
 clear hn'
 go_enter Tryz.func120,Tryz.ntmps120
 go_wp2_with fail
 refine ck (YX b ((uh Hv).below ((ba _ _)))) fun w1 hb=> ?_
 have x1:w1.cell? ⟨w.heap.size,1,none⟩=some (.slice a ps.length cap):=(hb.cell (p:=⟨w.heap.size,1,none⟩) (by simp)).trans (by simp)
 have B1:Hid (Below w.heap.size w w1):=Z9 (((ba _ _)).trans (hb.mono (by simp)))
 clear hb
 have hv1:=(uh Hv).below (uh B1)
 obtain ⟨a',cap',he,_,_,hrow⟩:=hv1
 cases he
 have hbd:=Rv (uh Hr)
 simp only at hbd
 obtain ⟨_,_,hl1,hl4⟩:=hbd
 rcases hrow with h0 | ⟨bk,off,rfl,hbw,hcl⟩
 ·rw [h0] at hl1;simp at hl1
 have Hcl:=Z9 hcl
 clear hcl
 go_wp2_with (go_at_call 185;refine (Vc _ _).mono ?_;rintro e w' ⟨rfl,rfl⟩)
 clear hr hn
 go_loop [5] (fun i=> ∃ k:Nat,k+1<=ps.length/\i= .int .i64 k/\(∀ j,j<k->XI need (Z7 ps j)=false)) (fun i=>ps.length-(intOf i).toNat)
 case atStart=>exact ⟨0,by omega,rfl,fun j hj=>by omega⟩
 case round=>
  obtain ⟨k,hk,rfl,hlo⟩:=hrel
  have Hlo:=Z9 hlo
  clear hlo
  by_cases hlast:k+1=ps.length
  ·have Hp:=Z9 (Te need ps k hk (uh Hlo) (.inl hlast))
   have hd:¬ (k:Int)+1<(ps.length:Int):=by omega
   go_wp2_with fail
   go_ret
   exact ⟨ZI (by rw [uh Hp]),uh B1⟩
  ·have hd:(k:Int)+1<(ps.length:Int):=by omega
   obtain ⟨c0,c1⟩:=uh Hcl k (by omega)
   have hpb:=QN (uh Hr) (k:=k) (show k<ps.length by omega)
   simp only at hpb
   generalize hp:Z7 ps k=p at c0 c1 hpb
   have Hp:=Z9 hp
   clear hp
   obtain ⟨f,c⟩:=p
   simp only at c0 c1 hpb
   obtain ⟨f0,f1,_,_⟩:=hpb
   by_cases hen:4*f<5*need
   ·go_wp2_with fail
    go_round
    case rel=>exact ⟨k+1,by omega,by go_num,YF (uh Hlo) (by rw [uh Hp];exact C6 hen)⟩
    case measure=>exact ms
   ·have Hq:=Z9 (Te need ps k hk (uh Hlo) (.inr (by rw [uh Hp];exact C7 (by simp only;omega))))
    go_wp2_with fail
    go_ret
    exact ⟨ZI (by rw [uh Hq]),uh B1⟩
theorem PB  {ps:List Z6} (b pace work:Int) (h:IsPaces w v ps) :
  Calls Tryz.prog 322 #[.agg #[.int .i64 b,v],.int .i64 pace,.int .i64 work] w fun e w'=>e= .returned (.int .i64 (XF (b,ps) pace work))/\Below w.heap.size w w':=by
 have Hv:=Z9 h
 obtain ⟨a,cap,rfl,hc,hm,hrow⟩:=h
 clear hrow
 have hl:(ps.length:Int)<=9223372036854775807:=by omega
 cases hr:Zt (b,ps)
 ·rw [PL hr]
  go_enter Tryz.func322,Tryz.ntmps322
  go_wp2_with fail
  refine ck (YX b ((uh Hv).below ((ba _ _)))) fun w1 hb=> ?_
  have B1:Hid (Below w.heap.size w w1):=Z9 (((ba _ _)).trans (hb.mono (by simp)))
  clear hb
  go_wp2_with fail
  go_ret
  exact ⟨rfl,uh B1⟩
 cases hn:inB work 0 1000000
 ·rw [PM hn]
  go_enter Tryz.func322,Tryz.ntmps322
  go_wp2_with fail
  refine ck (YX b ((uh Hv).below ((ba _ _)))) fun w1 hb=> ?_
  have B1:Hid (Below w.heap.size w w1):=Z9 (((ba _ _)).trans (hb.mono (by simp)))
  clear hb
  go_wp2_with (go_at_call 185;refine (Vc _ _).mono ?_;rintro e w' ⟨rfl,rfl⟩)
  go_ret
  exact ⟨rfl,uh B1⟩
 cases hp:inB pace 0 ((ps.length:Int)-1)
 ·rw [PN hp]
  go_enter Tryz.func322,Tryz.ntmps322
  go_wp2_with fail
  refine ck (YX b ((uh Hv).below ((ba _ _)))) fun w1 hb=> ?_
  have x1:w1.cell? ⟨w.heap.size,1,none⟩=some (.slice a ps.length cap):=(hb.cell (p:=⟨w.heap.size,1,none⟩) (by simp)).trans (by simp)
  have B1:Hid (Below w.heap.size w w1):=Z9 (((ba _ _)).trans (hb.mono (by simp)))
  clear hb
  go_wp2_with (first | (go_at_call 185;refine (Vc _ _).mono ?_;rintro e w' ⟨rfl,rfl⟩) | (go_at_call 40;refine (ZZ _ _ _ _).mono ?_;rintro e w' ⟨rfl,rfl⟩))
  go_ret
  exact ⟨rfl,uh B1⟩
 rw [NM hr hn hp]
 have hpp:=ZU hp
 obtain ⟨hp0,hp1⟩:=hpp
 obtain ⟨k,rfl⟩:=Int.eq_ofNat_of_zero_le hp0
 have hk:k<ps.length:=by omega
 rw [Int.toNat_natCast]
 simp only
 generalize hpk:Z7 ps k=p
 have Hpk:=Z9 hpk
 clear hpk
 obtain ⟨f,c⟩:=p
 simp only
 go_enter Tryz.func322,Tryz.ntmps322
 go_wp2_with fail
 refine ck (YX b ((uh Hv).below ((ba _ _)))) fun w1 hb=> ?_
 have x1:w1.cell? ⟨w.heap.size,1,none⟩=some (.slice a ps.length cap):=(hb.cell (p:=⟨w.heap.size,1,none⟩) (by simp)).trans (by simp)
 have B1:Hid (Below w.heap.size w w1):=Z9 (((ba _ _)).trans (hb.mono (by simp)))
 clear hb
 have hv1:=(uh Hv).below (uh B1)
 obtain ⟨a',cap',he,_,_,hrow⟩:=hv1
 cases he
 rcases hrow with h0 | ⟨bk,off,rfl,hbw,hcl⟩
 ·rw [h0] at hk;simp at hk
 obtain ⟨c0,c1⟩:=hcl k hk
 clear hcl
 rw [uh Hpk] at c0 c1
 simp only at c0 c1
 go_wp2_with (first | (go_at_call 185;refine (Vc _ _).mono ?_;rintro e w' ⟨rfl,rfl⟩) | (go_at_call 40;refine (ZZ _ _ _ _).mono ?_;rintro e w' ⟨rfl,rfl⟩))
 go_quiet (exact Calls.quiet_of_same (OV _ _ _ _))
 go_wp2_with fail
 go_ret
 exact ⟨rfl,XO (uh B1) _⟩
theorem Rz  {ps:List Z6} (b need work:Int) (h:IsPaces w v ps) :
  Calls Tryz.prog 321 #[.agg #[.int .i64 b,v],.int .i64 need,.int .i64 work] w fun e w'=>e= .returned (.int .i64 (LJ (b,ps) need work))/\Below w.heap.size w w':=by
 have Hv:=Z9 h
 obtain ⟨a,cap,rfl,hc,hm,hrow⟩:=h
 clear hrow
 have k0:=cell_regrown (w:=w.alloc (.cells #[.int .i64 b,.slice a ps.length cap] 45)) (a:=⟨w.heap.size,0,none⟩) (v:= .int .i64 b) (by simp)
 have k1:=cell_regrown (w:=w.alloc (.cells #[.int .i64 b,.slice a ps.length cap] 45)) (a:=⟨w.heap.size,1,none⟩) (v:= .slice a ps.length cap) (by simp)
 have Ha:Hid (IsPaces (w.alloc (.cells #[.int .i64 b,.slice a ps.length cap] 45)) (.slice a ps.length cap) ps):=Z9 ((uh Hv).below ((ba _ _)))
 go_enter Tryz.func321,Tryz.ntmps321
 go_wp2_with fail
 refine wq ?_
 repeat (go_big_quiet_step (first | exact Calls.regrown_of (Tz b need ((uh Ha).below (below_regrown _ _ _))) | exact Calls.regrown_of (PB b _ work ((uh Ha).below (below_regrown _ _ _)))))
 refine wpQuiet_nil ?_
 intro _ hw'
 obtain ⟨⟨dq,osq⟩,hw''⟩:=hw'
 subst hw''
 go_wp2_with fail
 go_ret
 exact ⟨rfl,((ba _ _)).trans ((below_regrown _ _ _).mono (by simp))⟩
end Go.Proofs.YtffcgajndmhpkaaGreatDoor
