/- Part 23 of what the proof rests on. No condition but those that a theorem names. -/
import Derived.Test.YtnponpamjddpjaaGreatXt22
set_option maxHeartbeats 8000000
set_option maxRecDepth 100000
namespace Go.Proofs.YtnponpamjddpjaaGreat
open Go.ChangeShapes Go.WideShapes Go.ChangeAt Go.RowKit Go.Sort
set_option linter.unusedVariables false
set_option linter.unusedSimpArgs false
variable {w w' w0 w1 w2 w3 w₀ wr W W' X A B C : World} {v v0 v1 v2 v3 v4 u u0 u1 u2 u3 u4 : Value} {m : Z3}
def zA7 (m:Z3) (room pace:Int):Z3 × Int:=
 if ZK m then (if Qp m room then (if inB pace 0 (((ZV m.rooms room.toNat).2.length:Int)-1) then (Z1 (U8 m room.toNat pace),0) else (m,3)) else (m,1)) else (YB,3)
theorem Ls (h:ZK m=true) (room pace:Int):ZK (zA7 m room pace).1=true:=by
 unfold zA7
 rw [h]
 simp only [if_true]
 split
 ·rename_i hw
  obtain ⟨k,rfl,hk⟩:=Jq hw
  rw [show ((k:Int)).toNat=k by simp]
  split
  ·rename_i hp
   have:=ZS hp
   exact Zd (N6 (ZO h) hk (by omega) (by omega))
  ·exact h
 ·exact h
theorem Xb (h:Loose m):m.paces.length=m.rooms.length:=by
 have hd:=h.head
 unfold YS at hd
 simp only [Bool.and_eq_true,decide_eq_true_eq] at hd
 exact hd.2.2.2.2.1
theorem QK  (room:Int) (pace:Int) (h:Smy w v0 v1 v2 v3 v4 m) :
  Calls Tryz.prog 264 #[.agg #[v0,v1,v2,v3,v4,.int .i64 m.now],.int .i64 room,.int .i64 pace] w fun e w'=>WY w.heap.size (zA7 m room pace).1 (zA7 m room pace).2 e w'/\Below w.heap.size w w':=by
 obtain ⟨X,hX⟩:∃ x,zA7 m room pace=x:=⟨_,rfl⟩
 rw [hX]
 have HX:=Z9 hX
 clear hX
 have Hv0:=Z9 h
 obtain ⟨a0,p0,a1,p1,a2,p2,a3,p3,a4,p4,rfl,rfl,rfl,rfl,rfl,_,_,_,_,_,_,_,_,_,_⟩:=h.five
 clear h
 obtain ⟨ok,hok⟩:∃ q,ZK m=q:=⟨_,rfl⟩
 have Hok:=Z9 hok
 clear hok
 go_enter Tryz.func264,Tryz.ntmps264
 go_wp2_with fail
 obtain ⟨W,hW,kb,kr,BB⟩:=YP w 32 (S6 a0 p0 a1 p1 a2 p2 a3 p3 a4 p4 m) 32 E6
 have Hv:=Z9 ((uh Hv0).below (uh BB))
 clear Hv0
 rw [hW]
 clear hW
 refine (Zc (uh Hok) (uh Hv)).mono ?_
 rintro e w1 ⟨rfl,hb⟩
 replace kb:=bl kb hb
 replace kr:=bl kr hb
 replace Hv:=Z9 ((uh Hv).below hb)
 replace BB:=bt BB hb
 clear hb
 cases ok
 ·
  obtain ⟨c0,c1,c2,c3,c4,c5⟩:=(uh kb).c6
  go_wp2_with fail
  clear c0 c1 c2 c3 c4 c5
  refine (Yx (uh Hv)).mono ?_
  rintro e w2 ⟨rfl,hb⟩
  replace kb:=bl kb hb
  replace kr:=bl kr hb
  replace Hv:=Z9 ((uh Hv).below hb)
  replace BB:=bt BB hb
  clear hb
  obtain ⟨o0,o1,o2,o3,o4,o5⟩:=(uh kr).c6
  obtain ⟨f0,f1,f2,f3,f4,f5⟩:=(uh kr).f6
  go_wp2_with fail
  have hX0:X=(YB,3):=by rw [<-uh HX];unfold zA7;rw [uh Hok];rfl
  refine bodyPost_ret (v:= .tuple #[.agg #[.slice none 0 0,.slice none 0 0,.slice none 0 0,.slice none 0 0,.slice none 0 0,.int .i64 0],.int .i64 3]) (by simp [results,Tryz.results264,go_sem, *]) rfl ⟨?_,?_⟩
  ·rw [hX0];exact ⟨_,_,_,_,_,[],rfl,YO _ _⟩
  ·iterate 6 (refine Below.setCell ?_ (by show _<=w.heap.size+1;omega) _)
   exact uh BB
 have hlo:=ZO (uh Hok)
 have HLo:=Z9 hlo
 have HFew:=Z9 (XF hlo)
 clear hlo
 obtain ⟨c0,c1,c2,c3,c4,c5⟩:=(uh kb).c6
 go_wp2_with fail
 clear c0 c1 c2 c3 c4 c5
 have hWs:w.heap.size+2<=w1.heap.size:=by have:=(uh kr).lt;omega
 refine (ZC (uh Hv) (uh HFew)).mono ?_
 rintro e w2 ⟨y0,y1,y2,y3,y4,oq,rfl,ho,hb⟩
 have k9:=ho.smy
 obtain ⟨b0,q0,b1,q1,b2,q2,b3,q3,b4,q4,rfl,rfl,rfl,rfl,rfl,_,_,_,_,_,_,_,_,_,_⟩:=k9.five
 clear k9
 replace kb:=bl kb hb
 replace kr:=bl kr hb
 replace Hv:=Z9 ((uh Hv).below hb)
 replace BB:=bt BB hb
 have HO:=Z9 (ho.mono hWs)
 have LO:Hid (∀ k,YC (.slice b0 m.rooms.length q0) (.slice b1 m.guilds.length q1) (.slice b2 m.smiths.length q2) (.slice b3 m.desks.length q3) (.slice b4 m.paces.length q4) oq k->w.heap.size+2<=k/\k<w2.heap.size):=Z9 (fun k e=>(uh HO).own e)
 have hsz9:=hb.size
 clear ho hb
 go_upto_region 4 with fail
 obtain ⟨W2,hW2,hba,ko⟩:=Zy w2 32 (S6 b0 q0 b1 q1 b2 q2 b3 q3 b4 q4 m)
 replace kb:=bl kb hba
 replace kr:=bl kr hba
 replace Hv:=Z9 ((uh Hv).below hba)
 replace HO:=Z9 ((uh HO).below hba)
 replace BB:=bt BB hba
 have hob:w.heap.size+2<=w2.heap.size:=Nat.le_trans hWs hsz9
 clear hba hsz9 hWs
 rw [hW2]
 clear hW2
 generalize w2.heap.size=ob at *
 obtain ⟨qw,hqw⟩:∃ q,Qp m room=q:=⟨_,rfl⟩
 have Hqw:=Z9 hqw
 clear hqw
 obtain ⟨c0,c1,c2,c3,c4,c5⟩:=(uh kb).c6
 go_wp2_with fail
 clear c0 c1 c2 c3 c4 c5
 refine (Ik (uh Hqw) (uh Hv)).mono ?_
 rintro e w3 ⟨rfl,hb⟩
 replace kb:=bl kb hb
 replace kr:=bl kr hb
 replace Hv:=Z9 ((uh Hv).below hb)
 replace HO:=Z9 ((uh HO).below hb)
 replace ko:=bl ko hb
 replace BB:=bt BB hb
 clear hb
 cases qw
 ·
  obtain ⟨x0,x1,x2,x3,x4,x5⟩:=(uh ko).c6
  obtain ⟨o0,o1,o2,o3,o4,o5⟩:=(uh kr).c6
  obtain ⟨f0,f1,f2,f3,f4,f5⟩:=(uh kr).f6
  go_wp2_with fail
  have hX0:X=(m,1):=by rw [<-uh HX];unfold zA7;rw [uh Hok,uh Hqw];rfl
  refine bodyPost_ret (v:= .tuple #[.agg #[.slice b0 m.rooms.length q0,.slice b1 m.guilds.length q1,.slice b2 m.smiths.length q2,.slice b3 m.desks.length q3,.slice b4 m.paces.length q4,.int .i64 m.now],.int .i64 1]) (by simp [results,Tryz.results264,go_sem, *]) rfl ⟨?_,?_⟩
  ·rw [hX0];refine ⟨_,_,_,_,_,oq,rfl,?_⟩
   iterate 6 (refine FullSmy.set_off ?_ (fun k e=>by have:=(uh LO k e).1;omega) _ _)
   exact (uh HO).mono (by omega)
  ·iterate 6 (refine Below.setCell ?_ (by show _<=w.heap.size+1;omega) _)
   exact uh BB
 obtain ⟨k,rfl,hk⟩:=Jq (uh Hqw)
 have hk1:(k:Int)<(m.rooms.length:Int):=by omega
 have hkp:k<m.paces.length:=by rw [Xb (uh HLo)];exact hk
 have hkp1:(k:Int)<(m.paces.length:Int):=by omega
 obtain ⟨_,_,hre,_,_,r0⟩:=(uh Hv).rooms
 cases hre
 rcases r0 with e0 | ⟨rb,off,rfl,hbw,hcl⟩
 ·rw [e0] at hk;simp at hk
 obtain ⟨_,pv,d1,pa,pc,rfl,hpc,hpm,_⟩:=hcl k hk
 clear hcl
 obtain ⟨op,hop⟩:∃ q,inB pace 0 (((ZV m.rooms k).2.length:Int)-1)=q:=⟨_,rfl⟩
 have Hop:=Z9 hop
 have hpl:(ZV m.rooms k).2.length<=9223372036854775807:=by omega
 have c0:=(uh kb).cell (i:=0) (v:= .slice (some ⟨rb,off,none⟩) m.rooms.length p0) rfl
 obtain ⟨nl,hnl⟩:∃ q,(ZV m.rooms k).2.length=q:=⟨_,rfl⟩
 rw [hnl] at hop d1 hpl
 have Hop2:=Z9 hop
 clear hop hnl hpc
 go_wp2_with fail
 refine (ZZ _ _ _ _).mono ?_
 rw [uh Hop2]
 rintro e w9 ⟨rfl,hw9⟩
 subst w9
 cases op
 ·
  obtain ⟨x0,x1,x2,x3,x4,x5⟩:=(uh ko).c6
  obtain ⟨o0,o1,o2,o3,o4,o5⟩:=(uh kr).c6
  obtain ⟨f0,f1,f2,f3,f4,f5⟩:=(uh kr).f6
  go_wp2_with fail
  have hX0:X=(m,3):=by rw [<-uh HX];unfold zA7;rw [uh Hok,uh Hqw];simp only [if_true,Int.toNat_natCast];rw [uh Hop];rfl
  refine bodyPost_ret (v:= .tuple #[.agg #[.slice b0 m.rooms.length q0,.slice b1 m.guilds.length q1,.slice b2 m.smiths.length q2,.slice b3 m.desks.length q3,.slice b4 m.paces.length q4,.int .i64 m.now],.int .i64 3]) (by simp [results,Tryz.results264,go_sem, *]) rfl ⟨?_,?_⟩
  ·rw [hX0];refine ⟨_,_,_,_,_,oq,rfl,?_⟩
   iterate 6 (refine FullSmy.set_off ?_ (fun k e=>by have:=(uh LO k e).1;omega) _ _)
   exact (uh HO).mono (by omega)
  ·iterate 6 (refine Below.setCell ?_ (by show _<=w.heap.size+1;omega) _)
   exact uh BB
 obtain ⟨g4,hga,_,_,hc4,hz4⟩:=RecAt.view YJ (by omega) (uh HO).paces rfl (by omega)
 cases hga
 have s0:=hc4 k hkp 0 _ rfl
 have f0:=hz4 k
 have x4:=(uh ko).cell (i:=4) (v:= .slice (some ⟨g4,0,none⟩) m.paces.length q4) rfl
 have hput:=(uh HO).putP rfl (j:=k) hkp pace
 simp only [Nat.add_zero,Nat.mul_one] at s0
 have hg4o:=(uh LO g4 (.inr (.inr (.inr (.inr (.inr rfl))))))
 clear hc4 hz4
 go_upto_region 9 with fail
 clear s0 f0 x4 c0 d1
 have HP:=Z9 hput
 clear hput HO
 replace ko:Hid (Blk (w3.setCell ⟨g4,k,none⟩ (.int .i64 pace)) ob 32 #[.slice b0 m.rooms.length q0,.slice b1 m.guilds.length q1,.slice b2 m.smiths.length q2,.slice b3 m.desks.length q3,.slice (some ⟨g4,0,none⟩) m.paces.length q4,.int .i64 m.now]):=Z9 ((uh ko).other (a:=⟨g4,k,none⟩) (by show ob ≠ g4;omega) _)
 replace kr:Hid (Blk (w3.setCell ⟨g4,k,none⟩ (.int .i64 pace)) (w.heap.size+1) 32 #[.slice none 0 0,.slice none 0 0,.slice none 0 0,.slice none 0 0,.slice none 0 0,.int .i64 0]):=Z9 ((uh kr).other (a:=⟨g4,k,none⟩) (by show w.heap.size+1 ≠ g4;omega) _)
 replace BB:Hid (Below w.heap.size w (w3.setCell ⟨g4,k,none⟩ (.int .i64 pace))):=Z9 ((uh BB).setCell (p:=⟨g4,k,none⟩) (by show w.heap.size<=g4;omega) _)
 clear kb Hv
 generalize w3.setCell ⟨g4,k,none⟩ (.int .i64 pace)=W3 at *
 have hfw:=uh HFew
 go_wp2_with fail
 have hofR:∀ k,YC (.slice b0 m.rooms.length q0) (.slice b1 m.guilds.length q1) (.slice b2 m.smiths.length q2) (.slice b3 m.desks.length q3) (.slice (some ⟨g4,0,none⟩) m.paces.length q4) oq k->k ≠ ob:=fun k e=>by have:=(uh LO k e).2;omega
 refine (Y8 (m:=U8 m k pace) (uh ko) (uh HP) (fun e=>hofR _ (.inr (.inr (.inr (.inl e)))) rfl) (fun e=>hofR _ (.inr (.inr (.inr (.inr (.inl e))))) rfl) (by show m.smiths.length<=800;have:=hfw.smiths;omega) hfw.desks).mono ?_
 rintro e w4 ⟨rfl,hf9,ht9⟩
 replace kr:=Z9 ((uh kr).two ht9 (fun e=>by have:=(uh LO _ (.inr (.inr (.inr (.inl e))))).1;omega) (fun e=>by have:=(uh LO _ (.inr (.inr (.inr (.inr (.inl e)))))).1;omega))
 replace BB:=Z9 ((uh BB).trans (ht9.below (uh BB).size (fun k e=>by have:=(uh LO k (.inr (.inr (.inr (.inl e))))).1;omega) (fun k e=>by have:=(uh LO k (.inr (.inr (.inr (.inr (.inl e)))))).1;omega)))
 have HF9:=Z9 hf9
 clear hf9 ht9 hofR
 obtain ⟨o0,o1,o2,o3,o4,o5⟩:=(uh kr).c6
 obtain ⟨f0,f1,f2,f3,f4,f5⟩:=(uh kr).f6
 go_wp2_with fail
 have hX0:X=(Z1 (U8 m k pace),0):=by rw [<-uh HX];unfold zA7;rw [uh Hok,uh Hqw];simp only [if_true,Int.toNat_natCast];rw [uh Hop];rfl
 have hnow:(Z1 (U8 m k pace)).now=m.now:=(ZQ _ _).2.2.2.1
 refine bodyPost_ret (v:= .tuple #[.agg #[.slice b0 m.rooms.length q0,.slice b1 m.guilds.length q1,.slice b2 m.smiths.length q2,.slice b3 m.desks.length q3,.slice (some ⟨g4,0,none⟩) m.paces.length q4,.int .i64 m.now],.int .i64 0]) (by simp [results,Tryz.results264,go_sem,setS,U8,YG,pushS, *]) rfl ⟨?_,?_⟩
 ·rw [hX0];refine ⟨_,_,_,_,_,oq,by rw [hnow],?_⟩
  iterate 6 (refine FullSmy.set_off ?_ (fun k e=>by have:=(uh LO k e).1;omega) _ _)
  exact (uh HF9).mono (by omega)
 ·iterate 6 (refine Below.setCell ?_ (by show _<=w.heap.size+1;omega) _)
  exact uh BB
def IN:Option (Nat × Nat)->Value
 | none=> .tuple #[.int .i64 0,.int .i64 0,.bool false]
 | some (w,b)=> .tuple #[.int .i64 (w:Int),.int .i64 (b:Int),.bool true]
theorem IS {b w:Nat} {k n:Nat} (h:V8 m b k=some w) (hn:k<=n):V8 m b n=some w:=by
 obtain ⟨d,rfl⟩:∃ d,n=k+d:=⟨n-k,by omega⟩
 clear hn
 induction d with
 | zero=>exact h
 | succ d ih=>
  show V8 m b (k+d+1)=some w
  unfold V8
  rw [ih]
theorem KT {w b:Nat} {k n:Nat} (h:Xo m k=some (w,b)) (hn:k<=n):Xo m n=some (w,b):=by
 obtain ⟨d,rfl⟩:∃ d,n=k+d:=⟨n-k,by omega⟩
 clear hn
 induction d with
 | zero=>exact h
 | succ d ih=>
  show Xo m (k+d+1)=some (w,b)
  unfold Xo
  rw [ih]
theorem GZ {w b:Nat} {k n:Nat} (h:Wx m w k=some b) (hn:k<=n):Wx m w n=some b:=by
 obtain ⟨d,rfl⟩:∃ d,n=k+d:=⟨n-k,by omega⟩
 clear hn
 induction d with
 | zero=>exact h
 | succ d ih=>
  show Wx m w (k+d+1)=some b
  unfold Wx
  rw [ih]
theorem F9 {w b:Nat} {k n:Nat} (h:UM m k=some (w,b)) (hn:k<=n):UM m n=some (w,b):=by
 obtain ⟨d,rfl⟩:∃ d,n=k+d:=⟨n-k,by omega⟩
 clear hn
 induction d with
 | zero=>exact h
 | succ d ih=>
  show UM m (k+d+1)=some (w,b)
  unfold UM
  rw [ih]
set_option maxRecDepth 100000
theorem P5  (h:Smy w v0 v1 v2 v3 v4 m) :
  Calls Tryz.prog 293 #[.agg #[v0,v1,v2,v3,v4,.int .i64 m.now]] w fun e w'=>e= .returned (IN (VR m))/\Below w.heap.size w w':=by
 have Hv0:=Z9 (h.alloc (.cells #[v0,v1,v2,v3,v4,.int .i64 m.now] 32))
 obtain ⟨a0,p0,a1,p1,a2,p2,a3,p3,a4,p4,rfl,rfl,rfl,rfl,rfl,_,_,_,_,_,_,_,_,_,_⟩:=h.five
 clear h
 obtain ⟨BB0,kb0⟩:=Xk w 32 (S6 a0 p0 a1 p1 a2 p2 a3 p3 a4 p4 m)
 obtain ⟨tv,htv⟩:∃ t,IN (VR m)=t:=⟨_,rfl⟩
 rw [htv]
 obtain ⟨ok,hok⟩:∃ q,ZK m=q:=⟨_,rfl⟩
 have Hok:=Z9 hok
 have HT:=Z9 htv
 clear hok htv
 cases ok
 ·obtain rfl:tv= .tuple #[.int .i64 0,.int .i64 0,.bool false]:=by rw [<-uh HT];unfold VR;rw [uh Hok];rfl
  go_enter Tryz.func293,Tryz.ntmps293
  go_wp2_with fail
  go_loopw [5] (fun i wr=>i= .int .i64 0/\Blk wr w.heap.size 32 #[.slice a0 m.rooms.length p0,.slice a1 m.guilds.length p1,.slice a2 m.smiths.length p2,.slice a3 m.desks.length p3,.slice a4 m.paces.length p4,.int .i64 m.now]/\Smy wr (.slice a0 m.rooms.length p0) (.slice a1 m.guilds.length p1) (.slice a2 m.smiths.length p2) (.slice a3 m.desks.length p3) (.slice a4 m.paces.length p4) m/\Below w.heap.size w wr) (fun _ _=>1)
  case atStart=>exact ⟨rfl,uh kb0,uh Hv0,uh BB0⟩
  case round=>
   obtain ⟨rfl,hkb,hv,hb0⟩:=hrel
   have kb:=Z9 hkb
   have Hv:=Z9 hv
   have BB:=Z9 hb0
   clear hkb hv hb0 kb0 Hv0 BB0
   obtain ⟨c0,c1,c2,c3,c4,c5⟩:=(uh kb).c6
   by_cases hlt:0<m.smiths.length
   ·have hlt1:(0:Int)<(m.smiths.length:Int):=by omega
    go_wp2_with fail
    refine (Zc (uh Hok) (uh Hv)).mono ?_
    rintro e w1 ⟨rfl,hb⟩
    replace BB:=bt BB hb
    clear hb
    go_wp2_with fail
    refine bodyPost_ret (v:= .tuple #[.int .i64 0,.int .i64 0,.bool false]) (by simp [results,Tryz.results293,go_sem]) rfl ⟨rfl,uh BB⟩
   ·have hlt1:¬ ((0:Int)<(m.smiths.length:Int)):=by omega
    go_wp2_with fail
    refine bodyPost_ret (v:= .tuple #[.int .i64 0,.int .i64 0,.bool false]) (by simp [results,Tryz.results293,go_sem]) rfl ⟨rfl,uh BB⟩
 have hlo:=ZO (uh Hok)
 have HLo:=Z9 hlo
 have HSa:=Z9 hlo.sane
 have h12:=YU hlo
 have h8:=WZ hlo
 clear hlo
 have HW:Hid (tv=IN (UM m m.smiths.length)):=Z9 (by rw [<-uh HT];unfold VR;rw [uh Hok];rfl)
 clear HT
 go_enter Tryz.func293,Tryz.ntmps293
 go_wp2_with fail
 go_loopw [5] (fun i wr=> ∃ k:Nat,k<=m.smiths.length/\i= .int .i64 k/\UM m k=none/\Blk wr w.heap.size 32 #[.slice a0 m.rooms.length p0,.slice a1 m.guilds.length p1,.slice a2 m.smiths.length p2,.slice a3 m.desks.length p3,.slice a4 m.paces.length p4,.int .i64 m.now]/\Smy wr (.slice a0 m.rooms.length p0) (.slice a1 m.guilds.length p1) (.slice a2 m.smiths.length p2) (.slice a3 m.desks.length p3) (.slice a4 m.paces.length p4) m/\Below w.heap.size w wr) (fun i _=>m.smiths.length-(intOf i).toNat)
 case atStart=>exact ⟨0,Nat.zero_le _,rfl,rfl,uh kb0,uh Hv0,uh BB0⟩
 case round=>
  obtain ⟨k,hk,rfl,hno,hkb,hv,hb0⟩:=hrel
  have Hno:=Z9 hno
  clear hno
  have kb:=Z9 hkb
  have Hv:=Z9 hv
  have BB:=Z9 hb0
  clear hkb hv hb0
  clear kb0 Hv0 BB0
  obtain ⟨c0,c1,c2,c3,c4,c5⟩:=(uh kb).c6
  by_cases hlt:k<m.smiths.length
  rotate_left
  ·have hlt1:¬ ((k:Int)<(m.smiths.length:Int)):=by omega
   obtain rfl:k=m.smiths.length:=by omega
   obtain rfl:tv= .tuple #[.int .i64 0,.int .i64 0,.bool false]:=by rw [uh HW,uh Hno];rfl
   go_wp2_with fail
   refine bodyPost_ret (v:= .tuple #[.int .i64 0,.int .i64 0,.bool false]) (by simp [results,Tryz.results293,go_sem]) rfl ⟨rfl,uh BB⟩
  have hlt1:(k:Int)<(m.smiths.length:Int):=by omega
  go_wp2_with fail
  refine (Zc (uh Hok) (uh Hv)).mono ?_
  rintro e w1 ⟨rfl,hb⟩
  replace Hv:=Z9 ((uh Hv).below hb)
  replace kb:=bl kb hb
  replace BB:=bt BB hb
  clear hb c0 c1 c2 c3 c4 c5
  have HN:Hid (∀ w9,So m k=w9->UM m (k+1)=w9.map fun x=>(k,x)):=Z9 (fun w9 e=>by unfold UM;rw [uh Hno,e])
  have HMB:Hid (S9 m k=(ZT (Z8 m.smiths k) && !VX (Ym m (k:Int)) 0 (YR m.rooms (Z8 m.smiths k).2.1))):=Z9 rfl
  obtain ⟨_,_,hse,_,_,r2⟩:=(uh Hv).smiths
  cases hse
  rcases r2 with e0 | ⟨sb,off,rfl,hbw,hcl⟩
  ·rw [e0] at hlt;simp at hlt
  obtain ⟨d0,d1,d2,d3,d4,d5,d6,d7,d8,d9,d10⟩:=ZD hcl hlt
  clear hcl
  obtain ⟨ps,hps⟩:∃ q,ZT (Z8 m.smiths k)=q:=⟨_,rfl⟩
  obtain ⟨fi,hfi⟩:∃ q,VX (Ym m (k:Int)) 0 (YR m.rooms (Z8 m.smiths k).2.1)=q:=⟨_,rfl⟩
  have HM2:Hid (S9 m k=(ps && !fi)):=Z9 (by rw [uh HMB,hps,hfi])
  have HP0:=Z9 hps
  have HA1:Hid (ps=true->0<=(Z8 m.smiths k).2.1/\(Z8 m.smiths k).2.1<m.desks.length/\ -1<=(Z8 m.smiths k).2.2.2.2.1/\(Z8 m.smiths k).2.2.2.2.1<m.guilds.length/\0<=(Z8 m.smiths k).2.2.2.1/\(Z8 m.smiths k).2.2.2.1<=255):=Z9 (fun e=>by
   have hp:=(uh HP0).trans e
   have h1:=(uh HLo).at hlt hp
   have h2:=(uh HLo).limits hlt (Jm hp)
   have h3:=h2.1
   have h4:=h2.2.1
   have a0:=h1.1
   have a1:=h1.2.1
   generalize Z8 m.smiths k=s at *
   obtain ⟨st,be,rk,my,gu,lo',hi',hd,ca,ut,wk⟩:=s
   have h5:=Zg h3
   exact ⟨a0,a1,h5.2.2.2.2.1.1,h4,by show 0<=my;omega,h5.2.2.2.1.2⟩)
  have HG:=Z9 (uh HSa).guilded.guilds
  have Hwa:=Z9 (fun (e:ps=true) (X:World) (hX:Smy X (.slice a0 m.rooms.length p0) (.slice a1 m.guilds.length p1) (.slice (some ⟨sb,off,none⟩) m.smiths.length p2) (.slice a3 m.desks.length p3) (.slice a4 m.paces.length p4) m)=>TJ hX (uh HG) hlt (uh HA1 e).2.2.1 (uh HA1 e).2.2.2.1)
  have Hfo:=Z9 (fun (e:ps=true) (X:World) (hX:Smy X (.slice a0 m.rooms.length p0) (.slice a1 m.guilds.length p1) (.slice (some ⟨sb,off,none⟩) m.smiths.length p2) (.slice a3 m.desks.length p3) (.slice a4 m.paces.length p4) m)=>Wg (Z8 m.smiths k).2.1 hX.rooms (by
   have h9:=uh HA1 e
   obtain ⟨j9,e9⟩:∃ j:Nat,(Z8 m.smiths k).2.1=(j:Int):=⟨(Z8 m.smiths k).2.1.toNat,by omega⟩
   rw [e9]
   exact (uh HSa).bench (by omega)))
  have HFv:Hid (ps=true->VK (ZV m.rooms (WU m.rooms (Z8 m.smiths k).2.1)).2=YR m.rooms (Z8 m.smiths k).2.1):=Z9 (fun e=>(TC (by
   have h9:=uh HA1 e
   obtain ⟨j9,e9⟩:∃ j:Nat,(Z8 m.smiths k).2.1=(j:Int):=⟨(Z8 m.smiths k).2.1.toNat,by omega⟩
   rw [e9]
   exact (uh HSa).bench (by omega))).symm)
  have Hmy:=Z9 (fun (e:ps=true)=>(uh HA1 e).2.2.2.2)
  obtain ⟨⟨st,be,rk,my,gu,lo,hi,hd,ca,ut,wk⟩,hrk⟩:∃ d,Z8 m.smiths k=d:=⟨_,rfl⟩
  rw [hrk] at d0 d1 d2 d3 d4 d5 d6 d7 d8 d9 d10 hps hfi Hfo HFv
  simp only at d0 d1 d2 d3 d4 d5 d6 d7 d8 d9 d10 hfi Hfo HFv
  have Hps:=Z9 hps
  have Hfi:=Z9 hfi
  have Hrk:=Z9 hrk
  clear hps hfi hrk HMB HP0
  have hsbw:sb<w1.heap.size:=hbw
  obtain ⟨c0,c1,c2,c3,c4,c5⟩:=(uh kb).c6
  go_upto_region 5 with fail
  clear d0 d1 d2 d3 d4 d5 d6 d7 d8 d9 d10 c0 c1 c2 c3 c4 c5
  obtain ⟨WQ,hWQ,hba,ks⟩:=Zy w1 41 #[.int .i64 st,.int .i64 be,.int .i64 rk,.int .i64 my,.int .i64 gu,.int .i64 lo,.int .i64 hi,.int .i64 hd,.int .i64 ca,.int .i64 ut,.int .i64 wk]
  replace Hv:=Z9 ((uh Hv).below hba)
  replace kb:=bl kb hba
  replace BB:=bt BB hba
  clear hba hsbw hbw
  rw [hWQ]
  clear hWQ
  generalize w1.heap.size=sx at *
  obtain ⟨c0,c1,c2,c3,c4,c5⟩:=(uh kb).c6
  have y0:=cell_regrown c0
  have y1:=cell_regrown c1
  have y2:=cell_regrown c2
  have y3:=cell_regrown c3
  have y4:=cell_regrown c4
  have y5:=cell_regrown c5
  have s0:=cell_regrown ((uh ks).cell (i:=0) (v:= .int .i64 st) rfl)
  have s1:=cell_regrown ((uh ks).cell (i:=1) (v:= .int .i64 be) rfl)
  have s2:=cell_regrown ((uh ks).cell (i:=2) (v:= .int .i64 rk) rfl)
  have s3:=cell_regrown ((uh ks).cell (i:=3) (v:= .int .i64 my) rfl)
  have s4:=cell_regrown ((uh ks).cell (i:=4) (v:= .int .i64 gu) rfl)
  have s5:=cell_regrown ((uh ks).cell (i:=5) (v:= .int .i64 lo) rfl)
  have s6:=cell_regrown ((uh ks).cell (i:=6) (v:= .int .i64 hi) rfl)
  have s7:=cell_regrown ((uh ks).cell (i:=7) (v:= .int .i64 hd) rfl)
  have s8:=cell_regrown ((uh ks).cell (i:=8) (v:= .int .i64 ca) rfl)
  have s9:=cell_regrown ((uh ks).cell (i:=9) (v:= .int .i64 ut) rfl)
  have s10:=cell_regrown ((uh ks).cell (i:=10) (v:= .int .i64 wk) rfl)
  have H1:=Z9 (fun (X:World)=>YX (uh Hps) X)
  cases ps
  ·have hm0:So m k=none:=by unfold So;rw [uh HM2];rfl
   have Hm0:=Z9 hm0
   clear hm0
   go_wp2_with fail
   refine wp_region_quiet_below (by kernel_rfl) (by kernel_rfl) ?_
   repeat (go_big_quiet_step (first | exact Calls.regrown_of (uh H1 _)))
   refine wpQuiet_nil ?_
   intro W9 hw'
   have hb:Below WQ.heap.size WQ W9:=by
    obtain ⟨⟨dq,osq⟩,hw''⟩:=hw'
    subst hw''
    exact below_regrown _ _ _
   clear hw'
   replace Hv:=Z9 ((uh Hv).below hb)
   replace kb:=bl kb hb
   replace BB:=bt BB hb
   clear hb
   go_wp2_with fail
   go_roundw
   case rel=>exact ⟨k+1,by omega,by go_num,by rw [uh HN none (uh Hm0)];rfl,uh kb,uh Hv,uh BB⟩
   case measure=>simp [intOf];omega
  have H2:=Z9 (fun (X:World) (hX:Below WQ.heap.size WQ X)=>uh Hwa rfl X ((uh Hv).below hX))
  have H3:=Z9 (fun (X:World) (hX:Below WQ.heap.size WQ X)=>uh Hfo rfl X ((uh Hv).below hX))
  rw [uh HFv rfl] at H3
  have H4:=Z9 (fun (X:World)=>Calls.bool_of (Calls.same_below (VE (Ym m (k:Int)) 0 (YR m.rooms be) X)) (uh Hfi))
  have Hmy2:=Z9 (uh Hmy rfl)
  obtain ⟨wa,hwa⟩:∃ q,Ym m (k:Int)=q:=⟨_,rfl⟩
  obtain ⟨fo,hfo⟩:∃ q,YR m.rooms be=q:=⟨_,rfl⟩
  have HWb:=Z9 (fun (X:World) (hX:Smy X (.slice a0 m.rooms.length p0) (.slice a1 m.guilds.length p1) (.slice (some ⟨sb,off,none⟩) m.smiths.length p2) (.slice a3 m.desks.length p3) (.slice a4 m.paces.length p4) m)=>uh Hwa rfl X hX)
  rw [hwa] at H2 H4 HWb
  rw [hfo] at H3 H4
  have HWa:=Z9 hwa
  clear hwa hfo Hwa Hfo HFv Hmy
  cases fi
  rotate_left
  ·have hm0:So m k=none:=by unfold So;rw [uh HM2];rfl
   have Hm0:=Z9 hm0
   clear hm0
   go_wp2_with fail
   refine wp_region_quiet_below (by kernel_rfl) (by kernel_rfl) ?_
   repeat (go_big_quiet_step (first | exact Calls.regrown_of (uh H1 _) | exact Calls.regrown_of (uh H2 _ (below_regrown _ _ _)) | exact Calls.regrown_of (uh H3 _ (below_regrown _ _ _)) | exact Calls.regrown_of (uh H4 _)))
   refine wpQuiet_nil ?_
   intro W9 hw'
   have hb:Below WQ.heap.size WQ W9:=by
    obtain ⟨⟨dq,osq⟩,hw''⟩:=hw'
    subst hw''
    exact below_regrown _ _ _
   clear hw'
   replace Hv:=Z9 ((uh Hv).below hb)
   replace kb:=bl kb hb
   replace BB:=bt BB hb
   clear hb
   go_wp2_with fail
   go_roundw
   case rel=>exact ⟨k+1,by omega,by go_num,by rw [uh HN none (uh Hm0)];rfl,uh kb,uh Hv,uh BB⟩
   case measure=>simp [intOf];omega
  have HMA:Hid (So m k=Wx m k m.desks.length):=Z9 (by unfold So;rw [uh HM2];rfl)
  go_wp2_with fail
  refine wp_region_quiet_below (by kernel_rfl) (by kernel_rfl) ?_
  repeat (go_big_quiet_step (first | exact Calls.regrown_of (uh H1 _) | exact Calls.regrown_of (uh H2 _ (below_regrown _ _ _)) | exact Calls.regrown_of (uh H3 _ (below_regrown _ _ _)) | exact Calls.regrown_of (uh H4 _)))
  refine wpQuiet_nil ?_
  intro W9 hw'
  have hb:Below WQ.heap.size WQ W9:=by
   obtain ⟨⟨dq,osq⟩,hw''⟩:=hw'
   subst hw''
   exact below_regrown _ _ _
  clear hw'
  replace Hv:=Z9 ((uh Hv).below hb)
  replace kb:=bl kb hb
  replace BB:=bt BB hb
  clear hb c0 c1 c2 c3 c4 c5 s0 s1 s2 s3 s4 s5 s6 s7 s8 s9 s10 y0 y1 y2 y3 y4 y5 H1 H2 H3 H4 ks
  go_wp2_with fail
  go_loopw [7] (fun i wr=> ∃ j:Nat,j<=m.desks.length/\i= .int .i64 j/\Wx m k j=none/\Blk wr w.heap.size 32 #[.slice a0 m.rooms.length p0,.slice a1 m.guilds.length p1,.slice (some ⟨sb,off,none⟩) m.smiths.length p2,.slice a3 m.desks.length p3,.slice a4 m.paces.length p4,.int .i64 m.now]/\Smy wr (.slice a0 m.rooms.length p0) (.slice a1 m.guilds.length p1) (.slice (some ⟨sb,off,none⟩) m.smiths.length p2) (.slice a3 m.desks.length p3) (.slice a4 m.paces.length p4) m/\Below w.heap.size w wr) (fun i _=>m.desks.length-(intOf i).toNat)
  case atStart=>exact ⟨0,Nat.zero_le _,rfl,rfl,uh kb,uh Hv,uh BB⟩
  case round=>
   obtain ⟨j,hj,rfl,hno2,hkb,hv,hb0⟩:=hrel
   have Hno2:=Z9 hno2
   obtain ⟨WQ,rfl⟩:∃ x,x=wr:=⟨wr,rfl⟩
   clear hno2 kb Hv BB
   have kb:=Z9 hkb
   have Hv:=Z9 hv
   have BB:=Z9 hb0
   clear hkb hv hb0
   obtain ⟨c0,c1,c2,c3,c4,c5⟩:=(uh kb).c6
   by_cases hlj:j<m.desks.length
   rotate_left
   ·have hlj1:¬ ((j:Int)<(m.desks.length:Int)):=by omega
    obtain rfl:j=m.desks.length:=by omega
    go_wp2_with fail
    go_roundw
    case rel=>exact ⟨k+1,by omega,by go_num,by rw [uh HN none (by rw [uh HMA];exact uh Hno2)];rfl,uh kb,uh Hv,uh BB⟩
    case measure=>simp [intOf];omega
   have hlj1:(j:Int)<(m.desks.length:Int):=by omega
   have HS:Hid (∀ q,Pn m k j=q->Wx m k (j+1)=if q then some j else none):=Z9 (fun q e=>by unfold Wx;rw [uh Hno2,e])
   obtain ⟨qi,hqi⟩:∃ q,WR m j=q:=⟨_,rfl⟩
   obtain ⟨qm,hqm⟩:∃ q,Yg m (k:Int) j=q:=⟨_,rfl⟩
   obtain ⟨qf,hqf⟩:∃ q,VX wa 0 (YR m.rooms (j:Int))=q:=⟨_,rfl⟩
   have HB2:Hid (Pn m k j=(qi && (qm && qf))):=Z9 (by unfold Pn;rw [hqi,hqm,uh HWa,hqf])
   have hfov:=TC ((uh HSa).bench hlj)
   have H1:=Z9 (fun (X:World) (hX:Below WQ.heap.size WQ X)=>Calls.bool_of (Ra ((uh Hv).below hX) hlj (by omega)) hqi)
   have H2:=Z9 (fun (X:World) (hX:Below WQ.heap.size WQ X)=>Calls.bool_of (Uo ((uh Hv).below hX) hlt hlj (by omega) (uh Hmy2).1 (uh Hmy2).2) hqm)
   have H3:=Z9 (fun (X:World) (hX:Below WQ.heap.size WQ X)=>uh HWb X ((uh Hv).below hX))
   have H4:=Z9 (fun (X:World) (hX:Below WQ.heap.size WQ X)=>Wg (j:Int) ((uh Hv).below hX).rooms ((uh HSa).bench hlj))
   rw [<-hfov] at H4
   have H5:=Z9 (fun (X:World)=>Calls.bool_of (Calls.same_below (VE wa 0 (YR m.rooms (j:Int)) X)) hqf)
   clear hqi hqm hqf hfov
   generalize YR m.rooms (j:Int)=fj at *
   have y0:=cell_regrown c0
   have y1:=cell_regrown c1
   have y2:=cell_regrown c2
   have y3:=cell_regrown c3
   have y4:=cell_regrown c4
   have y5:=cell_regrown c5
   cases qi
   ·go_wp2_with fail
    refine wp_region_quiet_below (by kernel_rfl) (by kernel_rfl) ?_
    repeat (go_big_quiet_step (first | exact Calls.regrown_of (uh H1 _ (below_regrown _ _ _)) | exact Calls.regrown_of (uh H2 _ (below_regrown _ _ _)) | exact Calls.regrown_of (uh H3 _ (below_regrown _ _ _)) | exact Calls.regrown_of (uh H4 _ (below_regrown _ _ _)) | exact Calls.regrown_of (uh H5 _)))
    refine wpQuiet_nil ?_
    intro W9 hw'
    have hb:Below WQ.heap.size WQ W9:=by
     obtain ⟨⟨dq,osq⟩,hw''⟩:=hw'
     subst hw''
     exact below_regrown _ _ _
    clear hw'
    replace Hv:=Z9 ((uh Hv).below hb)
    replace kb:=bl kb hb
    replace BB:=bt BB hb
    clear hb
    go_wp2_with fail
    go_roundw
    case rel=>exact ⟨j+1,by omega,by go_num,by rw [uh HS _ (uh HB2)];rfl,uh kb,uh Hv,uh BB⟩
    case measure=>simp [intOf];omega
   cases qm
   ·go_wp2_with fail
    refine wp_region_quiet_below (by kernel_rfl) (by kernel_rfl) ?_
    repeat (go_big_quiet_step (first | exact Calls.regrown_of (uh H1 _ (below_regrown _ _ _)) | exact Calls.regrown_of (uh H2 _ (below_regrown _ _ _)) | exact Calls.regrown_of (uh H3 _ (below_regrown _ _ _)) | exact Calls.regrown_of (uh H4 _ (below_regrown _ _ _)) | exact Calls.regrown_of (uh H5 _)))
    refine wpQuiet_nil ?_
    intro W9 hw'
    have hb:Below WQ.heap.size WQ W9:=by
     obtain ⟨⟨dq,osq⟩,hw''⟩:=hw'
     subst hw''
     exact below_regrown _ _ _
    clear hw'
    replace Hv:=Z9 ((uh Hv).below hb)
    replace kb:=bl kb hb
    replace BB:=bt BB hb
    clear hb
    go_wp2_with fail
    go_roundw
    case rel=>exact ⟨j+1,by omega,by go_num,by rw [uh HS _ (uh HB2)];rfl,uh kb,uh Hv,uh BB⟩
    case measure=>simp [intOf];omega
   cases qf
   ·go_wp2_with fail
    refine wp_region_quiet_below (by kernel_rfl) (by kernel_rfl) ?_
    repeat (go_big_quiet_step (first | exact Calls.regrown_of (uh H1 _ (below_regrown _ _ _)) | exact Calls.regrown_of (uh H2 _ (below_regrown _ _ _)) | exact Calls.regrown_of (uh H3 _ (below_regrown _ _ _)) | exact Calls.regrown_of (uh H4 _ (below_regrown _ _ _)) | exact Calls.regrown_of (uh H5 _)))
    refine wpQuiet_nil ?_
    intro W9 hw'
    have hb:Below WQ.heap.size WQ W9:=by
     obtain ⟨⟨dq,osq⟩,hw''⟩:=hw'
     subst hw''
     exact below_regrown _ _ _
    clear hw'
    replace Hv:=Z9 ((uh Hv).below hb)
    replace kb:=bl kb hb
    replace BB:=bt BB hb
    clear hb
    go_wp2_with fail
    go_roundw
    case rel=>exact ⟨j+1,by omega,by go_num,by rw [uh HS _ (uh HB2)];rfl,uh kb,uh Hv,uh BB⟩
    case measure=>simp [intOf];omega
   go_wp2_with fail
   refine wp_region_quiet_below (by kernel_rfl) (by kernel_rfl) ?_
   repeat (go_big_quiet_step (first | exact Calls.regrown_of (uh H1 _ (below_regrown _ _ _)) | exact Calls.regrown_of (uh H2 _ (below_regrown _ _ _)) | exact Calls.regrown_of (uh H3 _ (below_regrown _ _ _)) | exact Calls.regrown_of (uh H4 _ (below_regrown _ _ _)) | exact Calls.regrown_of (uh H5 _)))
   refine wpQuiet_nil ?_
   intro W9 hw'
   have hb:Below WQ.heap.size WQ W9:=by
    obtain ⟨⟨dq,osq⟩,hw''⟩:=hw'
    subst hw''
    exact below_regrown _ _ _
   clear hw'
   replace Hv:=Z9 ((uh Hv).below hb)
   replace kb:=bl kb hb
   replace BB:=bt BB hb
   clear hb
   have HR:Hid (tv= .tuple #[.int .i64 (k:Int),.int .i64 (j:Int),.bool true]):=Z9 (by
    rw [uh HW,F9 (k:=k+1) (w:=k) (b:=j) (by rw [uh HN (some j) (by rw [uh HMA];exact GZ (k:=j+1) (by rw [uh HS _ (uh HB2)];rfl) (by omega))];rfl) (by omega)]
    rfl)
   obtain rfl:=uh HR
   go_wp2_with fail
   refine bodyPost_ret (v:= .tuple #[.int .i64 (k:Int),.int .i64 (j:Int),.bool true]) (by simp [results,Tryz.results293,go_sem]) rfl ⟨rfl,uh BB⟩
set_option maxRecDepth 100000
theorem QQ  (h:Smy w v0 v1 v2 v3 v4 m) :
  Calls Tryz.prog 294 #[.agg #[v0,v1,v2,v3,v4,.int .i64 m.now]] w fun e w'=>e= .returned (IN (Wl m))/\Below w.heap.size w w':=by
 have Hv0:=Z9 (h.alloc (.cells #[v0,v1,v2,v3,v4,.int .i64 m.now] 32))
 obtain ⟨a0,p0,a1,p1,a2,p2,a3,p3,a4,p4,rfl,rfl,rfl,rfl,rfl,_,_,_,_,_,_,_,_,_,_⟩:=h.five
 clear h
 obtain ⟨BB0,kb0⟩:=Xk w 32 (S6 a0 p0 a1 p1 a2 p2 a3 p3 a4 p4 m)
 obtain ⟨tv,htv⟩:∃ t,IN (Wl m)=t:=⟨_,rfl⟩
 rw [htv]
 obtain ⟨ok,hok⟩:∃ q,ZK m=q:=⟨_,rfl⟩
 have Hok:=Z9 hok
 have HT:=Z9 htv
 clear hok htv
 cases ok
 ·obtain rfl:tv= .tuple #[.int .i64 0,.int .i64 0,.bool false]:=by rw [<-uh HT];unfold Wl;rw [uh Hok];rfl
  go_enter Tryz.func294,Tryz.ntmps294
  go_wp2_with fail
  go_loopw [5] (fun i wr=>i= .int .i64 0/\Blk wr w.heap.size 32 #[.slice a0 m.rooms.length p0,.slice a1 m.guilds.length p1,.slice a2 m.smiths.length p2,.slice a3 m.desks.length p3,.slice a4 m.paces.length p4,.int .i64 m.now]/\Smy wr (.slice a0 m.rooms.length p0) (.slice a1 m.guilds.length p1) (.slice a2 m.smiths.length p2) (.slice a3 m.desks.length p3) (.slice a4 m.paces.length p4) m/\Below w.heap.size w wr) (fun _ _=>1)
  case atStart=>exact ⟨rfl,uh kb0,uh Hv0,uh BB0⟩
  case round=>
   obtain ⟨rfl,hkb,hv,hb0⟩:=hrel
   have kb:=Z9 hkb
   have Hv:=Z9 hv
   have BB:=Z9 hb0
   clear hkb hv hb0 kb0 Hv0 BB0
   obtain ⟨c0,c1,c2,c3,c4,c5⟩:=(uh kb).c6
   by_cases hlt:0<m.desks.length
   ·have hlt1:(0:Int)<(m.desks.length:Int):=by omega
    go_wp2_with fail
    refine (Zc (uh Hok) (uh Hv)).mono ?_
    rintro e w1 ⟨rfl,hb⟩
    replace BB:=bt BB hb
    clear hb
    go_wp2_with fail
    refine bodyPost_ret (v:= .tuple #[.int .i64 0,.int .i64 0,.bool false]) (by simp [results,Tryz.results294,go_sem]) rfl ⟨rfl,uh BB⟩
   ·have hlt1:¬ ((0:Int)<(m.desks.length:Int)):=by omega
    go_wp2_with fail
    refine bodyPost_ret (v:= .tuple #[.int .i64 0,.int .i64 0,.bool false]) (by simp [results,Tryz.results294,go_sem]) rfl ⟨rfl,uh BB⟩
 have hlo:=ZO (uh Hok)
 have HLo:=Z9 hlo
 have h12:=YU hlo
 have h8:=WZ hlo
 clear hlo
 have HW:Hid (tv=IN (Xo m m.desks.length)):=Z9 (by rw [<-uh HT];unfold Wl;rw [uh Hok];rfl)
 clear HT
 go_enter Tryz.func294,Tryz.ntmps294
 go_wp2_with fail
 go_loopw [5] (fun i wr=> ∃ k:Nat,k<=m.desks.length/\i= .int .i64 k/\Xo m k=none/\Blk wr w.heap.size 32 #[.slice a0 m.rooms.length p0,.slice a1 m.guilds.length p1,.slice a2 m.smiths.length p2,.slice a3 m.desks.length p3,.slice a4 m.paces.length p4,.int .i64 m.now]/\Smy wr (.slice a0 m.rooms.length p0) (.slice a1 m.guilds.length p1) (.slice a2 m.smiths.length p2) (.slice a3 m.desks.length p3) (.slice a4 m.paces.length p4) m/\Below w.heap.size w wr) (fun i _=>m.desks.length-(intOf i).toNat)
 case atStart=>exact ⟨0,Nat.zero_le _,rfl,rfl,uh kb0,uh Hv0,uh BB0⟩
 case round=>
  obtain ⟨k,hk,rfl,hno,hkb,hv,hb0⟩:=hrel
  have Hno:=Z9 hno
  clear hno
  have kb:=Z9 hkb
  have Hv:=Z9 hv
  have BB:=Z9 hb0
  clear hkb hv hb0
  clear kb0 Hv0 BB0
  obtain ⟨c0,c1,c2,c3,c4,c5⟩:=(uh kb).c6
  by_cases hlt:k<m.desks.length
  rotate_left
  ·have hlt1:¬ ((k:Int)<(m.desks.length:Int)):=by omega
   obtain rfl:k=m.desks.length:=by omega
   obtain rfl:tv= .tuple #[.int .i64 0,.int .i64 0,.bool false]:=by rw [uh HW,uh Hno];rfl
   go_wp2_with fail
   refine bodyPost_ret (v:= .tuple #[.int .i64 0,.int .i64 0,.bool false]) (by simp [results,Tryz.results294,go_sem]) rfl ⟨rfl,uh BB⟩
  have hlt1:(k:Int)<(m.desks.length:Int):=by omega
  go_wp2_with fail
  refine (Zc (uh Hok) (uh Hv)).mono ?_
  rintro e w1 ⟨rfl,hb⟩
  replace Hv:=Z9 ((uh Hv).below hb)
  replace kb:=bl kb hb
  replace BB:=bt BB hb
  clear hb c0 c1 c2 c3 c4 c5
  obtain ⟨qi,hqi⟩:∃ q,WR m k=q:=⟨_,rfl⟩
  have Hqi:=Z9 hqi
  clear hqi
  have HN:Hid (∀ w9,R1 m k=w9->Xo m (k+1)=w9.map fun x=>(x,k)):=Z9 (fun w9 e=>by unfold Xo;rw [uh Hno,e])
  obtain ⟨c0,c1,c2,c3,c4,c5⟩:=(uh kb).c6
  go_wp2_with fail
  refine (Ra (uh Hv) hlt (by omega)).mono ?_
  rw [uh Hqi]
  rintro e w2 ⟨rfl,hb⟩
  replace Hv:=Z9 ((uh Hv).below hb)
  replace kb:=bl kb hb
  replace BB:=bt BB hb
  clear hb c0 c1 c2 c3 c4 c5
  cases qi
  ·go_wp2_with fail
   go_roundw
   case rel=>exact ⟨k+1,by omega,by go_num,by rw [uh HN none (by unfold R1;rw [uh Hqi];rfl)];rfl,uh kb,uh Hv,uh BB⟩
   case measure=>simp [intOf];omega
  go_wp2_with fail
  go_loopw [6] (fun i wr=> ∃ j:Nat,j<=m.smiths.length/\i= .int .i64 j/\V8 m k j=none/\Blk wr w.heap.size 32 #[.slice a0 m.rooms.length p0,.slice a1 m.guilds.length p1,.slice a2 m.smiths.length p2,.slice a3 m.desks.length p3,.slice a4 m.paces.length p4,.int .i64 m.now]/\Smy wr (.slice a0 m.rooms.length p0) (.slice a1 m.guilds.length p1) (.slice a2 m.smiths.length p2) (.slice a3 m.desks.length p3) (.slice a4 m.paces.length p4) m/\Below w.heap.size w wr) (fun i _=>m.smiths.length-(intOf i).toNat)
  case atStart=>exact ⟨0,Nat.zero_le _,rfl,rfl,uh kb,uh Hv,uh BB⟩
  case round=>
   obtain ⟨j,hj,rfl,hno2,hkb,hv,hb0⟩:=hrel
   have Hno2:=Z9 hno2
   clear hno2 kb Hv BB
   have kb:=Z9 hkb
   have Hv:=Z9 hv
   have BB:=Z9 hb0
   clear hkb hv hb0
   obtain ⟨c0,c1,c2,c3,c4,c5⟩:=(uh kb).c6
   by_cases hlj:j<m.smiths.length
   rotate_left
   ·have hlj1:¬ ((j:Int)<(m.smiths.length:Int)):=by omega
    obtain rfl:j=m.smiths.length:=by omega
    go_wp2_with fail
    go_roundw
    case rel=>exact ⟨k+1,by omega,by go_num,by rw [uh HN none (by unfold R1;rw [uh Hqi];exact uh Hno2)];rfl,uh kb,uh Hv,uh BB⟩
    case measure=>simp [intOf];omega
   have hlj1:(j:Int)<(m.smiths.length:Int):=by omega
   have HS:Hid (∀ q,Ro m j k=q->V8 m k (j+1)=if q then some j else none):=Z9 (fun q e=>by unfold V8;rw [uh Hno2,e])
   have HB:Hid (Ro m j k=((Z8 m.smiths j).1 ==2 && Yg m (j:Int) k)):=Z9 rfl
   obtain ⟨_,_,hse,_,_,r2⟩:=(uh Hv).smiths
   cases hse
   rcases r2 with e0 | ⟨sb,off,rfl,hbw,hcl⟩
   ·rw [e0] at hlj;simp at hlj
   obtain ⟨d0,_⟩:=ZD hcl hlj
   clear hcl
   obtain ⟨st,hst⟩:∃ q,(Z8 m.smiths j).1=q:=⟨_,rfl⟩
   rw [hst] at d0
   by_cases h2:st=2
   rotate_left
   ·have hn2:(st ==2)=false:=by simpa using h2
    have HB2:Hid (Ro m j k=false):=Z9 (by rw [uh HB,hst,hn2];rfl)
    clear hst
    go_wp2_with fail
    go_roundw
    case rel=>exact ⟨j+1,by omega,by go_num,by rw [uh HS _ (uh HB2)];rfl,uh kb,uh Hv,uh BB⟩
    case measure=>simp [intOf];omega
   subst h2
   have hlim:=(uh HLo).limits hlj (by rw [hst];omega)
   have hmy:0<=(Z8 m.smiths j).2.2.2.1/\(Z8 m.smiths j).2.2.2.1<=255:=by
    have hp:=hlim.1
    generalize Z8 m.smiths j=s at *
    obtain ⟨st,be,rk,my,gu,lo',hi',hd,ca,ut,wk⟩:=s
    have:=(Zg hp).2.2.2.1
    exact ⟨by show 0<=my;omega,this.2⟩
   obtain ⟨qm,hqm⟩:∃ q,Yg m (j:Int) k=q:=⟨_,rfl⟩
   have Hqm:=Z9 hqm
   have HB2:Hid (Ro m j k=qm):=Z9 (by rw [uh HB,hst,hqm];rfl)
   have HM:=Z9 (fun (X:World) (hX:Smy X (.slice a0 m.rooms.length p0) (.slice a1 m.guilds.length p1) (.slice (some ⟨sb,off,none⟩) m.smiths.length p2) (.slice a3 m.desks.length p3) (.slice a4 m.paces.length p4) m)=>Uo hX hlj hlt (by omega) hmy.1 hmy.2)
   clear hst hlim hmy hqm
   go_wp2_with fail
   refine (uh HM _ (uh Hv)).mono ?_
   rw [uh Hqm]
   rintro e w3 ⟨rfl,hb⟩
   replace Hv:=Z9 ((uh Hv).below hb)
   replace kb:=bl kb hb
   replace BB:=bt BB hb
   clear hb c0 c1 c2 c3 c4 c5 d0 HM
   cases qm
   ·go_wp2_with fail
    go_roundw
    case rel=>exact ⟨j+1,by omega,by go_num,by rw [uh HS _ (uh HB2)];rfl,uh kb,uh Hv,uh BB⟩
    case measure=>simp [intOf];omega
   have HR:Hid (tv= .tuple #[.int .i64 (j:Int),.int .i64 (k:Int),.bool true]):=Z9 (by
    rw [uh HW,KT (k:=k+1) (w:=j) (b:=k) (by rw [uh HN (some j) (by unfold R1;rw [uh Hqi];exact IS (k:=j+1) (by rw [uh HS _ (uh HB2)];rfl) (by omega))];rfl) (by omega)]
    rfl)
   obtain rfl:=uh HR
   go_wp2_with fail
   refine bodyPost_ret (v:= .tuple #[.int .i64 (j:Int),.int .i64 (k:Int),.bool true]) (by simp [results,Tryz.results294,go_sem]) rfl ⟨rfl,uh BB⟩
end Go.Proofs.YtnponpamjddpjaaGreat
