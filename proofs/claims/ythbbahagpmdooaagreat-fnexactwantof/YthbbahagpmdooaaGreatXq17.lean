/- Part 17 of what the proof rests on. No condition but those that a theorem names. -/
import Derived.Test.YthbbahagpmdooaaGreatXq16
import Derived.Laws.CopyRow
set_option maxHeartbeats 8000000
set_option maxRecDepth 100000
namespace Go.Proofs.YthbbahagpmdooaaGreat
open Go.ChangeShapes Go.WideShapes Go.ChangeAt Go.RowKit Go.Sort
set_option linter.unusedVariables false
def SN (m:Z4):List Z5->Int
 | []=>0
 | e::q=>Zv m e.2+SN m q
def VZ (m:Z4):List Int->Int
 | []=>0
 | x::q=>Zv m x+VZ m q
theorem MJ (m:Z4) (a b:List Z5):SN m (a++b)=SN m a+SN m b:=by
 induction a with
 | nil=>show SN m b=0+SN m b;omega
 | cons e a ih=>show Zv m e.2+SN m (a++b)=Zv m e.2+SN m a+SN m b;omega
theorem Gr (m:Z4) (a b:List Int):VZ m (a++b)=VZ m a+VZ m b:=by
 induction a with
 | nil=>show VZ m b=0+VZ m b;omega
 | cons e a ih=>show Zv m e+VZ m (a++b)=Zv m e+VZ m a+VZ m b;omega
theorem Ou (m:Z4) (a:List Int) (x:Int):VZ m (a++[x])=VZ m a+Zv m x:=by rw [Gr];show _+(Zv m x+0)=_;omega
theorem Jo (m:Z4):∀ a:List Int,0<=VZ m a/\VZ m a<=1024*a.length
 | []=>by simp [VZ]
 | x::a=>by
  have ih:=Jo m a
  have hw:=UX m x
  show 0<=Zv m x+VZ m a/\Zv m x+VZ m a<=1024*((a.length+1:Nat):Int)
  omega
theorem Gq (m:Z4) (q:List Z5) (e:Z5):SN m (VK q e)=SN m q+Zv m e.2:=by
 have h:=MJ m (q.take (Yd e q)) (q.drop (Yd e q))
 rw [List.take_append_drop] at h
 unfold VK
 rw [MJ,h]
 show _+(Zv m e.2+_)=_
 omega
theorem Oy (m:Z4) (but:Int):∀ (q:List Z5) (n:Int),(∀ e ∈ q,e.2 ≠ but)->q.foldl (fun n e=>if e.2=but then n else n+Zv m e.2) n=n+SN m q
 | [],n,_=>by show n=n+0;omega
 | e::q,n,h=>by
  have h0:=h e (by simp)
  have ih:=Oy m but q (if e.2=but then n else n+Zv m e.2) (fun x hx=>h x (by simp [hx]))
  rw [List.foldl_cons,ih,if_neg h0]
  show _=n+(Zv m e.2+SN m q)
  omega
theorem II (m:Z4) (b:Int):Yn m b (-1)=SN m (atV m.smiths b m.smiths.length):=by
 have:=Oy m (-1) (atV m.smiths b m.smiths.length) 0 (fun e he=>by
  obtain ⟨i,_,_,_,rfl⟩:=(Yk m.smiths b e m.smiths.length).1 he
  show (i:Int) ≠ -1
  omega)
 unfold Yn W7
 omega
theorem EF (b:Int) (s:Z3):atB b s=decide (s.2.1=b/\ZR s=true):=by
 unfold atB ZR
 rw [Bool.eq_iff_iff]
 simp only [Bool.and_eq_true,decide_eq_true_eq,beq_iff_eq]
 exact ⟨fun h=>⟨h.2,h.1⟩,fun h=>⟨h.2,h.1⟩⟩
theorem OA (m:Z4) (ss:List Z3) (b:Int):∀ k,VZ m (ZX (atB b) ss k)=SN m (atV ss b k)
 | 0=>rfl
 | k+1=>by
  have ih:=OA m ss b k
  by_cases hat:(Z8 ss k).2.1=b/\ZR (Z8 ss k)=true
  ·rw [YQ (by rw [EF];exact decide_eq_true hat),Ou,Ue hat.1 hat.2,Gq,ih]
  ·rw [Yo (by rw [EF];exact decide_eq_false hat),Sz hat,ih]
theorem KP (m:Z4) (b:Int):VZ m (ZX (atB b) m.smiths m.smiths.length)=Yn m b (-1):=by rw [OA,II]
theorem IA (m:Z4) {ws:List Int} {k:Nat} (h:k<ws.length):VZ m (ws.take (k+1))=VZ m (ws.take k)+Zv m (Z8 ws k):=by rw [Sq h,Ou]
structure Ff (m:Z4):Prop where
 guilds:Zw m.guilds=true
 each:∀ i,i<m.smiths.length->(Z8 m.smiths i).1 ≠ 0->isB m.guilds (Z8 m.smiths i).2.2.2.2.1=true/\YJ (Z8 m.smiths i).2.2.2.2.2.1 (Z8 m.smiths i).2.2.2.2.2.2.1=true
theorem Loose.wants {m:Z4} (h:Loose m):Ff m:=by
 have hd:=h.head
 unfold YY at hd
 simp only [Bool.and_eq_true,decide_eq_true_eq] at hd
 refine ⟨hd.2.1,fun i hi hs=> ?_⟩
 obtain ⟨hp,hg,_⟩:=h.limits hi hs
 have hgs:=hd.2.1
 generalize Z8 m.smiths i=s at *
 obtain ⟨st,be,rk,my,gu,lo,hi,hd,ca,ut,wk⟩:=s
 obtain ⟨_,_,_,_,⟨g0,g5⟩,hpair,_⟩:=Zk hp
 simp only at hg
 exact ⟨by unfold isB;rw [hgs,Zs g0 (by omega)];rfl,hpair⟩
structure Bx (w W:World) (R:Nat) (a0:Option Addr) (p0:Nat) (a1:Option Addr) (p1:Nat) (a2:Option Addr) (p2:Nat) (a3:Option Addr) (p3:Nat) (a4:Option Addr) (p4:Nat) (m:Z4):Prop where
 smy:Smy W (.slice a0 m.rooms.length p0) (.slice a1 m.guilds.length p1) (.slice a2 m.smiths.length p2) (.slice a3 m.desks.length p3) (.slice a4 m.paces.length p4) m
 blk:Blk W R 32 #[.slice a0 m.rooms.length p0,.slice a1 m.guilds.length p1,.slice a2 m.smiths.length p2,.slice a3 m.desks.length p3,.slice a4 m.paces.length p4,.int .i64 m.now]
 bb:Below w.heap.size w W
section
variable {w W X : World} {R : Nat} {a0 a1 a2 a3 a4 : Option Addr} {p0 p1 p2 p3 p4 : Nat} {m : Z4}
theorem Bx.next (h:Bx w W R a0 p0 a1 p1 a2 p2 a3 p3 a4 p4 m) (hb:Below W.heap.size W X):Bx w X R a0 p0 a1 p1 a2 p2 a3 p3 a4 p4 m:=⟨h.smy.below hb,h.blk.below hb h.blk.lt,h.bb.trans (hb.mono h.bb.size)⟩
theorem Bx.cells (h:Bx w W R a0 p0 a1 p1 a2 p2 a3 p3 a4 p4 m):W.cell? ⟨R,0,none⟩=some (.slice a0 m.rooms.length p0)/\W.cell? ⟨R,1,none⟩=some (.slice a1 m.guilds.length p1)/\W.cell? ⟨R,2,none⟩=some (.slice a2 m.smiths.length p2)/\W.cell? ⟨R,3,none⟩=some (.slice a3 m.desks.length p3)/\W.cell? ⟨R,4,none⟩=some (.slice a4 m.paces.length p4)/\W.cell? ⟨R,5,none⟩=some (.int .i64 m.now):=h.blk.c6
end
theorem Bx.new {w:World} {v0 v1 v2 v3 v4:Value} {m:Z4} (h:Smy w v0 v1 v2 v3 v4 m):∃ a0 p0 a1 p1 a2 p2 a3 p3 a4 p4,v0= .slice a0 m.rooms.length p0/\v1= .slice a1 m.guilds.length p1/\v2= .slice a2 m.smiths.length p2/\v3= .slice a3 m.desks.length p3/\v4= .slice a4 m.paces.length p4/\Bx w (w.alloc (.cells #[.slice a0 m.rooms.length p0,.slice a1 m.guilds.length p1,.slice a2 m.smiths.length p2,.slice a3 m.desks.length p3,.slice a4 m.paces.length p4,.int .i64 m.now] 32)) w.heap.size a0 p0 a1 p1 a2 p2 a3 p3 a4 p4 m:=by
 obtain ⟨a0,p0,a1,p1,a2,p2,a3,p3,a4,p4,rfl,rfl,rfl,rfl,rfl,_⟩:=h.five
 exact ⟨a0,p0,a1,p1,a2,p2,a3,p3,a4,p4,rfl,rfl,rfl,rfl,rfl,h.alloc _,Blk.new _ _ _,(Below.refl _ _).alloc (Nat.le_refl _) _⟩
theorem Bx.put {w W:World} {v0 v1 v2 v3 v4:Value} {m:Z4} (h:Smy W v0 v1 v2 v3 v4 m) (hb:Below w.heap.size w W):∃ a0 p0 a1 p1 a2 p2 a3 p3 a4 p4,v0= .slice a0 m.rooms.length p0/\v1= .slice a1 m.guilds.length p1/\v2= .slice a2 m.smiths.length p2/\v3= .slice a3 m.desks.length p3/\v4= .slice a4 m.paces.length p4/\Bx w (W.alloc (.cells #[.slice a0 m.rooms.length p0,.slice a1 m.guilds.length p1,.slice a2 m.smiths.length p2,.slice a3 m.desks.length p3,.slice a4 m.paces.length p4,.int .i64 m.now] 32)) W.heap.size a0 p0 a1 p1 a2 p2 a3 p3 a4 p4 m:=by
 obtain ⟨a0,p0,a1,p1,a2,p2,a3,p3,a4,p4,rfl,rfl,rfl,rfl,rfl,_⟩:=h.five
 exact ⟨a0,p0,a1,p1,a2,p2,a3,p3,a4,p4,rfl,rfl,rfl,rfl,rfl,h.alloc _,Blk.new _ _ _,hb.trans (((Below.refl _ _).alloc (Nat.le_refl _) _).mono hb.size)⟩
end Go.Proofs.YthbbahagpmdooaaGreat
namespace Go.Proofs.YthbbahagpmdooaaGreat
open Go.ChangeShapes Go.WideShapes Go.ChangeAt Go.RowKit Go.Sort
set_option linter.unusedVariables false
set_option maxRecDepth 100000
theorem Ej {m:Z4} (h:Loose m) {b:Int} (hb:YZ m b=false):atV m.smiths b m.smiths.length=[]:=by
 refine List.eq_nil_iff_forall_not_mem.2 fun e he=> ?_
 obtain ⟨i,hi,h1,h2,_⟩:=(Yk m.smiths b e m.smiths.length).1 he
 obtain ⟨a0,a1,_⟩:=h.at hi h2
 rw [show YZ m b=true from Zs (by omega) (by omega)] at hb
 cases hb
theorem MW {m:Z4} {b:Int} {k:Nat} (hk:k<(ZX (atB b) m.smiths m.smiths.length).length):∃ i:Nat,i<m.smiths.length/\Z8 (ZX (atB b) m.smiths m.smiths.length) k=(i:Int):=by
 obtain ⟨i,hi,e,_⟩:=(XD (atB b) m.smiths _ m.smiths.length).1 (UR hk)
 exact ⟨i,hi,e⟩
theorem Mx {w:World} {v0 v1 v2 v3 v4:Value} {m:Z4} (b:Int) (h:Smy w v0 v1 v2 v3 v4 m) (hL:Loose m):Calls Tryz.prog 26 #[.agg #[v0,v1,v2,v3,v4,.int .i64 m.now],.int .i64 b] w fun e w'=> ∃ v',e= .returned v'/\EntsAt w.heap.size w' v' (atV m.smiths b m.smiths.length)/\Below w.heap.size w w':=by
 have Hv:=Z9 ((h.alloc (.cells #[v0,v1,v2,v3,v4,.int .i64 m.now] 32)).alloc (.cells #[] 45))
 have HV0:=Z9 h
 obtain ⟨a0,p0,a1,p1,a2,p2,a3,p3,a4,p4,rfl,rfl,rfl,rfl,rfl,_,_,_,_,_,_,_,_,_,_⟩:=h.five
 clear h
 have hl:m.smiths.length<=1000:=by have:=(Xk hL).smiths;omega
 have HL:=Z9 hL
 clear hL
 have kb:Hid (Blk ((w.alloc (.cells #[.slice a0 m.rooms.length p0,.slice a1 m.guilds.length p1,.slice a2 m.smiths.length p2,.slice a3 m.desks.length p3,.slice a4 m.paces.length p4,.int .i64 m.now] 32)).alloc (.cells #[] 45)) w.heap.size 32 #[.slice a0 m.rooms.length p0,.slice a1 m.guilds.length p1,.slice a2 m.smiths.length p2,.slice a3 m.desks.length p3,.slice a4 m.paces.length p4,.int .i64 m.now]):=Z9 ((Blk.new w _ _).alloc _)
 have BB:Hid (Below w.heap.size w ((w.alloc (.cells #[.slice a0 m.rooms.length p0,.slice a1 m.guilds.length p1,.slice a2 m.smiths.length p2,.slice a3 m.desks.length p3,.slice a4 m.paces.length p4,.int .i64 m.now] 32)).alloc (.cells #[] 45))):=Z9 (((Below.refl _ _).alloc (Nat.le_refl _) _).alloc (by simp) _)
 have HE:Hid (EntsAt w.heap.size ((w.alloc (.cells #[.slice a0 m.rooms.length p0,.slice a1 m.guilds.length p1,.slice a2 m.smiths.length p2,.slice a3 m.desks.length p3,.slice a4 m.paces.length p4,.int .i64 m.now] 32)).alloc (.cells #[] 45)) (.slice (some ⟨w.heap.size+1,0,none⟩) 0 0) []):=Z9 (XN (by simp) (by simp))
 go_enter Tryz.func26,Tryz.ntmps26
 go_upto_region 2 with fail
 generalize (w.alloc (.cells #[.slice a0 m.rooms.length p0,.slice a1 m.guilds.length p1,.slice a2 m.smiths.length p2,.slice a3 m.desks.length p3,.slice a4 m.paces.length p4,.int .i64 m.now] 32)).alloc (.cells #[] 45)=W at *
 obtain ⟨c0,c1,c2,c3,c4,c5⟩:=(uh kb).c6
 go_wp2_with fail
 refine (TW b (uh Hv) hl).mono ?_
 rintro e w1 ⟨vn,rfl,hn,hb⟩
 obtain ⟨na,nc,rfl⟩:=RecAt.shape hn
 have HN0:=Z9 (RecAt.mono hn (uh BB).size)
 have Hv1:=Z9 ((uh Hv).below hb)
 have kb1:=Z9 ((uh kb).below hb (uh kb).lt)
 have BB1:=Z9 ((uh BB).trans (hb.mono (uh BB).size))
 have HE1:=Z9 ((uh HE).later hb)
 clear hb hn c0 c1 c2 c3 c4 c5 Hv kb BB HE
 have Hq:=Z9 (SK m.smiths b m.smiths.length)
 have Hwh:=Z9 (fun k hk=>MW (m:=m) (b:=b) (k:=k) hk)
 have Hpq:=Z9 (fun k=>Kh (uh HL) b k)
 have hwl:=Xa (atB b) m.smiths m.smiths.length
 generalize ZX (atB b) m.smiths m.smiths.length=ws at *
 go_wp2_with fail
 go_loopw [5,13] (fun l i wr=> ∃ k:Nat,k<=ws.length/\i= .int .i64 k/\EntsAt w.heap.size wr l (Wk m.smiths (ws.take k))/\NumsAt w.heap.size wr (.slice na ws.length nc) ws/\Blk wr w.heap.size 32 #[.slice a0 m.rooms.length p0,.slice a1 m.guilds.length p1,.slice a2 m.smiths.length p2,.slice a3 m.desks.length p3,.slice a4 m.paces.length p4,.int .i64 m.now]/\Smy wr (.slice a0 m.rooms.length p0) (.slice a1 m.guilds.length p1) (.slice a2 m.smiths.length p2) (.slice a3 m.desks.length p3) (.slice a4 m.paces.length p4) m/\Below w.heap.size w wr) (fun _ i _=>ws.length-(intOf i).toNat)
 case atStart=>exact ⟨0,Nat.zero_le _,rfl,uh HE1,uh HN0,uh kb1,uh Hv1,uh BB1⟩
 case round=>
  obtain ⟨k,hk,rfl,he,hn,hkb,hv,hb0⟩:=hrel
  obtain ⟨la,lc,rfl⟩:=EntsAt.shape he
  have HE:=Z9 he
  have HN:=Z9 hn
  have kb:=Z9 hkb
  have Hv:=Z9 hv
  have BB:=Z9 hb0
  clear he hn hkb hv hb0 HE1 HN0 kb1 Hv1 BB1
  by_cases hlt:k<ws.length
  ·have hlt1:(k:Int)<(ws.length:Int):=by omega
   obtain ⟨g,hga,_,_,hcl,_⟩:=RecAt.view YT (by omega) (uh HN) rfl (by omega)
   cases hga
   have z0:=hcl k hlt 0 _ rfl
   simp only [Nat.mul_one,Nat.add_zero] at z0
   obtain ⟨i,hi,hiw⟩:=uh Hwh k hlt
   rw [hiw] at z0
   have hi1:(i:Int)<(m.smiths.length:Int):=by omega
   obtain ⟨_,_,hse,_,_,r2⟩:=(uh Hv).smiths
   cases hse
   rcases r2 with e0 | ⟨sb,off,rfl,hbw,hcs⟩
   ·rw [e0] at hi;simp at hi
   obtain ⟨_,_,_,_,_,_,_,d7,_⟩:=ZI hcs hi
   have HT:Hid (Wk m.smiths (ws.take (k+1))=VK (Wk m.smiths (ws.take k)) (Xo (Z8 m.smiths i),(i:Int))):=Z9 (by rw [Sq hlt,Sk,hiw];simp)
   have hq1:=uh Hpq k
   have hq2:=uh Hpq (k+1)
   rw [uh HT] at hq2
   have HQ:=Z9 (Rb hq1 hq2)
   clear hcl hcs hq1 hq2
   have e7:(Z8 m.smiths i).2.2.2.2.2.2.2.1=Xo (Z8 m.smiths i):=rfl
   rw [e7] at d7
   clear e7
   generalize Xo (Z8 m.smiths i)=hd at *
   have c2:=(uh kb).cell (i:=2) (v:= .slice (some ⟨sb,off,none⟩) m.smiths.length p2) rfl
   go_wp2_with fail
   refine (Pq hd (i:Int) (uh HE).paces).mono ?_
   rw [uh HQ]
   rintro e w2 ⟨⟨v',rfl,he⟩,hb⟩
   obtain ⟨ua,uc,rfl⟩:=EntsAt.shape he
   have HE2:=Z9 (he.mono (uh BB).size)
   replace HN:=Z9 (RecAt.later (uh HN) hb)
   replace kb:=bl kb hb
   replace Hv:=Z9 ((uh Hv).below hb)
   replace BB:=bt BB hb
   clear hb he c2 d7 z0
   go_wp2_with fail
   go_roundw
   case rel=>exact ⟨k+1,by omega,by go_num,by rw [uh HT];exact uh HE2,uh HN,uh kb,uh Hv,uh BB⟩
   case measure=>simp [intOf];omega
  ·obtain rfl:k=ws.length:=by omega
   have HE3:Hid (EntsAt w.heap.size wr (.slice la (Wk m.smiths (ws.take ws.length)).length lc) (atV m.smiths b m.smiths.length)):=Z9 (by
    have h9:=uh HE
    have e9:Wk m.smiths (ws.take ws.length)=atV m.smiths b m.smiths.length:=by rw [List.take_length,uh Hq]
    rw [<-e9]
    exact h9)
   go_wp2_with fail
   go_ret
   exact ⟨_,rfl,uh HE3,uh BB⟩
theorem JN (w:World) (v0 v1 v2 v3 v4:Value) (m:Z4) (b:Int) (h:Smy w v0 v1 v2 v3 v4 m):Calls Tryz.prog 7 #[.agg #[v0,v1,v2,v3,v4,.int .i64 m.now],.int .i64 b] w fun e w'=> ∃ v',e= .returned v'/\EntsAt w.heap.size w' v' (Xl m b)/\Below w.heap.size w w':=by
 obtain ⟨lq,hlq⟩:∃ l,Xl m b=l:=⟨_,rfl⟩
 rw [hlq]
 have Hlq:=Z9 hlq
 clear hlq
 have Hv:=Z9 (h.alloc (.cells #[v0,v1,v2,v3,v4,.int .i64 m.now] 32))
 obtain ⟨a0,p0,a1,p1,a2,p2,a3,p3,a4,p4,rfl,rfl,rfl,rfl,rfl,_,_,_,_,_,_,_,_,_,_⟩:=h.five
 clear h
 have kb:Hid (Blk (w.alloc (.cells #[.slice a0 m.rooms.length p0,.slice a1 m.guilds.length p1,.slice a2 m.smiths.length p2,.slice a3 m.desks.length p3,.slice a4 m.paces.length p4,.int .i64 m.now] 32)) w.heap.size 32 #[.slice a0 m.rooms.length p0,.slice a1 m.guilds.length p1,.slice a2 m.smiths.length p2,.slice a3 m.desks.length p3,.slice a4 m.paces.length p4,.int .i64 m.now]):=Z9 (Blk.new w _ _)
 have BB:Hid (Below w.heap.size w (w.alloc (.cells #[.slice a0 m.rooms.length p0,.slice a1 m.guilds.length p1,.slice a2 m.smiths.length p2,.slice a3 m.desks.length p3,.slice a4 m.paces.length p4,.int .i64 m.now] 32))):=Z9 ((Below.refl _ _).alloc (Nat.le_refl _) _)
 obtain ⟨ok,hok⟩:∃ q,ZO m=q:=⟨_,rfl⟩
 have Hok:=Z9 hok
 clear hok
 go_enter Tryz.func7,Tryz.ntmps7
 go_wp2_with fail
 generalize w.alloc (.cells #[.slice a0 m.rooms.length p0,.slice a1 m.guilds.length p1,.slice a2 m.smiths.length p2,.slice a3 m.desks.length p3,.slice a4 m.paces.length p4,.int .i64 m.now] 32)=W at *
 refine (WG _ _ _ _ _ _ _ _ (uh Hok) (uh Hv)).mono ?_
 rintro e w1 ⟨rfl,hb⟩
 replace Hv:=Z9 ((uh Hv).below hb)
 replace kb:=bl kb hb
 replace BB:=bt BB hb
 clear hb
 cases ok
 ·obtain rfl:lq=[]:=by rw [<-uh Hlq];unfold Xl;rw [uh Hok];rfl
  go_wp2_with fail
  go_ret
  exact ⟨_,rfl,XN rfl (uh BB).size,(uh BB).alloc (uh BB).size _⟩
 obtain rfl:lq=atV m.smiths b m.smiths.length:=by
  rw [<-uh Hlq]
  unfold Xl
  rw [uh Hok,Bool.true_and]
  cases hb:YZ m b
  ·rw [Ej (ZW (uh Hok)) hb];rfl
  ·rfl
 obtain ⟨c0,c1,c2,c3,c4,c5⟩:=(uh kb).c6
 go_wp2_with fail
 refine (Mx b (uh Hv) (ZW (uh Hok))).mono ?_
 rintro e w2 ⟨v',rfl,he,hb⟩
 obtain ⟨ua,uc,rfl⟩:=EntsAt.shape he
 have HE:=Z9 (he.mono (uh BB).size)
 clear he
 replace Hv:=Z9 ((uh Hv).below hb)
 replace kb:=bl kb hb
 replace BB:=bt BB hb
 clear hb c0 c1 c2 c3 c4 c5
 go_wp2_with fail
 go_ret
 exact ⟨_,rfl,uh HE,uh BB⟩
theorem MT {w:World} {v0 v1 v2 v3 v4:Value} {m:Z4} {k:Nat} (h:Smy w v0 v1 v2 v3 v4 m) (hL:Ff m) (hk:k<m.smiths.length) (hs:(Z8 m.smiths k).1 ≠ 0):Calls Tryz.prog 32 #[.agg #[v0,v1,v2,v3,v4,.int .i64 m.now],.int .i64 (k:Int)] w fun e w'=>e= .returned (.int .i64 (Zv m (k:Int)))/\Below w.heap.size w w':=by
 have hw:Zv m (k:Int)=SX m.guilds (Z8 m.smiths k):=rfl
 rw [hw]
 clear hw
 have Hg0:=Z9 h.guilds
 obtain ⟨a0,p0,rfl,_,_⟩:=IsRooms.shape h.rooms
 obtain ⟨a1,p1,rfl,_,_⟩:=IsRec.shape h.guilds
 obtain ⟨a2,p2,rfl,hc2,hm2,r2⟩:=h.smiths
 obtain ⟨a3,p3,rfl,_,_⟩:=IsRec.shape h.desks
 obtain ⟨a4,p4,rfl,_,_⟩:=IsRec.shape h.paces
 clear h
 obtain ⟨hg1,hpair⟩:=hL.each k hk hs
 rcases r2 with e0 | ⟨sb,off,rfl,hbw,hcl⟩
 ·rw [e0] at hk;simp at hk
 have hk1:(k:Int)<(m.smiths.length:Int):=by omega
 obtain ⟨d0,d1,d2,d3,d4,d5,d6,d7,d8,d9,d10⟩:=ZI hcl hk
 clear hcl hs hL
 generalize Z8 m.smiths k=ss at *
 obtain ⟨st,be,rk,my,gu,lo,hi,hd,ca,ut,wk⟩:=ss
 simp only at d0 d1 d2 d3 d4 d5 d6 d7 d8 d9 d10 hg1 hpair
 obtain ⟨nr,hnr⟩:∃ nr,VX (bnd m.guilds gu) lo hi=nr:=⟨_,rfl⟩
 have HW:Hid (Wm m.guilds gu lo hi=nr):=Z9 (by rw [<-hnr];exact Tj hg1 hpair)
 have HX:Hid (SX m.guilds (st,be,rk,my,gu,lo,hi,hd,ca,ut,wk)=min (max ut nr.1) nr.2):=Z9 (by rw [<-hnr];rfl)
 rw [uh HX]
 clear hpair hg1 HX hnr
 obtain ⟨nl,nh⟩:=nr
 dsimp only
 have hne:sb ≠ w.heap.size:=Nat.ne_of_lt hbw
 have hbw2:sb<w.heap.size+1:=by omega
 have BB:Hid (Below w.heap.size w ((w.alloc (.cells #[.slice a0 m.rooms.length p0,.slice a1 m.guilds.length p1,.slice (some ⟨sb,off,none⟩) m.smiths.length p2,.slice a3 m.desks.length p3,.slice a4 m.paces.length p4,.int .i64 m.now] 32)).alloc (.cells #[.int .i64 st,.int .i64 be,.int .i64 rk,.int .i64 my,.int .i64 gu,.int .i64 lo,.int .i64 hi,.int .i64 hd,.int .i64 ca,.int .i64 ut,.int .i64 wk] 41))):=Z9 (((Below.refl _ _).alloc (Nat.le_refl _) _).alloc (by simp) _)
 have ks:Hid (Blk ((w.alloc (.cells #[.slice a0 m.rooms.length p0,.slice a1 m.guilds.length p1,.slice (some ⟨sb,off,none⟩) m.smiths.length p2,.slice a3 m.desks.length p3,.slice a4 m.paces.length p4,.int .i64 m.now] 32)).alloc (.cells #[.int .i64 st,.int .i64 be,.int .i64 rk,.int .i64 my,.int .i64 gu,.int .i64 lo,.int .i64 hi,.int .i64 hd,.int .i64 ca,.int .i64 ut,.int .i64 wk] 41)) (w.heap.size+1) 41 #[.int .i64 st,.int .i64 be,.int .i64 rk,.int .i64 my,.int .i64 gu,.int .i64 lo,.int .i64 hi,.int .i64 hd,.int .i64 ca,.int .i64 ut,.int .i64 wk]):=Z9 (by
  have k9:=Blk.new (w.alloc (.cells #[.slice a0 m.rooms.length p0,.slice a1 m.guilds.length p1,.slice (some ⟨sb,off,none⟩) m.smiths.length p2,.slice a3 m.desks.length p3,.slice a4 m.paces.length p4,.int .i64 m.now] 32)) 41 #[.int .i64 st,.int .i64 be,.int .i64 rk,.int .i64 my,.int .i64 gu,.int .i64 lo,.int .i64 hi,.int .i64 hd,.int .i64 ca,.int .i64 ut,.int .i64 wk]
  rw [World.size_alloc] at k9
  exact k9)
 have kb:Hid (Blk ((w.alloc (.cells #[.slice a0 m.rooms.length p0,.slice a1 m.guilds.length p1,.slice (some ⟨sb,off,none⟩) m.smiths.length p2,.slice a3 m.desks.length p3,.slice a4 m.paces.length p4,.int .i64 m.now] 32)).alloc (.cells #[.int .i64 st,.int .i64 be,.int .i64 rk,.int .i64 my,.int .i64 gu,.int .i64 lo,.int .i64 hi,.int .i64 hd,.int .i64 ca,.int .i64 ut,.int .i64 wk] 41)) w.heap.size 32 #[.slice a0 m.rooms.length p0,.slice a1 m.guilds.length p1,.slice (some ⟨sb,off,none⟩) m.smiths.length p2,.slice a3 m.desks.length p3,.slice a4 m.paces.length p4,.int .i64 m.now]):=Z9 ((Blk.new w _ _).alloc _)
 have Hg2:=Z9 ((uh Hg0).below (uh BB))
 go_enter Tryz.func32,Tryz.ntmps32
 go_upto_region 2 with fail
 generalize (w.alloc (.cells #[.slice a0 m.rooms.length p0,.slice a1 m.guilds.length p1,.slice (some ⟨sb,off,none⟩) m.smiths.length p2,.slice a3 m.desks.length p3,.slice a4 m.paces.length p4,.int .i64 m.now] 32)).alloc (.cells #[.int .i64 st,.int .i64 be,.int .i64 rk,.int .i64 my,.int .i64 gu,.int .i64 lo,.int .i64 hi,.int .i64 hd,.int .i64 ca,.int .i64 ut,.int .i64 wk] 41)=W at *
 clear d0 d1 d2 d3 d4 d5 d6 d7 d8 d9 d10
 have c1:=(uh kb).cell (i:=1) (v:= .slice a1 m.guilds.length p1) rfl
 have s4:=(uh ks).cell (i:=4) (v:= .int .i64 gu) rfl
 have s5:=(uh ks).cell (i:=5) (v:= .int .i64 lo) rfl
 have s6:=(uh ks).cell (i:=6) (v:= .int .i64 hi) rfl
 go_wp2_with fail
 refine (Pt gu lo hi (uh Hg2)).mono ?_
 rw [uh HW]
 rintro e w1 ⟨rfl,hb⟩
 replace ks:=bl ks hb
 replace BB:=bt BB hb
 clear hb c1 s4 s5 s6 HW
 have s9:=(uh ks).cell (i:=9) (v:= .int .i64 ut) rfl
 go_wp2_with (go_at_call 76;refine (TZ _ _ _ _).mono ?_;rintro e w' ⟨rfl,h9⟩;subst w')
 go_ret
 exact ⟨rfl,uh BB⟩
theorem KV {w:World} {v0 v1 v2 v3 v4:Value} {m:Z4} {k:Nat} (h:Smy w v0 v1 v2 v3 v4 m) (hL:Loose m) (hk:k<m.smiths.length) (hs:(Z8 m.smiths k).1 ≠ 0):Calls Tryz.prog 32 #[.agg #[v0,v1,v2,v3,v4,.int .i64 m.now],.int .i64 (k:Int)] w fun e w'=>e= .returned (.int .i64 (Zv m (k:Int)))/\Below w.heap.size w w':=MT h hL.wants hk hs
theorem Gz {m:Z4} (who:Int):WT m who=(Xz m.smiths.length who && !((Z8 m.smiths who.toNat).1 ==0)):=by unfold WT;rw [Ns]
theorem LQ {w:World} {v0 v1 v2 v3 v4:Value} {m:Z4} {who:Int} {q:Bool} (hq:WT m who=q) (h:Smy w v0 v1 v2 v3 v4 m):Calls Tryz.prog 31 #[.agg #[v0,v1,v2,v3,v4,.int .i64 m.now],.int .i64 who] w fun e w'=>e= .returned (.bool q)/\Below w.heap.size w w':=by
 rw [Gz] at hq
 have Hq:=Z9 hq
 clear hq
 obtain ⟨a0,p0,a1,p1,a2,p2,a3,p3,a4,p4,rfl,rfl,rfl,rfl,rfl,K⟩:=Bx.new h
 clear h
 go_enter Tryz.func31,Tryz.ntmps31
 go_wp2_with fail
 generalize w.alloc (.cells #[.slice a0 m.rooms.length p0,.slice a1 m.guilds.length p1,.slice a2 m.smiths.length p2,.slice a3 m.desks.length p3,.slice a4 m.paces.length p4,.int .i64 m.now] 32)=W at *
 obtain ⟨c0,c1,c2,c3,c4,c5⟩:=K.cells
 go_wp2_with fail
 refine (VL _ _ _ _ _ _ _ _ _ _ _ _ _ _ _ _ _).mono ?_
 rintro e w2 ⟨rfl,hb⟩
 replace K:=K.next hb
 clear hb c0 c1 c2 c3 c4 c5
 obtain ⟨qh,hqh⟩:∃ q,Xz m.smiths.length who=q:=⟨_,rfl⟩
 have Hh:=Z9 hqh
 clear hqh
 go_wp2_with fail
 refine (Nr _ _ _ who _).mono ?_
 rw [uh Hh]
 rintro e w3 ⟨rfl,h9⟩
 subst w3
 cases qh
 ·obtain rfl:q=false:=by rw [<-uh Hq,uh Hh];rfl
  go_wp2_with fail
  go_ret
  exact ⟨rfl,K.bb⟩
 have hwb:0<=who/\who<(m.smiths.length:Int):=by have:=uh Hh;unfold Xz at this;simpa using this
 obtain ⟨k,rfl⟩:∃ k:Nat,who=k:=⟨who.toNat,by omega⟩
 have hk:k<m.smiths.length:=by omega
 have hk1:(k:Int)<(m.smiths.length:Int):=by omega
 obtain ⟨_,_,hse,_,_,r2⟩:=K.smy.smiths
 cases hse
 rcases r2 with e0 | ⟨sb,off,rfl,hbw,hcl⟩
 ·rw [e0] at hk;simp at hk
 obtain ⟨d0,d1,d2,d3,d4,d5,d6,d7,d8,d9,d10⟩:=ZI hcl hk
 obtain ⟨_,_,c2,_,_,_⟩:=K.cells
 have HS:Hid (q= !((Z8 m.smiths k).1 ==0)):=Z9 (by rw [<-uh Hq,uh Hh,Int.toNat_natCast];rfl)
 clear hcl
 generalize Z8 m.smiths k=ss at *
 obtain ⟨st,be,rk,my,gu,lo,hi,hd,ca,ut,wk⟩:=ss
 simp only at d0 d1 d2 d3 d4 d5 d6 d7 d8 d9 d10
 go_wp2_with fail
 refine (Xd st be rk my gu lo hi hd ca ut wk _).mono ?_
 rintro e w4 ⟨rfl,hb⟩
 replace K:=K.next hb
 clear hb c2 d0 d1 d2 d3 d4 d5 d6 d7 d8 d9 d10
 obtain rfl:q= !(st ==0):=uh HS
 go_wp2_with fail
 go_ret
 exact ⟨rfl,K.bb⟩
theorem Ps {w:World} {v0 v1 v2 v3 v4:Value} {m:Z4} {who q:Int} (hq:XF m who=q) (h:Smy w v0 v1 v2 v3 v4 m):Calls Tryz.prog 10 #[.agg #[v0,v1,v2,v3,v4,.int .i64 m.now],.int .i64 who] w fun e w'=>e= .returned (.int .i64 q)/\Below w.heap.size w w':=by
 have Hq:=Z9 hq
 clear hq
 obtain ⟨ok,hok⟩:∃ q,ZO m=q:=⟨_,rfl⟩
 have Hok:=Z9 hok
 clear hok
 obtain ⟨a0,p0,a1,p1,a2,p2,a3,p3,a4,p4,rfl,rfl,rfl,rfl,rfl,K⟩:=Bx.new h
 clear h
 go_enter Tryz.func10,Tryz.ntmps10
 go_wp2_with fail
 generalize w.alloc (.cells #[.slice a0 m.rooms.length p0,.slice a1 m.guilds.length p1,.slice a2 m.smiths.length p2,.slice a3 m.desks.length p3,.slice a4 m.paces.length p4,.int .i64 m.now] 32)=W at *
 refine (WG _ _ _ _ _ _ _ _ (uh Hok) K.smy).mono ?_
 rintro e w1 ⟨rfl,hb⟩
 replace K:=K.next hb
 clear hb
 cases ok
 ·obtain rfl:q= -1:=by rw [<-uh Hq];unfold XF;rw [uh Hok];rfl
  go_wp2_with fail
  go_ret
  exact ⟨rfl,K.bb⟩
 obtain ⟨qh,hqh⟩:∃ q,WT m who=q:=⟨_,rfl⟩
 have Hh:=Z9 hqh
 clear hqh
 obtain ⟨c0,c1,c2,c3,c4,c5⟩:=K.cells
 go_wp2_with fail
 refine (LQ (uh Hh) K.smy).mono ?_
 rintro e w2 ⟨rfl,hb⟩
 replace K:=K.next hb
 clear hb c0 c1 c2 c3 c4 c5
 cases qh
 ·obtain rfl:q= -1:=by rw [<-uh Hq];unfold XF;rw [uh Hh];simp
  go_wp2_with fail
  go_ret
  exact ⟨rfl,K.bb⟩
 obtain ⟨k,rfl,hk,hs⟩:=X6 (uh Hh)
 obtain rfl:q=Zv m (k:Int):=by rw [<-uh Hq];unfold XF;rw [uh Hok,uh Hh];rfl
 obtain ⟨c0,c1,c2,c3,c4,c5⟩:=K.cells
 go_wp2_with fail
 refine (KV K.smy (ZW (uh Hok)) hk hs).mono ?_
 rintro e w3 ⟨rfl,hb⟩
 replace K:=K.next hb
 clear hb c0 c1 c2 c3 c4 c5
 go_wp2_with fail
 go_ret
 exact ⟨rfl,K.bb⟩
set_option maxRecDepth 100000
theorem KK {w:World} {v0 v1 v2 v3 v4:Value} {m:Z4} {b q:Int} (hq:Yn m b (-1)=q) (h:Smy w v0 v1 v2 v3 v4 m) (hW:Ff m) (hl:m.smiths.length<=12):Calls Tryz.prog 29 #[.agg #[v0,v1,v2,v3,v4,.int .i64 m.now],.int .i64 b] w fun e w'=>e= .returned (.int .i64 q)/\Below w.heap.size w w':=by
 have Hq:=Z9 hq
 clear hq
 have HW:=Z9 hW
 clear hW
 obtain ⟨a0,p0,a1,p1,a2,p2,a3,p3,a4,p4,rfl,rfl,rfl,rfl,rfl,K⟩:=Bx.new h
 clear h
 go_enter Tryz.func29,Tryz.ntmps29
 go_upto_region 2 with fail
 generalize w.alloc (.cells #[.slice a0 m.rooms.length p0,.slice a1 m.guilds.length p1,.slice a2 m.smiths.length p2,.slice a3 m.desks.length p3,.slice a4 m.paces.length p4,.int .i64 m.now] 32)=W at *
 obtain ⟨c0,c1,c2,c3,c4,c5⟩:=K.cells
 go_wp2_with fail
 refine (TW b K.smy (by omega)).mono ?_
 rintro e w1 ⟨vn,rfl,hn,hb⟩
 obtain ⟨na,nc,rfl⟩:=RecAt.shape hn
 have HN:=Z9 hn
 replace K:=K.next hb
 clear hb hn c0 c1 c2 c3 c4 c5
 have Hwh:=Z9 (fun k hk=>MW (m:=m) (b:=b) (k:=k) hk)
 have Hat:=Z9 (fun x hx=>(XD (atB b) m.smiths x m.smiths.length).1 hx)
 have hwl:=Xa (atB b) m.smiths m.smiths.length
 rw [<-KP] at Hq
 generalize ZX (atB b) m.smiths m.smiths.length=ws at *
 go_wp2_with fail
 go_loopw [5,12] (fun u i wr=> ∃ k:Nat,k<=ws.length/\i= .int .i64 k/\u= .int .i64 (VZ m (ws.take k))/\Bx w wr w.heap.size a0 p0 a1 p1 a2 p2 a3 p3 a4 p4 m/\Below w1.heap.size w1 wr) (fun _ i _=>ws.length-(intOf i).toNat)
 case atStart=>exact ⟨0,Nat.zero_le _,rfl,rfl,K,Below.refl _ _⟩
 case round=>
  obtain ⟨k,hk,rfl,rfl,hK,hb0⟩:=hrel
  clear K
  have K:=hK
  have BB:=Z9 hb0
  clear hK hb0
  have hub:=Jo m (ws.take k)
  have htl:(ws.take k).length<=ws.length:=by simp;omega
  by_cases hlt:k<ws.length
  ·have hlt1:(k:Int)<(ws.length:Int):=by omega
   obtain ⟨g,hga,_,hgl,hcl,_⟩:=RecAt.view YT (by omega) (uh HN) rfl (by omega)
   cases hga
   have z0:=hcl k hlt 0 _ rfl
   simp only [Nat.mul_one,Nat.add_zero] at z0
   have hgw:g<w1.heap.size:=hgl
   rw [<-(uh BB).cell (p:=⟨g,k,none⟩) hgw] at z0
   obtain ⟨i,hi,hiw⟩:=uh Hwh k hlt
   obtain ⟨_,_,hi2,hat⟩:=uh Hat _ (UR hlt)
   have hpi:(Z8 m.smiths i).1 ≠ 0:=by
    rw [hiw] at hi2
    obtain rfl:=Int.ofNat.inj hi2
    intro e
    unfold atB at hat
    rw [e] at hat
    simp at hat
   clear hcl hi2 hat
   have HS:Hid (VZ m (ws.take (k+1))=VZ m (ws.take k)+Zv m (i:Int)):=Z9 (by rw [IA m hlt,hiw])
   rw [hiw] at z0
   have hwb:=UX m (i:Int)
   have HC:=Z9 (fun (X:World) (hX:Smy X (.slice a0 m.rooms.length p0) (.slice a1 m.guilds.length p1) (.slice a2 m.smiths.length p2) (.slice a3 m.desks.length p3) (.slice a4 m.paces.length p4) m)=>MT hX (uh HW) hi hpi)
   generalize VZ m (ws.take k)=us at *
   generalize Zv m (i:Int)=wa at *
   have hgr:g<wr.heap.size:=Nat.lt_of_lt_of_le hgw (uh BB).size
   obtain ⟨c0,c1,c2,c3,c4,c5⟩:=K.cells
   go_wp2_with fail
   refine (uh HC _ K.smy).mono ?_
   rintro e w2 ⟨rfl,hb⟩
   replace K:=K.next hb
   replace BB:=bt BB hb
   clear hb c0 c1 c2 c3 c4 c5 z0
   have hlen12:(ws.length:Int)<=12:=by omega
   go_wp2_with fail
   go_roundw
   case rel=>exact ⟨k+1,by omega,by go_num,by rw [uh HS],K,uh BB⟩
   case measure=>simp [intOf];omega
  ·obtain rfl:k=ws.length:=by omega
   rw [List.take_length] at *
   obtain rfl:q=VZ m ws:=(uh Hq).symm
   go_wp2_with fail
   go_ret
   exact ⟨rfl,K.bb⟩
theorem Pr {w:World} {v0 v1 v2 v3 v4:Value} {m:Z4} {b q:Int} (hq:Xt m b=q) (h:Smy w v0 v1 v2 v3 v4 m):Calls Tryz.prog 8 #[.agg #[v0,v1,v2,v3,v4,.int .i64 m.now],.int .i64 b] w fun e w'=>e= .returned (.int .i64 q)/\Below w.heap.size w w':=by
 have Hq:=Z9 hq
 clear hq
 obtain ⟨ok,hok⟩:∃ q,ZO m=q:=⟨_,rfl⟩
 have Hok:=Z9 hok
 clear hok
 obtain ⟨a0,p0,a1,p1,a2,p2,a3,p3,a4,p4,rfl,rfl,rfl,rfl,rfl,K⟩:=Bx.new h
 clear h
 go_enter Tryz.func8,Tryz.ntmps8
 go_wp2_with fail
 generalize w.alloc (.cells #[.slice a0 m.rooms.length p0,.slice a1 m.guilds.length p1,.slice a2 m.smiths.length p2,.slice a3 m.desks.length p3,.slice a4 m.paces.length p4,.int .i64 m.now] 32)=W at *
 refine (WG _ _ _ _ _ _ _ _ (uh Hok) K.smy).mono ?_
 rintro e w1 ⟨rfl,hb⟩
 replace K:=K.next hb
 clear hb
 cases ok
 ·obtain rfl:q= -1:=by rw [<-uh Hq];unfold Xt;rw [uh Hok];rfl
  go_wp2_with fail
  go_ret
  exact ⟨rfl,K.bb⟩
 obtain ⟨c0,c1,c2,c3,c4,c5⟩:=K.cells
 go_wp2_with fail
 refine (Ll _ _ _ _ _ _ _ _ _ _ _ _ _ _ _ _ _).mono ?_
 rintro e w2 ⟨rfl,hb⟩
 replace K:=K.next hb
 clear hb c0 c1 c2 c3 c4 c5
 obtain ⟨qh,hqh⟩:∃ q,Xz m.desks.length b=q:=⟨_,rfl⟩
 have Hh:=Z9 hqh
 clear hqh
 go_wp2_with fail
 refine (Tv _ _ _ b _).mono ?_
 rw [uh Hh]
 rintro e w3 ⟨rfl,h9⟩
 subst w3
 cases qh
 ·obtain rfl:q= -1:=by rw [<-uh Hq];unfold Xt YZ;rw [<-Ns,uh Hh];simp
  go_wp2_with fail
  go_ret
  exact ⟨rfl,K.bb⟩
 obtain rfl:q=Yn m b (-1):=by rw [<-uh Hq];unfold Xt YZ;rw [<-Ns,uh Hh,uh Hok];rfl
 have HL:=Z9 (ZW (uh Hok))
 obtain ⟨c0,c1,c2,c3,c4,c5⟩:=K.cells
 go_wp2_with fail
 refine (KK rfl K.smy (uh HL).wants (PY (uh Hok))).mono ?_
 rintro e w4 ⟨rfl,hb⟩
 replace K:=K.next hb
 clear hb c0 c1 c2 c3 c4 c5
 go_wp2_with fail
 go_ret
 exact ⟨rfl,K.bb⟩
theorem Vr (x:Int) (w:World):Calls Tryz.prog 241 #[.int .i64 x] w fun e w'=>e= .returned (.bool (inB x 0 1000000))/\w'=w:=by
 go_enter Tryz.func241,Tryz.ntmps241
 go_wp2_with (go_at_call 77;refine (Z1 _ _ _ _).mono ?_;rintro e w' ⟨rfl,rfl⟩)
 go_ret
 exact ⟨rfl,rfl⟩
theorem Ub {w:World} {v:Value} {ps:List Z5} (b need:Int) (h:IsPaces w v ps) :
  Calls Tryz.prog 230 #[.agg #[.int .i64 b,v],.int .i64 need] w fun e w'=>e= .returned (.int .i64 (XL (b,ps) need))/\Below w.heap.size w w':=by
 have Hv:=Z9 h
 obtain ⟨a,cap,rfl,hc,hm,hrow⟩:=h
 clear hrow
 cases hr:Zp (b,ps)
 ·rw [Mk hr]
  go_enter Tryz.func230,Tryz.ntmps230
  go_wp2_with fail
  refine (YX b ((uh Hv).below ((Below.refl _ _).alloc (Nat.le_refl _) _))).mono ?_
  rintro e w1 ⟨rfl,hb⟩
  have B1:Hid (Below w.heap.size w w1):=Z9 (((Below.refl _ _).alloc (Nat.le_refl _) _).trans (hb.mono (by simp)))
  clear hb
  go_wp2_with fail
  go_ret
  exact ⟨rfl,uh B1⟩
 cases hn:inB need 0 1000000
 ·rw [Ml hn]
  go_enter Tryz.func230,Tryz.ntmps230
  go_wp2_with fail
  refine (YX b ((uh Hv).below ((Below.refl _ _).alloc (Nat.le_refl _) _))).mono ?_
  rintro e w1 ⟨rfl,hb⟩
  have B1:Hid (Below w.heap.size w w1):=Z9 (((Below.refl _ _).alloc (Nat.le_refl _) _).trans (hb.mono (by simp)))
  clear hb
  go_wp2_with (go_at_call 241;refine (Vr _ _).mono ?_;rintro e w' ⟨rfl,rfl⟩)
  go_ret
  exact ⟨rfl,uh B1⟩
 rw [Kf hr hn]
 have Hr:=Z9 hr
 have hn':=hn
 obtain ⟨n0,n1⟩:=ZU hn'
 clear hn'
 go_enter Tryz.func230,Tryz.ntmps230
 go_wp2_with fail
 refine (YX b ((uh Hv).below ((Below.refl _ _).alloc (Nat.le_refl _) _))).mono ?_
 rintro e w1 ⟨rfl,hb⟩
 have x1:w1.cell? ⟨w.heap.size,1,none⟩=some (.slice a ps.length cap):=(hb.cell (p:=⟨w.heap.size,1,none⟩) (by simp)).trans (by simp)
 have B1:Hid (Below w.heap.size w w1):=Z9 (((Below.refl _ _).alloc (Nat.le_refl _) _).trans (hb.mono (by simp)))
 clear hb
 have hv1:=(uh Hv).below (uh B1)
 obtain ⟨a',cap',he,_,_,hrow⟩:=hv1
 cases he
 have hbd:=ND (uh Hr)
 simp only at hbd
 obtain ⟨_,_,hl1,hl4⟩:=hbd
 rcases hrow with h0 | ⟨bk,off,rfl,hbw,hcl⟩
 ·rw [h0] at hl1;simp at hl1
 have Hcl:=Z9 hcl
 clear hcl
 go_wp2_with (go_at_call 241;refine (Vr _ _).mono ?_;rintro e w' ⟨rfl,rfl⟩)
 clear hr hn
 go_loop [5] (fun i=> ∃ k:Nat,k+1<=ps.length/\i= .int .i64 k/\(∀ j,j<k->S9 need (Z7 ps j)=false)) (fun i=>ps.length-(intOf i).toNat)
 case atStart=>exact ⟨0,by omega,rfl,fun j hj=>by omega⟩
 case round=>
  obtain ⟨k,hk,rfl,hlo⟩:=hrel
  have Hlo:=Z9 hlo
  clear hlo
  by_cases hlast:k+1=ps.length
  ·have Hp:=Z9 (PI need ps k hk (uh Hlo) (.inl hlast))
   have hd:¬ (k:Int)+1<(ps.length:Int):=by omega
   go_wp2_with fail
   go_ret
   exact ⟨Zx (by rw [uh Hp]),uh B1⟩
  ·have hd:(k:Int)+1<(ps.length:Int):=by omega
   obtain ⟨c0,c1⟩:=uh Hcl k (by omega)
   have hpb:=Oi (uh Hr) (k:=k) (show k<ps.length by omega)
   simp only at hpb
   generalize hp:Z7 ps k=p at c0 c1 hpb
   have Hp:=Z9 hp
   clear hp
   obtain ⟨f,c⟩:=p
   simp only at c0 c1 hpb
   obtain ⟨f0,f1,_,_⟩:=hpb
   by_cases hen:4*f<5*need
   ·go_wp2_with fail
    go_round
    case rel=>exact ⟨k+1,by omega,by go_num,YM (uh Hlo) (by rw [uh Hp];exact Fs hen)⟩
    case measure=>simp [intOf];omega
   ·have Hq:=Z9 (PI need ps k hk (uh Hlo) (.inr (by rw [uh Hp];exact Ft (by simp only;omega))))
    go_wp2_with fail
    go_ret
    exact ⟨Zx (by rw [uh Hq]),uh B1⟩
theorem QC {w:World} {v:Value} {ps:List Z5} (b pace work:Int) (h:IsPaces w v ps) :
  Calls Tryz.prog 251 #[.agg #[.int .i64 b,v],.int .i64 pace,.int .i64 work] w fun e w'=>e= .returned (.int .i64 (XK (b,ps) pace work))/\Below w.heap.size w w':=by
 have Hv:=Z9 h
 obtain ⟨a,cap,rfl,hc,hm,hrow⟩:=h
 clear hrow
 have hl:(ps.length:Int)<=9223372036854775807:=by omega
 cases hr:Zp (b,ps)
 ·rw [QU hr]
  go_enter Tryz.func251,Tryz.ntmps251
  go_wp2_with fail
  refine (YX b ((uh Hv).below ((Below.refl _ _).alloc (Nat.le_refl _) _))).mono ?_
  rintro e w1 ⟨rfl,hb⟩
  have B1:Hid (Below w.heap.size w w1):=Z9 (((Below.refl _ _).alloc (Nat.le_refl _) _).trans (hb.mono (by simp)))
  clear hb
  go_wp2_with fail
  go_ret
  exact ⟨rfl,uh B1⟩
 cases hn:inB work 0 1000000
 ·rw [QV hn]
  go_enter Tryz.func251,Tryz.ntmps251
  go_wp2_with fail
  refine (YX b ((uh Hv).below ((Below.refl _ _).alloc (Nat.le_refl _) _))).mono ?_
  rintro e w1 ⟨rfl,hb⟩
  have B1:Hid (Below w.heap.size w w1):=Z9 (((Below.refl _ _).alloc (Nat.le_refl _) _).trans (hb.mono (by simp)))
  clear hb
  go_wp2_with (go_at_call 241;refine (Vr _ _).mono ?_;rintro e w' ⟨rfl,rfl⟩)
  go_ret
  exact ⟨rfl,uh B1⟩
 cases hp:inB pace 0 ((ps.length:Int)-1)
 ·rw [QW hp]
  go_enter Tryz.func251,Tryz.ntmps251
  go_wp2_with fail
  refine (YX b ((uh Hv).below ((Below.refl _ _).alloc (Nat.le_refl _) _))).mono ?_
  rintro e w1 ⟨rfl,hb⟩
  have x1:w1.cell? ⟨w.heap.size,1,none⟩=some (.slice a ps.length cap):=(hb.cell (p:=⟨w.heap.size,1,none⟩) (by simp)).trans (by simp)
  have B1:Hid (Below w.heap.size w w1):=Z9 (((Below.refl _ _).alloc (Nat.le_refl _) _).trans (hb.mono (by simp)))
  clear hb
  go_wp2_with (first | (go_at_call 241;refine (Vr _ _).mono ?_;rintro e w' ⟨rfl,rfl⟩) | (go_at_call 77;refine (Z1 _ _ _ _).mono ?_;rintro e w' ⟨rfl,rfl⟩))
  go_ret
  exact ⟨rfl,uh B1⟩
 rw [Pb hr hn hp]
 have hpp:=ZU hp
 obtain ⟨hp0,hp1⟩:=hpp
 obtain ⟨k,rfl⟩:=Int.eq_ofNat_of_zero_le hp0
 have hk:k<ps.length:=by omega
 rw [Int.toNat_natCast]
 simp only
 generalize hpk:Z7 ps k=p
 have Hpk:=Z9 hpk
 clear hpk
 obtain ⟨f,c⟩:=p
 simp only
 go_enter Tryz.func251,Tryz.ntmps251
 go_wp2_with fail
 refine (YX b ((uh Hv).below ((Below.refl _ _).alloc (Nat.le_refl _) _))).mono ?_
 rintro e w1 ⟨rfl,hb⟩
 have x1:w1.cell? ⟨w.heap.size,1,none⟩=some (.slice a ps.length cap):=(hb.cell (p:=⟨w.heap.size,1,none⟩) (by simp)).trans (by simp)
 have B1:Hid (Below w.heap.size w w1):=Z9 (((Below.refl _ _).alloc (Nat.le_refl _) _).trans (hb.mono (by simp)))
 clear hb
 have hv1:=(uh Hv).below (uh B1)
 obtain ⟨a',cap',he,_,_,hrow⟩:=hv1
 cases he
 rcases hrow with h0 | ⟨bk,off,rfl,hbw,hcl⟩
 ·rw [h0] at hk;simp at hk
 obtain ⟨c0,c1⟩:=hcl k hk
 clear hcl
 rw [uh Hpk] at c0 c1
 simp only at c0 c1
 go_wp2_with (first | (go_at_call 241;refine (Vr _ _).mono ?_;rintro e w' ⟨rfl,rfl⟩) | (go_at_call 77;refine (Z1 _ _ _ _).mono ?_;rintro e w' ⟨rfl,rfl⟩))
 go_quiet (exact Calls.quiet_of_same (P5 _ _ _ _))
 go_wp2_with fail
 go_ret
 exact ⟨rfl,Xx (uh B1) _⟩
theorem Sn {w:World} {v:Value} {ps:List Z5} (b need work:Int) (h:IsPaces w v ps) :
  Calls Tryz.prog 249 #[.agg #[.int .i64 b,v],.int .i64 need,.int .i64 work] w fun e w'=>e= .returned (.int .i64 (Nv (b,ps) need work))/\Below w.heap.size w w':=by
 have Hv:=Z9 h
 obtain ⟨a,cap,rfl,hc,hm,hrow⟩:=h
 clear hrow
 have k0:=cell_regrown (w:=w.alloc (.cells #[.int .i64 b,.slice a ps.length cap] 116)) (a:=⟨w.heap.size,0,none⟩) (v:= .int .i64 b) (by simp)
 have k1:=cell_regrown (w:=w.alloc (.cells #[.int .i64 b,.slice a ps.length cap] 116)) (a:=⟨w.heap.size,1,none⟩) (v:= .slice a ps.length cap) (by simp)
 have Ha:Hid (IsPaces (w.alloc (.cells #[.int .i64 b,.slice a ps.length cap] 116)) (.slice a ps.length cap) ps):=Z9 ((uh Hv).below ((Below.refl _ _).alloc (Nat.le_refl _) _))
 go_enter Tryz.func249,Tryz.ntmps249
 go_wp2_with fail
 refine wp_region_quiet_below (by kernel_rfl) (by kernel_rfl) ?_
 repeat (go_big_quiet_step (first | exact Calls.regrown_of (Ub b need ((uh Ha).below (below_regrown _ _ _))) | exact Calls.regrown_of (QC b _ work ((uh Ha).below (below_regrown _ _ _)))))
 refine wpQuiet_nil ?_
 intro _ hw'
 obtain ⟨⟨dq,osq⟩,hw''⟩:=hw'
 subst hw''
 go_wp2_with fail
 go_ret
 exact ⟨rfl,((Below.refl _ _).alloc (Nat.le_refl _) _).trans ((below_regrown _ _ _).mono (by simp))⟩
set_option linter.unusedSimpArgs false
set_option maxRecDepth 100000
def Vl (rs:List Z0):Z4:=⟨rs,[],[],List.replicate (ZZ rs).toNat (true,-1,0),List.replicate rs.length 0,0⟩
set_option maxRecDepth 100000
theorem Gy {m:Z4} {who q:Int} (h:XF m who=q):q= -1\/(0<=q/\ZO m=true/\WT m who=true):=by
 subst h
 unfold XF
 by_cases hh:(ZO m && WT m who)=true
 ·right
  rw [if_pos hh]
  simp only [Bool.and_eq_true] at hh
  exact ⟨(UX m who).1,hh.1,hh.2⟩
 ·left;rw [if_neg hh]
def Yy (v0 v1 v2 v3 v4:Value) (qs:List (Z0 × Value)) (k:Nat):Prop:=v0.ownBlock=some k\/(∃ q ∈ qs,q.2.ownBlock=some k)\/v1.ownBlock=some k\/v2.ownBlock=some k\/v3.ownBlock=some k\/v4.ownBlock=some k
section
variable {n₀ : Nat} {w w' : World} {v0 v1 v2 v3 v4 : Value} {m : Z4} {qs : List (Z0 × Value)}
theorem FullSmy.own (h:FullSmy n₀ w v0 v1 v2 v3 v4 m qs) {k:Nat} (e:Yy v0 v1 v2 v3 v4 qs k):n₀<=k/\k<w.heap.size:=by
 rcases e with e | e | e | e | e | e
 ·exact h.hall.lt (.inl e)
 ·exact h.hall.lt (.inr e)
 ·exact RecAt.lt h.guilds e
 ·exact RecAt.lt h.smiths e
 ·exact RecAt.lt h.desks e
 ·exact RecAt.lt h.paces e
theorem FullSmy.keep (h:FullSmy n₀ w v0 v1 v2 v3 v4 m qs) (hs:∀ k,Yy v0 v1 v2 v3 v4 qs k->w'.heap[k]?=w.heap[k]?):FullSmy n₀ w' v0 v1 v2 v3 v4 m qs:=
 ⟨⟨XX h.hall.row (fun k e=>hs k (.inl e)),fun q hq=>XX (h.hall.paces q hq) (fun k e=>hs k (.inr (.inl ⟨q,hq,e⟩))),h.hall.off,h.hall.apart⟩,h.rooms,RecAt.same h.guilds fun k e=>hs k (.inr (.inr (.inl e))),RecAt.same h.smiths fun k e=>hs k (.inr (.inr (.inr (.inl e)))),RecAt.same h.desks fun k e=>hs k (.inr (.inr (.inr (.inr (.inl e))))),RecAt.same h.paces fun k e=>hs k (.inr (.inr (.inr (.inr (.inr e))))),h.h1,h.h2,h.h3,h.h4,h.a12,h.a13,h.a14,h.a23,h.a24,h.a34⟩
end
end Go.Proofs.YthbbahagpmdooaaGreat
