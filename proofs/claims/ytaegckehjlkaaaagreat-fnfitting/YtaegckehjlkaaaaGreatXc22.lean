/- Part 22 of what the proof rests on. No condition but those that a theorem names. -/
import Derived.Test.YtaegckehjlkaaaaGreatXc21
set_option maxHeartbeats 8000000
set_option maxRecDepth 100000
namespace Go.Proofs.YtaegckehjlkaaaaGreat
open Go.ChangeShapes Go.WideShapes Go.ChangeAt Go.RowKit Go.Sort
set_option linter.unusedVariables false
theorem FullSmy.set_off {n₀:Nat} {w:World} {v0 v1 v2 v3 v4:Value} {m:Z6} {qs:List (Z3 × Value)} (h:FullSmy n₀ w v0 v1 v2 v3 v4 m qs) {g:Nat} (ho:∀ k,(v0.ownBlock=some k\/(∃ q ∈ qs,q.2.ownBlock=some k)\/v1.ownBlock=some k\/v2.ownBlock=some k\/v3.ownBlock=some k\/v4.ownBlock=some k)->k ≠ g) (o:Nat) (u:Value):FullSmy n₀ (w.setCell ⟨g,o,none⟩ u) v0 v1 v2 v3 v4 m qs:=by
 have hne:∀ k,k ≠ g->(w.setCell ⟨g,o,none⟩ u).heap[k]?=w.heap[k]?:=fun k hk=>heap_setCell_other w _ k u hk
 exact ⟨h.hall.same2 fun k e=>hne k (ho k (by rcases e with e | e;exact .inl e;exact .inr (.inl e))),h.rooms,RecAt.same h.guilds fun k e=>hne k (ho k (.inr (.inr (.inl e)))),RecAt.same h.smiths fun k e=>hne k (ho k (.inr (.inr (.inr (.inl e))))),RecAt.same h.desks fun k e=>hne k (ho k (.inr (.inr (.inr (.inr (.inl e)))))),RecAt.same h.paces fun k e=>hne k (ho k (.inr (.inr (.inr (.inr (.inr e)))))),h.h1,h.h2,h.h3,h.h4,h.a12,h.a13,h.a14,h.a23,h.a24,h.a34⟩
theorem Yl (n₀:Nat) (w:World):FullSmy n₀ w (.slice none 0 0) (.slice none 0 0) (.slice none 0 0) (.slice none 0 0) (.slice none 0 0) X9 []:=by
 have hz:N1 (.slice none 0 0) (.slice none 0 0):=fun b e=>by cases e
 exact ⟨OwnHall.nil _ _,rfl,World.ownsRow_nil _ _ _ _,World.ownsRow_nil _ _ _ _,World.ownsRow_nil _ _ _ _,World.ownsRow_nil _ _ _ _,⟨hz,fun q hq=>by cases hq⟩,⟨hz,fun q hq=>by cases hq⟩,⟨hz,fun q hq=>by cases hq⟩,⟨hz,fun q hq=>by cases hq⟩,hz,hz,hz,hz,hz,hz⟩
def Wt (n₀:Nat) (M:Z6) (c:Int) (e:Ending) (w':World):Prop:=
 ∃ u0 u1 u2 u3 u4 qs,e= .returned (.tuple #[.agg #[u0,u1,u2,u3,u4,.int .i64 M.now],.int .i64 c])/\FullSmy n₀ w' u0 u1 u2 u3 u4 M qs
theorem Xr {w:World} {v0 v1 v2 v3 v4:Value} {m:Z6} {who:Int} {q:Bool} (hq:Yg m who=q) (h:Smy w v0 v1 v2 v3 v4 m) :
  Calls Tryz.prog 67 #[.agg #[v0,v1,v2,v3,v4,.int .i64 m.now],.int .i64 who] w fun e w'=>e= .returned (.bool q)/\Below w.heap.size w w':=by
 subst hq
 obtain ⟨a0,p0,rfl,_,_⟩:=IsRooms.shape h.rooms
 obtain ⟨a1,p1,rfl,_,_⟩:=IsRec.shape h.guilds
 obtain ⟨a2,p2,rfl,hc2,hm2,r2⟩:=h.smiths
 obtain ⟨a3,p3,rfl,_,_⟩:=IsRec.shape h.desks
 obtain ⟨a4,p4,rfl,_,_⟩:=IsRec.shape h.paces
 clear h
 have Ba:Hid (Below w.heap.size w (w.alloc (.cells #[.slice a0 m.rooms.length p0,.slice a1 m.guilds.length p1,.slice a2 m.smiths.length p2,.slice a3 m.desks.length p3,.slice a4 m.paces.length p4,.int .i64 m.now] 32))):=Z9 ((Below.refl _ _).alloc (Nat.le_refl _) _)
 cases hi:inB who 0 ((m.smiths.length:Int)-1)
 ·have hw:Yg m who=false:=by unfold Yg;rw [hi];rfl
  have Hi:=Z9 hi
  rw [hw]
  clear hi hw r2
  go_enter Tryz.func67,Tryz.ntmps67
  go_wp2_with (go_at_call 123;refine (Z0 _ _ _ _).mono ?_;rw [uh Hi];rintro e w' ⟨rfl,h9⟩;subst w')
  go_ret
  exact ⟨rfl,uh Ba⟩
 ·obtain ⟨i0,i1⟩:=ZV hi
  obtain ⟨k,rfl⟩:∃ k:Nat,who=k:=⟨who.toNat,by omega⟩
  have hk:k<m.smiths.length:=by omega
  have hw:Yg m (k:Int)= !((Z8 m.smiths k).1 ==0):=by unfold Yg;rw [hi];simp
  rcases r2 with e0 | ⟨sb,off,rfl,hbw,hcl⟩
  ·rw [e0] at hk;simp at hk
  obtain ⟨d0,_⟩:=ZE hcl hk
  have Hi:=Z9 hi
  rw [hw]
  clear hi hw hcl
  have hk1:(k:Int)<(m.smiths.length:Int):=by omega
  generalize (Z8 m.smiths k).1=st at *
  go_enter Tryz.func67,Tryz.ntmps67
  go_wp2_with (go_at_call 123;refine (Z0 _ _ _ _).mono ?_;rw [uh Hi];rintro e w' ⟨rfl,h9⟩;subst w')
  go_ret
  exact ⟨rfl,uh Ba⟩
set_option maxRecDepth 100000
theorem Ik {m:Z6} (h:Loose m) {k:Nat} (hk:k<m.smiths.length) (hs:(Z8 m.smiths k).1 ≠ 0):Tp m k:=by
 have key:=D4 h hk hs
 exact ⟨hk,hs,key.1,key.2⟩
theorem VA {w:World} {v0 v1 v2 v3 v4:Value} {m:Z6} {who b:Int} {q:Bool} (hq:VJ m who b=q) (h:Smy w v0 v1 v2 v3 v4 m):Calls Tryz.prog 31 #[.agg #[v0,v1,v2,v3,v4,.int .i64 m.now],.int .i64 who,.int .i64 b] w fun e w'=>e= .returned (.bool q)/\Below w.heap.size w w':=by
 have Hq:=Z9 hq
 clear hq
 obtain ⟨ok,hok⟩:∃ q,ZS m=q:=⟨_,rfl⟩
 have Hok:=Z9 hok
 clear hok
 obtain ⟨a0,p0,a1,p1,a2,p2,a3,p3,a4,p4,rfl,rfl,rfl,rfl,rfl,K⟩:=Bx.new h
 clear h
 go_enter Tryz.func31,Tryz.ntmps31
 go_wp2_with fail
 generalize w.alloc (.cells #[.slice a0 m.rooms.length p0,.slice a1 m.guilds.length p1,.slice a2 m.smiths.length p2,.slice a3 m.desks.length p3,.slice a4 m.paces.length p4,.int .i64 m.now] 32)=W at *
 refine (Zd (uh Hok) K.smy).mono ?_
 rintro e w1 ⟨rfl,hb⟩
 replace K:=K.next hb
 clear hb
 cases ok
 ·obtain rfl:q=false:=by rw [<-uh Hq];unfold VJ;rw [uh Hok];simp
  go_wp2_with fail
  go_ret
  exact ⟨rfl,K.bb⟩
 obtain ⟨qw,hqw⟩:∃ q,Yg m who=q:=⟨_,rfl⟩
 have Hw:=Z9 hqw
 clear hqw
 obtain ⟨c0,c1,c2,c3,c4,c5⟩:=K.cells
 go_wp2_with fail
 refine (Xr (uh Hw) K.smy).mono ?_
 rintro e w2 ⟨rfl,hb⟩
 replace K:=K.next hb
 clear hb c0 c1 c2 c3 c4 c5
 cases qw
 ·obtain rfl:q=false:=by rw [<-uh Hq];unfold VJ;rw [uh Hw];simp
  go_wp2_with fail
  go_ret
  exact ⟨rfl,K.bb⟩
 obtain ⟨qb,hqb⟩:∃ q,Yq m b=q:=⟨_,rfl⟩
 have Hb:=Z9 hqb
 clear hqb
 obtain ⟨c0,c1,c2,c3,c4,c5⟩:=K.cells
 go_wp2_with fail
 refine (UU (uh Hb) K.smy).mono ?_
 rintro e w3 ⟨rfl,hb⟩
 replace K:=K.next hb
 clear hb c0 c1 c2 c3 c4 c5
 cases qb
 ·obtain rfl:q=false:=by rw [<-uh Hq];unfold VJ;rw [uh Hb];simp
  go_wp2_with fail
  go_ret
  exact ⟨rfl,K.bb⟩
 obtain ⟨k,rfl,hk,hs⟩:=Yz (uh Hw)
 have hbb:0<=b/\b<(m.desks.length:Int):=by have:=ZV (show inB b 0 ((m.desks.length:Int)-1)=true from uh Hb);omega
 obtain ⟨bn,rfl⟩:∃ bn:Nat,b=bn:=⟨b.toNat,by omega⟩
 have hlt:bn<m.desks.length:=by omega
 obtain rfl:q=Zw m (k:Int) bn:=by rw [<-uh Hq];unfold VJ;rw [uh Hok,uh Hw,uh Hb,Int.toNat_natCast];rfl
 have HA:=Z9 (Ik (ZZ (uh Hok)) hk hs)
 have h8:=(ZZ (uh Hok)).sane.eight
 obtain ⟨c0,c1,c2,c3,c4,c5⟩:=K.cells
 go_wp2_with fail
 refine (UY K.smy hk hlt (by omega) (uh HA).y0 (uh HA).y1).mono ?_
 rintro e w4 ⟨rfl,hb⟩
 replace K:=K.next hb
 clear hb c0 c1 c2 c3 c4 c5
 go_wp2_with fail
 go_ret
 exact ⟨rfl,K.bb⟩
theorem PS {w:World} {v0 v1 v2 v3 v4:Value} {m:Z6} {who:Int} {q:List Int} (hq:Zp m who=q) (h:Smy w v0 v1 v2 v3 v4 m):Calls Tryz.prog 29 #[.agg #[v0,v1,v2,v3,v4,.int .i64 m.now],.int .i64 who] w fun e w'=> ∃ v',e= .returned v'/\NumsAt w.heap.size w' v' q/\Below w.heap.size w w':=by
 have Hq:=Z9 hq
 clear hq
 obtain ⟨ok,hok⟩:∃ q,ZS m=q:=⟨_,rfl⟩
 have Hok:=Z9 hok
 clear hok
 obtain ⟨a0,p0,a1,p1,a2,p2,a3,p3,a4,p4,rfl,rfl,rfl,rfl,rfl,K⟩:=Bx.new h
 clear h
 go_enter Tryz.func29,Tryz.ntmps29
 go_wp2_with fail
 generalize w.alloc (.cells #[.slice a0 m.rooms.length p0,.slice a1 m.guilds.length p1,.slice a2 m.smiths.length p2,.slice a3 m.desks.length p3,.slice a4 m.paces.length p4,.int .i64 m.now] 32)=W at *
 refine (Zd (uh Hok) K.smy).mono ?_
 rintro e w1 ⟨rfl,hb⟩
 replace K:=K.next hb
 clear hb
 cases ok
 ·obtain rfl:q=[]:=by rw [<-uh Hq];unfold Zp;rw [uh Hok];simp
  go_wp2_with fail
  go_ret
  have hE:NumsAt w.heap.size (w1.alloc (.cells #[] 2)) (.slice (some ⟨w1.heap.size,0,none⟩) 0 0) []:=YZ rfl K.bb.size
  exact ⟨_,rfl,hE,K.bb.alloc K.bb.size _⟩
 obtain ⟨qw,hqw⟩:∃ q,Yg m who=q:=⟨_,rfl⟩
 have Hw:=Z9 hqw
 clear hqw
 obtain ⟨c0,c1,c2,c3,c4,c5⟩:=K.cells
 go_wp2_with fail
 refine (Xr (uh Hw) K.smy).mono ?_
 rintro e w2 ⟨rfl,hb⟩
 replace K:=K.next hb
 clear hb c0 c1 c2 c3 c4 c5
 cases qw
 ·obtain rfl:q=[]:=by rw [<-uh Hq];unfold Zp;rw [uh Hw];simp
  go_wp2_with fail
  go_ret
  have hE:NumsAt w.heap.size (w2.alloc (.cells #[] 2)) (.slice (some ⟨w2.heap.size,0,none⟩) 0 0) []:=YZ rfl K.bb.size
  exact ⟨_,rfl,hE,K.bb.alloc K.bb.size _⟩
 obtain ⟨k,rfl,hk,hs⟩:=Yz (uh Hw)
 obtain rfl:q=Zn m (k:Int):=by rw [<-uh Hq];unfold Zp;rw [uh Hok,uh Hw];rfl
 have HA:=Z9 (Ik (ZZ (uh Hok)) hk hs)
 have HS:=Z9 (ZZ (uh Hok)).sane
 obtain ⟨c0,c1,c2,c3,c4,c5⟩:=K.cells
 go_wp2_with fail
 refine (UX K.smy (uh HS) (uh HA)).mono ?_
 rintro e w4 ⟨v9,rfl,hn,hb⟩
 have hn9:NumsAt w.heap.size w4 v9 (Zn m (k:Int)):=RecAt.mono hn K.bb.size
 clear hn
 replace K:=K.next hb
 clear hb c0 c1 c2 c3 c4 c5
 obtain ⟨na,nc,rfl⟩:=RecAt.shape hn9
 have HN:=Z9 hn9
 clear hn9
 go_wp2_with fail
 go_ret
 exact ⟨_,rfl,uh HN,K.bb⟩
theorem Tk {w:World} {v0 v1 v2 v3 v4:Value} {m:Z6}  {q:Bool} (hq:Yo m=q) (h:Smy w v0 v1 v2 v3 v4 m):Calls Tryz.prog 41 #[.agg #[v0,v1,v2,v3,v4,.int .i64 m.now]] w fun e w'=>e= .returned (.bool q)/\Below w.heap.size w w':=by
 have Hq:=Z9 hq
 clear hq
 obtain ⟨ok,hok⟩:∃ q,ZS m=q:=⟨_,rfl⟩
 have Hok:=Z9 hok
 clear hok
 obtain ⟨a0,p0,a1,p1,a2,p2,a3,p3,a4,p4,rfl,rfl,rfl,rfl,rfl,K⟩:=Bx.new h
 clear h
 go_enter Tryz.func41,Tryz.ntmps41
 go_wp2_with fail
 generalize w.alloc (.cells #[.slice a0 m.rooms.length p0,.slice a1 m.guilds.length p1,.slice a2 m.smiths.length p2,.slice a3 m.desks.length p3,.slice a4 m.paces.length p4,.int .i64 m.now] 32)=W at *
 refine (Zd (uh Hok) K.smy).mono ?_
 rintro e w1 ⟨rfl,hb⟩
 replace K:=K.next hb
 clear hb
 cases ok
 ·obtain rfl:q=false:=by rw [<-uh Hq];unfold Yo;rw [uh Hok];simp
  go_wp2_with fail
  go_ret
  exact ⟨rfl,K.bb⟩
 obtain rfl:q=XV m:=by rw [<-uh Hq];unfold Yo;rw [uh Hok];rfl
 have HS:=Z9 (ZZ (uh Hok)).sane
 obtain ⟨c0,c1,c2,c3,c4,c5⟩:=K.cells
 go_wp2_with fail
 refine (UW K.smy (uh HS)).mono ?_
 rintro e w2 ⟨rfl,hb⟩
 replace K:=K.next hb
 clear hb c0 c1 c2 c3 c4 c5
 go_wp2_with fail
 go_ret
 exact ⟨rfl,K.bb⟩
theorem O6 {w:World} {v0 v1 v2 v3 v4:Value} {m:Z6} {who:Int} {q:Int} (hq:Yk m who=q) (h:Smy w v0 v1 v2 v3 v4 m):Calls Tryz.prog 40 #[.agg #[v0,v1,v2,v3,v4,.int .i64 m.now],.int .i64 who] w fun e w'=>e= .returned (.int .i64 q)/\Below w.heap.size w w':=by
 have Hq:=Z9 hq
 clear hq
 obtain ⟨ok,hok⟩:∃ q,ZS m=q:=⟨_,rfl⟩
 have Hok:=Z9 hok
 clear hok
 obtain ⟨a0,p0,a1,p1,a2,p2,a3,p3,a4,p4,rfl,rfl,rfl,rfl,rfl,K⟩:=Bx.new h
 clear h
 go_enter Tryz.func40,Tryz.ntmps40
 go_wp2_with fail
 generalize w.alloc (.cells #[.slice a0 m.rooms.length p0,.slice a1 m.guilds.length p1,.slice a2 m.smiths.length p2,.slice a3 m.desks.length p3,.slice a4 m.paces.length p4,.int .i64 m.now] 32)=W at *
 refine (Zd (uh Hok) K.smy).mono ?_
 rintro e w1 ⟨rfl,hb⟩
 replace K:=K.next hb
 clear hb
 cases ok
 ·obtain rfl:q= -1:=by rw [<-uh Hq];unfold Yk;rw [uh Hok];simp
  go_wp2_with fail
  go_ret
  exact ⟨rfl,K.bb⟩
 obtain ⟨qw,hqw⟩:∃ q,Yg m who=q:=⟨_,rfl⟩
 have Hw:=Z9 hqw
 clear hqw
 obtain ⟨c0,c1,c2,c3,c4,c5⟩:=K.cells
 go_wp2_with fail
 refine (Xr (uh Hw) K.smy).mono ?_
 rintro e w2 ⟨rfl,hb⟩
 replace K:=K.next hb
 clear hb c0 c1 c2 c3 c4 c5
 cases qw
 ·obtain rfl:q= -1:=by rw [<-uh Hq];unfold Yk;rw [uh Hw];simp
  go_wp2_with fail
  go_ret
  exact ⟨rfl,K.bb⟩
 obtain ⟨k,rfl,hk,hs⟩:=Yz (uh Hw)
 obtain rfl:q=Zr m (k:Int):=by rw [<-uh Hq];unfold Yk;rw [uh Hok,uh Hw];rfl
 have HA:=Z9 (Ik (ZZ (uh Hok)) hk hs)
 have HS:=Z9 (ZZ (uh Hok)).sane
 have hp:=(WZ (ZZ (uh Hok))).nums
 obtain ⟨c0,c1,c2,c3,c4,c5⟩:=K.cells
 go_wp2_with fail
 refine (Xm K.smy (uh HS) hp (uh HA)).mono ?_
 rintro e w3 ⟨rfl,hb⟩
 replace K:=K.next hb
 clear hb c0 c1 c2 c3 c4 c5
 go_wp2_with fail
 go_ret
 exact ⟨rfl,K.bb⟩
theorem JW {m:Z6} {who:Int} (h:YV m who= -1):Yk m who= -1:=by
 unfold Yk
 unfold YV at h
 have hb:=(Wr m who).1
 cases hc:(ZS m && Yg m who)
 ·rfl
 ·rw [hc,if_pos rfl] at h;omega
theorem CL {m:Z6} {who:Int} (h:ZS m=true) (hw:Yg m who=true) {b:Nat} (hb:b<m.desks.length):VJ m who (b:Int)=Zw m who b:=by
 unfold VJ Yq
 rw [h,hw,Zq (by omega) (by omega),Int.toNat_natCast]
 rfl
theorem MP {m:Z6} {who:Int} (h:ZS m=true) (hw:Yg m who=true):Yk m who=Zr m who:=by unfold Yk;rw [h,hw];rfl
theorem DD {m:Z6} {who:Int} (h:ZS m=true) (hw:Yg m who=true):Zp m who=Zn m who:=by unfold Zp;rw [h,hw];rfl
theorem Oe {m:Z6} (h:ZS m=true):Yo m=XV m:=by unfold Yo;rw [h];rfl
theorem Fc {m:Z6} (h:ZS m=false):Yo m=false:=by unfold Yo;rw [h];rfl
theorem F6 {m:Z6} {k:Nat} (hk:k<m.smiths.length) (b:Nat):Yi (ZA m (b:Int) (-1)-OQ m k (b:Int)) (Zx m.rooms (b:Int))=YR m (k:Int) b:=by unfold YR;rw [EN m hk]
theorem DV {m:Z6} {k:Nat} (h:ZS m=true) (hw:Yg m (k:Int)=true) (hc:Yo m=false) {fs:List Int} (hf:Zp m (k:Int)=fs) (hl:0<fs.length) {c:Int} (hv:Yk m (k:Int)=c):decide (c ∈ fs)=true/\Zi m (k:Int) c=ZX m (k:Int) c/\ ∀ j,j<fs.length->Zi m (k:Int) (Z8 fs j)=ZX m (k:Int) (Z8 fs j)/\ZX m (k:Int) c<=ZX m (k:Int) (Z8 fs j)/\(ZX m (k:Int) (Z8 fs j)=ZX m (k:Int) c->c=(Z8 m.smiths k).2.1\/(Z8 fs j ≠ (Z8 m.smiths k).2.1/\c<=Z8 fs j)):=by
 rw [MP h hw] at hv
 rw [Oe h] at hc
 have hF:=hf
 rw [DD h hw] at hf
 subst hf
 obtain ⟨h1,h2⟩:=DC hc hl
 rw [hv,Int.toNat_natCast] at h2
 rw [hv] at h1
 refine ⟨decide_eq_true h1,On (by rw [hF];exact h1),fun j hj=>⟨On (by rw [hF];exact Xn hj),h2 _ (Xn hj)⟩⟩
theorem DW {m:Z6} {k:Nat} (h:ZS m=true) (hw:Yg m (k:Int)=true) {fs:List Int} (hf:Zp m (k:Int)=fs) (hc:Yo m=true\/fs.length=0) {c:Int} (hv:Yk m (k:Int)=c):(c= -1/\(List.range m.desks.length).any (Zw m (k:Int))=false)\/ ∃ cn:Nat,c=(cn:Int)/\cn<m.desks.length/\Zw m (k:Int) cn=true/\(List.range m.desks.length).any (Zw m (k:Int))=true/\ ∀ b,b<m.desks.length->Zw m (k:Int) b=true->YR m (k:Int) b<=YR m (k:Int) cn/\(YR m (k:Int) b=YR m (k:Int) cn->cn<=b):=by
 rw [MP h hw] at hv
 rw [DD h hw] at hf
 rw [Oe h,<-hf] at hc
 rcases Fe hc with ⟨e,hn⟩ | ⟨cn,hcn,e,h1,h2⟩
 ·left
  refine ⟨hv.symm.trans e,?_⟩
  rw [List.any_eq_false]
  intro b hb
  rw [hn b (List.mem_range.1 hb)]
  simp
 ·right
  exact ⟨cn,hv.symm.trans e,hcn,h1,List.any_eq_true.2 ⟨cn,List.mem_range.2 hcn,h1⟩,h2⟩
set_option maxRecDepth 100000
theorem Um {w:World} {v0 v1 v2 v3 v4:Value} {m:Z6} {who b q:Int} (hq:Zi m who b=q) (h:Smy w v0 v1 v2 v3 v4 m):Calls Tryz.prog 43 #[.agg #[v0,v1,v2,v3,v4,.int .i64 m.now],.int .i64 who,.int .i64 b] w fun e w'=>e= .returned (.int .i64 q)/\Below w.heap.size w w':=by
 have Hq:=Z9 hq
 clear hq
 obtain ⟨ok,hok⟩:∃ q,ZS m=q:=⟨_,rfl⟩
 have Hok:=Z9 hok
 clear hok
 obtain ⟨a0,p0,a1,p1,a2,p2,a3,p3,a4,p4,rfl,rfl,rfl,rfl,rfl,K⟩:=Bx.new h
 clear h
 go_enter Tryz.func43,Tryz.ntmps43
 go_wp2_with fail
 generalize w.alloc (.cells #[.slice a0 m.rooms.length p0,.slice a1 m.guilds.length p1,.slice a2 m.smiths.length p2,.slice a3 m.desks.length p3,.slice a4 m.paces.length p4,.int .i64 m.now] 32)=W at *
 refine (Zd (uh Hok) K.smy).mono ?_
 rintro e w1 ⟨rfl,hb⟩
 replace K:=K.next hb
 clear hb
 cases ok
 ·obtain rfl:q= -1:=by rw [<-uh Hq];unfold Zi;rw [uh Hok];simp
  go_wp2_with fail
  go_ret
  exact ⟨rfl,K.bb⟩
 obtain ⟨qw,hqw⟩:∃ q,Yg m who=q:=⟨_,rfl⟩
 have Hw:=Z9 hqw
 clear hqw
 obtain ⟨c0,c1,c2,c3,c4,c5⟩:=K.cells
 go_wp2_with fail
 refine (Xr (uh Hw) K.smy).mono ?_
 rintro e w2 ⟨rfl,hb⟩
 replace K:=K.next hb
 clear hb c0 c1 c2 c3 c4 c5
 cases qw
 ·obtain rfl:q= -1:=by rw [<-uh Hq];unfold Zi;rw [uh Hw];simp
  go_wp2_with fail
  go_ret
  exact ⟨rfl,K.bb⟩
 obtain ⟨qb,hqb⟩:∃ q,Yq m b=q:=⟨_,rfl⟩
 have Hb:=Z9 hqb
 clear hqb
 obtain ⟨c0,c1,c2,c3,c4,c5⟩:=K.cells
 go_wp2_with fail
 refine (UU (uh Hb) K.smy).mono ?_
 rintro e w3 ⟨rfl,hb⟩
 replace K:=K.next hb
 clear hb c0 c1 c2 c3 c4 c5
 have HO:Hid (Wi m b=(Yq m b && (Z8 m.desks b.toNat).1)):=Z9 (by unfold Wi Yq;rw [IE])
 cases qb
 ·obtain rfl:q= -1:=by rw [<-uh Hq];unfold Zi;rw [uh HO,uh Hb];simp
  go_wp2_with fail
  go_ret
  exact ⟨rfl,K.bb⟩
 obtain ⟨k,rfl,hk,hs⟩:=Yz (uh Hw)
 have hbb:0<=b/\b<(m.desks.length:Int):=by have:=ZV (show inB b 0 ((m.desks.length:Int)-1)=true from uh Hb);omega
 obtain ⟨bn,rfl⟩:∃ bn:Nat,b=bn:=⟨b.toNat,by omega⟩
 have hlt:bn<m.desks.length:=by omega
 have hlt1:(bn:Int)<(m.desks.length:Int):=by omega
 obtain ⟨_,_,hde,_,_,r3⟩:=K.smy.desks
 cases hde
 rcases r3 with e0 | ⟨db,off,rfl,hbw,hcl⟩
 ·rw [e0] at hlt;simp at hlt
 obtain ⟨d0,_,_⟩:=Zf hcl hlt
 clear hcl
 obtain ⟨op,hop⟩:∃ o,(Z8 m.desks bn).1=o:=⟨_,rfl⟩
 have Hop:=Z9 hop
 rw [hop] at d0
 clear hop
 obtain ⟨c0,c1,c2,c3,c4,c5⟩:=K.cells
 cases op
 ·obtain rfl:q= -1:=by rw [<-uh Hq];unfold Zi;rw [uh HO,Int.toNat_natCast,uh Hop];simp
  go_wp2_with fail
  go_ret
  exact ⟨rfl,K.bb⟩
 obtain rfl:q=ZX m (k:Int) (bn:Int):=by rw [<-uh Hq];unfold Zi;rw [uh Hok,uh Hw,uh HO,uh Hb,Int.toNat_natCast,uh Hop];rfl
 have HS:=Z9 (ZZ (uh Hok)).sane
 have hp:=(WZ (ZZ (uh Hok))).nums
 go_wp2_with fail
 refine (SQ (bn:Int) K.smy (uh HS) hp hk hs).mono ?_
 rintro e w4 ⟨rfl,hb⟩
 replace K:=K.next hb
 clear hb c0 c1 c2 c3 c4 c5
 go_wp2_with fail
 go_ret
 exact ⟨rfl,K.bb⟩
theorem SZ {w:World} {v0 v1 v2 v3 v4:Value} {m:Z6} {q:Bool} (hq:ZS m=q) (h:Smy w v0 v1 v2 v3 v4 m):Calls Tryz.prog 21 #[.agg #[v0,v1,v2,v3,v4,.int .i64 m.now]] w fun e w'=>e= .returned (.bool q)/\Below w.heap.size w w':=by
 have:=Un h;rw [hq] at this;exact this
set_option maxRecDepth 100000
theorem S0 {w:World} {v0 v1 v2 v3 v4:Value} {m:Z6} {who q:Int} (hq:YV m who=q) (h:Smy w v0 v1 v2 v3 v4 m):Calls Tryz.prog 19 #[.agg #[v0,v1,v2,v3,v4,.int .i64 m.now],.int .i64 who] w fun e w'=>e= .returned (.int .i64 q)/\Below w.heap.size w w':=by
 have Hq:=Z9 hq
 clear hq
 have Hv:=Z9 (h.alloc (.cells #[v0,v1,v2,v3,v4,.int .i64 m.now] 32))
 obtain ⟨a0,p0,a1,p1,a2,p2,a3,p3,a4,p4,rfl,rfl,rfl,rfl,rfl,_,_,_,_,_,_,_,_,_,_⟩:=h.five
 clear h
 have kb:Hid (Blk (w.alloc (.cells #[.slice a0 m.rooms.length p0,.slice a1 m.guilds.length p1,.slice a2 m.smiths.length p2,.slice a3 m.desks.length p3,.slice a4 m.paces.length p4,.int .i64 m.now] 32)) w.heap.size 32 #[.slice a0 m.rooms.length p0,.slice a1 m.guilds.length p1,.slice a2 m.smiths.length p2,.slice a3 m.desks.length p3,.slice a4 m.paces.length p4,.int .i64 m.now]):=Z9 (Blk.new w _ _)
 have BB:Hid (Below w.heap.size w (w.alloc (.cells #[.slice a0 m.rooms.length p0,.slice a1 m.guilds.length p1,.slice a2 m.smiths.length p2,.slice a3 m.desks.length p3,.slice a4 m.paces.length p4,.int .i64 m.now] 32))):=Z9 ((Below.refl _ _).alloc (Nat.le_refl _) _)
 obtain ⟨ok,hok⟩:∃ q,ZS m=q:=⟨_,rfl⟩
 have Hok:=Z9 hok
 clear hok
 go_enter Tryz.func19,Tryz.ntmps19
 go_wp2_with fail
 generalize w.alloc (.cells #[.slice a0 m.rooms.length p0,.slice a1 m.guilds.length p1,.slice a2 m.smiths.length p2,.slice a3 m.desks.length p3,.slice a4 m.paces.length p4,.int .i64 m.now] 32)=W at *
 refine (SZ (uh Hok) (uh Hv)).mono ?_
 rintro e w1 ⟨rfl,hb⟩
 replace Hv:=Z9 ((uh Hv).below hb)
 replace kb:=bl kb hb
 replace BB:=bt BB hb
 clear hb
 cases ok
 ·obtain rfl:q= -1:=by rw [<-uh Hq];unfold YV;rw [uh Hok];rfl
  go_wp2_with fail
  go_ret
  exact ⟨rfl,uh BB⟩
 obtain ⟨qw,hqw⟩:∃ q,Yg m who=q:=⟨_,rfl⟩
 have Hw:=Z9 hqw
 clear hqw
 obtain ⟨c0,c1,c2,c3,c4,c5⟩:=(uh kb).c6
 go_wp2_with fail
 refine (Xr (uh Hw) (uh Hv)).mono ?_
 rintro e w2 ⟨rfl,hb⟩
 replace Hv:=Z9 ((uh Hv).below hb)
 replace kb:=bl kb hb
 replace BB:=bt BB hb
 clear hb c0 c1 c2 c3 c4 c5
 cases qw
 ·obtain rfl:q= -1:=by rw [<-uh Hq];unfold YV;rw [uh Hw];simp
  go_wp2_with fail
  go_ret
  exact ⟨rfl,uh BB⟩
 obtain ⟨k,rfl,hk,hs⟩:=Yz (uh Hw)
 obtain rfl:q=ZI m (k:Int):=by rw [<-uh Hq];unfold YV;rw [uh Hw,uh Hok];rfl
 have HS:=Z9 (ZZ (uh Hok)).sane
 obtain ⟨c0,c1,c2,c3,c4,c5⟩:=(uh kb).c6
 go_wp2_with fail
 refine (UC (uh Hv) (uh HS).guilded.guilds hk ((uh HS).guilded.lo k hk hs) ((uh HS).guilded.hi k hk hs)).mono ?_
 rintro e w3 ⟨rfl,hb⟩
 replace Hv:=Z9 ((uh Hv).below hb)
 replace kb:=bl kb hb
 replace BB:=bt BB hb
 clear hb c0 c1 c2 c3 c4 c5
 go_wp2_with fail
 go_ret
 exact ⟨rfl,uh BB⟩
theorem Wl {w:World} {v0 v1 v2 v3 v4:Value} {m:Z6} {b q:Int} (hq:UM m b=q) (h:Smy w v0 v1 v2 v3 v4 m):Calls Tryz.prog 18 #[.agg #[v0,v1,v2,v3,v4,.int .i64 m.now],.int .i64 b] w fun e w'=>e= .returned (.int .i64 q)/\Below w.heap.size w w':=by
 have Hq:=Z9 hq
 clear hq
 have Hv:=Z9 (h.alloc (.cells #[v0,v1,v2,v3,v4,.int .i64 m.now] 32))
 obtain ⟨a0,p0,a1,p1,a2,p2,a3,p3,a4,p4,rfl,rfl,rfl,rfl,rfl,_,_,_,_,_,_,_,_,_,_⟩:=h.five
 clear h
 have kb:Hid (Blk (w.alloc (.cells #[.slice a0 m.rooms.length p0,.slice a1 m.guilds.length p1,.slice a2 m.smiths.length p2,.slice a3 m.desks.length p3,.slice a4 m.paces.length p4,.int .i64 m.now] 32)) w.heap.size 32 #[.slice a0 m.rooms.length p0,.slice a1 m.guilds.length p1,.slice a2 m.smiths.length p2,.slice a3 m.desks.length p3,.slice a4 m.paces.length p4,.int .i64 m.now]):=Z9 (Blk.new w _ _)
 have BB:Hid (Below w.heap.size w (w.alloc (.cells #[.slice a0 m.rooms.length p0,.slice a1 m.guilds.length p1,.slice a2 m.smiths.length p2,.slice a3 m.desks.length p3,.slice a4 m.paces.length p4,.int .i64 m.now] 32))):=Z9 ((Below.refl _ _).alloc (Nat.le_refl _) _)
 obtain ⟨ok,hok⟩:∃ q,ZS m=q:=⟨_,rfl⟩
 have Hok:=Z9 hok
 clear hok
 go_enter Tryz.func18,Tryz.ntmps18
 go_wp2_with fail
 generalize w.alloc (.cells #[.slice a0 m.rooms.length p0,.slice a1 m.guilds.length p1,.slice a2 m.smiths.length p2,.slice a3 m.desks.length p3,.slice a4 m.paces.length p4,.int .i64 m.now] 32)=W at *
 refine (SZ (uh Hok) (uh Hv)).mono ?_
 rintro e w1 ⟨rfl,hb⟩
 replace Hv:=Z9 ((uh Hv).below hb)
 replace kb:=bl kb hb
 replace BB:=bt BB hb
 clear hb
 cases ok
 ·obtain rfl:q= -1:=by rw [<-uh Hq];unfold UM;rw [uh Hok];rfl
  go_wp2_with fail
  go_ret
  exact ⟨rfl,uh BB⟩
 obtain ⟨qw,hqw⟩:∃ q,Yq m b=q:=⟨_,rfl⟩
 have Hw:=Z9 hqw
 clear hqw
 obtain ⟨c0,c1,c2,c3,c4,c5⟩:=(uh kb).c6
 go_wp2_with fail
 refine (UU (uh Hw) (uh Hv)).mono ?_
 rintro e w2 ⟨rfl,hb⟩
 replace Hv:=Z9 ((uh Hv).below hb)
 replace kb:=bl kb hb
 replace BB:=bt BB hb
 clear hb c0 c1 c2 c3 c4 c5
 cases qw
 ·obtain rfl:q= -1:=by rw [<-uh Hq];unfold UM;rw [uh Hw];simp
  go_wp2_with fail
  go_ret
  exact ⟨rfl,uh BB⟩
 obtain rfl:q=ZA m b (-1):=by rw [<-uh Hq];unfold UM;rw [uh Hw,uh Hok];rfl
 have HS:=Z9 (ZZ (uh Hok)).sane
 obtain ⟨c0,c1,c2,c3,c4,c5⟩:=(uh kb).c6
 go_wp2_with fail
 refine (VI b (-1) (uh Hv) (uh HS).guilded (by have:=(uh HS).few;omega)).mono ?_
 rintro e w3 ⟨rfl,hb⟩
 replace Hv:=Z9 ((uh Hv).below hb)
 replace kb:=bl kb hb
 replace BB:=bt BB hb
 clear hb c0 c1 c2 c3 c4 c5
 go_wp2_with fail
 go_ret
 exact ⟨rfl,uh BB⟩
end Go.Proofs.YtaegckehjlkaaaaGreat
namespace Go.Proofs.YtaegckehjlkaaaaGreat.Draw
open Go.ChangeShapes Go.WideShapes Go.ChangeAt Go.RowKit
set_option linter.unusedVariables false
theorem Z9 {p:Prop} (h:p):Hid p:=h
theorem uh {p:Prop} (h:Hid p):p:=h
theorem ZJ {k:IntKind} {a b:Int} (h:a=b):Ending.returned (.int k a)= .returned (.int k b):=by rw [h]
theorem Ty (n:Int):bits .and .i64 n 255=n%256:=by
 have h127:(BitVec.ofInt 64 255).toNat=2 ^ 8-1:=by decide
 have key:(BitVec.ofInt 64 n &&& BitVec.ofInt 64 255).toNat=(n%((2 ^ 64:Nat):Int)).toNat%2 ^ 8:=by
  rw [BitVec.toNat_and,BitVec.toNat_ofInt,h127,Nat.and_two_pow_sub_one_eq_mod]
 show IntKind.i64.wrap ((BitVec.ofInt 64 n &&& BitVec.ofInt 64 255).toNat:Nat)=n%256
 rw [key,IntKind.wrap_i64]
 omega
structure Off (bc:Nat) (w w':World):Prop where
 os:w'.os=w.os
 tape:w'.tape=w.tape
 output:w'.output=w.output
 size:w.heap.size<=w'.heap.size
 block:∀ k,k<w.heap.size->k ≠ bc->w'.heap[k]?=w.heap[k]?
theorem Off.refl (bc:Nat) (w:World):Off bc w w:=⟨rfl,rfl,rfl,Nat.le_refl _,fun _ _ _=>rfl⟩
theorem Off.trans {bc:Nat} {a b c:World} (h:Off bc a b) (k:Off bc b c):Off bc a c:=
 ⟨k.os.trans h.os,k.tape.trans h.tape,k.output.trans h.output,Nat.le_trans h.size k.size,fun i hi hn=>(k.block i (Nat.lt_of_lt_of_le hi h.size) hn).trans (h.block i hi hn)⟩
theorem Off.drewN {bc:Nat} {a w:World} (h:Off bc a w) (n:Nat):Off bc a (w.drewN n):=⟨h.os,h.tape,h.output,h.size,h.block⟩
theorem Off.alloc {bc:Nat} {a w:World} (h:Off bc a w) (o:Obj):Off bc a (w.alloc o):=
 h.trans ⟨rfl,rfl,rfl,by simp,fun k hk _=>Below.heap_alloc w o k hk⟩
theorem Off.setCell {bc:Nat} {a w:World} (h:Off bc a w) (o:Nat) (v:Value):Off bc a (w.setCell ⟨bc,o,none⟩ v):=
 h.trans ⟨rfl,rfl,rfl,by simp,fun k hk hn=>Below.heap_setCell w ⟨bc,o,none⟩ v k hn⟩
theorem Off.below {bc:Nat} {a w:World} (h:Off bc a w) {B:Nat} (hB:B<=bc) (hs:B<=a.heap.size):Below B a w:=
 ⟨h.os,h.tape,h.output,h.size,fun k hk=>h.block k (Nat.lt_of_lt_of_le hk hs) (by omega)⟩
theorem Off.cell {bc:Nat} {w w':World} (h:Off bc w w') {p:Addr} (hp:p.block<w.heap.size) (hn:p.block ≠ bc):w'.cell? p=w.cell? p:=
 World.cell?_of_block (w:=w) (h.block p.block hp hn)
theorem P3 (w:World) (o:Nat):w.frozen? ⟨w.heap.size,o,none⟩=false:=by simp [World.frozen?]
def Row (B:Nat) (w:World) (a:Option Addr) (len:Nat):Prop:=
 len<=4096/\(len=0\/ ∃ b off,a=some ⟨b,off,none⟩/\b<B/\ ∀ i,i<len-> ∃ n:Int,0<=n/\n<=255/\w.cell? ⟨b,off+i,none⟩=some (.int .u8 n))
def Cur (a:Option Addr) (len cap bc:Nat) (w:World):Prop:=
 bc<w.heap.size/\ ∃ i h:Int,0<=i/\i<=4096/\w.cell? ⟨bc,0,none⟩=some (.slice a len cap)/\w.cell? ⟨bc,1,none⟩=some (.int .i64 i)/\w.cell? ⟨bc,2,none⟩=some (.int .i64 h)
  /\w.frozen? ⟨bc,1,none⟩=false/\w.frozen? ⟨bc,2,none⟩=false
structure St (a:Option Addr) (len cap bc:Nat) (w:World):Prop where
 cur:Cur a len cap bc w
 row:Row bc w a len
theorem Row.off {bc:Nat} {w w':World} {a:Option Addr} {len:Nat} (h:Row bc w a len) (ho:Off bc w w') (hb:bc<=w.heap.size):Row bc w' a len:=by
 refine ⟨h.1,?_⟩
 rcases h.2 with h0 | ⟨b,off,ha,hlt,hc⟩
 ·exact .inl h0
 ·refine .inr ⟨b,off,ha,hlt,fun i hi=> ?_⟩
  obtain ⟨n,n0,n1,hn⟩:=hc i hi
  exact ⟨n,n0,n1,by rw [ho.cell (p:=⟨b,off+i,none⟩) (Nat.lt_of_lt_of_le hlt hb) (Nat.ne_of_lt hlt)];exact hn⟩
theorem St.drewN {a:Option Addr} {len cap bc:Nat} {w:World} (h:St a len cap bc w) (n:Nat):St a len cap bc (w.drewN n):=⟨h.cur,h.row⟩
theorem St.alloc {a:Option Addr} {len cap bc:Nat} {w:World} (h:St a len cap bc w) (o:Obj):St a len cap bc (w.alloc o):=by
 obtain ⟨⟨hb,i,x,h0,h1,c0,c1,c2,f1,f2⟩,hr⟩:=h
 have hne:∀ o,(⟨bc,o,none⟩:Addr).block ≠ w.heap.size:=fun _=>Nat.ne_of_lt hb
 refine ⟨⟨by simp;omega,i,x,h0,h1,?_,?_,?_,?_,?_⟩,hr.off ((Off.refl _ _).alloc o) (Nat.le_of_lt hb)⟩
 ·rw [World.cell?_alloc_old _ _ _ (hne 0)];exact c0
 ·rw [World.cell?_alloc_old _ _ _ (hne 1)];exact c1
 ·rw [World.cell?_alloc_old _ _ _ (hne 2)];exact c2
 ·rw [World.frozen?_alloc_old _ _ _ (hne 1)];exact f1
 ·rw [World.frozen?_alloc_old _ _ _ (hne 2)];exact f2
theorem St.setH {a:Option Addr} {len cap bc:Nat} {w:World} (h:St a len cap bc w) (x:Int):St a len cap bc (w.setCell ⟨bc,2,none⟩ (.int .i64 x)):=by
 obtain ⟨⟨hb,i,y,h0,h1,c0,c1,c2,f1,f2⟩,hr⟩:=h
 refine ⟨⟨by simpa using hb,i,x,h0,h1,?_,?_,?_,?_,?_⟩,hr.off ((Off.refl _ _).setCell 2 _) (Nat.le_of_lt hb)⟩
 ·rw [World.cell?_setCell_other _ _ _ _ (by simp)];exact c0
 ·rw [World.cell?_setCell_other _ _ _ _ (by simp)];exact c1
 ·exact World.cell?_setCell_same _ _ _ c2
 ·rw [World.frozen?_setCell];exact f1
 ·rw [World.frozen?_setCell];exact f2
theorem St.setI {a:Option Addr} {len cap bc:Nat} {w:World} (h:St a len cap bc w) (x:Int) (x0:0<=x) (x1:x<=4096):St a len cap bc (w.setCell ⟨bc,1,none⟩ (.int .i64 x)):=by
 obtain ⟨⟨hb,i,y,h0,h1,c0,c1,c2,f1,f2⟩,hr⟩:=h
 refine ⟨⟨by simpa using hb,x,y,x0,x1,?_,?_,?_,?_,?_⟩,hr.off ((Off.refl _ _).setCell 1 _) (Nat.le_of_lt hb)⟩
 ·rw [World.cell?_setCell_other _ _ _ _ (by simp)];exact c0
 ·exact World.cell?_setCell_same _ _ _ c1
 ·rw [World.cell?_setCell_other _ _ _ _ (by simp)];exact c2
 ·rw [World.frozen?_setCell];exact f1
 ·rw [World.frozen?_setCell];exact f2
theorem SA (a:Option Addr) (len cap bc:Nat) (w:World) (hs:St a len cap bc w) :
  Calls Tryz.prog 161 #[.pointer (some ⟨bc,0,none⟩)] w fun e w'=> ∃ x:Int,e= .returned (.int .i64 x)/\0<=x/\x<=255/\St a len cap bc w'/\Off bc w w':=by
 have Hs:=Z9 hs
 obtain ⟨⟨hb,i,h,h0,h1,c0,c1,c2,f1,f2⟩,hl,hr⟩:=hs
 by_cases hge:i<(len:Int)
 ·have Hr:=Z9 hr
  rcases hr with hr | ⟨b,off,rfl,hlt,hc⟩
  ·omega
  obtain ⟨k,rfl⟩:=Int.eq_ofNat_of_zero_le h0
  obtain ⟨n,n0,n1,hn⟩:=hc k (by omega)
  have hneb:b ≠ bc:=Nat.ne_of_lt hlt
  clear hc Hr
  go_enter Tryz.func161,Tryz.ntmps161
  go_wp2_with fail
  go_quiet (fail)
  go_wp2_with fail
  go_quiet (fail)
  go_wp2_with fail
  go_quiet (fail)
  go_wp2_with fail
  go_ret
  refine ⟨_,rfl,?_,?_,(((uh Hs).setH _).drewN _).setI _ (by omega) (by omega),(((Off.refl _ _).setCell 2 _).drewN _).setCell 1 _⟩
  ·rw [Ty];omega
  ·rw [Ty];omega
 ·go_enter Tryz.func161,Tryz.ntmps161
  go_wp2_with fail
  go_quiet (fail)
  go_wp2_with fail
  go_quiet (fail)
  go_wp2_with fail
  go_ret
  refine ⟨_,rfl,?_,?_,(((uh Hs).setH _).drewN _).drewN _,(((Off.refl _ _).setCell 2 _).drewN _).drewN _⟩
  ·rw [Ty];omega
  ·rw [Ty];omega
theorem below_any (a:Option Addr) (len cap bc:Nat) (n:Int) (hn:0<n) (hm:n<=4611686018427387904) (w:World) (hs:St a len cap bc w) :
  Calls Tryz.prog 114 #[.pointer (some ⟨bc,0,none⟩),.int .i64 n] w fun e w'=> ∃ x:Int,e= .returned (.int .i64 x)/\0<=x/\x<n/\St a len cap bc w'/\Off bc w w':=by
 have Hs:=Z9 hs
 clear hs
 by_cases h256:n<=256
 ·go_enter Tryz.func114,Tryz.ntmps114
  go_wp2_with fail
  refine (SA a len cap bc _ (uh Hs)).mono ?_
  rintro e w1 ⟨x,rfl,x0,x1,s1,o1⟩
  have Hs1:=Z9 s1
  have Ho1:=Z9 o1
  clear s1 o1
  go_wp2_with fail
  go_ret
  exact ⟨_,rfl,Int.emod_nonneg _ (by omega),Int.emod_lt_of_pos _ hn,uh Hs1,uh Ho1⟩
 ·go_enter Tryz.func114,Tryz.ntmps114
  go_wp2_with fail
  refine (SA a len cap bc _ (uh Hs)).mono ?_
  rintro e w1 ⟨x,rfl,x0,x1,s1,o1⟩
  have Hs1:=Z9 s1
  have Ho1:=Z9 o1
  clear s1 o1
  go_wp2_with fail
  refine (SA a len cap bc _ (uh Hs1)).mono ?_
  rintro e w2 ⟨y,rfl,y0,y1,s2,o2⟩
  have Hs2:=Z9 s2
  have Ho2:=Z9 o2
  clear s2 o2
  go_wp2_with fail
  refine (SA a len cap bc _ (uh Hs2)).mono ?_
  rintro e w3 ⟨z,rfl,z0,z1,s3,o3⟩
  have Hs3:=Z9 s3
  have Ho3:=Z9 o3
  clear s3 o3
  go_wp2_with fail
  refine (SA a len cap bc _ (uh Hs3)).mono ?_
  rintro e w4 ⟨v,rfl,v0,v1,s4,o4⟩
  have Hs4:=Z9 s4
  have Ho4:=Z9 o4
  clear s4 o4
  go_wp2_with fail
  go_ret
  exact ⟨_,rfl,Int.emod_nonneg _ (by omega),Int.emod_lt_of_pos _ hn,uh Hs4,(((uh Ho1).trans (uh Ho2)).trans (uh Ho3)).trans (uh Ho4)⟩
theorem once_any (a:Option Addr) (len cap bc:Nat) (n:Int) (hn:0<n) (hm:n<=4611686018427387904) (w:World) (hs:St a len cap bc w) :
  Calls Tryz.prog 113 #[.pointer (some ⟨bc,0,none⟩),.int .i64 n] w fun e w'=> ∃ b:Bool,e= .returned (.bool b)/\St a len cap bc w'/\Off bc w w':=by
 have Hs:=Z9 hs
 clear hs
 go_enter Tryz.func113,Tryz.ntmps113
 go_wp2_with fail
 refine (below_any a len cap bc n hn hm _ (uh Hs)).mono ?_
 rintro e w1 ⟨x,rfl,x0,x1,s1,o1⟩
 have Hs1:=Z9 s1
 have Ho1:=Z9 o1
 clear s1 o1
 go_wp2_with fail
 go_ret
 exact ⟨_,rfl,uh Hs1,uh Ho1⟩
theorem from_any (a:Option Addr) (len cap bc:Nat) (lo hi:Int) (h:lo<=hi) (h1 : -1000000000000<=lo) (h2:hi<=1000000000000) (w:World) (hs:St a len cap bc w) :
  Calls Tryz.prog 116 #[.pointer (some ⟨bc,0,none⟩),.int .i64 lo,.int .i64 hi] w fun e w'=> ∃ x:Int,e= .returned (.int .i64 x)/\lo<=x/\x<=hi/\St a len cap bc w'/\Off bc w w':=by
 have Hs:=Z9 hs
 clear hs
 go_enter Tryz.func116,Tryz.ntmps116
 go_wp2_with fail
 refine (below_any a len cap bc _ (by omega) (by omega) _ (uh Hs)).mono ?_
 rintro e w1 ⟨x,rfl,x0,x1,s1,o1⟩
 have Hs1:=Z9 s1
 have Ho1:=Z9 o1
 clear s1 o1
 go_wp2_with fail
 go_ret
 exact ⟨_,rfl,by omega,by omega,uh Hs1,uh Ho1⟩
theorem CM {a:Option Addr} {len cap:Nat} {w:World} (hr:Row w.heap.size w a len) {t:TypeId} (x:Int):St a len cap w.heap.size (w.alloc (.cells #[.slice a len cap,.int .i64 0,.int .i64 x] t)):=by
 refine ⟨⟨by simp,0,x,by omega,by omega,?_,?_,?_,?_,?_⟩,hr.off ((Off.refl _ _).alloc _) (Nat.le_refl _)⟩
 ·simp
 ·simp
 ·simp
 ·rw [frozen?_alloc_cells];exact P3 _ _
 ·rw [frozen?_alloc_cells];exact P3 _ _
theorem new_any (a:Option Addr) (len cap:Nat) (w:World) (hr:Row w.heap.size w a len) :
  Calls Tryz.prog 52 #[.slice a len cap] w fun e w'=>e= .returned (.pointer (some ⟨w.heap.size,0,none⟩))/\St a len cap w.heap.size w'/\Off w.heap.size w w':=by
 have Hr:=Z9 hr
 obtain ⟨hl,hr⟩:=hr
 have Hc:=Z9 hr
 clear hr
 go_enter Tryz.func52,Tryz.ntmps52
 go_wp2_with fail
 go_loop [3,4] (fun t i=> ∃ k:Nat,k<=len/\i= .int .i64 k/\ ∃ x:Int,t= .int .i64 x) (fun _ i=>len-(intOf i).toNat)
 case atStart=>exact ⟨0,Nat.zero_le _,rfl,_,rfl⟩
 case round=>
  obtain ⟨k,hk,rfl,x,rfl⟩:=hrel
  by_cases hlt:k<len
  ·rcases uh Hc with h0 | ⟨b,off,rfl,hb,hc⟩
   ·omega
   obtain ⟨n,n0,n1,hn⟩:=hc k hlt
   clear hc
   go_wp2_with fail
   go_round
   case rel=>exact ⟨k+1,by omega,by go_num,_,rfl⟩
   case measure=>simp [intOf];omega
  ·go_wp2_with fail
   go_ret
   refine ⟨rfl,CM (uh Hr) _,(Off.refl _ _).alloc _⟩
def MK (k:IntKind) (w:World) (a:Option Addr) (len cap:Nat) (zs:List Int):Prop:=
 (a=none/\len=0/\cap=0/\zs=[])\/
 ∃ x,a=some x/\len<=cap/\cap<=maxLen/\zs.length=cap/\(∀ i,i<zs.length->w.cell? (x.add i)=some (.int k (zs.getD i 0)))/\ ∀ n ∈ zs,(Lit.int k n).wf=true
theorem Er {w:World} {a:Option Addr} {len cap:Nat} {zs:List Int} (h:MK .u8 w a len cap zs) (hl:len<=4096):Row w.heap.size w a len:=by
 refine ⟨hl,?_⟩
 rcases h with ⟨_,h0,_,_⟩ | ⟨x,rfl,hlc,hm,hz,hcell,hwz⟩
 ·exact .inl h0
 ·by_cases h0:len=0
  ·exact .inl h0
  ·obtain ⟨b,off,spot⟩:=x
   have hc:=hcell 0 (by omega)
   have hspot:spot=none:=by simpa [Addr.add] using World.cell?_spot hc
   subst hspot
   have hlt:=World.block_lt_of_cell? _ _ hc
   refine .inr ⟨b,off,rfl,hlt,fun i hi=> ?_⟩
   have hiz:i<zs.length:=by omega
   have hb:=bounds_u8 (hwz zs[i] (List.getElem_mem hiz))
   have hci:=hcell i hiz
   rw [show zs.getD i 0=zs[i] from by simp [List.getD,hiz]] at hci
   refine ⟨zs[i],hb.1,hb.2,?_⟩
   by_cases hi0:i=0
   ·subst hi0;simpa [Addr.add] using hci
   ·simpa [Addr.add,hi0] using hci
theorem row_below {B:Nat} {w w':World} {a:Option Addr} {len:Nat} (h:Row B w a len) (hb:Below B w w'):Row B w' a len:=by
 refine ⟨h.1,?_⟩
 rcases h.2 with h0 | ⟨b,off,ha,hlt,hc⟩
 ·exact .inl h0
 ·refine .inr ⟨b,off,ha,hlt,fun i hi=> ?_⟩
  obtain ⟨n,n0,n1,hn⟩:=hc i hi
  exact ⟨n,n0,n1,by rw [hb.cell (p:=⟨b,off+i,none⟩) hlt];exact hn⟩
theorem CO {B B':Nat} {w:World} {a:Option Addr} {len:Nat} (h:Row B w a len) (hB:B<=B'):Row B' w a len:=by
 refine ⟨h.1,?_⟩
 rcases h.2 with h0 | ⟨b,off,ha,hlt,hc⟩
 ·exact .inl h0
 ·exact .inr ⟨b,off,ha,Nat.lt_of_lt_of_le hlt hB,hc⟩
theorem row_later {w w':World} {a:Option Addr} {len:Nat} (h:Row w.heap.size w a len) (hb:Below w.heap.size w w'):Row w'.heap.size w' a len:=CO (row_below h hb) hb.size
theorem Ds (a:Option Addr) (len cap:Nat) (w:World) (hl:len<=4096):Calls Tryz.prog 10 #[.slice a len cap] w fun e w'=>e= .returned (.bool false)/\w'=w:=by
 have h:¬ (4096:Int)<len:=by omega
 go_enter Tryz.func10,Tryz.ntmps10
 go_wp2
 go_ret
 exact ⟨rfl,rfl⟩
theorem Gt (a:Option Addr) (len cap:Nat) (w:World) (hl:4096<len):Calls Tryz.prog 10 #[.slice a len cap] w fun e w'=>e= .returned (.bool true)/\w'=w:=by
 have h:(4096:Int)<len:=by omega
 go_enter Tryz.func10,Tryz.ntmps10
 go_wp2
 go_ret
 exact ⟨rfl,rfl⟩
def CW:Value->Bool
 | .int .i64 _=>true
 | _=>false
theorem pick_any (cs:Array Value) (j:Nat) (hj:j<cs.size) (h:cs.toList.all CW=true):∃ v:Int,cs[j]?=some (.int .i64 v):=by
 rw [Array.all_toList,Array.all_eq_true] at h
 have:=h j hj
 rw [Array.getElem?_eq_getElem hj]
 generalize cs[j]=c at *
 unfold CW at this
 split at this
 ·exact ⟨_,rfl⟩
 ·cases this
end Go.Proofs.YtaegckehjlkaaaaGreat.Draw
namespace Go.Proofs.YtaegckehjlkaaaaGreat
open Go.ChangeShapes Go.WideShapes Go.ChangeAt Go.RowKit Go.Sort
open Draw (St Off Row Cur)
set_option linter.unusedVariables false
theorem XL {a:Option Addr} {len cap bc:Nat} {w w':World} (h:St a len cap bc w) (hb:Below (bc+1) w w'):St a len cap bc w':=by
 obtain ⟨⟨hlt,i,x,h0,h1,c0,c1,c2,f1,f2⟩,hr⟩:=h
 have hc:∀ o,w'.cell? ⟨bc,o,none⟩=w.cell? ⟨bc,o,none⟩:=fun o=>hb.cell (p:=⟨bc,o,none⟩) (Nat.lt_succ_self bc)
 have hf:∀ o,w'.frozen? ⟨bc,o,none⟩=w.frozen? ⟨bc,o,none⟩:=fun o=>hb.frozen (p:=⟨bc,o,none⟩) (Nat.lt_succ_self bc)
 refine ⟨⟨Nat.lt_of_lt_of_le hlt hb.size,i,x,h0,h1,(hc 0).trans c0,(hc 1).trans c1,(hc 2).trans c2,(hf 1).trans f1,(hf 2).trans f2⟩,Draw.row_below hr (hb.mono (Nat.le_succ bc))⟩
theorem Xk {a:Option Addr} {len cap bc:Nat} {w:World} (h:St a len cap bc w):bc<w.heap.size:=h.cur.1
theorem Ud {bc:Nat} {a b c:World} (h:Off bc a b) (k:Below a.heap.size b c):Off bc a c:=
 ⟨k.os.trans h.os,k.tape.trans h.tape,k.output.trans h.output,Nat.le_trans h.size k.size,fun i hi hn=>(k.block i hi).trans (h.block i hi hn)⟩
theorem Ue {bc:Nat} {w w':World} (h:Off bc w.drew w'):Off bc w w':=⟨h.os,h.tape,h.output,h.size,h.block⟩
theorem TQ {a:Option Addr} {len cap bc:Nat} {w:World} (h:St a len cap bc w):St a len cap bc w.drew:=⟨h.cur,h.row⟩
theorem FullSmy.away {n₀ bc:Nat} {w w':World} {v0 v1 v2 v3 v4:Value} {m:Z6} {qs:List (Z3 × Value)} (h:FullSmy n₀ w v0 v1 v2 v3 v4 m qs) (ho:Off bc w w') (hb:bc<n₀):FullSmy n₀ w' v0 v1 v2 v3 v4 m qs:=
 h.keep fun k e=>ho.block k (h.own e).2 (by have:=(h.own e).1;omega)
theorem Blk.away {bc R:Nat} {w w':World} {t:TypeId} {cs:Array Value} (h:Blk w R t cs) (ho:Off bc w w') (hb:R ≠ bc):Blk w' R t cs:=h.same (ho.block R h.lt hb)
theorem Wv {bc:Nat} {w w':World} (h:Below w.heap.size w w'):Off bc w w':=⟨h.os,h.tape,h.output,h.size,fun k hk _=>h.block k hk⟩
theorem Off.newer {bc tb:Nat} {w0 w:World} (h:Off bc w0 w) (ht:w0.heap.size<=tb) (o:Nat) (v:Value):Off bc w0 (w.setCell ⟨tb,o,none⟩ v):=
 ⟨h.os,h.tape,h.output,by simpa using h.size,fun k hk hn=>(heap_setCell_other _ _ _ _ (by show k ≠ tb;omega)).trans (h.block k hk hn)⟩
theorem St.newer {a:Option Addr} {len cap bc tb:Nat} {w:World} (h:St a len cap bc w) (ht:bc<tb) (o:Nat) (v:Value):St a len cap bc (w.setCell ⟨tb,o,none⟩ v):=
 XL h ((Below.refl _ _).setCell (p:=⟨tb,o,none⟩) (by show bc+1<=tb;omega) _)
end Go.Proofs.YtaegckehjlkaaaaGreat
