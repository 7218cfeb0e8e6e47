/- Part 11 of what the proof rests on. No condition but those that a theorem names. -/
import Derived.Test.YtjhijildaceadaaGreatDoorXg10
set_option maxHeartbeats 8000000
set_option maxRecDepth 100000
namespace Go.Proofs.YtjhijildaceadaaGreatDoor
open Go.ChangeShapes Go.WideShapes Go.ChangeAt Go.RowKit Go.Sort
set_option linter.unusedVariables false
variable {w w' w0 w1 w2 w3 w₀ wr W W' X A B C : World} {v v0 v1 v2 v3 v4 u u0 u1 u2 u3 u4 : Value} {m : Z4}
def DownPost (n₀ bx:Nat) (v:Value) (w:World) (ps:List Z6) (n i0:Nat) (e:Ending) (w':World):Prop:=
 ∃ (b:Bool) (qs:List Z6),e= .returned (.bool b)/\HeapIs n₀ bx v w' qs/\qs.Perm ps/\(∀ k,n<=k->Z7 qs k=Z7 ps k)/\Fr bx v.ownBlock w w'/\(b=true->HeapTo qs n)/\(b=false->UpTo qs n i0)
theorem RL {n₀ bx:Nat}  {ps qs:List Z6} {n i0 i:Nat} (hi:i0<=i) (hh:HeapIs n₀ bx v wr qs) (hdn:DnTo qs n i0 i) (hp:qs.Perm ps) (hs:∀ k,n<=k->Z7 qs k=Z7 ps k) (hf:Fr bx v.ownBlock w wr)
  (hd:∀ k,0<k->k<n->(k-1) / 2=i->ltB (Z7 qs k) (Z7 qs i)=false):DownPost n₀ bx v w ps n i0 (.returned (.bool (decide (i0<i)))) wr:=by
 refine ⟨_,qs,rfl,hh,hp,hs,hf,fun h=> ?_,fun h=> ?_⟩
 ·have:=of_decide_eq_true h
  exact hdn.moved (by omega) hd
 ·have:=of_decide_eq_false h
  obtain rfl:i=i0:=by omega
  exact hdn.still hd
theorem kid {k i:Nat} (h0:0<k) (h:(k-1) / 2=i):k=2*i+1\/k=2*i+2:=by omega
theorem D9 {n₀ bx:Nat}  {ps:List Z6} {n i0:Nat} (h:HeapIs n₀ bx v w ps) (hu:DnTo ps n i0 i0) (hi0:i0<=n) (hn:n<=ps.length) (hl:ps.length<=1000) :
  Calls Tryz.prog 366 #[.iface 263 (.pointer (some ⟨bx,0,none⟩)),.int .i64 i0,.int .i64 n] w (DownPost n₀ bx v w ps n i0):=by
 have H:=Z9 h
 have HU:=Z9 hu
 have hm1:=Ex ⟨bx,0,none⟩
 have hm2:=I0 ⟨bx,0,none⟩
 clear h hu
 go_enter Tryz.func366,Tryz.ntmps366
 go_wp2_with fail
 go_loopw [7] (fun q wr=> ∃ (i:Nat) (qs:List Z6),i0<=i/\i<=n/\q= .int .i64 i/\HeapIs n₀ bx v wr qs/\DnTo qs n i0 i/\qs.Perm ps/\(∀ k,n<=k->Z7 qs k=Z7 ps k)/\Fr bx v.ownBlock w wr) (fun q _=>n-(intOf q).toNat)
 case atStart=>exact ⟨i0,ps,Nat.le_refl _,hi0,rfl,uh H,uh HU,List.Perm.refl _,fun _ _=>rfl,Fr.refl _ _ _⟩
 case round=>
  obtain ⟨i,qs,hii,hin,rfl,hh,hdn,hperm,hsame,hfr⟩:=hrel
  have hql:qs.length=ps.length:=hperm.length_eq
  have Hh:=Z9 hh
  have Hdn:=Z9 hdn
  have Hpe:=Z9 hperm
  have Hsa:=Z9 hsame
  have Hfr:=Z9 hfr
  clear hh hdn hperm hsame hfr
  obtain ⟨j1,hj1⟩:∃ j1,j1=2*i+1:=⟨_,rfl⟩
  obtain ⟨j2,hj2⟩:∃ j2,j2=2*i+2:=⟨_,rfl⟩
  have e1:2*(i:Int)+1=(j1:Int):=by omega
  have e2:(j1:Int)+1=(j2:Int):=by omega
  have Hj1:=Z9 hj1
  have Hj2:=Z9 hj2
  by_cases hn1:n<=j1
  ·have hg1:(n:Int)<=(j1:Int):=by omega
   clear hj1 hj2
   go_wp2_with fail
   go_ret
   exact RL hii (uh Hh) (uh Hdn) (uh Hpe) (uh Hsa) (uh Hfr) (fun k k0 kn kp=>by have:=kid k0 kp;have:=uh Hj1;omega)
  ·have hg1:¬ (n:Int)<=(j1:Int):=by omega
   have hg2:¬ (j1:Int)<0:=by omega
   have hil:i<qs.length:=by omega
   have hjl:j1<qs.length:=by omega
   have hij1:i<j1:=by omega
   by_cases hn2:j2<n
   ·have hg3:(j2:Int)<(n:Int):=by omega
    have hkl:j2<qs.length:=by omega
    have hij2:i<j2:=by omega
    clear hj1 hj2
    have HL:=Z9 (TB (uh Hh) hkl hjl)
    cases hlt:ltB (Z7 qs j2) (Z7 qs j1)
    ·have HM:Hid (∀ k,0<k->k<n->(k-1) / 2=i->ltB (Z7 qs k) (Z7 qs j1)=false):=Z9 (fun k k0 kn kp=>by
      have e3:=uh Hj1;have e4:=uh Hj2
      rcases kid k0 kp with e | e
      ·rw [show k=j1 by omega];exact RT _
      ·rw [show k=j2 by omega];exact hlt)
     have HP:Hid ((j1-1) / 2=i):=Z9 (by have:=uh Hj1;omega)
     go_wp2_with fail
     refine (uh HL).mono ?_
     rw [hlt]
     rintro e w1 ⟨rfl,hb1⟩
     have H1:=Z9 ((uh Hh).later hb1)
     have F1:=Z9 ((uh Hfr).trans (Fr.of_below hb1))
     clear hb1 hlt HL Hh Hfr
     have HL2:=Z9 (TB (uh H1) hjl hil)
     cases hlt2:ltB (Z7 qs j1) (Z7 qs i)
     ·go_wp2_with fail
      refine (uh HL2).mono ?_
      rw [hlt2]
      rintro e w2 ⟨rfl,hb2⟩
      have H2:=Z9 ((uh H1).later hb2)
      have F2:=Z9 ((uh F1).trans (Fr.of_below hb2))
      clear hb2 HL2
      go_wp2_with fail
      go_ret
      exact RL hii (uh H2) (uh Hdn) (uh Hpe) (uh Hsa) (uh F2) (fun k k0 kn kp=>Ui hlt2 (uh HM k k0 kn kp))
     ·go_wp2_with fail
      refine (uh HL2).mono ?_
      rw [hlt2]
      rintro e w2 ⟨rfl,hb2⟩
      have H2:=Z9 ((uh H1).later hb2)
      have F2:=Z9 ((uh F1).trans (Fr.of_below hb2))
      clear hb2 HL2
      go_wp2_with fail
      refine (TI (uh H2) hil hjl).mono ?_
      rintro e w3 ⟨rfl,hh3,hf3⟩
      have H3:=Z9 hh3
      have F3:=Z9 ((uh F2).trans hf3)
      clear hh3 hf3
      have HS:Hid (DnTo (swp qs i j1) n i0 j1):=Z9 ((uh Hdn).step hii (by omega) (uh HP) (by omega) (by omega) hlt2 (uh HM))
      have HA:Hid (∀ k,n<=k->Z7 (swp qs i j1) k=Z7 ps k):=Z9 (fun k hk=>by rw [TJ hil hjl,if_neg (by omega),if_neg (by omega)];exact uh Hsa k hk)
      go_wp2_with fail
      go_roundw
      case rel=>exact ⟨j1,swp qs i j1,by omega,by omega,rfl,uh H3,uh HS,(TK hil hjl).trans (uh Hpe),uh HA,uh F3⟩
      case measure=>simp [intOf];omega
    ·have HM:Hid (∀ k,0<k->k<n->(k-1) / 2=i->ltB (Z7 qs k) (Z7 qs j2)=false):=Z9 (fun k k0 kn kp=>by
      have e3:=uh Hj1;have e4:=uh Hj2
      rcases kid k0 kp with e | e
      ·rw [show k=j1 by omega];exact S0 hlt
      ·rw [show k=j2 by omega];exact RT _)
     have HP:Hid ((j2-1) / 2=i):=Z9 (by have:=uh Hj2;omega)
     go_wp2_with fail
     refine (uh HL).mono ?_
     rw [hlt]
     rintro e w1 ⟨rfl,hb1⟩
     have H1:=Z9 ((uh Hh).later hb1)
     have F1:=Z9 ((uh Hfr).trans (Fr.of_below hb1))
     clear hb1 hlt HL Hh Hfr
     have HL2:=Z9 (TB (uh H1) hkl hil)
     cases hlt2:ltB (Z7 qs j2) (Z7 qs i)
     ·go_wp2_with fail
      refine (uh HL2).mono ?_
      rw [hlt2]
      rintro e w2 ⟨rfl,hb2⟩
      have H2:=Z9 ((uh H1).later hb2)
      have F2:=Z9 ((uh F1).trans (Fr.of_below hb2))
      clear hb2 HL2
      go_wp2_with fail
      go_ret
      exact RL hii (uh H2) (uh Hdn) (uh Hpe) (uh Hsa) (uh F2) (fun k k0 kn kp=>Ui hlt2 (uh HM k k0 kn kp))
     ·go_wp2_with fail
      refine (uh HL2).mono ?_
      rw [hlt2]
      rintro e w2 ⟨rfl,hb2⟩
      have H2:=Z9 ((uh H1).later hb2)
      have F2:=Z9 ((uh F1).trans (Fr.of_below hb2))
      clear hb2 HL2
      go_wp2_with fail
      refine (TI (uh H2) hil hkl).mono ?_
      rintro e w3 ⟨rfl,hh3,hf3⟩
      have H3:=Z9 hh3
      have F3:=Z9 ((uh F2).trans hf3)
      clear hh3 hf3
      have HS:Hid (DnTo (swp qs i j2) n i0 j2):=Z9 ((uh Hdn).step hii (by omega) (uh HP) (by omega) (by omega) hlt2 (uh HM))
      have HA:Hid (∀ k,n<=k->Z7 (swp qs i j2) k=Z7 ps k):=Z9 (fun k hk=>by rw [TJ hil hkl,if_neg (by omega),if_neg (by omega)];exact uh Hsa k hk)
      go_wp2_with fail
      go_roundw
      case rel=>exact ⟨j2,swp qs i j2,by omega,by omega,rfl,uh H3,uh HS,(TK hil hkl).trans (uh Hpe),uh HA,uh F3⟩
      case measure=>simp [intOf];omega
   ·have hg3:¬ (j2:Int)<(n:Int):=by omega
    have HM:Hid (∀ k,0<k->k<n->(k-1) / 2=i->ltB (Z7 qs k) (Z7 qs j1)=false):=Z9 (fun k k0 kn kp=>by
      have e3:=uh Hj1;have e4:=uh Hj2
      rcases kid k0 kp with e | e
      ·rw [show k=j1 by omega];exact RT _
      ·omega)
    have HP:Hid ((j1-1) / 2=i):=Z9 (by have:=uh Hj1;omega)
    clear hj1 hj2
    have HL2:=Z9 (TB (uh Hh) hjl hil)
    cases hlt2:ltB (Z7 qs j1) (Z7 qs i)
    ·go_wp2_with fail
     refine (uh HL2).mono ?_
     rw [hlt2]
     rintro e w2 ⟨rfl,hb2⟩
     have H2:=Z9 ((uh Hh).later hb2)
     have F2:=Z9 ((uh Hfr).trans (Fr.of_below hb2))
     clear hb2 HL2
     go_wp2_with fail
     go_ret
     exact RL hii (uh H2) (uh Hdn) (uh Hpe) (uh Hsa) (uh F2) (fun k k0 kn kp=>Ui hlt2 (uh HM k k0 kn kp))
    ·go_wp2_with fail
     refine (uh HL2).mono ?_
     rw [hlt2]
     rintro e w2 ⟨rfl,hb2⟩
     have H2:=Z9 ((uh Hh).later hb2)
     have F2:=Z9 ((uh Hfr).trans (Fr.of_below hb2))
     clear hb2 HL2
     go_wp2_with fail
     refine (TI (uh H2) hil hjl).mono ?_
     rintro e w3 ⟨rfl,hh3,hf3⟩
     have H3:=Z9 hh3
     have F3:=Z9 ((uh F2).trans hf3)
     clear hh3 hf3
     have HS:Hid (DnTo (swp qs i j1) n i0 j1):=Z9 ((uh Hdn).step hii (by omega) (uh HP) (by omega) (by omega) hlt2 (uh HM))
     have HA:Hid (∀ k,n<=k->Z7 (swp qs i j1) k=Z7 ps k):=Z9 (fun k hk=>by rw [TJ hil hjl,if_neg (by omega),if_neg (by omega)];exact uh Hsa k hk)
     go_wp2_with fail
     go_roundw
     case rel=>exact ⟨j1,swp qs i j1,by omega,by omega,rfl,uh H3,uh HS,(TK hil hjl).trans (uh Hpe),uh HA,uh F3⟩
     case measure=>simp [intOf];omega
theorem HeapTo.take {ps:List Z6} {n m:Nat} (h:HeapTo ps n) (hm:n<=m):HeapTo (ps.take m) n:=fun k k0 kn=>by
 rw [Wc (by omega),Wc (by omega)];exact h k k0 kn
theorem HeapIs.below {n₀ bx:Nat} {v v':Value} {ps qs:List Z6} (h:HeapIs n₀ bx v w ps) (hf:Fr bx v.ownBlock w w') (hx:n₀<=bx) (hn:n₀<=w.heap.size):Below n₀ w w':=
 hf.below hx (fun k e=>(h.row.lt e).1) hn
theorem My {n₀ bx:Nat}  {ps:List Z6} (f z:Int) (h:HeapIs n₀ bx v w ps) (hp:HeapTo ps ps.length) (hl:ps.length<=900) (hx:n₀<=bx) (hn:n₀<=w.heap.size) :
  Calls Tryz.prog 297 #[.iface 263 (.pointer (some ⟨bx,0,none⟩)),.iface 94 (.agg #[.int .i64 f,.int .i64 z])] w fun e w'=>e= .returned (.tuple #[])/\ ∃ v' qs,HeapIs n₀ bx v' w' qs/\HeapTo qs qs.length/\qs.Perm (ps++[(f,z)])/\Below n₀ w w':=by
 have H:=Z9 h
 have HP:=Z9 hp
 have hm1:=CQ ⟨bx,0,none⟩
 have hm2:=De ⟨bx,0,none⟩
 clear h hp
 go_enter Tryz.func297,Tryz.ntmps297
 go_wp2_with fail
 refine (Gh f z (uh H) (by omega) hn).mono ?_
 rintro e w1 ⟨rfl,v1,hh1,hat,hf1⟩
 have H1:=Z9 hh1
 have B1:=Z9 ((uh H).below (v':=v1) (qs:=ps) hf1 hx hn)
 have hz1:=hf1.size
 clear hh1 hat hf1
 go_wp2_with fail
 refine (RQ (uh H1)).mono ?_
 rintro e w' ⟨rfl,h2⟩
 subst w'
 have hlen:(ps++[(f,z)]).length=ps.length+1:=by simp
 rw [hlen]
 go_wp2_with fail
 refine (C0 (j0:=ps.length) (n:=ps.length+1) (uh H1) ((uh HP).push (f,z)) (by omega) (by rw [hlen];exact Nat.le_refl _) (by rw [hlen];omega)).mono ?_
 rintro e w2 ⟨rfl,qs,hh2,hq,hpe,_,hf2⟩
 have hql:qs.length=ps.length+1:=by rw [hpe.length_eq,hlen]
 have H2:=Z9 hh2
 have HQ:=Z9 hq
 have HE:=Z9 hpe
 have B2:=Z9 ((uh B1).trans ((uh H1).below (v':=v1) (qs:=ps) hf2 hx (by omega)))
 clear hh2 hq hpe hf2
 go_wp2_with fail
 go_end0
 exact ⟨rfl,v1,qs,uh H2,by rw [hql];exact uh HQ,uh HE,uh B2⟩
theorem DnTo.none {ps:List Z6} {i0 i:Nat} : DnTo ps 0 i0 i:=⟨fun k k0 kn=>by omega,fun k k0 kn=>by omega⟩
theorem DownPost.zero {n₀ bx:Nat}  {ps:List Z6} {n:Nat} {e:Ending} (h:DownPost n₀ bx v w ps n 0 e w') :
  ∃ (b:Bool) (qs:List Z6),e= .returned (.bool b)/\HeapIs n₀ bx v w' qs/\qs.Perm ps/\(∀ k,n<=k->Z7 qs k=Z7 ps k)/\Fr bx v.ownBlock w w'/\HeapTo qs n:=by
 obtain ⟨b,qs,he,hh,hp,hs,hf,h1,h2⟩:=h
 refine ⟨b,qs,he,hh,hp,hs,hf,?_⟩
 cases b
 ·exact (h2 rfl).done (.inl rfl)
 ·exact h1 rfl
theorem Kt {n₀ bx:Nat}  {ps:List Z6} {m:Nat} (h:HeapIs n₀ bx v w ps) (hp:HeapTo ps ps.length) (hm:ps.length=m+1) (hl:ps.length<=900) :
  Calls Tryz.prog 339 #[.iface 263 (.pointer (some ⟨bx,0,none⟩))] w fun e w'=>e= .returned (.iface 94 (.agg #[.int .i64 (Z7 ps 0).1,.int .i64 (Z7 ps 0).2]))/\ ∃ v' qs,HeapIs n₀ bx v' w' qs/\HeapTo qs qs.length/\(qs++[Z7 ps 0]).Perm ps/\v'.ownBlock=v.ownBlock/\Fr bx v.ownBlock w w':=by
 have H:=Z9 h
 rw [hm] at hp
 have HP:=Z9 hp
 have hm1:=Cu ⟨bx,0,none⟩
 have hm2:=De ⟨bx,0,none⟩
 have hm3:=I0 ⟨bx,0,none⟩
 clear h hp
 go_enter Tryz.func339,Tryz.ntmps339
 go_wp2_with fail
 refine (RQ (uh H)).mono ?_
 rw [hm]
 rintro e w' ⟨rfl,h2⟩
 subst w'
 go_wp2_with fail
 refine (TI (i:=0) (j:=m) (uh H) (by omega) (by omega)).mono ?_
 rintro e w1 ⟨rfl,hh1,hf1⟩
 have H1:=Z9 hh1
 have F1:=Z9 hf1
 have hl1:(swp ps 0 m).length=m+1:=by rw [DP];exact hm
 have HD:Hid (DnTo (swp ps 0 m) m 0 0):=Z9 (by
  by_cases e:m=0
  ·subst e;exact DnTo.none
  ·exact (uh HP).swap hm (by omega))
 have HA:Hid (Z7 (swp ps 0 m) m=Z7 ps 0):=Z9 (by rw [TJ (by omega) (by omega),if_pos rfl])
 have HPm:Hid ((swp ps 0 m).Perm ps):=Z9 (TK (by omega) (by omega))
 clear hh1 hf1
 go_wp2_with fail
 refine (D9 (n:=m) (i0:=0) (uh H1) (uh HD) (by omega) (by omega) (by omega)).mono ?_
 intro e w2 hpost
 obtain ⟨b,qs,rfl,hh2,hp2,hs2,hf2,hq2⟩:=hpost.zero
 have hql:qs.length=m+1:=by rw [hp2.length_eq,hl1]
 have H2:=Z9 hh2
 have HE:Hid ((qs.take m++[Z7 ps 0]).Perm ps):=Z9 (by rw [<-uh HA,<-hs2 m (Nat.le_refl _),PI hql];exact hp2.trans (uh HPm))
 have HV:Hid (Z7 qs m=Z7 ps 0):=Z9 ((hs2 m (Nat.le_refl _)).trans (uh HA))
 have HQ:Hid (HeapTo (qs.take m) (qs.take m).length):=Z9 (by rw [List.length_take,Nat.min_eq_left (by omega)];exact hq2.take (Nat.le_refl _))
 have F2:=Z9 ((uh F1).trans hf2)
 clear hpost hh2 hp2 hs2 hf2 hq2
 go_wp2_with fail
 refine (EH (uh H2) hql).mono ?_
 rw [uh HV]
 rintro e w3 ⟨rfl,v3,hh3,ho3,hf3⟩
 have H3:=Z9 hh3
 have F3:=Z9 ((uh F2).trans hf3)
 clear hh3 hf3
 go_wp2_with fail
 go_ret
 exact ⟨rfl,v3,qs.take m,uh H3,uh HQ,uh HE,ho3,uh F3⟩
theorem L9 (g o i:Nat):(⟨g,o,none⟩:Addr).add i=⟨g,o+i,none⟩:=by unfold Addr.add;split<;>simp_all
theorem P9 {base t ty e size n:Nat} {i:TypeInfo} (ht:Tryz.prog.underlying t=some (.slice e)) (hi:Tryz.prog.info? e=some i) {xs:List Value} (hown:w.ownsRow base e size v n xs) (a:Option Addr) (c:Nat) :
  (Builtin.append_ #[t,t] ty #[v,.slice a 0 c]).run Tryz.prog w= .ok v w:=by
 rcases hown.2 with ⟨rfl,rfl⟩ | ⟨g,cap,cur,rfl,_,_,hnc,_⟩
 ·cases a<;>simp [Builtin.append_,run_underlying ht,sizeOf,typeInfo,hi,Builtin.lenOf,Builtin.firstCells,loadCells,loadCellsFrom]
 ·cases a<;>simp [Builtin.append_,run_underlying ht,sizeOf,typeInfo,hi,Builtin.lenOf,Builtin.firstCells,hnc,storeCells,loadCells,loadCellsFrom]
theorem D3 {b off:Nat} {qs:List Z6} (h:∀ k,k<qs.length->w.cell? ⟨b,off+k*2,none⟩=some (.int .i64 (Z7 qs k).1)/\w.cell? ⟨b,off+k*2+1,none⟩=some (.int .i64 (Z7 qs k).2)) :
  ∀ (j:Nat) (u:Value),(Zq qs)[j]?=some u->w.cell? ((⟨b,off,none⟩:Addr).add j)=some u:=fun j u hj=>by
 have hlt:j<qs.length*2:=by
  rcases Nat.lt_or_ge j (qs.length*2) with h | h
  ·exact h
  ·rw [List.getElem?_eq_none (by rw [Un];exact h)] at hj;cases hj
 rw [L9]
 have hp:=VM (f:=fun p:Z6=>Value.int .i64 p.1) (g:=fun p:Z6=>Value.int .i64 p.2) qs (j / 2) (by omega)
 have e:Z7 qs (j / 2)=qs[j / 2]'(by omega):=by unfold Z7;simp [List.getD,(by omega:j / 2<qs.length)]
 obtain ⟨h1,h2⟩:=h (j / 2) (by omega)
 rw [e] at h1 h2
 rcases Nat.mod_two_eq_zero_or_one j with e2 | e2
 ·rw [show off+j=off+j / 2*2 by omega,h1,<-hj]
  conv=>rhs;rw [show j=j / 2*2 by omega]
  exact hp.1.symm
 ·rw [show off+j=off+j / 2*2+1 by omega,h2,<-hj]
  conv=>rhs;rw [show j=j / 2*2+1 by omega]
  exact hp.2.symm
theorem F9 (qs:List Z6):∀ u ∈ Zq qs,u.oneCell'=true:=fun u hu=>by
 unfold Zq at hu
 obtain ⟨p,_,hp⟩:=List.mem_flatMap.1 hu
 simp only [List.mem_cons,List.not_mem_nil,or_false] at hp
 rcases hp with rfl | rfl<;>rfl
theorem TQ {base t ty:Nat} (ht:Tryz.prog.underlying t=some (.slice 94)) {v x:Value} {ps qs:List Z6} (hown:EntsAt base w v ps) (hx:IsPaces w x qs) (hb:ps.length+qs.length<=4000) (hbase:base<=w.heap.size) :
  ∃ v' w',(Builtin.append_ #[t,t] ty #[v,x]).run Tryz.prog w= .ok v' w'/\EntsAt base w' v' (ps++qs)/\w.grownBy w' v.ownBlock/\(v'.ownBlock=v.ownBlock\/v'.ownBlock=some w.heap.size):=by
 obtain ⟨i0,hi,hz0,hz1,hz2⟩:=info_parts Ws
 obtain ⟨a,c,rfl,hc,hm,hr⟩:=hx
 by_cases h0:qs=[]
 ·subst h0
  refine ⟨v,w,P9 ht hi hown a c,by simpa using hown,So _ _,.inl rfl⟩
 ·rcases hr with hr | ⟨b,off,rfl,hlt,hcl⟩
  ·exact absurd hr h0
  ·obtain ⟨v',w',hr,h2,h3,_,h5⟩:=run_append_own_at (P:=Tryz.prog) w base t ty 94 i0 (.agg #[.int .i64 0,.int .i64 0]) 2 16 ht hi hz0 hz1 hz2 rfl (by decide) v ps.length _ hown ⟨b,off,none⟩ qs.length c (Zq qs) (Un qs)
    (D3 hcl) (F9 qs) (by simp only [maxLen];omega) (by omega) hbase
   refine ⟨v',w',hr,?_,h3,h5⟩
   unfold EntsAt
   rw [SL,List.length_append]
   exact h2
theorem Xb {ops:Array Oper} {rest:List Oper} {o:Oper} {a:Act} {Q:Exit->Act->World->Prop} (hgd:o.guard=none) (s x:Operand) (t:TypeId) (ht:Tryz.prog.underlying t=some (.slice 94))
  (ho:o.op= .call { callee:= .builtin .append,args:=#[s,x],argTypes:=#[t,t] }) (base:Nat) (v u:Value) (ps qs:List Z6) (hs:a.eval s=v) (hx:a.eval x=u) (hown:EntsAt base w v ps) (hr:IsPaces w u qs)
  (hb:ps.length+qs.length<=4000) (hbase:base<=w.heap.size)
  (h:∀ v' w',EntsAt base w' v' (ps++qs)->w.grownBy w' v.ownBlock->(v'.ownBlock=v.ownBlock\/v'.ownBlock=some w.heap.size)->wpList Tryz.prog ops Q rest (a.put o.dst v') w') :
  wpList Tryz.prog ops Q (o::rest) a w:=by
 refine wpList_plain hgd fun K hK=> ?_
 obtain ⟨v',w',hrun,h2,h3,h5⟩:=TQ (ty:=o.type) ht hown hr hb hbase
 unfold Oper.wp execOp
 simp only [ho,resolve,invoke,builtin,Sem.run_bind,Sem.run_pure,Result.andThen_ok,List.map_toArray,List.map_cons,List.map_nil,hs,hx,hrun]
 exact hK _ _ (h v' w' h2 h3 h5)
theorem Yw {ops:Array Oper} {o:Oper} {a:Act} {K:Act->World->Prop} {Q:Exit->Act->World->Prop} {E:Prop} (hgd:o.guard=none) (s x:Operand) (t:TypeId) (ht:Tryz.prog.underlying t=some (.slice 94))
  (ho:o.op= .call { callee:= .builtin .append,args:=#[s,x],argTypes:=#[t,t] }) (base:Nat) (v u:Value) (ps qs:List Z6) (hs:a.eval s=v) (hx:a.eval x=u) (hown:EntsAt base w v ps) (hr:IsPaces w u qs)
  (hb:ps.length+qs.length<=4000) (hbase:base<=w.heap.size)
  (h:∀ v' w',EntsAt base w' v' (ps++qs)->w.grownBy w' v.ownBlock->(v'.ownBlock=v.ownBlock\/v'.ownBlock=some w.heap.size)->K (a.put o.dst v') w') :
  if Region.wanted o (yielded ops a.tmps)=true then Oper.wp Tryz.prog o a w K Q else E:=by
 have hw:Region.wanted o (yielded ops a.tmps)=true:=by simp [Region.wanted,hgd]
 rw [if_pos hw]
 obtain ⟨v',w',hrun,h2,h3,h5⟩:=TQ (ty:=o.type) ht hown hr hb hbase
 unfold Oper.wp execOp
 simp only [ho,resolve,invoke,builtin,Sem.run_bind,Sem.run_pure,Result.andThen_ok,List.map_toArray,List.map_cons,List.map_nil,hs,hx,hrun]
 exact h v' w' h2 h3 h5
theorem Wn {B g:Nat} (hg:g=w.heap.size) (hB:B<=g):EntsAt B (w.alloc (.cells #[] 94)) (.slice (some ⟨g,0,none⟩) 0 0) []:=by
 subst hg
 exact ⟨by simp [Zq],.inr ⟨_,0,#[],rfl,hB,heap_alloc_new w _,Nat.le_refl _,Nat.zero_le _,by simp,by simp [Zq]⟩⟩
theorem Tk {f z:Int} {g c:Nat} (hg:g=w.heap.size) (hc:1<=c) (hc2:c<=4000):IsPaces (w.alloc (.cells #[.int .i64 f,.int .i64 z] 94)) (.slice (some ⟨g,0,none⟩) 1 c) [(f,z)]:=by
 subst hg
 refine ⟨_,c,rfl,hc,by omega,.inr ⟨_,0,rfl,by simp,fun k hk=> ?_⟩⟩
 obtain rfl:k=0:=by simpa using hk
 simp [Z7]
theorem OB  {ps:List Z6} (h:IsPaces w v ps) (hl:ps.length<=1000) :
  Calls Tryz.prog 299 #[v] w fun e w'=> ∃ v',e= .returned v'/\EntsAt w.heap.size w' v' ps/\Below w.heap.size w w':=by
 have Hv:=Z9 h
 obtain ⟨a,cap,rfl,hc,hm,hr⟩:=h
 clear hr
 go_enter Tryz.func299,Tryz.ntmps299
 go_wp2_with (at_builtin;refine Xb rfl (.tmp 3) (.tmp 4) 50 Tryz.underlying50 rfl w.heap.size _ _ [] ps rfl rfl (Wn rfl (Nat.le_refl _)) ((uh Hv).below ((Below.refl _ _).alloc (Nat.le_refl _) _)) (by simp;omega) (by simp) ?_;intro v' w1 hown hgrow hat)
 go_ret
 refine ⟨v',rfl,by simpa using hown,((Below.refl _ _).alloc (Nat.le_refl _) _).trans ((Below.refl _ _).grown hgrow (by simp) (fun k e=> ?_))⟩
 cases e;exact Nat.le_refl _
theorem Ug  {ps:List Z6} (h:IsPaces w v ps) (hl:ps.length<=1000) :
  Calls Tryz.prog 243 #[v] w fun e w'=> ∃ v',e= .returned v'/\EntsAt w.heap.size w' v' ps/\Below w.heap.size w w':=by
 have Hv:=Z9 h
 obtain ⟨a,cap,rfl,hc,hm,hr⟩:=h
 clear hr
 go_enter Tryz.func243,Tryz.ntmps243
 go_wp2_with (at_builtin;refine Xb rfl (.tmp 3) (.tmp 4) 50 Tryz.underlying50 rfl w.heap.size _ _ [] ps rfl rfl (Wn rfl (Nat.le_refl _)) ((uh Hv).below ((Below.refl _ _).alloc (Nat.le_refl _) _)) (by simp;omega) (by simp) ?_;intro v' w1 hown hgrow hat)
 go_ret
 refine ⟨v',rfl,by simpa using hown,((Below.refl _ _).alloc (Nat.le_refl _) _).trans ((Below.refl _ _).grown hgrow (by simp) (fun k e=> ?_))⟩
 cases e;exact Nat.le_refl _
theorem IE  {ps:List Z6} (h:IsPaces w v ps) (hl:ps.length<=1000) :
  Calls Tryz.prog 296 #[v] w fun e w'=> ∃ bx v',e= .returned (.pointer (some ⟨bx,0,none⟩))/\w.heap.size<=bx/\HeapIs w.heap.size bx v' w' ps/\Below w.heap.size w w':=by
 have Hv:=Z9 h
 obtain ⟨a,cap,rfl,hc,hm,hr⟩:=h
 clear hr
 go_enter Tryz.func296,Tryz.ntmps296
 go_wp2_with fail
 refine (OB (uh Hv) hl).mono ?_
 rintro e w1 ⟨v1,rfl,hi1,hb1⟩
 obtain ⟨a1,cap1,rfl⟩:=hi1.shape
 have H1:=Z9 hi1
 have B1:=Z9 hb1
 have hz1:=hb1.size
 clear hi1 hb1
 go_wp2_with fail
 go_ret
 refine ⟨w1.heap.size,.slice a1 ps.length cap1,rfl,hz1,⟨by simp,by simp,by simp,(uh H1).later ((Below.refl _ _).alloc (Nat.le_refl _) _),fun e=> ?_⟩,(uh B1).alloc hz1 _⟩
 have:=(uh H1).lt e
 omega
theorem E7 (a:Option Addr) (n cap k:Nat) (hk:k<=cap) (W:World):(Instr.slice 50 (.slice a n cap) none (some (.int .i64 k)) none).run Tryz.prog W= .ok (.slice a k cap) W:=by
 obtain ⟨i0,hi,hz0,hz1,hz2⟩:=info_parts Ws
 have hs:∀ W,(sizeOf 94).run Tryz.prog W= .ok 2 W:=fun W=>by simp [sizeOf,typeInfo,hi,hz1]
 have hb:∀ W,(Instr.sliceBounds true n cap none (some (.int .i64 k)) none).run Tryz.prog W= .ok (0,k,cap) W:=fun W=>by
  simp [Instr.sliceBounds,Instr.sliceBound,asIntOf]
  intro h;omega
 simp only [Instr.slice,Sem.run_bind,run_underlying Tryz.underlying50,Result.andThen,hb,hs,Sem.run_pure]
 simp
 cases a<;>simp [Addr.add]
def GN (a:Option Addr) (n cap k:Nat):Value:= .slice (if cap=k then a else a.map (·.add (k*2))) (n-k) (cap-k)
theorem Jm (a:Option Addr) (n cap k:Nat) (hk:k<=n) (W:World):(Instr.slice 50 (.slice a n cap) (some (.int .i64 k)) none none).run Tryz.prog W= .ok (GN a n cap k) W:=by
 obtain ⟨i0,hi,hz0,hz1,hz2⟩:=info_parts Ws
 have hs:∀ W,(sizeOf 94).run Tryz.prog W= .ok 2 W:=fun W=>by simp [sizeOf,typeInfo,hi,hz1]
 have hb:∀ W,(Instr.sliceBounds true n cap (some (.int .i64 k)) none none).run Tryz.prog W= .ok (k,n,cap) W:=fun W=>by
  simp [Instr.sliceBounds,Instr.sliceBound,asIntOf]
  intro h;omega
 simp only [Instr.slice,Sem.run_bind,run_underlying Tryz.underlying50,Result.andThen,hb,hs,Sem.run_pure]
 rfl
theorem Lc (ps:List Z6) (n k:Nat):Z7 (ps.drop n) k=Z7 ps (n+k):=by unfold Z7;simp [List.getD]
theorem IsPaces.from {a:Option Addr} {n cap:Nat} {ps:List Z6} (h:IsPaces w (.slice a n cap) ps) {k:Nat} (hk:k<=ps.length):IsPaces w (GN a n cap k) (ps.drop k):=by
 obtain ⟨a',cap',he,hc,hm,hr⟩:=h
 cases he
 refine ⟨_,cap-k,by unfold GN;rw [List.length_drop],by rw [List.length_drop];omega,by omega,?_⟩
 rcases hr with hr | ⟨b,off,rfl,hlt,hcl⟩
 ·exact .inl (by rw [hr];simp)
 ·by_cases hz:ps.length=k
  ·exact .inl (by rw [List.drop_eq_nil_iff];omega)
  ·rw [if_neg (by omega)]
   refine .inr ⟨b,off+k*2,by simp [L9],hlt,fun j hj=> ?_⟩
   rw [List.length_drop] at hj
   rw [Lc]
   have:=hcl (k+j) (by omega)
   rw [show off+(k+j)*2=off+k*2+j*2 by omega] at this
   exact this
theorem Kf (a:Option Addr) (n cap k:Nat):∃ a',GN a n cap k= .slice a' (n-k) (cap-k):=⟨_,rfl⟩
theorem FW  {ps:List Z6} (f z:Int) (h:IsPaces w v ps) (hl:ps.length<=900) :
  Calls Tryz.prog 180 #[v,.agg #[.int .i64 f,.int .i64 z]] w fun e w'=> ∃ v',e= .returned v'/\EntsAt w.heap.size w' v' (Vi ps (f,z))/\Below w.heap.size w w':=by
 have Hv:=Z9 h
 obtain ⟨a,cap,rfl,hc,hm,hr⟩:=h
 have Hr:=Z9 hr
 clear hr
 go_enter Tryz.func180,Tryz.ntmps180
 go_wp2_with fail
 generalize hW:w.alloc (.cells #[.int .i64 f,.int .i64 z] 94)=W0
 have hs0:W0.heap.size=w.heap.size+1:=by rw [<-hW];simp
 have d0:W0.cell? ⟨w.heap.size,0,none⟩=some (.int .i64 f):=by rw [<-hW];simp
 have d1:W0.cell? ⟨w.heap.size,1,none⟩=some (.int .i64 z):=by rw [<-hW];simp
 have HB0:Hid (Below w.heap.size w W0):=Z9 (by rw [<-hW];exact (Below.refl _ _).alloc (Nat.le_refl _) _)
 have D0:=Z9 d0
 have D1:=Z9 d1
 clear hW d0 d1
 go_loopw [5] (fun i wr=> ∃ k:Nat,k<=ps.length/\i= .int .i64 k/\(∀ j,j<k->ltB (Z7 ps j) (f,z)=true)/\Below W0.heap.size W0 wr) (fun i _=>ps.length-(intOf i).toNat)
 case atStart=>exact ⟨0,Nat.zero_le _,rfl,fun j hj=>by omega,Below.refl _ _⟩
 case round=>
  obtain ⟨k,hk,rfl,hst,hb⟩:=hrel
  have Hst:=Z9 hst
  have Hb:=Z9 hb
  have hszr:=hb.size
  have hlt0:w.heap.size<W0.heap.size:=by omega
  have g0:=(hb.cell (p:=⟨w.heap.size,0,none⟩) hlt0).trans (uh D0)
  have g1:=(hb.cell (p:=⟨w.heap.size,1,none⟩) hlt0).trans (uh D1)
  have k0:=cell_regrown g0
  have k1:=cell_regrown g1
  clear hst
  by_cases hgo:k<ps.length/\ltB (Z7 ps k) (f,z)=true
  ·obtain ⟨hlt,hab⟩:=hgo
   rcases uh Hr with h0 | ⟨b,off,rfl,hbw,hcl⟩
   ·rw [h0] at hlt;simp at hlt
   obtain ⟨c0,c1⟩:=hcl k hlt
   have hbB:=(uh HB0).trans (hb.mono (by omega))
   rw [<-hbB.cell (p:=⟨b,off+k*2,none⟩) hbw] at c0
   rw [<-hbB.cell (p:=⟨b,off+k*2+1,none⟩) hbw] at c1
   generalize hp:Z7 ps k=p at *
   obtain ⟨f',z'⟩:=p
   simp only at c0 c1
   have Hp:=Z9 hp
   have m0:=cell_regrown c0
   have m1:=cell_regrown c1
   have hd:decide (k<ps.length)=true:=decide_eq_true hlt
   clear hp hcl hb hbB g0 g1 c0 c1
   go_wp2_with fail
   refine wp_region_quiet_below (by kernel_rfl) (by kernel_rfl) ?_
   repeat (go_big_quiet_step (exact Calls.regrown_of (Uu _ _ _ _ _)))
   refine wpQuiet_nil ?_
   intro _ hw'
   obtain ⟨⟨dq,osq⟩,hw''⟩:=hw'
   subst hw''
   go_wp2_with fail
   go_roundw
   case rel=>exact ⟨k+1,by omega,by go_num,Ys (uh Hst) (by rw [uh Hp];exact hab),(uh Hb).trans ((below_regrown _ _ _).mono (uh Hb).size)⟩
   case measure=>simp [intOf];omega
  ·have HK:Hid (XZ (f,z) ps=k):=Z9 (Eu hk (uh Hst) (by
    by_cases e:k=ps.length
    ·exact .inl e
    ·right
     cases hq:ltB (Z7 ps k) (f,z)
     ·rfl
     ·exact absurd ⟨by omega,hq⟩ hgo))
   have HQ:Hid (ps.take k++[(f,z)]++ps.drop k=Vi ps (f,z)):=Z9 (by unfold Vi;rw [uh HK];simp)
   have hto:=E7 a ps.length cap k (by omega)
   have hfr:=Jm a ps.length cap k hk
   obtain ⟨ra,hra⟩:=Kf a ps.length cap k
   rw [hra] at hfr
   have Hfrom:Hid (IsPaces w (.slice ra (ps.length-k) (cap-k)) (ps.drop k)):=Z9 (by rw [<-hra];exact (uh Hv).from hk)
   have Hcut:Hid (IsPaces w (.slice a k cap) (ps.take k)):=Z9 ((uh Hv).cut hk)
   clear hra
   by_cases hlt:k<ps.length
   ·have hab:ltB (Z7 ps k) (f,z)=false:=by
     cases hq:ltB (Z7 ps k) (f,z)
     ·rfl
     ·exact absurd ⟨hlt,hq⟩ hgo
    rcases uh Hr with h0 | ⟨b,off,rfl,hbw,hcl⟩
    ·rw [h0] at hlt;simp at hlt
    obtain ⟨c0,c1⟩:=hcl k hlt
    have hbB:=(uh HB0).trans (hb.mono (by omega))
    rw [<-hbB.cell (p:=⟨b,off+k*2,none⟩) hbw] at c0
    rw [<-hbB.cell (p:=⟨b,off+k*2+1,none⟩) hbw] at c1
    generalize hp:Z7 ps k=p at *
    obtain ⟨f',z'⟩:=p
    simp only at c0 c1
    have m0:=cell_regrown c0
    have m1:=cell_regrown c1
    have hd:decide (k<ps.length)=true:=decide_eq_true hlt
    clear hp hcl hb hbB g0 g1 c0 c1 hgo
    go_wp2_with fail
    refine wp_region_quiet_below (by kernel_rfl) (by kernel_rfl) ?_
    repeat (go_big_quiet_step (exact Calls.regrown_of (Uu _ _ _ _ _)))
    refine wpQuiet_nil ?_
    intro w1 hw'
    have Hb1:Hid (Below W0.heap.size W0 w1):=Z9 (by obtain ⟨q,rfl⟩:=hw';exact (uh Hb).trans ((below_regrown _ _ _).mono (uh Hb).size))
    clear hw' k0 k1 m0 m1
    go_wp2_with fail
    have B1:Hid (Below w.heap.size w w1):=Z9 ((uh HB0).trans ((uh Hb1).mono (by omega)))
    refine (Ug ((uh Hfrom).below (uh B1)) (by simp;omega)).mono ?_
    rintro e w2 ⟨v2,rfl,hi2,hb2⟩
    obtain ⟨a2,cap2,hv2⟩:=hi2.shape
    rw [List.length_drop] at hv2
    subst hv2
    have hz1:=(uh Hb1).size
    have hz2:=hb2.size
    have Hb2:Hid (Below W0.heap.size W0 w2):=Z9 ((uh Hb1).trans (hb2.mono hz1))
    have e0:=((uh Hb2).cell (p:=⟨w.heap.size,0,none⟩) hlt0).trans (uh D0)
    have e1:=((uh Hb2).cell (p:=⟨w.heap.size,1,none⟩) hlt0).trans (uh D1)
    have B2:Hid (Below w.heap.size w w2):=Z9 ((uh HB0).trans ((uh Hb2).mono (by omega)))
    have Hi2:=Z9 hi2
    have HC:=Z9 ((uh Hcut).below (uh B2))
    clear hi2 hb2
    have hlt2:w.heap.size<w2.heap.size:=by omega
    have hkl:(ps.take k).length=k:=by simp;omega
    go_wp2_with fail
    go_region_law (first
     | (refine Yw rfl (.tmp 28) (.tmp 30) 50 Tryz.underlying50 rfl w2.heap.size _ _ (ps.take k) [(f,z)] rfl rfl (E3.later ((Below.refl _ _).alloc (Nat.le_refl _) _)) (Tk rfl (Nat.le_refl _) (by omega)) (by simp;omega) (by simp;omega) ?_;intro v4 w4 hown4 hg4 hat4;have X4:Below w2.heap.size w2 w4:=(X3.alloc X3.size _).trans ((Below.refl _ _).grown hg4 (by simp;omega) (fun i e=>(E3.lt e).1)))
     | (refine Yw rfl (.tmp 28) (.tmp 30) 50 Tryz.underlying50 rfl w2.heap.size _ _ (ps.take k) [(f,z)] rfl rfl E3 ((Tk (w:=w2) rfl (Nat.le_refl _) (by omega)).below (((Below.refl _ _).drew).trans hb3)) (by simp;omega) (by omega) ?_;intro v4 w4 hown4 hg4 hat4;have X4:Below w2.heap.size w2 w4:=X3.trans ((Below.refl _ _).grown hg4 (by omega) (fun i e=>(E3.lt e).1)))
     | (refine Yw rfl (.tmp 31) (.tmp 32) 50 Tryz.underlying50 rfl w2.heap.size _ _ (ps.take k++[(f,z)]) (ps.drop k) rfl rfl hown4 ((uh Hi2).paces.below X4) (by simp;omega) (by have:=X4.size;omega) ?_;intro v5 w5 hown5 hg5 hat5)
     | (go_simp;go_at_call 243;refine (Ug (ps:=ps.take k) ?_ (by simp;omega)).mono ?_;(exact (uh HC).below (by first | exact (Below.refl _ _).drew | exact ((Below.refl _ _).alloc (Nat.le_refl _) _).drew));rintro e w3 ⟨v3,rfl,hi3,hb3⟩;obtain ⟨a3,cap3,hv3⟩:=hi3.shape;rw [hkl] at hv3;subst hv3;have E3:=hi3.mono (n₁:=w2.heap.size) (by simp);have X3:Below w2.heap.size w2 w3:=(by first | exact ((Below.refl _ _).drew).trans (hb3.mono (by simp)) | exact (((Below.refl _ _).alloc (Nat.le_refl _) _).drew).trans (hb3.mono (by simp)));have hz3:=X3.size;have q0:=(X3.cell (p:=⟨w.heap.size,0,none⟩) hlt2).trans e0;have q1:=(X3.cell (p:=⟨w.heap.size,1,none⟩) hlt2).trans e1))
    all_goals
     have X5:Below w2.heap.size w2 w5:=X4.trans ((Below.refl _ _).grown hg5 X4.size (fun i e=>(hown4.lt e).1))
     rw [uh HQ] at hown5
     have HX5:=Z9 X5
     have HO5:=Z9 hown5
     clear hown5 hg5 hat5 X4 X5 hown4 hg4 hat4 X3 E3 hi3 hb3 q0 q1
     go_wp2_with fail
     go_ret
     exact ⟨_,rfl,(uh HO5).mono (uh B2).size,(uh B2).trans ((uh HX5).mono (uh B2).size)⟩
   ·have hd:decide (k<ps.length)=false:=decide_eq_false hlt
    clear hb g0 g1 hgo
    go_wp2_with fail
    refine wp_region_quiet_below (by kernel_rfl) (by kernel_rfl) ?_
    repeat (go_big_quiet_step (exact Calls.regrown_of (Uu _ _ _ _ _)))
    refine wpQuiet_nil ?_
    intro w1 hw'
    have Hb1:Hid (Below W0.heap.size W0 w1):=Z9 (by obtain ⟨q,rfl⟩:=hw';exact (uh Hb).trans ((below_regrown _ _ _).mono (uh Hb).size))
    clear hw' k0 k1
    go_wp2_with fail
    have B1:Hid (Below w.heap.size w w1):=Z9 ((uh HB0).trans ((uh Hb1).mono (by omega)))
    refine (Ug ((uh Hfrom).below (uh B1)) (by simp;omega)).mono ?_
    rintro e w2 ⟨v2,rfl,hi2,hb2⟩
    obtain ⟨a2,cap2,hv2⟩:=hi2.shape
    rw [List.length_drop] at hv2
    subst hv2
    have hz1:=(uh Hb1).size
    have hz2:=hb2.size
    have Hb2:Hid (Below W0.heap.size W0 w2):=Z9 ((uh Hb1).trans (hb2.mono hz1))
    have e0:=((uh Hb2).cell (p:=⟨w.heap.size,0,none⟩) hlt0).trans (uh D0)
    have e1:=((uh Hb2).cell (p:=⟨w.heap.size,1,none⟩) hlt0).trans (uh D1)
    have B2:Hid (Below w.heap.size w w2):=Z9 ((uh HB0).trans ((uh Hb2).mono (by omega)))
    have Hi2:=Z9 hi2
    have HC:=Z9 ((uh Hcut).below (uh B2))
    clear hi2 hb2
    have hlt2:w.heap.size<w2.heap.size:=by omega
    have hkl:(ps.take k).length=k:=by simp;omega
    go_wp2_with fail
    go_region_law (first
     | (refine Yw rfl (.tmp 28) (.tmp 30) 50 Tryz.underlying50 rfl w2.heap.size _ _ (ps.take k) [(f,z)] rfl rfl (E3.later ((Below.refl _ _).alloc (Nat.le_refl _) _)) (Tk rfl (Nat.le_refl _) (by omega)) (by simp;omega) (by simp;omega) ?_;intro v4 w4 hown4 hg4 hat4;have X4:Below w2.heap.size w2 w4:=(X3.alloc X3.size _).trans ((Below.refl _ _).grown hg4 (by simp;omega) (fun i e=>(E3.lt e).1)))
     | (refine Yw rfl (.tmp 28) (.tmp 30) 50 Tryz.underlying50 rfl w2.heap.size _ _ (ps.take k) [(f,z)] rfl rfl E3 ((Tk (w:=w2) rfl (Nat.le_refl _) (by omega)).below (((Below.refl _ _).drew).trans hb3)) (by simp;omega) (by omega) ?_;intro v4 w4 hown4 hg4 hat4;have X4:Below w2.heap.size w2 w4:=X3.trans ((Below.refl _ _).grown hg4 (by omega) (fun i e=>(E3.lt e).1)))
     | (refine Yw rfl (.tmp 31) (.tmp 32) 50 Tryz.underlying50 rfl w2.heap.size _ _ (ps.take k++[(f,z)]) (ps.drop k) rfl rfl hown4 ((uh Hi2).paces.below X4) (by simp;omega) (by have:=X4.size;omega) ?_;intro v5 w5 hown5 hg5 hat5)
     | (go_simp;go_at_call 243;refine (Ug (ps:=ps.take k) ?_ (by simp;omega)).mono ?_;(exact (uh HC).below (by first | exact (Below.refl _ _).drew | exact ((Below.refl _ _).alloc (Nat.le_refl _) _).drew));rintro e w3 ⟨v3,rfl,hi3,hb3⟩;obtain ⟨a3,cap3,hv3⟩:=hi3.shape;rw [hkl] at hv3;subst hv3;have E3:=hi3.mono (n₁:=w2.heap.size) (by simp);have X3:Below w2.heap.size w2 w3:=(by first | exact ((Below.refl _ _).drew).trans (hb3.mono (by simp)) | exact (((Below.refl _ _).alloc (Nat.le_refl _) _).drew).trans (hb3.mono (by simp)));have hz3:=X3.size;have q0:=(X3.cell (p:=⟨w.heap.size,0,none⟩) hlt2).trans e0;have q1:=(X3.cell (p:=⟨w.heap.size,1,none⟩) hlt2).trans e1))
    all_goals
     have X5:Below w2.heap.size w2 w5:=X4.trans ((Below.refl _ _).grown hg5 X4.size (fun i e=>(hown4.lt e).1))
     rw [uh HQ] at hown5
     have HX5:=Z9 X5
     have HO5:=Z9 hown5
     clear hown5 hg5 hat5 X4 X5 hown4 hg4 hat4 X3 E3 hi3 hb3 q0 q1
     go_wp2_with fail
     go_ret
     exact ⟨_,rfl,(uh HO5).mono (uh B2).size,(uh B2).trans ((uh HX5).mono (uh B2).size)⟩
theorem SY  (b:Int) (h:Smy w v0 v1 v2 v3 v4 m) (hl:m.smiths.length<=800) :
  Calls Tryz.prog 92 #[.agg #[v0,v1,v2,v3,v4,.int .i64 m.now],.int .i64 b] w fun e w'=> ∃ v',e= .returned v'/\EntsAt w.heap.size w' v' (atV m.smiths b m.smiths.length)/\Below w.heap.size w w':=by
 obtain ⟨h0,h1,h2,h3,h4⟩:=h
 obtain ⟨a0,p0,rfl,hc0,hm0,_⟩:=h0
 obtain ⟨a1,p1,rfl,hc1,hm1,_⟩:=h1
 obtain ⟨a2,p2,rfl,hc2,hm2,r2⟩:=h2
 obtain ⟨a3,p3,rfl,hc3,hm3,_⟩:=h3
 obtain ⟨a4,p4,rfl,hc4,hm4,_⟩:=h4
 have R2:=Z9 r2
 clear r2
 have kb0:Hid (Blk ((w.alloc (.cells (S6 a0 p0 a1 p1 a2 p2 a3 p3 a4 p4 m) 32)).alloc (.cells #[] 94)) w.heap.size 32 (S6 a0 p0 a1 p1 a2 p2 a3 p3 a4 p4 m)):=Z9 ((Blk.new w _ _).alloc _)
 have BB0:Hid (Below w.heap.size w ((w.alloc (.cells (S6 a0 p0 a1 p1 a2 p2 a3 p3 a4 p4 m) 32)).alloc (.cells #[] 94))):=Z9 (((Below.refl _ _).alloc (Nat.le_refl _) _).alloc (by simp) _)
 have E0:Hid (EntsAt w.heap.size ((w.alloc (.cells (S6 a0 p0 a1 p1 a2 p2 a3 p3 a4 p4 m) 32)).alloc (.cells #[] 94)) (.slice (some ⟨w.heap.size+1,0,none⟩) 0 0) []):=Z9 (Wn (by simp) (by omega))
 go_enter Tryz.func92,Tryz.ntmps92
 go_wp2_with fail
 go_loopw [5,6] (fun q i wr=> ∃ k:Nat,k<=m.smiths.length/\i= .int .i64 k/\EntsAt w.heap.size wr q (atV m.smiths b k)/\Blk wr w.heap.size 32 (S6 a0 p0 a1 p1 a2 p2 a3 p3 a4 p4 m)/\Below w.heap.size w wr) (fun _ i _=>m.smiths.length-(intOf i).toNat)
 case atStart=>exact ⟨0,Nat.zero_le _,rfl,uh E0,uh kb0,uh BB0⟩
 case round=>
  obtain ⟨k,hk,rfl,he,kb1,hb1⟩:=hrel
  obtain ⟨qa,qcap,rfl⟩:=EntsAt.shape he
  have kb:=Z9 kb1
  have BB:=Z9 hb1
  have He:=Z9 he
  clear kb1 hb1 he kb0 BB0 E0
  have hal:=TY m.smiths b k
  have c2:=(uh kb).cell (i:=2) (v:= .slice a2 m.smiths.length p2) rfl
  by_cases hls:k<m.smiths.length
  ·rcases uh R2 with e0 | ⟨sb,off,rfl,hbw,hcl⟩
   ·rw [e0] at hls;simp at hls
   obtain ⟨d0,d1,d2,d3,d4,d5,d6,d7,d8,d9,d10⟩:=ZK hcl hls
   rw [<-(uh BB).cell (p:=⟨sb,off+k*11,none⟩) hbw] at d0
   rw [<-(uh BB).cell (p:=⟨sb,off+k*11+1,none⟩) hbw] at d1
   rw [<-(uh BB).cell (p:=⟨sb,off+k*11+2,none⟩) hbw] at d2
   rw [<-(uh BB).cell (p:=⟨sb,off+k*11+3,none⟩) hbw] at d3
   rw [<-(uh BB).cell (p:=⟨sb,off+k*11+4,none⟩) hbw] at d4
   rw [<-(uh BB).cell (p:=⟨sb,off+k*11+5,none⟩) hbw] at d5
   rw [<-(uh BB).cell (p:=⟨sb,off+k*11+6,none⟩) hbw] at d6
   rw [<-(uh BB).cell (p:=⟨sb,off+k*11+7,none⟩) hbw] at d7
   rw [<-(uh BB).cell (p:=⟨sb,off+k*11+8,none⟩) hbw] at d8
   rw [<-(uh BB).cell (p:=⟨sb,off+k*11+9,none⟩) hbw] at d9
   rw [<-(uh BB).cell (p:=⟨sb,off+k*11+10,none⟩) hbw] at d10
   clear hcl
   have S1:=Z9 (fun hs=>Oo (ss:=m.smiths) (b:=b) (k:=k) hs)
   have S2:=Z9 (fun h1 h2=>RC (ss:=m.smiths) (b:=b) (k:=k) h1 h2)
   generalize Z8 m.smiths k=ss at *
   obtain ⟨st,be,rk,my,gu,lo,hi,hd,ca,ut,wk⟩:=ss
   simp only at d0 d1 d2 d3 d4 d5 d6 d7 d8 d9 d10
   have hl0:w.heap.size<wr.heap.size:=(uh kb).lt
   by_cases hbe:be=b
   rotate_left
   ·have hbn:(be ==b)=false:=by simpa using hbe
    go_wp2_with fail
    go_roundw
    case rel=>exact ⟨k+1,by omega,by go_num,by rw [uh S1 (fun h9=>hbe h9.1)];exact EntsAt.later (uh He) ((Below.refl _ _).alloc (Nat.le_refl _) _),(uh kb).alloc _,(uh BB).alloc (uh BB).size _⟩
    case measure=>simp [intOf];omega
   subst hbe
   have hbn:(be ==be)=true:=by simp
   obtain ⟨ps,hps⟩:∃ q,ZT (st,be,rk,my,gu,lo,hi,hd,ca,ut,wk)=q:=⟨_,rfl⟩
   have Hps:=Z9 hps
   clear hps
   go_wp2_with fail
   clear c2 d0 d1 d2 d3 d4 d5 d6 d7 d8 d9 d10
   refine (YX (uh Hps) _).mono ?_
   rintro e w2 ⟨rfl,hb⟩
   have ks:Hid (Blk w2 wr.heap.size 43 (I11 st be rk my gu lo hi hd ca ut wk)):=Z9 ((Blk.new wr _ _).below hb (by simp))
   replace kb:=Z9 (((uh kb).alloc (.cells (I11 st be rk my gu lo hi hd ca ut wk) 43)).below hb (by simp;omega))
   have hba:=((Below.refl wr.heap.size wr).alloc (Nat.le_refl _) (.cells (I11 st be rk my gu lo hi hd ca ut wk) 43)).trans (hb.mono (by simp))
   replace He:=Z9 (EntsAt.later (uh He) hba)
   replace BB:=bt BB hba
   clear hb hl0 hba
   have d7:=(uh ks).cell (i:=7) (v:= .int .i64 hd) rfl
   cases ps
   ·go_wp2_with fail
    go_roundw
    case rel=>exact ⟨k+1,by omega,by go_num,by rw [uh S1 (fun h9=>by have h8:=h9.2;rw [uh Hps] at h8;cases h8)];exact uh He,uh kb,uh BB⟩
    case measure=>simp [intOf];omega
   go_wp2_with fail
   refine (FW hd (k:Int) (EntsAt.paces (uh He)) (by omega)).mono ?_
   rintro e w3 ⟨v3,rfl,he3,hb⟩
   have hsz:=(uh BB).size
   have he4:=EntsAt.mono he3 hsz
   replace kb:=bl kb hb
   replace BB:=Z9 ((uh BB).trans (hb.mono hsz))
   obtain ⟨qa3,qcap3,rfl⟩:=EntsAt.shape he4
   have He4:=Z9 he4
   clear hb he3 he4 d7
   go_wp2_with fail
   go_roundw
   case rel=>exact ⟨k+1,by omega,by go_num,by rw [uh S2 (by first | rfl | trivial) (uh Hps)];exact uh He4,uh kb,uh BB⟩
   case measure=>simp [intOf];omega
  ·obtain rfl:k=m.smiths.length:=by omega
   go_wp2_with fail
   go_ret
   exact ⟨_,rfl,uh He,uh BB⟩
end Go.Proofs.YtjhijildaceadaaGreatDoor
