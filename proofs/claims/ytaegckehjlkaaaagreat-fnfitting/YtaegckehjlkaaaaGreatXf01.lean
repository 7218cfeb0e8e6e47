/- Part 1 of what the proof rests on besides. No condition but those that a theorem names. -/
import Derived.Test.YtaegckehjlkaaaaGreatXc44
set_option maxHeartbeats 8000000
set_option maxRecDepth 100000
namespace Go.Proofs.YtaegckehjlkaaaaGreat
open Go.ChangeShapes Go.WideShapes Go.ChangeAt Go.RowKit
set_option linter.unusedVariables false
structure Still (w w':World):Prop where
 os:w'.os=w.os
 tape:w'.tape=w.tape
 output:w'.output=w.output
 heap:w'.heap=w.heap
theorem Still.refl (w:World):Still w w:=⟨rfl,rfl,rfl,rfl⟩
theorem Still.drewN {a w:World} (h:Still a w) (n:Nat):Still a (w.drewN n):=⟨h.os,h.tape,h.output,h.heap⟩
theorem Still.below {w w':World} (h:Still w w') (B:Nat):Below B w w':=⟨h.os,h.tape,h.output,by rw [h.heap];exact Nat.le_refl _,fun k _=>by rw [h.heap]⟩
theorem Still.cell {w w':World} (h:Still w w') (p:Addr):w'.cell? p=w.cell? p:=World.cell?_of_block (by rw [h.heap])
theorem Cq {n₀:Nat} {w:World} {v:Value} {zs:List Int} (hv:IntsAt n₀ w v zs) (hr:∀ k,k+1<zs.length->zs.getD k 0<zs.getD (k+1) 0) :
  Calls Tryz.prog 32 #[v] w fun e w'=>e= .returned (.bool true)/\Still w w':=by
 obtain ⟨a,cap,rfl,hlen,hca⟩:=hv.view
 have Hr:=Z9 hr
 clear hv hr
 go_enter Tryz.func32,Tryz.ntmps32
 go_wp2_with fail
 go_loopw [3] (fun i wr=> ∃ k:Nat,k<=zs.length/\i= .int .i64 (k+1)/\Still w wr) (fun i _=>zs.length+1-(intOf i).toNat)
 case atStart=>exact ⟨0,Nat.zero_le _,rfl,Still.refl _⟩
 case round=>
  obtain ⟨k,hk,rfl,hst⟩:=hrel
  by_cases hlt:(k:Int)+1<(zs.length:Int)
  ·rcases hca with rfl | ⟨g,rfl,_,_,hc,_⟩
   ·simp at hlt;omega
   have h1:=(hst.cell ⟨g,k,none⟩).trans (hc k (by omega))
   have h2:=(hst.cell ⟨g,k+1,none⟩).trans (hc (k+1) (by omega))
   have h3:=uh Hr k (by omega)
   have Hst:=Z9 hst
   clear hc hst
   generalize zs.getD k 0=z at *
   generalize zs.getD (k+1) 0=y at *
   go_wp2_with fail
   go_quiet (fail)
   all_goals go_wp2_with fail
   all_goals
    go_roundw
    case rel=>exact ⟨k+1,by omega,by go_num,(uh Hst).drewN _⟩
    case measure=>simp [intOf];omega
  ·go_wp2_with fail
   go_ret
   exact ⟨rfl,hst⟩
open Go.ChangeShapes Go.WideShapes Go.ChangeAt Go.RowKit Go.Sort
theorem MG (m:Z6) (who:Int) (x:YA):∀ k,x ∈ Tg m who k ↔ ∃ b:Nat,b<k/\Zw m who b=true/\x=E7 m who b
 | 0=>by simp [Tg]
 | k+1=>by
  have ih:=MG m who x k
  cases ho:Zw m who k
  ·rw [Rr ho,ih]
   constructor
   ·rintro ⟨b,hb,h⟩;exact ⟨b,by omega,h⟩
   ·rintro ⟨b,hb,h1,h2⟩
    by_cases e:b=k
    ·subst e;rw [ho] at h1;cases h1
    ·exact ⟨b,by omega,h1,h2⟩
  ·rw [QG ho,List.mem_append,ih]
   constructor
   ·rintro (⟨b,hb,h⟩ | h)
    ·exact ⟨b,by omega,h⟩
    ·exact ⟨k,by omega,ho,by simpa using h⟩
   ·rintro ⟨b,hb,h1,h2⟩
    by_cases e:b=k
    ·subst e;right;simp [h2]
    ·left;exact ⟨b,by omega,h1,h2⟩
theorem Cn (m:Z6) (who b:Int):(RR m who).any (fun x=>x.1 ==b)=VJ m who b:=by
 unfold RR VJ
 cases h1:ZS m
 ·rfl
 cases h2:Yg m who
 ·rfl
 simp only [Bool.and_self,if_true,Bool.true_and]
 rw [Bool.eq_iff_iff,List.any_eq_true,Bool.and_eq_true]
 unfold Yq inB
 rw [decide_eq_true_iff]
 constructor
 ·rintro ⟨x,hx,he⟩
  obtain ⟨j,hj,hm,rfl⟩:=(MG m who x _).1 hx
  have he2:(j:Int)=b:=by simpa [E7] using he
  subst he2
  exact ⟨⟨by omega,by omega⟩,by rw [Int.toNat_natCast];exact hm⟩
 ·rintro ⟨⟨h3,h4⟩,hm⟩
  exact ⟨E7 m who b.toNat,(MG m who _ _).2 ⟨b.toNat,by omega,hm,rfl⟩,by simp only [E7,beq_iff_eq];omega⟩
theorem Cm (m:Z6) (who:Int):(Zp m who).Pairwise (· < ·):=by
 unfold Zp
 split
 ·exact MR m who _
 ·exact List.Pairwise.nil
open Go.ChangeShapes Go.WideShapes Go.ChangeAt Go.RowKit Go.Sort Go.Shelf
set_option linter.unusedSimpArgs false
set_option maxRecDepth 100000
attribute [local go_sem] Pu De
attribute [local go_sem] Pu
theorem Rp {w:World} {v0 v1 v2 v3 v4:Value} {m:Z6} {who b:Int} {q:Bool} (hq:VJ m who b=q) (h:Smy w v0 v1 v2 v3 v4 m):Calls Tryz.prog 30 #[.agg #[v0,v1,v2,v3,v4,.int .i64 m.now],.int .i64 who,.int .i64 b] w fun e w'=>e= .returned (.bool q)/\Below w.heap.size w w':=by
 rw [<-Cn] at hq
 have Hq:=Z9 hq
 clear hq
 have hfl:=Mc m who
 obtain ⟨a0,p0,a1,p1,a2,p2,a3,p3,a4,p4,rfl,rfl,rfl,rfl,rfl,K⟩:=Bx.new h
 clear h
 go_enter Tryz.func30,Tryz.ntmps30
 go_wp2_with fail
 generalize w.alloc (.cells #[.slice a0 m.rooms.length p0,.slice a1 m.guilds.length p1,.slice a2 m.smiths.length p2,.slice a3 m.desks.length p3,.slice a4 m.paces.length p4,.int .i64 m.now] 32)=W at *
 refine (Sz (who:=who) K.smy).mono ?_
 rintro e w1 ⟨v1,rfl,hu,hb⟩
 replace K:=K.next hb
 clear hb
 generalize RR m who=us at *
 obtain ⟨ua,uc,rfl⟩:=RecAt.shape hu
 have H0:=Z9 hu
 clear hu
 go_wp2_with fail
 go_loopw [13] (fun i wr=> ∃ j:Nat,j<=us.length/\i= .int .i64 j/\(∀ i,i<j->(fun x:YA=>x.1 ==b) (Z8 us i)=false)/\Bx w wr w.heap.size a0 p0 a1 p1 a2 p2 a3 p3 a4 p4 m/\Below w1.heap.size w1 wr) (fun i _=>us.length-(intOf i).toNat)
 case atStart=>exact ⟨0,Nat.zero_le _,rfl,fun i hi=>by omega,K,Below.refl _ _⟩
 case round=>
  obtain ⟨j,hj,rfl,hno,hK,hb⟩:=hrel
  clear K
  have K:=hK
  have HU:=Z9 (RecAt.later (uh H0) hb)
  have BB:=Z9 hb
  have Hno:=Z9 hno
  clear hb hK hno
  by_cases hlt:j<us.length
  ·have hlt1:(j:Int)<(us.length:Int):=by omega
   obtain ⟨pq,hpq⟩:∃ q,(fun x:YA=>x.1 ==b) (Z8 us j)=q:=⟨_,rfl⟩
   have HY:=Z9 (fun hh:pq=true=>C0 hlt (p:=(fun x:YA=>x.1 ==b)) (hpq.trans hh))
   have HX:Hid (pq=false-> ∀ i,i<j+1->(fun x:YA=>x.1 ==b) (Z8 us i)=false):=Z9 (fun hh i hi=>by
    by_cases e:i=j
    ·rw [e,hpq,hh]
    ·exact uh Hno i (by omega))
   have Hpq:=Z9 hpq
   clear hpq
   obtain ⟨g,rfl,hgl,hgw,hcl,_⟩:=RecAt.view WN (by omega) (uh HU) rfl (by omega)
   have z0:=Ts hcl hlt
   clear hcl
   generalize hx:Z8 us j=x at *
   clear hx
   obtain ⟨bx,ux,fx⟩:=x
   simp only at z0
   have hpq:(bx ==b)=pq:=uh Hpq
   go_upto_region 4 with fail
   go_wp2_with fail
   refine (Su _ _ _ _).mono ?_
   rintro e w2 ⟨rfl,hb⟩
   replace K:=K.next hb
   replace BB:=bt BB hb
   clear hb z0
   cases pq
   ·have hbn:bx ≠ b:=by simpa using hpq
    go_wp2_with fail
    go_roundw
    case rel=>exact ⟨j+1,by omega,by go_num,uh HX (by trivial),K,uh BB⟩
    case measure=>simp [intOf];omega
   ·obtain rfl:q=true:=(uh Hq).symm.trans (uh HY (by trivial))
    obtain rfl:bx=b:=by simpa using hpq
    clear hpq
    go_wp2_with fail
    go_ret
    exact ⟨rfl,K.bb⟩
  ·obtain rfl:j=us.length:=by omega
   obtain rfl:q=false:=(uh Hq).symm.trans (CC (uh Hno))
   go_wp2_with fail
   go_ret
   exact ⟨rfl,K.bb⟩
attribute [local go_sem] Mm
attribute [local go_sem] Pu Df
end Go.Proofs.YtaegckehjlkaaaaGreat
namespace Go.Proofs.YtaegckehjlkaaaaGreat
open Go.ChangeShapes Go.WideShapes Go.ChangeAt Go.RowKit Go.Sort
set_option linter.unusedVariables false
theorem Co {m:Z6} {who:Int} (h:YV m who= -1):Zp m who=[]:=by rw [<-GA,DH h];rfl
theorem Cl {m:Z6} {k:Nat} (h:ZS m=true) (hw:Yg m (k:Int)=true) (hk:k<m.smiths.length) {b:Nat} (hb:b<m.desks.length):decide ((b:Int) ∈ Zp m (k:Int))=(VJ m (k:Int) (b:Int) && W6 (ZI m (k:Int)) (ZA m (b:Int) (-1)-OQ m k (b:Int)) (Zx m.rooms (b:Int))):=by
 rw [CL h hw hb,<-EN m hk]
 show _=P1 m (k:Int) b
 unfold Zp
 rw [h,hw]
 show decide ((b:Int) ∈ Wc m (k:Int) m.desks.length)=_
 rw [Bool.eq_iff_iff,decide_eq_true_iff,So]
 constructor
 ·rintro ⟨j,_,e,hf⟩
  obtain rfl:=Int.ofNat.inj e
  exact hf
 ·exact fun hf=>⟨b,hb,rfl,hf⟩
open Draw (St Off Row Cur)
set_option linter.unusedSimpArgs false
set_option maxRecDepth 100000
theorem H8 (a:Option Addr) (len cap bc:Nat) (a0 a1 a2 a3 a4:Option Addr) (n0 n1 n2 n3 n4 p0 p1 p2 p3 p4:Nat) (now:Int) (hn:n3<=1000000) (w:World) (hs:St a len cap bc w) :
  Calls Tryz.prog 54 #[.pointer (some ⟨bc,0,none⟩),.agg #[.slice a0 n0 p0,.slice a1 n1 p1,.slice a2 n2 p2,.slice a3 n3 p3,.slice a4 n4 p4,.int .i64 now]] w fun e w'=> ∃ x:Int,e= .returned (.int .i64 x)/\St a len cap bc w'/\Off bc w w':=by
 have Hs:=Z9 hs
 have hbc:=Xk hs
 clear hs
 go_enter Tryz.func54,Tryz.ntmps54
 go_upto_region 1 with fail
 have kb:Hid (Blk (w.alloc (.cells #[.slice a0 n0 p0,.slice a1 n1 p1,.slice a2 n2 p2,.slice a3 n3 p3,.slice a4 n4 p4,.int .i64 now] 32)) w.heap.size 32 #[.slice a0 n0 p0,.slice a1 n1 p1,.slice a2 n2 p2,.slice a3 n3 p3,.slice a4 n4 p4,.int .i64 now]):=Z9 (Blk.new _ _ _)
 have HO:Hid (Off bc w (w.alloc (.cells #[.slice a0 n0 p0,.slice a1 n1 p1,.slice a2 n2 p2,.slice a3 n3 p3,.slice a4 n4 p4,.int .i64 now] 32))):=Z9 ((Off.refl _ _).alloc _)
 replace Hs:Hid (St a len cap bc (w.alloc (.cells #[.slice a0 n0 p0,.slice a1 n1 p1,.slice a2 n2 p2,.slice a3 n3 p3,.slice a4 n4 p4,.int .i64 now] 32))):=Z9 ((uh Hs).alloc _)
 generalize w.alloc (.cells #[.slice a0 n0 p0,.slice a1 n1 p1,.slice a2 n2 p2,.slice a3 n3 p3,.slice a4 n4 p4,.int .i64 now] 32)=W at *
 go_wp2_with fail
 refine (Draw.once_any a len cap bc 10 (by omega) (by omega) _ (uh Hs)).mono ?_
 rintro e w1 ⟨bq,rfl,s9,p9⟩
 replace kb:=Z9 ((uh kb).away p9 (by omega))
 replace HO:=Z9 ((uh HO).trans p9)
 replace Hs:=Z9 s9
 clear s9 p9
 have x:=(uh kb).cell (i:=3) (v:= .slice a3 n3 p3) rfl
 cases bq
 ·
  go_wp2_with fail
  refine (Ua 1 (n3:Int) _).mono ?_
  rintro e wz ⟨rfl,hwz⟩
  subst wz
  obtain ⟨mx,hmx⟩:∃ q,q=max 1 (n3:Int):=⟨_,rfl⟩
  rw [<-hmx]
  have hm0:0<mx:=by omega
  have hm1:mx<=1000001:=by omega
  clear hmx x
  go_wp2_with fail
  refine (Draw.below_any a len cap bc mx hm0 (by omega) _ (uh Hs)).mono ?_
  rintro e w2 ⟨v,rfl,v0,v1,s9,p9⟩
  have HO2:=Z9 ((uh HO).trans p9)
  have Hs2:=Z9 s9
  clear s9 p9
  go_wp2_with fail
  go_ret
  exact ⟨_,rfl,uh Hs2,uh HO2⟩
 go_wp2_with fail
 refine ZL (S:=fun w'=>w'.cell? ⟨w.heap.size,3,none⟩=some (.slice a3 n3 p3)) (by kernel_rfl) (List.cons_ne_nil _ _) (by kernel_rfl) x (fun hHeld=> ?_)
 simp only [List.dropLast_cons_cons,List.dropLast_singleton,List.length_cons,List.length_nil,Nat.zero_add,Nat.reduceAdd]
 (refine tk 0 rfl (by assumption) ?_;(try simp only [Act.put,sA,sZ,sS]))
 (refine tk 1 rfl (by assumption) ?_;(try simp only [Act.put,sA,sZ,sS]))
 (refine tk 4 rfl (by assumption) ?_;(try simp only [Act.put,sA,sZ,sS]))
 replace kb:=Z9 ((uh kb).below (Below.refl _ _).drew (uh kb).lt)
 replace HO:=Z9 ((uh HO).trans (Wv (Below.refl _ _).drew))
 replace Hs:=Z9 (TQ (uh Hs))
 clear x
 generalize w1.drew=X0 at *
 refine wpAnyH_ready (rs:=[2,5]) (by kernel_rfl) (by simp) ?_
 refine AllReadyH.cons rfl (fun K hK=> ?_) (AllReadyH.cons rfl (fun K hK=> ?_) AllReadyH.nil)
 ·
  go_simp
  refine hK.out _ _ ((uh kb).cell (i:=3) rfl) (fun hHeld=> ?_)
  clear hK K
  (try simp only [Act.put,sA,sZ,sS])
  refine wpAnyH_ready (rs:=[3,5]) (by kernel_rfl) (by simp) ?_
  refine AllReadyH.cons rfl (fun K hK=> ?_) (AllReadyH.cons rfl (fun K hK=> ?_) AllReadyH.nil)
  ·
   go_simp
   have hlb:X0.heap.size ≠ bc:=by have:=(uh HO).size;omega
   obtain ⟨Wp,hWp,hba,KL⟩:=Zo X0 2 #[.int .i64 (-1),.int .i64 (n3:Int),.int .i64 8]
   replace kb:=bl kb hba
   replace HO:=Z9 ((uh HO).trans (Wv hba))
   replace Hs:=Z9 ((uh Hs).alloc (.cells #[.int .i64 (-1),.int .i64 (n3:Int),.int .i64 8] 2))
   rw [hWp]
   refine hK.out _ _ ((uh kb).cell (i:=3) rfl) (fun hHeld=> ?_)
   clear hK K
   (try simp only [Act.put,sA,sZ,sS])
   clear hba
   (try rw [hWp] at Hs);clear hWp
   generalize X0.heap.size=lb at *
   refine rd 5 rfl (fun K hK=> ?_)
   go_simp
   refine (Draw.below_any a len cap bc 3 (by omega) (by omega) _ (uh Hs)).mono ?_
   rintro e9 w5 ⟨v5,rfl,v50,v51,s9,p9⟩
   replace KL:=Z9 ((uh KL).away p9 hlb)
   replace kb:=Z9 ((uh kb).away p9 (by omega))
   replace HO:=Z9 ((uh HO).trans p9)
   replace Hs:=Z9 s9
   clear s9 p9
   refine hK.out _ _ ((uh kb).cell (i:=3) rfl) (fun hHeld=> ?_)
   clear hK K
   (try simp only [Act.put,sA,sZ,sS])
   have l0:=(uh KL).cell (i:=0) (v:= .int .i64 (-1)) rfl
   have l1:=(uh KL).cell (i:=1) (v:= .int .i64 (n3:Int)) rfl
   have l2:=(uh KL).cell (i:=2) (v:= .int .i64 8) rfl
   rcases (show v5=0\/v5=1\/v5=2 by omega) with rfl | rfl | rfl
   ·
    (refine tk 6 rfl (by assumption) ?_;(try simp only [Act.put,sA,sZ,sS]))
    refine rd 7 rfl (fun K hK=> ?_)
    go_simp
    refine hK.out _ _ ((uh kb).cell (i:=3) rfl) (fun hHeld=> ?_)
    clear hK K
    (try simp only [Act.put,sA,sZ,sS])
    refine wpAnyH_done (by kernel_rfl) ?_ _
    refine ZM rfl rfl ?_
    go_simp
    clear hHeld
    go_wp2_with fail
    go_ret
    exact ⟨_,rfl,uh Hs,uh HO⟩
   ·
    (refine tk 6 rfl (by assumption) ?_;(try simp only [Act.put,sA,sZ,sS]))
    refine rd 7 rfl (fun K hK=> ?_)
    go_simp
    refine hK.out _ _ ((uh kb).cell (i:=3) rfl) (fun hHeld=> ?_)
    clear hK K
    (try simp only [Act.put,sA,sZ,sS])
    refine wpAnyH_done (by kernel_rfl) ?_ _
    refine ZM rfl rfl ?_
    go_simp
    clear hHeld
    go_wp2_with fail
    go_ret
    exact ⟨_,rfl,uh Hs,uh HO⟩
   ·
    (refine tk 6 rfl (by assumption) ?_;(try simp only [Act.put,sA,sZ,sS]))
    refine rd 7 rfl (fun K hK=> ?_)
    go_simp
    refine hK.out _ _ ((uh kb).cell (i:=3) rfl) (fun hHeld=> ?_)
    clear hK K
    (try simp only [Act.put,sA,sZ,sS])
    refine wpAnyH_done (by kernel_rfl) ?_ _
    refine ZM rfl rfl ?_
    go_simp
    clear hHeld
    go_wp2_with fail
    go_ret
    exact ⟨_,rfl,uh Hs,uh HO⟩
  ·
   go_simp
   refine (Draw.below_any a len cap bc 3 (by omega) (by omega) _ (uh Hs)).mono ?_
   rintro e9 w5 ⟨v5,rfl,v50,v51,s9,p9⟩
   replace kb:=Z9 ((uh kb).away p9 (by omega))
   replace HO:=Z9 ((uh HO).trans p9)
   replace Hs:=Z9 s9
   clear s9 p9
   refine hK.out _ _ ((uh kb).cell (i:=3) rfl) (fun hHeld=> ?_)
   clear hK K
   (try simp only [Act.put,sA,sZ,sS])
   refine rd 3 rfl (fun K hK=> ?_)
   go_simp
   have hlb:w5.heap.size ≠ bc:=by have:=(uh HO).size;omega
   obtain ⟨Wp,hWp,hba,KL⟩:=Zo w5 2 #[.int .i64 (-1),.int .i64 (n3:Int),.int .i64 8]
   replace kb:=bl kb hba
   replace HO:=Z9 ((uh HO).trans (Wv hba))
   replace Hs:=Z9 ((uh Hs).alloc (.cells #[.int .i64 (-1),.int .i64 (n3:Int),.int .i64 8] 2))
   rw [hWp]
   refine hK.out _ _ ((uh kb).cell (i:=3) rfl) (fun hHeld=> ?_)
   clear hK K
   (try simp only [Act.put,sA,sZ,sS])
   clear hba
   (try rw [hWp] at Hs);clear hWp
   generalize w5.heap.size=lb at *
   have l0:=(uh KL).cell (i:=0) (v:= .int .i64 (-1)) rfl
   have l1:=(uh KL).cell (i:=1) (v:= .int .i64 (n3:Int)) rfl
   have l2:=(uh KL).cell (i:=2) (v:= .int .i64 8) rfl
   rcases (show v5=0\/v5=1\/v5=2 by omega) with rfl | rfl | rfl
   ·
    (refine tk 6 rfl (by assumption) ?_;(try simp only [Act.put,sA,sZ,sS]))
    refine rd 7 rfl (fun K hK=> ?_)
    go_simp
    refine hK.out _ _ ((uh kb).cell (i:=3) rfl) (fun hHeld=> ?_)
    clear hK K
    (try simp only [Act.put,sA,sZ,sS])
    refine wpAnyH_done (by kernel_rfl) ?_ _
    refine ZM rfl rfl ?_
    go_simp
    clear hHeld
    go_wp2_with fail
    go_ret
    exact ⟨_,rfl,uh Hs,uh HO⟩
   ·
    (refine tk 6 rfl (by assumption) ?_;(try simp only [Act.put,sA,sZ,sS]))
    refine rd 7 rfl (fun K hK=> ?_)
    go_simp
    refine hK.out _ _ ((uh kb).cell (i:=3) rfl) (fun hHeld=> ?_)
    clear hK K
    (try simp only [Act.put,sA,sZ,sS])
    refine wpAnyH_done (by kernel_rfl) ?_ _
    refine ZM rfl rfl ?_
    go_simp
    clear hHeld
    go_wp2_with fail
    go_ret
    exact ⟨_,rfl,uh Hs,uh HO⟩
   ·
    (refine tk 6 rfl (by assumption) ?_;(try simp only [Act.put,sA,sZ,sS]))
    refine rd 7 rfl (fun K hK=> ?_)
    go_simp
    refine hK.out _ _ ((uh kb).cell (i:=3) rfl) (fun hHeld=> ?_)
    clear hK K
    (try simp only [Act.put,sA,sZ,sS])
    refine wpAnyH_done (by kernel_rfl) ?_ _
    refine ZM rfl rfl ?_
    go_simp
    clear hHeld
    go_wp2_with fail
    go_ret
    exact ⟨_,rfl,uh Hs,uh HO⟩
 ·
  go_simp
  refine (Draw.below_any a len cap bc 3 (by omega) (by omega) _ (uh Hs)).mono ?_
  rintro e9 w5 ⟨v5,rfl,v50,v51,s9,p9⟩
  replace kb:=Z9 ((uh kb).away p9 (by omega))
  replace HO:=Z9 ((uh HO).trans p9)
  replace Hs:=Z9 s9
  clear s9 p9
  refine hK.out _ _ ((uh kb).cell (i:=3) rfl) (fun hHeld=> ?_)
  clear hK K
  (try simp only [Act.put,sA,sZ,sS])
  refine rd 2 rfl (fun K hK=> ?_)
  go_simp
  refine hK.out _ _ ((uh kb).cell (i:=3) rfl) (fun hHeld=> ?_)
  clear hK K
  (try simp only [Act.put,sA,sZ,sS])
  refine rd 3 rfl (fun K hK=> ?_)
  go_simp
  have hlb:w5.heap.size ≠ bc:=by have:=(uh HO).size;omega
  obtain ⟨Wp,hWp,hba,KL⟩:=Zo w5 2 #[.int .i64 (-1),.int .i64 (n3:Int),.int .i64 8]
  replace kb:=bl kb hba
  replace HO:=Z9 ((uh HO).trans (Wv hba))
  replace Hs:=Z9 ((uh Hs).alloc (.cells #[.int .i64 (-1),.int .i64 (n3:Int),.int .i64 8] 2))
  rw [hWp]
  refine hK.out _ _ ((uh kb).cell (i:=3) rfl) (fun hHeld=> ?_)
  clear hK K
  (try simp only [Act.put,sA,sZ,sS])
  clear hba
  (try rw [hWp] at Hs);clear hWp
  generalize w5.heap.size=lb at *
  have l0:=(uh KL).cell (i:=0) (v:= .int .i64 (-1)) rfl
  have l1:=(uh KL).cell (i:=1) (v:= .int .i64 (n3:Int)) rfl
  have l2:=(uh KL).cell (i:=2) (v:= .int .i64 8) rfl
  rcases (show v5=0\/v5=1\/v5=2 by omega) with rfl | rfl | rfl
  ·
   (refine tk 6 rfl (by assumption) ?_;(try simp only [Act.put,sA,sZ,sS]))
   refine rd 7 rfl (fun K hK=> ?_)
   go_simp
   refine hK.out _ _ ((uh kb).cell (i:=3) rfl) (fun hHeld=> ?_)
   clear hK K
   (try simp only [Act.put,sA,sZ,sS])
   refine wpAnyH_done (by kernel_rfl) ?_ _
   refine ZM rfl rfl ?_
   go_simp
   clear hHeld
   go_wp2_with fail
   go_ret
   exact ⟨_,rfl,uh Hs,uh HO⟩
  ·
   (refine tk 6 rfl (by assumption) ?_;(try simp only [Act.put,sA,sZ,sS]))
   refine rd 7 rfl (fun K hK=> ?_)
   go_simp
   refine hK.out _ _ ((uh kb).cell (i:=3) rfl) (fun hHeld=> ?_)
   clear hK K
   (try simp only [Act.put,sA,sZ,sS])
   refine wpAnyH_done (by kernel_rfl) ?_ _
   refine ZM rfl rfl ?_
   go_simp
   clear hHeld
   go_wp2_with fail
   go_ret
   exact ⟨_,rfl,uh Hs,uh HO⟩
  ·
   (refine tk 6 rfl (by assumption) ?_;(try simp only [Act.put,sA,sZ,sS]))
   refine rd 7 rfl (fun K hK=> ?_)
   go_simp
   refine hK.out _ _ ((uh kb).cell (i:=3) rfl) (fun hHeld=> ?_)
   clear hK K
   (try simp only [Act.put,sA,sZ,sS])
   refine wpAnyH_done (by kernel_rfl) ?_ _
   refine ZM rfl rfl ?_
   go_simp
   clear hHeld
   go_wp2_with fail
   go_ret
   exact ⟨_,rfl,uh Hs,uh HO⟩
set_option maxRecDepth 100000
theorem Cv (a:Option Addr) (len cap:Nat) (w:World) (hr:Row w.heap.size w a len) :
  Calls Tryz.prog 80 #[.slice a len cap] w fun e w'=> ∃ M u0 u1 u2 u3 u4 x y rq,e= .returned (.tuple #[.agg #[u0,u1,u2,u3,u4,.int .i64 M.now],.int .i64 x,.int .i64 y])/\FullSmy (w.heap.size+1) w' u0 u1 u2 u3 u4 M rq/\Below w.heap.size w w':=by
 have Hr:=Z9 (Draw.row_later hr ((Below.refl _ _).alloc (Nat.le_refl _) (.cells #[.slice none 0 0,.slice none 0 0,.slice none 0 0,.slice none 0 0,.slice none 0 0,.int .i64 0] 32)))
 clear hr
 go_enter Tryz.func80,Tryz.ntmps80
 go_wp2_with fail
 have kr:Hid (Blk (w.alloc (.cells #[.slice none 0 0,.slice none 0 0,.slice none 0 0,.slice none 0 0,.slice none 0 0,.int .i64 0] 32)) w.heap.size 32 #[.slice none 0 0,.slice none 0 0,.slice none 0 0,.slice none 0 0,.slice none 0 0,.int .i64 0]):=Z9 (Blk.new _ _ _)
 have BB:Hid (Below w.heap.size w (w.alloc (.cells #[.slice none 0 0,.slice none 0 0,.slice none 0 0,.slice none 0 0,.slice none 0 0,.int .i64 0] 32))):=Z9 ((Below.refl _ _).alloc (Nat.le_refl _) _)
 have hzW:w.heap.size<(w.alloc (.cells #[.slice none 0 0,.slice none 0 0,.slice none 0 0,.slice none 0 0,.slice none 0 0,.int .i64 0] 32)).heap.size:=by simp
 generalize w.alloc (.cells #[.slice none 0 0,.slice none 0 0,.slice none 0 0,.slice none 0 0,.slice none 0 0,.int .i64 0] 32)=W at *
 refine (Draw.new_any a len cap _ (uh Hr)).mono ?_
 rintro e w1 ⟨rfl,s1,o1⟩
 have Hs:=Z9 s1
 replace kr:=Z9 ((uh kr).away o1 (by omega))
 replace BB:=Z9 ((uh BB).trans (o1.below (by omega) (uh BB).size))
 clear s1 o1 Hr
 generalize W.heap.size=cb at *
 go_wp2_with fail
 refine (SO a len cap cb _ (uh Hs)).mono ?_
 rintro e w2 ⟨M,u0,u1,u2,u3,u4,rq,rfl,hm2,hm3,hf,s2,o2⟩
 have Hm2:=Z9 hm2
 have Hm3:=Z9 hm3
 clear hm2 hm3
 have hc1:=Xk (uh Hs)
 have k6:=hf.smy
 obtain ⟨b0,q0,b1,q1,b2,q2,b3,q3,b4,q4,rfl,rfl,rfl,rfl,rfl,_,_,_,_,_,_,_,_,_,_⟩:=k6.five
 have HF:=Z9 (hf.mono (n₁:=cb+1) (by omega))
 replace Hs:=Z9 s2
 have Hs0:=Hs
 replace kr:=Z9 ((uh kr).away o2 (by omega))
 replace BB:=Z9 ((uh BB).trans (o2.below (by omega) (uh BB).size))
 clear hf s2 o2 k6
 go_upto_region 3 with fail
 obtain ⟨W2,hW2,hb,km⟩:=Zo w2 32 (S6 b0 q0 b1 q1 b2 q2 b3 q3 b4 q4 M)
 replace kr:=bl kr hb
 replace HF:=Z9 ((uh HF).below hb)
 replace Hs:=Z9 ((uh Hs).alloc (.cells #[.slice b0 M.rooms.length q0,.slice b1 M.guilds.length q1,.slice b2 M.smiths.length q2,.slice b3 M.desks.length q3,.slice b4 M.paces.length q4,.int .i64 M.now] 32))
 replace BB:=bt BB hb
 have hmb:cb+1<=w2.heap.size:=Xk (uh Hs0)
 have hown:Hid (∀ k,Ye (.slice b0 M.rooms.length q0) (.slice b1 M.guilds.length q1) (.slice b2 M.smiths.length q2) (.slice b3 M.desks.length q3) (.slice b4 M.paces.length q4) rq k->k ≠ w.heap.size/\cb<k):=Z9 (fun k e=>by have:=((uh HF).own e).1;omega)
 clear hb Hs0
 rw [hW2]
 (try rw [hW2] at Hs);clear hW2
 generalize w2.heap.size=mb at *
 have hkl:M.smiths.length<=1000000:=by have:=uh Hm2;omega
 have hkd:M.desks.length<=1000000:=by have:=uh Hm3;omega
 obtain ⟨x0,x1,x2,x3,x4,x5⟩:=(uh km).c6
 go_wp2_with fail
 refine (OF a len cap cb _ _ _ _ _ _ _ _ _ _ _ _ _ _ _ _ hkl _ (uh Hs)).mono ?_
 rintro e9 w3 ⟨x,rfl,s9,p9⟩
 have ho:=p9
 replace km:=Z9 ((uh km).away ho (by omega))
 replace kr:=Z9 ((uh kr).away ho (by omega))
 replace HF:=Z9 ((uh HF).keep (fun k e=>ho.block k ((uh HF).own e).2 (by have:=(uh hown k e).2;omega)))
 replace BB:=Z9 ((uh BB).trans (ho.below (by omega) (uh BB).size))
 replace Hs:=Z9 s9
 clear s9 p9 ho x0 x1 x2 x3 x4 x5
 obtain ⟨x0,x1,x2,x3,x4,x5⟩:=(uh km).c6
 go_wp2_with fail
 refine wp_region_held_drew (S:=fun w'=>w'.cell? ⟨mb,0,none⟩=some (.slice b0 M.rooms.length q0)/\w'.cell? ⟨mb,1,none⟩=some (.slice b1 M.guilds.length q1)/\w'.cell? ⟨mb,2,none⟩=some (.slice b2 M.smiths.length q2)/\w'.cell? ⟨mb,3,none⟩=some (.slice b3 M.desks.length q3)/\w'.cell? ⟨mb,4,none⟩=some (.slice b4 M.paces.length q4)/\w'.cell? ⟨mb,5,none⟩=some (.int .i64 M.now)) (by kernel_rfl) ⟨x0,x1,x2,x3,x4,x5⟩ (fun hHeld=> ?_)
 clear x0 x1 x2 x3 x4 x5
 (refine tk 0 rfl (by assumption) ?_;(try simp only [Act.put,sA,sZ,sS]))
 (refine tk 1 rfl (by assumption) ?_;(try simp only [Act.put,sA,sZ,sS]))
 (refine tk 2 rfl (by assumption) ?_;(try simp only [Act.put,sA,sZ,sS]))
 (refine tk 3 rfl (by assumption) ?_;(try simp only [Act.put,sA,sZ,sS]))
 refine rd 4 rfl (fun K hK=> ?_)
 go_simp
 refine (H8 a len cap cb _ _ _ _ _ _ _ _ _ _ _ _ _ _ _ _ hkd _ (TQ (uh Hs))).mono ?_
 rintro e9 w5 ⟨y,rfl,s9,p9⟩
 have ho:=Ue p9
 replace km:=Z9 ((uh km).away ho (by omega))
 replace kr:=Z9 ((uh kr).away ho (by omega))
 replace HF:=Z9 ((uh HF).keep (fun k e=>ho.block k ((uh HF).own e).2 (by have:=(uh hown k e).2;omega)))
 replace BB:=Z9 ((uh BB).trans (ho.below (by omega) (uh BB).size))
 clear s9 p9 ho
 refine hK.out _ _ (uh km).c6 (fun hHeld=> ?_)
 clear hK K
 (try simp only [Act.put,sA,sZ,sS])
 obtain ⟨o0,o1,o2,o3,o4,o5⟩:=(uh kr).c6
 obtain ⟨f0,f1,f2,f3,f4,f5⟩:=(uh kr).f6
 have kmN:Blk ((((((w5.setCell ⟨w.heap.size,0,none⟩ (.slice b0 M.rooms.length q0)).setCell ⟨w.heap.size,1,none⟩ (.slice b1 M.guilds.length q1)).setCell ⟨w.heap.size,2,none⟩ (.slice b2 M.smiths.length q2)).setCell ⟨w.heap.size,3,none⟩ (.slice b3 M.desks.length q3)).setCell ⟨w.heap.size,4,none⟩ (.slice b4 M.paces.length q4)).setCell ⟨w.heap.size,5,none⟩ (.int .i64 M.now)) mb 32 #[.slice b0 M.rooms.length q0,.slice b1 M.guilds.length q1,.slice b2 M.smiths.length q2,.slice b3 M.desks.length q3,.slice b4 M.paces.length q4,.int .i64 M.now]:=(((((((uh km).other (a:=⟨w.heap.size,0,none⟩) (by show mb ≠ w.heap.size;omega) (.slice b0 M.rooms.length q0)).other (a:=⟨w.heap.size,1,none⟩) (by show mb ≠ w.heap.size;omega) (.slice b1 M.guilds.length q1)).other (a:=⟨w.heap.size,2,none⟩) (by show mb ≠ w.heap.size;omega) (.slice b2 M.smiths.length q2)).other (a:=⟨w.heap.size,3,none⟩) (by show mb ≠ w.heap.size;omega) (.slice b3 M.desks.length q3)).other (a:=⟨w.heap.size,4,none⟩) (by show mb ≠ w.heap.size;omega) (.slice b4 M.paces.length q4)).other (a:=⟨w.heap.size,5,none⟩) (by show mb ≠ w.heap.size;omega) (.int .i64 M.now))
 refine rd 5 rfl (fun K hK=> ?_)
 go_simp
 refine hK.out _ _ ⟨kmN.cell (i:=0) rfl,kmN.cell (i:=1) rfl,kmN.cell (i:=2) rfl,kmN.cell (i:=3) rfl,kmN.cell (i:=4) rfl,kmN.cell (i:=5) rfl⟩ (fun hHeld=> ?_)
 clear hK K
 (try simp only [Act.put,sA,sZ,sS])
 refine rd 6 rfl (fun K hK=> ?_)
 go_simp
 refine hK.out _ _ ⟨kmN.cell (i:=0) rfl,kmN.cell (i:=1) rfl,kmN.cell (i:=2) rfl,kmN.cell (i:=3) rfl,kmN.cell (i:=4) rfl,kmN.cell (i:=5) rfl⟩ (fun hHeld=> ?_)
 clear hK K
 (try simp only [Act.put,sA,sZ,sS])
 refine rd 7 rfl (fun K hK=> ?_)
 go_simp
 refine hK.out _ _ ⟨kmN.cell (i:=0) rfl,kmN.cell (i:=1) rfl,kmN.cell (i:=2) rfl,kmN.cell (i:=3) rfl,kmN.cell (i:=4) rfl,kmN.cell (i:=5) rfl⟩ (fun hHeld=> ?_)
 clear hK K
 (try simp only [Act.put,sA,sZ,sS])
 clear kmN
 refine wpAnyH_done (by kernel_rfl) ?_ _
 clear hHeld
 go_wp2_with fail
 refine bodyPost_ret (v:= .tuple #[.agg #[.slice b0 M.rooms.length q0,.slice b1 M.guilds.length q1,.slice b2 M.smiths.length q2,.slice b3 M.desks.length q3,.slice b4 M.paces.length q4,.int .i64 M.now],.int .i64 x,.int .i64 y]) (by simp [results,Tryz.results80,go_sem, *]) rfl ⟨M,_,_,_,_,_,x,y,rq,rfl,?_,?_⟩
 ·refine FullSmy.mono (n₀:=cb+1) ?_ (by omega)
  iterate 6 (refine FullSmy.set_off ?_ (fun k e=>(uh hown k e).1) _ _)
  exact uh HF
 ·iterate 6 (refine Below.setCell ?_ (by show w.heap.size<=w.heap.size;omega) _)
  exact uh BB
set_option maxRecDepth 100000
theorem Ct (a:Option Addr) (len cap:Nat) (w:World) (hr:Row w.heap.size w a len) :
  Calls Tryz.prog 25 #[.slice a len cap] w fun e w'=> ∃ M u0 u1 u2 u3 u4 x rq,e= .returned (.tuple #[.agg #[u0,u1,u2,u3,u4,.int .i64 M.now],.int .i64 x])/\FullSmy (w.heap.size+1) w' u0 u1 u2 u3 u4 M rq/\Below w.heap.size w w':=by
 have Hr:=Z9 (Draw.row_later hr ((Below.refl _ _).alloc (Nat.le_refl _) (.cells #[.slice none 0 0,.slice none 0 0,.slice none 0 0,.slice none 0 0,.slice none 0 0,.int .i64 0] 32)))
 clear hr
 go_enter Tryz.func25,Tryz.ntmps25
 go_wp2_with fail
 have kr:Hid (Blk (w.alloc (.cells #[.slice none 0 0,.slice none 0 0,.slice none 0 0,.slice none 0 0,.slice none 0 0,.int .i64 0] 32)) w.heap.size 32 #[.slice none 0 0,.slice none 0 0,.slice none 0 0,.slice none 0 0,.slice none 0 0,.int .i64 0]):=Z9 (Blk.new _ _ _)
 have BB:Hid (Below w.heap.size w (w.alloc (.cells #[.slice none 0 0,.slice none 0 0,.slice none 0 0,.slice none 0 0,.slice none 0 0,.int .i64 0] 32))):=Z9 ((Below.refl _ _).alloc (Nat.le_refl _) _)
 have hzW:w.heap.size<(w.alloc (.cells #[.slice none 0 0,.slice none 0 0,.slice none 0 0,.slice none 0 0,.slice none 0 0,.int .i64 0] 32)).heap.size:=by simp
 generalize w.alloc (.cells #[.slice none 0 0,.slice none 0 0,.slice none 0 0,.slice none 0 0,.slice none 0 0,.int .i64 0] 32)=W at *
 refine (Oj a len cap _ (uh Hr)).mono ?_
 rintro e w2 ⟨M,u0,u1,u2,u3,u4,x,rq,rfl,hm,hb⟩
 have HF:=Z9 hm
 have k6:=hm.smy
 obtain ⟨b0,q0,b1,q1,b2,q2,b3,q3,b4,q4,rfl,rfl,rfl,rfl,rfl,_,_,_,_,_,_,_,_,_,_⟩:=k6.five
 replace kr:=Z9 ((uh kr).below hb hzW)
 replace BB:=bt BB hb
 clear hm hb Hr k6
 generalize W.heap.size=cb at *
 obtain ⟨o0,o1,o2,o3,o4,o5⟩:=(uh kr).c6
 obtain ⟨f0,f1,f2,f3,f4,f5⟩:=(uh kr).f6
 go_wp2_with fail
 refine bodyPost_ret (v:= .tuple #[.agg #[.slice b0 M.rooms.length q0,.slice b1 M.guilds.length q1,.slice b2 M.smiths.length q2,.slice b3 M.desks.length q3,.slice b4 M.paces.length q4,.int .i64 M.now],.int .i64 x]) (by simp [results,Tryz.results25,go_sem, *]) rfl ⟨M,_,_,_,_,_,x,rq,rfl,?_,?_⟩
 ·refine FullSmy.mono (n₀:=cb+1) ?_ (by omega)
  iterate 6 (refine FullSmy.set ?_ _ _ _ (by omega))
  exact uh HF
 ·iterate 6 (refine Below.setCell ?_ (by show w.heap.size<=w.heap.size;omega) _)
  exact uh BB
theorem Cu (a:Option Addr) (len cap:Nat) (w:World) (hr:Row w.heap.size w a len) :
  Calls Tryz.prog 27 #[.slice a len cap] w fun e w'=> ∃ M u0 u1 u2 u3 u4 x y rq,e= .returned (.tuple #[.agg #[u0,u1,u2,u3,u4,.int .i64 M.now],.int .i64 x,.int .i64 y])/\FullSmy (w.heap.size+1) w' u0 u1 u2 u3 u4 M rq/\Below w.heap.size w w':=by
 have Hr:=Z9 (Draw.row_later hr ((Below.refl _ _).alloc (Nat.le_refl _) (.cells #[.slice none 0 0,.slice none 0 0,.slice none 0 0,.slice none 0 0,.slice none 0 0,.int .i64 0] 32)))
 clear hr
 go_enter Tryz.func27,Tryz.ntmps27
 go_wp2_with fail
 have kr:Hid (Blk (w.alloc (.cells #[.slice none 0 0,.slice none 0 0,.slice none 0 0,.slice none 0 0,.slice none 0 0,.int .i64 0] 32)) w.heap.size 32 #[.slice none 0 0,.slice none 0 0,.slice none 0 0,.slice none 0 0,.slice none 0 0,.int .i64 0]):=Z9 (Blk.new _ _ _)
 have BB:Hid (Below w.heap.size w (w.alloc (.cells #[.slice none 0 0,.slice none 0 0,.slice none 0 0,.slice none 0 0,.slice none 0 0,.int .i64 0] 32))):=Z9 ((Below.refl _ _).alloc (Nat.le_refl _) _)
 have hzW:w.heap.size<(w.alloc (.cells #[.slice none 0 0,.slice none 0 0,.slice none 0 0,.slice none 0 0,.slice none 0 0,.int .i64 0] 32)).heap.size:=by simp
 generalize w.alloc (.cells #[.slice none 0 0,.slice none 0 0,.slice none 0 0,.slice none 0 0,.slice none 0 0,.int .i64 0] 32)=W at *
 refine (Cv a len cap _ (uh Hr)).mono ?_
 rintro e w2 ⟨M,u0,u1,u2,u3,u4,x,y,rq,rfl,hm,hb⟩
 have HF:=Z9 hm
 have k6:=hm.smy
 obtain ⟨b0,q0,b1,q1,b2,q2,b3,q3,b4,q4,rfl,rfl,rfl,rfl,rfl,_,_,_,_,_,_,_,_,_,_⟩:=k6.five
 replace kr:=Z9 ((uh kr).below hb hzW)
 replace BB:=bt BB hb
 clear hm hb Hr k6
 generalize W.heap.size=cb at *
 obtain ⟨o0,o1,o2,o3,o4,o5⟩:=(uh kr).c6
 obtain ⟨f0,f1,f2,f3,f4,f5⟩:=(uh kr).f6
 go_wp2_with fail
 refine bodyPost_ret (v:= .tuple #[.agg #[.slice b0 M.rooms.length q0,.slice b1 M.guilds.length q1,.slice b2 M.smiths.length q2,.slice b3 M.desks.length q3,.slice b4 M.paces.length q4,.int .i64 M.now],.int .i64 x,.int .i64 y]) (by simp [results,Tryz.results27,go_sem, *]) rfl ⟨M,_,_,_,_,_,x,y,rq,rfl,?_,?_⟩
 ·refine FullSmy.mono (n₀:=cb+1) ?_ (by omega)
  iterate 6 (refine FullSmy.set ?_ _ _ _ (by omega))
  exact uh HF
 ·iterate 6 (refine Below.setCell ?_ (by show w.heap.size<=w.heap.size;omega) _)
  exact uh BB
theorem Cp {zs:List Int} (h:zs.Pairwise (· < ·)):∀ k,k+1<zs.length->zs.getD k 0<zs.getD (k+1) 0:=fun k hk=>by
 have:=List.pairwise_iff_getElem.1 h k (k+1) (by omega) hk (by omega)
 simpa [List.getD,show k<zs.length by omega,hk] using this
set_option maxRecDepth 100000
theorem Cr {w:World} {v u:Value} {zs:List Int} (hv:Ii w v zs) (hu:Ii w u zs) :
  Calls Tryz.prog 28 #[v,u] w fun e w'=>e= .returned (.bool true)/\Below w.heap.size w w':=by
 obtain ⟨a,cap,rfl,hc,hm,hr⟩:=hv
 obtain ⟨a',cap',rfl,hc',hm',hr'⟩:=hu
 have Hr:=Z9 hr
 have Hr':=Z9 hr'
 clear hr hr'
 go_enter Tryz.func28,Tryz.ntmps28
 go_wp2_with fail
 go_loopw [5] (fun i wr=> ∃ k:Nat,k<=zs.length/\i= .int .i64 k/\Below w.heap.size w wr) (fun i _=>zs.length-(intOf i).toNat)
 case atStart=>exact ⟨0,Nat.zero_le _,rfl,Below.refl _ _⟩
 case round=>
  obtain ⟨k,hk,rfl,hb⟩:=hrel
  have Hb:=Z9 hb
  by_cases hlt:k<zs.length
  ·rcases uh Hr with h0 | ⟨b,off,rfl,hbw,hcl⟩
   ·rw [h0] at hlt;simp at hlt
   rcases uh Hr' with h0 | ⟨b',off',rfl,hbw',hcl'⟩
   ·rw [h0] at hlt;simp at hlt
   have c0:=Ec hcl hlt
   have d0:=Ec hcl' hlt
   rw [<-hb.cell (p:=⟨b,off+k,none⟩) hbw] at c0
   rw [<-hb.cell (p:=⟨b',off'+k,none⟩) hbw'] at d0
   generalize Z8 zs k=z at *
   clear hcl hcl' hb
   go_wp2_with fail
   go_quiet (fail)
   go_wp2_with fail
   go_roundw
   case rel=>exact ⟨k+1,by omega,by go_num,⟨(uh Hb).os,(uh Hb).tape,(uh Hb).output,(uh Hb).size,(uh Hb).block⟩⟩
   case measure=>simp [intOf];omega
  ·go_wp2_with fail
   go_ret
   exact ⟨rfl,hb⟩
end Go.Proofs.YtaegckehjlkaaaaGreat
