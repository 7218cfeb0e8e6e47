/- Part 42 of what the proof rests on. No condition but those that a theorem names. -/
import Derived.Test.YthbbahagpmdooaaGreatXq41
set_option maxHeartbeats 8000000
set_option maxRecDepth 100000
namespace Go.Proofs.YthbbahagpmdooaaGreat
open Go.ChangeShapes Go.WideShapes Go.ChangeAt Go.RowKit Go.Sort
open Draw (St Off Row Cur)
set_option linter.unusedVariables false
set_option linter.unusedSimpArgs false
set_option maxRecDepth 100000
theorem Rx (a:Option Addr) (len cap bc:Nat) (a0 a1 a2 a3 a4:Option Addr) (n0 n1 n2 n3 n4 p0 p1 p2 p3 p4:Nat) (now:Int) (hn:n3<=1000000) (w:World) (hs:St a len cap bc w) :
  Calls Tryz.prog 25 #[.pointer (some ⟨bc,0,none⟩),.agg #[.slice a0 n0 p0,.slice a1 n1 p1,.slice a2 n2 p2,.slice a3 n3 p3,.slice a4 n4 p4,.int .i64 now]] w fun e w'=> ∃ x:Int,e= .returned (.int .i64 x)/\St a len cap bc w'/\Off bc w w':=by
 have Hs:=Z9 hs
 have hbc:=XT hs
 clear hs
 go_enter Tryz.func25,Tryz.ntmps25
 go_upto_region 1 with fail
 have kb:Hid (Blk (w.alloc (.cells #[.slice a0 n0 p0,.slice a1 n1 p1,.slice a2 n2 p2,.slice a3 n3 p3,.slice a4 n4 p4,.int .i64 now] 32)) w.heap.size 32 #[.slice a0 n0 p0,.slice a1 n1 p1,.slice a2 n2 p2,.slice a3 n3 p3,.slice a4 n4 p4,.int .i64 now]):=Z9 (Blk.new _ _ _)
 have HO:Hid (Off bc w (w.alloc (.cells #[.slice a0 n0 p0,.slice a1 n1 p1,.slice a2 n2 p2,.slice a3 n3 p3,.slice a4 n4 p4,.int .i64 now] 32))):=Z9 ((Off.refl _ _).alloc _)
 replace Hs:Hid (St a len cap bc (w.alloc (.cells #[.slice a0 n0 p0,.slice a1 n1 p1,.slice a2 n2 p2,.slice a3 n3 p3,.slice a4 n4 p4,.int .i64 now] 32))):=Z9 ((uh Hs).alloc _)
 generalize w.alloc (.cells #[.slice a0 n0 p0,.slice a1 n1 p1,.slice a2 n2 p2,.slice a3 n3 p3,.slice a4 n4 p4,.int .i64 now] 32)=W at *
 go_wp2_with fail
 refine (Draw.once_any a len cap bc 10 (by omega) (by omega) _ (uh Hs)).mono ?_
 rintro e w1 ⟨bq,rfl,s9,p9⟩
 replace kb:=Z9 ((uh kb).away p9 (by omega))
 replace HO:=Z9 ((uh HO).trans p9)
 replace Hs:=Z9 s9
 clear s9 p9
 have x:=(uh kb).cell (i:=3) (v:= .slice a3 n3 p3) rfl
 cases bq
 ·
  go_wp2_with fail
  refine (VE 1 (n3:Int) _).mono ?_
  rintro e wz ⟨rfl,hwz⟩
  subst wz
  obtain ⟨mx,hmx⟩:∃ q,q=max 1 (n3:Int):=⟨_,rfl⟩
  rw [<-hmx]
  have hm0:0<mx:=by omega
  have hm1:mx<=1000001:=by omega
  clear hmx x
  go_wp2_with fail
  refine (Draw.below_any a len cap bc mx hm0 (by omega) _ (uh Hs)).mono ?_
  rintro e w2 ⟨v,rfl,v0,v1,s9,p9⟩
  have HO2:=Z9 ((uh HO).trans p9)
  have Hs2:=Z9 s9
  clear s9 p9
  go_wp2_with fail
  go_ret
  exact ⟨_,rfl,uh Hs2,uh HO2⟩
 go_wp2_with fail
 refine ZN (S:=fun w'=>w'.cell? ⟨w.heap.size,3,none⟩=some (.slice a3 n3 p3)) (by kernel_rfl) (List.cons_ne_nil _ _) (by kernel_rfl) x (fun hHeld=> ?_)
 simp only [List.dropLast_cons_cons,List.dropLast_singleton,List.length_cons,List.length_nil,Nat.zero_add,Nat.reduceAdd]
 (refine tk 0 rfl (by assumption) ?_;(try simp only [Act.put,sA,sZ,sS]))
 (refine tk 1 rfl (by assumption) ?_;(try simp only [Act.put,sA,sZ,sS]))
 (refine tk 4 rfl (by assumption) ?_;(try simp only [Act.put,sA,sZ,sS]))
 replace kb:=Z9 ((uh kb).below (Below.refl _ _).drew (uh kb).lt)
 replace HO:=Z9 ((uh HO).trans (Yh (Below.refl _ _).drew))
 replace Hs:=Z9 (VP (uh Hs))
 clear x
 generalize w1.drew=X0 at *
 refine wpAnyH_ready (rs:=[2,5]) (by kernel_rfl) (by simp) ?_
 refine AllReadyH.cons rfl (fun K hK=> ?_) (AllReadyH.cons rfl (fun K hK=> ?_) AllReadyH.nil)
 ·
  go_simp
  refine hK.out _ _ ((uh kb).cell (i:=3) rfl) (fun hHeld=> ?_)
  clear hK K
  (try simp only [Act.put,sA,sZ,sS])
  refine wpAnyH_ready (rs:=[3,5]) (by kernel_rfl) (by simp) ?_
  refine AllReadyH.cons rfl (fun K hK=> ?_) (AllReadyH.cons rfl (fun K hK=> ?_) AllReadyH.nil)
  ·
   go_simp
   have hlb:X0.heap.size ≠ bc:=by have:=(uh HO).size;omega
   obtain ⟨Wp,hWp,hba,KL⟩:=ZD X0 2 #[.int .i64 (-1),.int .i64 (n3:Int),.int .i64 8]
   replace kb:=bl kb hba
   replace HO:=Z9 ((uh HO).trans (Yh hba))
   replace Hs:=Z9 ((uh Hs).alloc (.cells #[.int .i64 (-1),.int .i64 (n3:Int),.int .i64 8] 2))
   rw [hWp]
   refine hK.out _ _ ((uh kb).cell (i:=3) rfl) (fun hHeld=> ?_)
   clear hK K
   (try simp only [Act.put,sA,sZ,sS])
   clear hba
   (try rw [hWp] at Hs);clear hWp
   generalize X0.heap.size=lb at *
   refine rd 5 rfl (fun K hK=> ?_)
   go_simp
   refine (Draw.below_any a len cap bc 3 (by omega) (by omega) _ (uh Hs)).mono ?_
   rintro e9 w5 ⟨v5,rfl,v50,v51,s9,p9⟩
   replace KL:=Z9 ((uh KL).away p9 hlb)
   replace kb:=Z9 ((uh kb).away p9 (by omega))
   replace HO:=Z9 ((uh HO).trans p9)
   replace Hs:=Z9 s9
   clear s9 p9
   refine hK.out _ _ ((uh kb).cell (i:=3) rfl) (fun hHeld=> ?_)
   clear hK K
   (try simp only [Act.put,sA,sZ,sS])
   have l0:=(uh KL).cell (i:=0) (v:= .int .i64 (-1)) rfl
   have l1:=(uh KL).cell (i:=1) (v:= .int .i64 (n3:Int)) rfl
   have l2:=(uh KL).cell (i:=2) (v:= .int .i64 8) rfl
   rcases (show v5=0\/v5=1\/v5=2 by omega) with rfl | rfl | rfl
   ·
    (refine tk 6 rfl (by assumption) ?_;(try simp only [Act.put,sA,sZ,sS]))
    refine rd 7 rfl (fun K hK=> ?_)
    go_simp
    refine hK.out _ _ ((uh kb).cell (i:=3) rfl) (fun hHeld=> ?_)
    clear hK K
    (try simp only [Act.put,sA,sZ,sS])
    refine wpAnyH_done (by kernel_rfl) ?_ _
    refine ZV rfl rfl ?_
    go_simp
    clear hHeld
    go_wp2_with fail
    go_ret
    exact ⟨_,rfl,uh Hs,uh HO⟩
   ·
    (refine tk 6 rfl (by assumption) ?_;(try simp only [Act.put,sA,sZ,sS]))
    refine rd 7 rfl (fun K hK=> ?_)
    go_simp
    refine hK.out _ _ ((uh kb).cell (i:=3) rfl) (fun hHeld=> ?_)
    clear hK K
    (try simp only [Act.put,sA,sZ,sS])
    refine wpAnyH_done (by kernel_rfl) ?_ _
    refine ZV rfl rfl ?_
    go_simp
    clear hHeld
    go_wp2_with fail
    go_ret
    exact ⟨_,rfl,uh Hs,uh HO⟩
   ·
    (refine tk 6 rfl (by assumption) ?_;(try simp only [Act.put,sA,sZ,sS]))
    refine rd 7 rfl (fun K hK=> ?_)
    go_simp
    refine hK.out _ _ ((uh kb).cell (i:=3) rfl) (fun hHeld=> ?_)
    clear hK K
    (try simp only [Act.put,sA,sZ,sS])
    refine wpAnyH_done (by kernel_rfl) ?_ _
    refine ZV rfl rfl ?_
    go_simp
    clear hHeld
    go_wp2_with fail
    go_ret
    exact ⟨_,rfl,uh Hs,uh HO⟩
  ·
   go_simp
   refine (Draw.below_any a len cap bc 3 (by omega) (by omega) _ (uh Hs)).mono ?_
   rintro e9 w5 ⟨v5,rfl,v50,v51,s9,p9⟩
   replace kb:=Z9 ((uh kb).away p9 (by omega))
   replace HO:=Z9 ((uh HO).trans p9)
   replace Hs:=Z9 s9
   clear s9 p9
   refine hK.out _ _ ((uh kb).cell (i:=3) rfl) (fun hHeld=> ?_)
   clear hK K
   (try simp only [Act.put,sA,sZ,sS])
   refine rd 3 rfl (fun K hK=> ?_)
   go_simp
   have hlb:w5.heap.size ≠ bc:=by have:=(uh HO).size;omega
   obtain ⟨Wp,hWp,hba,KL⟩:=ZD w5 2 #[.int .i64 (-1),.int .i64 (n3:Int),.int .i64 8]
   replace kb:=bl kb hba
   replace HO:=Z9 ((uh HO).trans (Yh hba))
   replace Hs:=Z9 ((uh Hs).alloc (.cells #[.int .i64 (-1),.int .i64 (n3:Int),.int .i64 8] 2))
   rw [hWp]
   refine hK.out _ _ ((uh kb).cell (i:=3) rfl) (fun hHeld=> ?_)
   clear hK K
   (try simp only [Act.put,sA,sZ,sS])
   clear hba
   (try rw [hWp] at Hs);clear hWp
   generalize w5.heap.size=lb at *
   have l0:=(uh KL).cell (i:=0) (v:= .int .i64 (-1)) rfl
   have l1:=(uh KL).cell (i:=1) (v:= .int .i64 (n3:Int)) rfl
   have l2:=(uh KL).cell (i:=2) (v:= .int .i64 8) rfl
   rcases (show v5=0\/v5=1\/v5=2 by omega) with rfl | rfl | rfl
   ·
    (refine tk 6 rfl (by assumption) ?_;(try simp only [Act.put,sA,sZ,sS]))
    refine rd 7 rfl (fun K hK=> ?_)
    go_simp
    refine hK.out _ _ ((uh kb).cell (i:=3) rfl) (fun hHeld=> ?_)
    clear hK K
    (try simp only [Act.put,sA,sZ,sS])
    refine wpAnyH_done (by kernel_rfl) ?_ _
    refine ZV rfl rfl ?_
    go_simp
    clear hHeld
    go_wp2_with fail
    go_ret
    exact ⟨_,rfl,uh Hs,uh HO⟩
   ·
    (refine tk 6 rfl (by assumption) ?_;(try simp only [Act.put,sA,sZ,sS]))
    refine rd 7 rfl (fun K hK=> ?_)
    go_simp
    refine hK.out _ _ ((uh kb).cell (i:=3) rfl) (fun hHeld=> ?_)
    clear hK K
    (try simp only [Act.put,sA,sZ,sS])
    refine wpAnyH_done (by kernel_rfl) ?_ _
    refine ZV rfl rfl ?_
    go_simp
    clear hHeld
    go_wp2_with fail
    go_ret
    exact ⟨_,rfl,uh Hs,uh HO⟩
   ·
    (refine tk 6 rfl (by assumption) ?_;(try simp only [Act.put,sA,sZ,sS]))
    refine rd 7 rfl (fun K hK=> ?_)
    go_simp
    refine hK.out _ _ ((uh kb).cell (i:=3) rfl) (fun hHeld=> ?_)
    clear hK K
    (try simp only [Act.put,sA,sZ,sS])
    refine wpAnyH_done (by kernel_rfl) ?_ _
    refine ZV rfl rfl ?_
    go_simp
    clear hHeld
    go_wp2_with fail
    go_ret
    exact ⟨_,rfl,uh Hs,uh HO⟩
 ·
  go_simp
  refine (Draw.below_any a len cap bc 3 (by omega) (by omega) _ (uh Hs)).mono ?_
  rintro e9 w5 ⟨v5,rfl,v50,v51,s9,p9⟩
  replace kb:=Z9 ((uh kb).away p9 (by omega))
  replace HO:=Z9 ((uh HO).trans p9)
  replace Hs:=Z9 s9
  clear s9 p9
  refine hK.out _ _ ((uh kb).cell (i:=3) rfl) (fun hHeld=> ?_)
  clear hK K
  (try simp only [Act.put,sA,sZ,sS])
  refine rd 2 rfl (fun K hK=> ?_)
  go_simp
  refine hK.out _ _ ((uh kb).cell (i:=3) rfl) (fun hHeld=> ?_)
  clear hK K
  (try simp only [Act.put,sA,sZ,sS])
  refine rd 3 rfl (fun K hK=> ?_)
  go_simp
  have hlb:w5.heap.size ≠ bc:=by have:=(uh HO).size;omega
  obtain ⟨Wp,hWp,hba,KL⟩:=ZD w5 2 #[.int .i64 (-1),.int .i64 (n3:Int),.int .i64 8]
  replace kb:=bl kb hba
  replace HO:=Z9 ((uh HO).trans (Yh hba))
  replace Hs:=Z9 ((uh Hs).alloc (.cells #[.int .i64 (-1),.int .i64 (n3:Int),.int .i64 8] 2))
  rw [hWp]
  refine hK.out _ _ ((uh kb).cell (i:=3) rfl) (fun hHeld=> ?_)
  clear hK K
  (try simp only [Act.put,sA,sZ,sS])
  clear hba
  (try rw [hWp] at Hs);clear hWp
  generalize w5.heap.size=lb at *
  have l0:=(uh KL).cell (i:=0) (v:= .int .i64 (-1)) rfl
  have l1:=(uh KL).cell (i:=1) (v:= .int .i64 (n3:Int)) rfl
  have l2:=(uh KL).cell (i:=2) (v:= .int .i64 8) rfl
  rcases (show v5=0\/v5=1\/v5=2 by omega) with rfl | rfl | rfl
  ·
   (refine tk 6 rfl (by assumption) ?_;(try simp only [Act.put,sA,sZ,sS]))
   refine rd 7 rfl (fun K hK=> ?_)
   go_simp
   refine hK.out _ _ ((uh kb).cell (i:=3) rfl) (fun hHeld=> ?_)
   clear hK K
   (try simp only [Act.put,sA,sZ,sS])
   refine wpAnyH_done (by kernel_rfl) ?_ _
   refine ZV rfl rfl ?_
   go_simp
   clear hHeld
   go_wp2_with fail
   go_ret
   exact ⟨_,rfl,uh Hs,uh HO⟩
  ·
   (refine tk 6 rfl (by assumption) ?_;(try simp only [Act.put,sA,sZ,sS]))
   refine rd 7 rfl (fun K hK=> ?_)
   go_simp
   refine hK.out _ _ ((uh kb).cell (i:=3) rfl) (fun hHeld=> ?_)
   clear hK K
   (try simp only [Act.put,sA,sZ,sS])
   refine wpAnyH_done (by kernel_rfl) ?_ _
   refine ZV rfl rfl ?_
   go_simp
   clear hHeld
   go_wp2_with fail
   go_ret
   exact ⟨_,rfl,uh Hs,uh HO⟩
  ·
   (refine tk 6 rfl (by assumption) ?_;(try simp only [Act.put,sA,sZ,sS]))
   refine rd 7 rfl (fun K hK=> ?_)
   go_simp
   refine hK.out _ _ ((uh kb).cell (i:=3) rfl) (fun hHeld=> ?_)
   clear hK K
   (try simp only [Act.put,sA,sZ,sS])
   refine wpAnyH_done (by kernel_rfl) ?_ _
   refine ZV rfl rfl ?_
   go_simp
   clear hHeld
   go_wp2_with fail
   go_ret
   exact ⟨_,rfl,uh Hs,uh HO⟩
theorem Pw (a:Option Addr) (len cap bc:Nat) (a0 a1 a2 a3 a4:Option Addr) (n0 n1 n2 n3 n4 p0 p1 p2 p3 p4:Nat) (now:Int) (hn:n2<=1000000) (w:World) (hs:St a len cap bc w) :
  Calls Tryz.prog 30 #[.pointer (some ⟨bc,0,none⟩),.agg #[.slice a0 n0 p0,.slice a1 n1 p1,.slice a2 n2 p2,.slice a3 n3 p3,.slice a4 n4 p4,.int .i64 now]] w fun e w'=> ∃ x:Int,e= .returned (.int .i64 x)/\St a len cap bc w'/\Off bc w w':=by
 have Hs:=Z9 hs
 have hbc:=XT hs
 clear hs
 go_enter Tryz.func30,Tryz.ntmps30
 go_upto_region 1 with fail
 have kb:Hid (Blk (w.alloc (.cells #[.slice a0 n0 p0,.slice a1 n1 p1,.slice a2 n2 p2,.slice a3 n3 p3,.slice a4 n4 p4,.int .i64 now] 32)) w.heap.size 32 #[.slice a0 n0 p0,.slice a1 n1 p1,.slice a2 n2 p2,.slice a3 n3 p3,.slice a4 n4 p4,.int .i64 now]):=Z9 (Blk.new _ _ _)
 have HO:Hid (Off bc w (w.alloc (.cells #[.slice a0 n0 p0,.slice a1 n1 p1,.slice a2 n2 p2,.slice a3 n3 p3,.slice a4 n4 p4,.int .i64 now] 32))):=Z9 ((Off.refl _ _).alloc _)
 replace Hs:Hid (St a len cap bc (w.alloc (.cells #[.slice a0 n0 p0,.slice a1 n1 p1,.slice a2 n2 p2,.slice a3 n3 p3,.slice a4 n4 p4,.int .i64 now] 32))):=Z9 ((uh Hs).alloc _)
 generalize w.alloc (.cells #[.slice a0 n0 p0,.slice a1 n1 p1,.slice a2 n2 p2,.slice a3 n3 p3,.slice a4 n4 p4,.int .i64 now] 32)=W at *
 go_wp2_with fail
 refine (Draw.once_any a len cap bc 10 (by omega) (by omega) _ (uh Hs)).mono ?_
 rintro e w1 ⟨bq,rfl,s9,p9⟩
 replace kb:=Z9 ((uh kb).away p9 (by omega))
 replace HO:=Z9 ((uh HO).trans p9)
 replace Hs:=Z9 s9
 clear s9 p9
 have x:=(uh kb).cell (i:=2) (v:= .slice a2 n2 p2) rfl
 cases bq
 ·
  go_wp2_with fail
  refine (VE 1 (n2:Int) _).mono ?_
  rintro e wz ⟨rfl,hwz⟩
  subst wz
  obtain ⟨mx,hmx⟩:∃ q,q=max 1 (n2:Int):=⟨_,rfl⟩
  rw [<-hmx]
  have hm0:0<mx:=by omega
  have hm1:mx<=1000001:=by omega
  clear hmx x
  go_wp2_with fail
  refine (Draw.below_any a len cap bc mx hm0 (by omega) _ (uh Hs)).mono ?_
  rintro e w2 ⟨v,rfl,v0,v1,s9,p9⟩
  have HO2:=Z9 ((uh HO).trans p9)
  have Hs2:=Z9 s9
  clear s9 p9
  go_wp2_with fail
  go_ret
  exact ⟨_,rfl,uh Hs2,uh HO2⟩
 go_wp2_with fail
 refine ZN (S:=fun w'=>w'.cell? ⟨w.heap.size,2,none⟩=some (.slice a2 n2 p2)) (by kernel_rfl) (List.cons_ne_nil _ _) (by kernel_rfl) x (fun hHeld=> ?_)
 simp only [List.dropLast_cons_cons,List.dropLast_singleton,List.length_cons,List.length_nil,Nat.zero_add,Nat.reduceAdd]
 (refine tk 0 rfl (by assumption) ?_;(try simp only [Act.put,sA,sZ,sS]))
 (refine tk 1 rfl (by assumption) ?_;(try simp only [Act.put,sA,sZ,sS]))
 (refine tk 4 rfl (by assumption) ?_;(try simp only [Act.put,sA,sZ,sS]))
 replace kb:=Z9 ((uh kb).below (Below.refl _ _).drew (uh kb).lt)
 replace HO:=Z9 ((uh HO).trans (Yh (Below.refl _ _).drew))
 replace Hs:=Z9 (VP (uh Hs))
 clear x
 generalize w1.drew=X0 at *
 refine wpAnyH_ready (rs:=[2,5]) (by kernel_rfl) (by simp) ?_
 refine AllReadyH.cons rfl (fun K hK=> ?_) (AllReadyH.cons rfl (fun K hK=> ?_) AllReadyH.nil)
 ·
  go_simp
  refine hK.out _ _ ((uh kb).cell (i:=2) rfl) (fun hHeld=> ?_)
  clear hK K
  (try simp only [Act.put,sA,sZ,sS])
  refine wpAnyH_ready (rs:=[3,5]) (by kernel_rfl) (by simp) ?_
  refine AllReadyH.cons rfl (fun K hK=> ?_) (AllReadyH.cons rfl (fun K hK=> ?_) AllReadyH.nil)
  ·
   go_simp
   have hlb:X0.heap.size ≠ bc:=by have:=(uh HO).size;omega
   obtain ⟨Wp,hWp,hba,KL⟩:=ZD X0 2 #[.int .i64 (-1),.int .i64 (n2:Int)]
   replace kb:=bl kb hba
   replace HO:=Z9 ((uh HO).trans (Yh hba))
   replace Hs:=Z9 ((uh Hs).alloc (.cells #[.int .i64 (-1),.int .i64 (n2:Int)] 2))
   rw [hWp]
   refine hK.out _ _ ((uh kb).cell (i:=2) rfl) (fun hHeld=> ?_)
   clear hK K
   (try simp only [Act.put,sA,sZ,sS])
   clear hba
   (try rw [hWp] at Hs);clear hWp
   generalize X0.heap.size=lb at *
   refine rd 5 rfl (fun K hK=> ?_)
   go_simp
   refine (Draw.below_any a len cap bc 2 (by omega) (by omega) _ (uh Hs)).mono ?_
   rintro e9 w5 ⟨v5,rfl,v50,v51,s9,p9⟩
   replace KL:=Z9 ((uh KL).away p9 hlb)
   replace kb:=Z9 ((uh kb).away p9 (by omega))
   replace HO:=Z9 ((uh HO).trans p9)
   replace Hs:=Z9 s9
   clear s9 p9
   refine hK.out _ _ ((uh kb).cell (i:=2) rfl) (fun hHeld=> ?_)
   clear hK K
   (try simp only [Act.put,sA,sZ,sS])
   have l0:=(uh KL).cell (i:=0) (v:= .int .i64 (-1)) rfl
   have l1:=(uh KL).cell (i:=1) (v:= .int .i64 (n2:Int)) rfl
   rcases (show v5=0\/v5=1 by omega) with rfl | rfl
   ·
    (refine tk 6 rfl (by assumption) ?_;(try simp only [Act.put,sA,sZ,sS]))
    refine rd 7 rfl (fun K hK=> ?_)
    go_simp
    refine hK.out _ _ ((uh kb).cell (i:=2) rfl) (fun hHeld=> ?_)
    clear hK K
    (try simp only [Act.put,sA,sZ,sS])
    refine wpAnyH_done (by kernel_rfl) ?_ _
    refine ZV rfl rfl ?_
    go_simp
    clear hHeld
    go_wp2_with fail
    go_ret
    exact ⟨_,rfl,uh Hs,uh HO⟩
   ·
    (refine tk 6 rfl (by assumption) ?_;(try simp only [Act.put,sA,sZ,sS]))
    refine rd 7 rfl (fun K hK=> ?_)
    go_simp
    refine hK.out _ _ ((uh kb).cell (i:=2) rfl) (fun hHeld=> ?_)
    clear hK K
    (try simp only [Act.put,sA,sZ,sS])
    refine wpAnyH_done (by kernel_rfl) ?_ _
    refine ZV rfl rfl ?_
    go_simp
    clear hHeld
    go_wp2_with fail
    go_ret
    exact ⟨_,rfl,uh Hs,uh HO⟩
  ·
   go_simp
   refine (Draw.below_any a len cap bc 2 (by omega) (by omega) _ (uh Hs)).mono ?_
   rintro e9 w5 ⟨v5,rfl,v50,v51,s9,p9⟩
   replace kb:=Z9 ((uh kb).away p9 (by omega))
   replace HO:=Z9 ((uh HO).trans p9)
   replace Hs:=Z9 s9
   clear s9 p9
   refine hK.out _ _ ((uh kb).cell (i:=2) rfl) (fun hHeld=> ?_)
   clear hK K
   (try simp only [Act.put,sA,sZ,sS])
   refine rd 3 rfl (fun K hK=> ?_)
   go_simp
   have hlb:w5.heap.size ≠ bc:=by have:=(uh HO).size;omega
   obtain ⟨Wp,hWp,hba,KL⟩:=ZD w5 2 #[.int .i64 (-1),.int .i64 (n2:Int)]
   replace kb:=bl kb hba
   replace HO:=Z9 ((uh HO).trans (Yh hba))
   replace Hs:=Z9 ((uh Hs).alloc (.cells #[.int .i64 (-1),.int .i64 (n2:Int)] 2))
   rw [hWp]
   refine hK.out _ _ ((uh kb).cell (i:=2) rfl) (fun hHeld=> ?_)
   clear hK K
   (try simp only [Act.put,sA,sZ,sS])
   clear hba
   (try rw [hWp] at Hs);clear hWp
   generalize w5.heap.size=lb at *
   have l0:=(uh KL).cell (i:=0) (v:= .int .i64 (-1)) rfl
   have l1:=(uh KL).cell (i:=1) (v:= .int .i64 (n2:Int)) rfl
   rcases (show v5=0\/v5=1 by omega) with rfl | rfl
   ·
    (refine tk 6 rfl (by assumption) ?_;(try simp only [Act.put,sA,sZ,sS]))
    refine rd 7 rfl (fun K hK=> ?_)
    go_simp
    refine hK.out _ _ ((uh kb).cell (i:=2) rfl) (fun hHeld=> ?_)
    clear hK K
    (try simp only [Act.put,sA,sZ,sS])
    refine wpAnyH_done (by kernel_rfl) ?_ _
    refine ZV rfl rfl ?_
    go_simp
    clear hHeld
    go_wp2_with fail
    go_ret
    exact ⟨_,rfl,uh Hs,uh HO⟩
   ·
    (refine tk 6 rfl (by assumption) ?_;(try simp only [Act.put,sA,sZ,sS]))
    refine rd 7 rfl (fun K hK=> ?_)
    go_simp
    refine hK.out _ _ ((uh kb).cell (i:=2) rfl) (fun hHeld=> ?_)
    clear hK K
    (try simp only [Act.put,sA,sZ,sS])
    refine wpAnyH_done (by kernel_rfl) ?_ _
    refine ZV rfl rfl ?_
    go_simp
    clear hHeld
    go_wp2_with fail
    go_ret
    exact ⟨_,rfl,uh Hs,uh HO⟩
 ·
  go_simp
  refine (Draw.below_any a len cap bc 2 (by omega) (by omega) _ (uh Hs)).mono ?_
  rintro e9 w5 ⟨v5,rfl,v50,v51,s9,p9⟩
  replace kb:=Z9 ((uh kb).away p9 (by omega))
  replace HO:=Z9 ((uh HO).trans p9)
  replace Hs:=Z9 s9
  clear s9 p9
  refine hK.out _ _ ((uh kb).cell (i:=2) rfl) (fun hHeld=> ?_)
  clear hK K
  (try simp only [Act.put,sA,sZ,sS])
  refine rd 2 rfl (fun K hK=> ?_)
  go_simp
  refine hK.out _ _ ((uh kb).cell (i:=2) rfl) (fun hHeld=> ?_)
  clear hK K
  (try simp only [Act.put,sA,sZ,sS])
  refine rd 3 rfl (fun K hK=> ?_)
  go_simp
  have hlb:w5.heap.size ≠ bc:=by have:=(uh HO).size;omega
  obtain ⟨Wp,hWp,hba,KL⟩:=ZD w5 2 #[.int .i64 (-1),.int .i64 (n2:Int)]
  replace kb:=bl kb hba
  replace HO:=Z9 ((uh HO).trans (Yh hba))
  replace Hs:=Z9 ((uh Hs).alloc (.cells #[.int .i64 (-1),.int .i64 (n2:Int)] 2))
  rw [hWp]
  refine hK.out _ _ ((uh kb).cell (i:=2) rfl) (fun hHeld=> ?_)
  clear hK K
  (try simp only [Act.put,sA,sZ,sS])
  clear hba
  (try rw [hWp] at Hs);clear hWp
  generalize w5.heap.size=lb at *
  have l0:=(uh KL).cell (i:=0) (v:= .int .i64 (-1)) rfl
  have l1:=(uh KL).cell (i:=1) (v:= .int .i64 (n2:Int)) rfl
  rcases (show v5=0\/v5=1 by omega) with rfl | rfl
  ·
   (refine tk 6 rfl (by assumption) ?_;(try simp only [Act.put,sA,sZ,sS]))
   refine rd 7 rfl (fun K hK=> ?_)
   go_simp
   refine hK.out _ _ ((uh kb).cell (i:=2) rfl) (fun hHeld=> ?_)
   clear hK K
   (try simp only [Act.put,sA,sZ,sS])
   refine wpAnyH_done (by kernel_rfl) ?_ _
   refine ZV rfl rfl ?_
   go_simp
   clear hHeld
   go_wp2_with fail
   go_ret
   exact ⟨_,rfl,uh Hs,uh HO⟩
  ·
   (refine tk 6 rfl (by assumption) ?_;(try simp only [Act.put,sA,sZ,sS]))
   refine rd 7 rfl (fun K hK=> ?_)
   go_simp
   refine hK.out _ _ ((uh kb).cell (i:=2) rfl) (fun hHeld=> ?_)
   clear hK K
   (try simp only [Act.put,sA,sZ,sS])
   refine wpAnyH_done (by kernel_rfl) ?_ _
   refine ZV rfl rfl ?_
   go_simp
   clear hHeld
   go_wp2_with fail
   go_ret
   exact ⟨_,rfl,uh Hs,uh HO⟩
set_option maxRecDepth 100000
theorem JA (a:Option Addr) (len cap:Nat) (w:World) (hr:Row w.heap.size w a len) :
  Calls Tryz.prog 6 #[.slice a len cap] w fun e w'=> ∃ M u0 u1 u2 u3 u4 x rq,e= .returned (.tuple #[.agg #[u0,u1,u2,u3,u4,.int .i64 M.now],.int .i64 x])/\FullSmy (w.heap.size+1) w' u0 u1 u2 u3 u4 M rq/\Below w.heap.size w w':=by
 have Hr:=Z9 (Draw.row_later hr ((Below.refl _ _).alloc (Nat.le_refl _) (.cells #[.slice none 0 0,.slice none 0 0,.slice none 0 0,.slice none 0 0,.slice none 0 0,.int .i64 0] 32)))
 clear hr
 go_enter Tryz.func6,Tryz.ntmps6
 go_wp2_with fail
 have kr:Hid (Blk (w.alloc (.cells #[.slice none 0 0,.slice none 0 0,.slice none 0 0,.slice none 0 0,.slice none 0 0,.int .i64 0] 32)) w.heap.size 32 #[.slice none 0 0,.slice none 0 0,.slice none 0 0,.slice none 0 0,.slice none 0 0,.int .i64 0]):=Z9 (Blk.new _ _ _)
 have BB:Hid (Below w.heap.size w (w.alloc (.cells #[.slice none 0 0,.slice none 0 0,.slice none 0 0,.slice none 0 0,.slice none 0 0,.int .i64 0] 32))):=Z9 ((Below.refl _ _).alloc (Nat.le_refl _) _)
 have hzW:w.heap.size<(w.alloc (.cells #[.slice none 0 0,.slice none 0 0,.slice none 0 0,.slice none 0 0,.slice none 0 0,.int .i64 0] 32)).heap.size:=by simp
 generalize w.alloc (.cells #[.slice none 0 0,.slice none 0 0,.slice none 0 0,.slice none 0 0,.slice none 0 0,.int .i64 0] 32)=W at *
 refine (Draw.new_any a len cap _ (uh Hr)).mono ?_
 rintro e w1 ⟨rfl,s1,o1⟩
 have Hs:=Z9 s1
 replace kr:=Z9 ((uh kr).away o1 (by omega))
 replace BB:=Z9 ((uh BB).trans (o1.below (by omega) (uh BB).size))
 clear s1 o1 Hr
 generalize W.heap.size=cb at *
 go_wp2_with fail
 refine (TA a len cap cb _ (uh Hs)).mono ?_
 rintro e w2 ⟨M,u0,u1,u2,u3,u4,rq,rfl,hm2,hm3,hf,s2,o2⟩
 have Hm2:=Z9 hm2
 have Hm3:=Z9 hm3
 clear hm2 hm3
 have hc1:=XT (uh Hs)
 have k6:=hf.smy
 obtain ⟨b0,q0,b1,q1,b2,q2,b3,q3,b4,q4,rfl,rfl,rfl,rfl,rfl,_,_,_,_,_,_,_,_,_,_⟩:=k6.five
 have HF:=Z9 (hf.mono (n₁:=cb+1) (by omega))
 replace Hs:=Z9 s2
 have Hs0:=Hs
 replace kr:=Z9 ((uh kr).away o2 (by omega))
 replace BB:=Z9 ((uh BB).trans (o2.below (by omega) (uh BB).size))
 clear hf s2 o2 k6
 go_upto_region 3 with fail
 obtain ⟨W2,hW2,hb,km⟩:=ZD w2 32 (S6 b0 q0 b1 q1 b2 q2 b3 q3 b4 q4 M)
 replace kr:=bl kr hb
 replace HF:=Z9 ((uh HF).below hb)
 replace Hs:=Z9 ((uh Hs).alloc (.cells #[.slice b0 M.rooms.length q0,.slice b1 M.guilds.length q1,.slice b2 M.smiths.length q2,.slice b3 M.desks.length q3,.slice b4 M.paces.length q4,.int .i64 M.now] 32))
 replace BB:=bt BB hb
 have hmb:cb+1<=w2.heap.size:=XT (uh Hs0)
 have hown:Hid (∀ k,Yy (.slice b0 M.rooms.length q0) (.slice b1 M.guilds.length q1) (.slice b2 M.smiths.length q2) (.slice b3 M.desks.length q3) (.slice b4 M.paces.length q4) rq k->k ≠ w.heap.size/\cb<k):=Z9 (fun k e=>by have:=((uh HF).own e).1;omega)
 clear hb
 rw [hW2]
 (try rw [hW2] at Hs);clear hW2
 generalize w2.heap.size=mb at *
 have hkl:M.desks.length<=1000000:=by have:=uh Hm3;omega
 obtain ⟨x0,x1,x2,x3,x4,x5⟩:=(uh km).c6
 go_wp2_with fail
 refine ZN (S:=fun w'=>w'.cell? ⟨mb,0,none⟩=some (.slice b0 M.rooms.length q0)/\w'.cell? ⟨mb,1,none⟩=some (.slice b1 M.guilds.length q1)/\w'.cell? ⟨mb,2,none⟩=some (.slice b2 M.smiths.length q2)/\w'.cell? ⟨mb,3,none⟩=some (.slice b3 M.desks.length q3)/\w'.cell? ⟨mb,4,none⟩=some (.slice b4 M.paces.length q4)/\w'.cell? ⟨mb,5,none⟩=some (.int .i64 M.now)) (by kernel_rfl) (List.cons_ne_nil _ _) (by kernel_rfl) ⟨x0,x1,x2,x3,x4,x5⟩ (fun hHeld=> ?_)
 simp only [List.dropLast_cons_cons,List.dropLast_singleton,List.length_cons,List.length_nil,Nat.zero_add,Nat.reduceAdd]
 clear x0 x1 x2 x3 x4 x5
 (refine tk 0 rfl (by assumption) ?_;(try simp only [Act.put,sA,sZ,sS]))
 (refine tk 1 rfl (by assumption) ?_;(try simp only [Act.put,sA,sZ,sS]))
 (refine tk 2 rfl (by assumption) ?_;(try simp only [Act.put,sA,sZ,sS]))
 refine rd 3 rfl (fun K hK=> ?_)
 go_simp
 refine (Rx a len cap cb _ _ _ _ _ _ _ _ _ _ _ _ _ _ _ _ hkl _ (VP (uh Hs))).mono ?_
 rintro e9 w5 ⟨x,rfl,s9,p9⟩
 have ho:=Vv p9
 replace km:=Z9 ((uh km).away ho (by omega))
 replace kr:=Z9 ((uh kr).away ho (by omega))
 replace HF:=Z9 ((uh HF).keep (fun k e=>ho.block k ((uh HF).own e).2 (by have:=(uh hown k e).2;omega)))
 replace BB:=Z9 ((uh BB).trans (ho.below (by omega) (uh BB).size))
 clear s9 p9 ho
 refine hK.out _ _ (uh km).c6 (fun hHeld=> ?_)
 clear hK K
 (try simp only [Act.put,sA,sZ,sS])
 obtain ⟨o0,o1,o2,o3,o4,o5⟩:=(uh kr).c6
 obtain ⟨f0,f1,f2,f3,f4,f5⟩:=(uh kr).f6
 have kmN:Blk ((((((w5.setCell ⟨w.heap.size,0,none⟩ (.slice b0 M.rooms.length q0)).setCell ⟨w.heap.size,1,none⟩ (.slice b1 M.guilds.length q1)).setCell ⟨w.heap.size,2,none⟩ (.slice b2 M.smiths.length q2)).setCell ⟨w.heap.size,3,none⟩ (.slice b3 M.desks.length q3)).setCell ⟨w.heap.size,4,none⟩ (.slice b4 M.paces.length q4)).setCell ⟨w.heap.size,5,none⟩ (.int .i64 M.now)) mb 32 #[.slice b0 M.rooms.length q0,.slice b1 M.guilds.length q1,.slice b2 M.smiths.length q2,.slice b3 M.desks.length q3,.slice b4 M.paces.length q4,.int .i64 M.now]:=(((((((uh km).other (a:=⟨w.heap.size,0,none⟩) (by show mb ≠ w.heap.size;omega) (.slice b0 M.rooms.length q0)).other (a:=⟨w.heap.size,1,none⟩) (by show mb ≠ w.heap.size;omega) (.slice b1 M.guilds.length q1)).other (a:=⟨w.heap.size,2,none⟩) (by show mb ≠ w.heap.size;omega) (.slice b2 M.smiths.length q2)).other (a:=⟨w.heap.size,3,none⟩) (by show mb ≠ w.heap.size;omega) (.slice b3 M.desks.length q3)).other (a:=⟨w.heap.size,4,none⟩) (by show mb ≠ w.heap.size;omega) (.slice b4 M.paces.length q4)).other (a:=⟨w.heap.size,5,none⟩) (by show mb ≠ w.heap.size;omega) (.int .i64 M.now))
 refine rd 4 rfl (fun K hK=> ?_)
 go_simp
 refine hK.out _ _ ⟨kmN.cell (i:=0) rfl,kmN.cell (i:=1) rfl,kmN.cell (i:=2) rfl,kmN.cell (i:=3) rfl,kmN.cell (i:=4) rfl,kmN.cell (i:=5) rfl⟩ (fun hHeld=> ?_)
 clear hK K kmN
 (try simp only [Act.put,sA,sZ,sS])
 refine wpAnyH_done (by kernel_rfl) ?_ _
 refine ZV rfl rfl ?_
 go_simp
 clear hHeld
 go_wp2_with fail
 refine bodyPost_ret (v:= .tuple #[.agg #[.slice b0 M.rooms.length q0,.slice b1 M.guilds.length q1,.slice b2 M.smiths.length q2,.slice b3 M.desks.length q3,.slice b4 M.paces.length q4,.int .i64 M.now],.int .i64 x]) (by simp [results,Tryz.results6,go_sem, *]) rfl ⟨M,_,_,_,_,_,x,rq,rfl,?_,?_⟩
 ·refine FullSmy.mono (n₀:=cb+1) ?_ (by omega)
  iterate 6 (refine FullSmy.set_off ?_ (fun k e=>(uh hown k e).1) _ _)
  exact uh HF
 ·iterate 6 (refine Below.setCell ?_ (by show w.heap.size<=w.heap.size;omega) _)
  exact uh BB
theorem Pg (a:Option Addr) (len cap:Nat) (w:World) (hr:Row w.heap.size w a len) :
  Calls Tryz.prog 9 #[.slice a len cap] w fun e w'=> ∃ M u0 u1 u2 u3 u4 x rq,e= .returned (.tuple #[.agg #[u0,u1,u2,u3,u4,.int .i64 M.now],.int .i64 x])/\FullSmy (w.heap.size+1) w' u0 u1 u2 u3 u4 M rq/\Below w.heap.size w w':=by
 have Hr:=Z9 (Draw.row_later hr ((Below.refl _ _).alloc (Nat.le_refl _) (.cells #[.slice none 0 0,.slice none 0 0,.slice none 0 0,.slice none 0 0,.slice none 0 0,.int .i64 0] 32)))
 clear hr
 go_enter Tryz.func9,Tryz.ntmps9
 go_wp2_with fail
 have kr:Hid (Blk (w.alloc (.cells #[.slice none 0 0,.slice none 0 0,.slice none 0 0,.slice none 0 0,.slice none 0 0,.int .i64 0] 32)) w.heap.size 32 #[.slice none 0 0,.slice none 0 0,.slice none 0 0,.slice none 0 0,.slice none 0 0,.int .i64 0]):=Z9 (Blk.new _ _ _)
 have BB:Hid (Below w.heap.size w (w.alloc (.cells #[.slice none 0 0,.slice none 0 0,.slice none 0 0,.slice none 0 0,.slice none 0 0,.int .i64 0] 32))):=Z9 ((Below.refl _ _).alloc (Nat.le_refl _) _)
 have hzW:w.heap.size<(w.alloc (.cells #[.slice none 0 0,.slice none 0 0,.slice none 0 0,.slice none 0 0,.slice none 0 0,.int .i64 0] 32)).heap.size:=by simp
 generalize w.alloc (.cells #[.slice none 0 0,.slice none 0 0,.slice none 0 0,.slice none 0 0,.slice none 0 0,.int .i64 0] 32)=W at *
 refine (Draw.new_any a len cap _ (uh Hr)).mono ?_
 rintro e w1 ⟨rfl,s1,o1⟩
 have Hs:=Z9 s1
 replace kr:=Z9 ((uh kr).away o1 (by omega))
 replace BB:=Z9 ((uh BB).trans (o1.below (by omega) (uh BB).size))
 clear s1 o1 Hr
 generalize W.heap.size=cb at *
 go_wp2_with fail
 refine (TA a len cap cb _ (uh Hs)).mono ?_
 rintro e w2 ⟨M,u0,u1,u2,u3,u4,rq,rfl,hm2,hm3,hf,s2,o2⟩
 have Hm2:=Z9 hm2
 have Hm3:=Z9 hm3
 clear hm2 hm3
 have hc1:=XT (uh Hs)
 have k6:=hf.smy
 obtain ⟨b0,q0,b1,q1,b2,q2,b3,q3,b4,q4,rfl,rfl,rfl,rfl,rfl,_,_,_,_,_,_,_,_,_,_⟩:=k6.five
 have HF:=Z9 (hf.mono (n₁:=cb+1) (by omega))
 replace Hs:=Z9 s2
 have Hs0:=Hs
 replace kr:=Z9 ((uh kr).away o2 (by omega))
 replace BB:=Z9 ((uh BB).trans (o2.below (by omega) (uh BB).size))
 clear hf s2 o2 k6
 go_upto_region 3 with fail
 obtain ⟨W2,hW2,hb,km⟩:=ZD w2 32 (S6 b0 q0 b1 q1 b2 q2 b3 q3 b4 q4 M)
 replace kr:=bl kr hb
 replace HF:=Z9 ((uh HF).below hb)
 replace Hs:=Z9 ((uh Hs).alloc (.cells #[.slice b0 M.rooms.length q0,.slice b1 M.guilds.length q1,.slice b2 M.smiths.length q2,.slice b3 M.desks.length q3,.slice b4 M.paces.length q4,.int .i64 M.now] 32))
 replace BB:=bt BB hb
 have hmb:cb+1<=w2.heap.size:=XT (uh Hs0)
 have hown:Hid (∀ k,Yy (.slice b0 M.rooms.length q0) (.slice b1 M.guilds.length q1) (.slice b2 M.smiths.length q2) (.slice b3 M.desks.length q3) (.slice b4 M.paces.length q4) rq k->k ≠ w.heap.size/\cb<k):=Z9 (fun k e=>by have:=((uh HF).own e).1;omega)
 clear hb
 rw [hW2]
 (try rw [hW2] at Hs);clear hW2
 generalize w2.heap.size=mb at *
 have hkl:M.smiths.length<=1000000:=by have:=uh Hm2;omega
 obtain ⟨x0,x1,x2,x3,x4,x5⟩:=(uh km).c6
 go_wp2_with fail
 refine ZN (S:=fun w'=>w'.cell? ⟨mb,0,none⟩=some (.slice b0 M.rooms.length q0)/\w'.cell? ⟨mb,1,none⟩=some (.slice b1 M.guilds.length q1)/\w'.cell? ⟨mb,2,none⟩=some (.slice b2 M.smiths.length q2)/\w'.cell? ⟨mb,3,none⟩=some (.slice b3 M.desks.length q3)/\w'.cell? ⟨mb,4,none⟩=some (.slice b4 M.paces.length q4)/\w'.cell? ⟨mb,5,none⟩=some (.int .i64 M.now)) (by kernel_rfl) (List.cons_ne_nil _ _) (by kernel_rfl) ⟨x0,x1,x2,x3,x4,x5⟩ (fun hHeld=> ?_)
 simp only [List.dropLast_cons_cons,List.dropLast_singleton,List.length_cons,List.length_nil,Nat.zero_add,Nat.reduceAdd]
 clear x0 x1 x2 x3 x4 x5
 (refine tk 0 rfl (by assumption) ?_;(try simp only [Act.put,sA,sZ,sS]))
 (refine tk 1 rfl (by assumption) ?_;(try simp only [Act.put,sA,sZ,sS]))
 (refine tk 2 rfl (by assumption) ?_;(try simp only [Act.put,sA,sZ,sS]))
 refine rd 3 rfl (fun K hK=> ?_)
 go_simp
 refine (Pw a len cap cb _ _ _ _ _ _ _ _ _ _ _ _ _ _ _ _ hkl _ (VP (uh Hs))).mono ?_
 rintro e9 w5 ⟨x,rfl,s9,p9⟩
 have ho:=Vv p9
 replace km:=Z9 ((uh km).away ho (by omega))
 replace kr:=Z9 ((uh kr).away ho (by omega))
 replace HF:=Z9 ((uh HF).keep (fun k e=>ho.block k ((uh HF).own e).2 (by have:=(uh hown k e).2;omega)))
 replace BB:=Z9 ((uh BB).trans (ho.below (by omega) (uh BB).size))
 clear s9 p9 ho
 refine hK.out _ _ (uh km).c6 (fun hHeld=> ?_)
 clear hK K
 (try simp only [Act.put,sA,sZ,sS])
 obtain ⟨o0,o1,o2,o3,o4,o5⟩:=(uh kr).c6
 obtain ⟨f0,f1,f2,f3,f4,f5⟩:=(uh kr).f6
 have kmN:Blk ((((((w5.setCell ⟨w.heap.size,0,none⟩ (.slice b0 M.rooms.length q0)).setCell ⟨w.heap.size,1,none⟩ (.slice b1 M.guilds.length q1)).setCell ⟨w.heap.size,2,none⟩ (.slice b2 M.smiths.length q2)).setCell ⟨w.heap.size,3,none⟩ (.slice b3 M.desks.length q3)).setCell ⟨w.heap.size,4,none⟩ (.slice b4 M.paces.length q4)).setCell ⟨w.heap.size,5,none⟩ (.int .i64 M.now)) mb 32 #[.slice b0 M.rooms.length q0,.slice b1 M.guilds.length q1,.slice b2 M.smiths.length q2,.slice b3 M.desks.length q3,.slice b4 M.paces.length q4,.int .i64 M.now]:=(((((((uh km).other (a:=⟨w.heap.size,0,none⟩) (by show mb ≠ w.heap.size;omega) (.slice b0 M.rooms.length q0)).other (a:=⟨w.heap.size,1,none⟩) (by show mb ≠ w.heap.size;omega) (.slice b1 M.guilds.length q1)).other (a:=⟨w.heap.size,2,none⟩) (by show mb ≠ w.heap.size;omega) (.slice b2 M.smiths.length q2)).other (a:=⟨w.heap.size,3,none⟩) (by show mb ≠ w.heap.size;omega) (.slice b3 M.desks.length q3)).other (a:=⟨w.heap.size,4,none⟩) (by show mb ≠ w.heap.size;omega) (.slice b4 M.paces.length q4)).other (a:=⟨w.heap.size,5,none⟩) (by show mb ≠ w.heap.size;omega) (.int .i64 M.now))
 refine rd 4 rfl (fun K hK=> ?_)
 go_simp
 refine hK.out _ _ ⟨kmN.cell (i:=0) rfl,kmN.cell (i:=1) rfl,kmN.cell (i:=2) rfl,kmN.cell (i:=3) rfl,kmN.cell (i:=4) rfl,kmN.cell (i:=5) rfl⟩ (fun hHeld=> ?_)
 clear hK K kmN
 (try simp only [Act.put,sA,sZ,sS])
 refine wpAnyH_done (by kernel_rfl) ?_ _
 refine ZV rfl rfl ?_
 go_simp
 clear hHeld
 go_wp2_with fail
 refine bodyPost_ret (v:= .tuple #[.agg #[.slice b0 M.rooms.length q0,.slice b1 M.guilds.length q1,.slice b2 M.smiths.length q2,.slice b3 M.desks.length q3,.slice b4 M.paces.length q4,.int .i64 M.now],.int .i64 x]) (by simp [results,Tryz.results9,go_sem, *]) rfl ⟨M,_,_,_,_,_,x,rq,rfl,?_,?_⟩
 ·refine FullSmy.mono (n₀:=cb+1) ?_ (by omega)
  iterate 6 (refine FullSmy.set_off ?_ (fun k e=>(uh hown k e).1) _ _)
  exact uh HF
 ·iterate 6 (refine Below.setCell ?_ (by show w.heap.size<=w.heap.size;omega) _)
  exact uh BB
theorem OI {w:World} {v u:Value} {ps:List Z5} (hv:IsPaces w v ps) (hu:IsPaces w u ps) :
  Calls Tryz.prog 11 #[v,u] w fun e w'=>e= .returned (.bool true)/\Below w.heap.size w w':=by
 obtain ⟨a,cap,rfl,hc,hm,hr⟩:=hv
 obtain ⟨a',cap',rfl,hc',hm',hr'⟩:=hu
 have Hr:=Z9 hr
 have Hr':=Z9 hr'
 clear hr hr'
 go_enter Tryz.func11,Tryz.ntmps11
 go_wp2_with fail
 go_loopw [5] (fun i wr=> ∃ k:Nat,k<=ps.length/\i= .int .i64 k/\Below w.heap.size w wr) (fun i _=>ps.length-(intOf i).toNat)
 case atStart=>exact ⟨0,Nat.zero_le _,rfl,Below.refl _ _⟩
 case round=>
  obtain ⟨k,hk,rfl,hb⟩:=hrel
  have Hb:=Z9 hb
  by_cases hlt:k<ps.length
  ·rcases uh Hr with h0 | ⟨b,off,rfl,hbw,hcl⟩
   ·rw [h0] at hlt;simp at hlt
   rcases uh Hr' with h0 | ⟨b',off',rfl,hbw',hcl'⟩
   ·rw [h0] at hlt;simp at hlt
   obtain ⟨c0,c1⟩:=hcl k hlt
   obtain ⟨d0,d1⟩:=hcl' k hlt
   rw [<-hb.cell (p:=⟨b,off+k*2,none⟩) hbw] at c0
   rw [<-hb.cell (p:=⟨b,off+k*2+1,none⟩) hbw] at c1
   rw [<-hb.cell (p:=⟨b',off'+k*2,none⟩) hbw'] at d0
   rw [<-hb.cell (p:=⟨b',off'+k*2+1,none⟩) hbw'] at d1
   generalize (Z7 ps k).1=f at *
   generalize (Z7 ps k).2=c at *
   have k0:=cell_regrown c0
   have k1:=cell_regrown c1
   have k2:=cell_regrown d0
   have k3:=cell_regrown d1
   clear hcl hcl' hb c0 c1 d0 d1
   go_wp2_with fail
   refine wp_region_quiet_below (by kernel_rfl) (by kernel_rfl) ?_
   repeat (go_big_quiet_step (fail))
   refine wpQuiet_nil ?_
   intro _ hw'
   obtain ⟨⟨dq,osq⟩,hw''⟩:=hw'
   subst hw''
   go_wp2_with fail
   go_roundw
   case rel=>exact ⟨k+1,by omega,by go_num,(uh Hb).trans ((below_regrown _ _ _).mono (uh Hb).size)⟩
   case measure=>simp [intOf];omega
  ·go_wp2_with fail
   go_ret
   exact ⟨rfl,hb⟩
theorem Ms (st be rk my gu lo hi hd ca ut wk:Int) (w:World):Calls Tryz.prog 18 #[.agg #[.int .i64 st,.int .i64 be,.int .i64 rk,.int .i64 my,.int .i64 gu,.int .i64 lo,.int .i64 hi,.int .i64 hd,.int .i64 ca,.int .i64 ut,.int .i64 wk]] w fun e w'=>
  e= .returned (.bool (ZR (st,be,rk,my,gu,lo,hi,hd,ca,ut,wk)))/\Below w.heap.size w w':=by
 unfold ZR
 simp only
 cases h2:(st ==2)
 all_goals
  go_enter Tryz.func18,Tryz.ntmps18
  go_wp2_with fail
  go_ret
  exact ⟨by first | rfl | (simp),(Below.refl _ _).alloc (Nat.le_refl _) _⟩
theorem Of {st be rk my gu lo hi hd ca ut wk:Int} {q:Bool} (h:ZR (st,be,rk,my,gu,lo,hi,hd,ca,ut,wk)=q) (w:World):Calls Tryz.prog 18 #[.agg #[.int .i64 st,.int .i64 be,.int .i64 rk,.int .i64 my,.int .i64 gu,.int .i64 lo,.int .i64 hi,.int .i64 hd,.int .i64 ca,.int .i64 ut,.int .i64 wk]] w fun e w'=>e= .returned (.bool q)/\Below w.heap.size w w':=by
 have:=Ms st be rk my gu lo hi hd ca ut wk w;rw [h] at this;exact this
end Go.Proofs.YthbbahagpmdooaaGreat
