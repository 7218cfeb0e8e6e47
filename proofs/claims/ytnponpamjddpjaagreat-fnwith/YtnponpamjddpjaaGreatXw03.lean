/- Part 3 of what the proof rests on besides. No condition but those that a theorem names. -/
import Derived.Test.YtnponpamjddpjaaGreatXw02
set_option maxHeartbeats 8000000
set_option maxRecDepth 100000
namespace Go.Proofs.YtnponpamjddpjaaGreat
open Go.ChangeShapes Go.WideShapes Go.ChangeAt Go.RowKit Go.Sort
open Draw (St Off Row Cur)
set_option linter.unusedVariables false
set_option linter.unusedSimpArgs false
set_option maxRecDepth 100000
theorem Ev (a:Option Addr) (len cap bc:Nat) (a0 a1 a2 a3 a4:Option Addr) (n0 n1 n2 n3 n4 p0 p1 p2 p3 p4:Nat) (now:Int) (hn:n3<=1000000) (w:World) (hs:St a len cap bc w) :
  Calls Tryz.prog 54 #[.pointer (some ⟨bc,0,none⟩),.agg #[.slice a0 n0 p0,.slice a1 n1 p1,.slice a2 n2 p2,.slice a3 n3 p3,.slice a4 n4 p4,.int .i64 now]] w fun e w'=> ∃ x:Int,e= .returned (.int .i64 x)/\St a len cap bc w'/\Off bc w w':=by
 have Hs:=Z9 hs;have hbc:=Xx hs;clear hs
 go_enter Tryz.func54,Tryz.ntmps54
 go_upto_region 1 with fail
 have kb:Hid (Blk (w.alloc (.cells #[.slice a0 n0 p0,.slice a1 n1 p1,.slice a2 n2 p2,.slice a3 n3 p3,.slice a4 n4 p4,.int .i64 now] 32)) w.heap.size 32 #[.slice a0 n0 p0,.slice a1 n1 p1,.slice a2 n2 p2,.slice a3 n3 p3,.slice a4 n4 p4,.int .i64 now]):=Z9 (Blk.new _ _ _);have HO:Hid (Off bc w (w.alloc (.cells #[.slice a0 n0 p0,.slice a1 n1 p1,.slice a2 n2 p2,.slice a3 n3 p3,.slice a4 n4 p4,.int .i64 now] 32))):=Z9 ((Off.refl _ _).alloc _);replace Hs:Hid (St a len cap bc (w.alloc (.cells #[.slice a0 n0 p0,.slice a1 n1 p1,.slice a2 n2 p2,.slice a3 n3 p3,.slice a4 n4 p4,.int .i64 now] 32))):=Z9 ((uh Hs).alloc _);generalize w.alloc (.cells #[.slice a0 n0 p0,.slice a1 n1 p1,.slice a2 n2 p2,.slice a3 n3 p3,.slice a4 n4 p4,.int .i64 now] 32)=W at *;go_wp2_with fail;refine (Draw.once_any a len cap bc 10 (by omega) (by omega) _ (uh Hs)).mono ?_;rintro e w1 ⟨bq,rfl,s9,p9⟩;replace kb:=Z9 ((uh kb).away p9 (by omega));replace HO:=Z9 ((uh HO).trans p9);replace Hs:=Z9 s9;clear s9 p9;have x:=(uh kb).cell (i:=3) (v:= .slice a3 n3 p3) rfl;cases bq
 ·
  go_wp2_with fail;refine (Tj 1 (n3:Int) _).mono ?_;rintro e wz ⟨rfl,hwz⟩;subst wz;obtain ⟨mx,hmx⟩:∃ q,q=max 1 (n3:Int):=⟨_,rfl⟩;rw [<-hmx]
  have hm0:0<mx:=by omega
  have hm1:mx<=1000001:=by omega
  clear hmx x;go_wp2_with fail;refine (Draw.below_any a len cap bc mx hm0 (by omega) _ (uh Hs)).mono ?_;rintro e w2 ⟨v,rfl,v0,v1,s9,p9⟩;have HO2:=Z9 ((uh HO).trans p9);have Hs2:=Z9 s9;clear s9 p9;go_wp2_with fail;go_ret;exact ⟨_,rfl,uh Hs2,uh HO2⟩
 go_wp2_with fail;refine ZP (S:=fun w'=>w'.cell? ⟨w.heap.size,3,none⟩=some (.slice a3 n3 p3)) (by kernel_rfl) (List.cons_ne_nil _ _) (by kernel_rfl) x (fun hHeld=> ?_);simp only [List.dropLast_cons_cons,List.dropLast_singleton,List.length_cons,List.length_nil,Nat.zero_add,Nat.reduceAdd]
 (refine tk 0 rfl (by assumption) ?_;(try simp only [Act.put,sA,sZ,sS]))
 (refine tk 1 rfl (by assumption) ?_;(try simp only [Act.put,sA,sZ,sS]))
 (refine tk 4 rfl (by assumption) ?_;(try simp only [Act.put,sA,sZ,sS]))
 replace kb:=Z9 ((uh kb).below (Below.refl _ _).drew (uh kb).lt);replace HO:=Z9 ((uh HO).trans (Tc (Below.refl _ _).drew));replace Hs:=Z9 (UE (uh Hs));clear x;generalize w1.drew=X0 at *;refine wpAnyH_ready (rs:=[2,5]) (by kernel_rfl) (by simp) ?_;refine AllReadyH.cons rfl (fun K hK=> ?_) (AllReadyH.cons rfl (fun K hK=> ?_) AllReadyH.nil)
 ·
  go_simp;refine hK.out _ _ ((uh kb).cell (i:=3) rfl) (fun hHeld=> ?_);clear hK K
  (try simp only [Act.put,sA,sZ,sS])
  refine wpAnyH_ready (rs:=[3,5]) (by kernel_rfl) (by simp) ?_;refine AllReadyH.cons rfl (fun K hK=> ?_) (AllReadyH.cons rfl (fun K hK=> ?_) AllReadyH.nil)
  ·
   go_simp
   have hlb:X0.heap.size ≠ bc:=by have:=(uh HO).size;omega
   obtain ⟨Wp,hWp,hba,KL⟩:=Zy X0 2 #[.int .i64 (-1),.int .i64 (n3:Int),.int .i64 8];replace kb:=bl kb hba;replace HO:=Z9 ((uh HO).trans (Tc hba));replace Hs:=Z9 ((uh Hs).alloc (.cells #[.int .i64 (-1),.int .i64 (n3:Int),.int .i64 8] 2));rw [hWp];refine hK.out _ _ ((uh kb).cell (i:=3) rfl) (fun hHeld=> ?_);clear hK K
   (try simp only [Act.put,sA,sZ,sS])
   clear hba
   (try rw [hWp] at Hs);clear hWp
   generalize X0.heap.size=lb at *;refine rd 5 rfl (fun K hK=> ?_);go_simp;refine (Draw.below_any a len cap bc 3 (by omega) (by omega) _ (uh Hs)).mono ?_;rintro e9 w5 ⟨v5,rfl,v50,v51,s9,p9⟩;replace KL:=Z9 ((uh KL).away p9 hlb);replace kb:=Z9 ((uh kb).away p9 (by omega));replace HO:=Z9 ((uh HO).trans p9);replace Hs:=Z9 s9;clear s9 p9;refine hK.out _ _ ((uh kb).cell (i:=3) rfl) (fun hHeld=> ?_);clear hK K
   (try simp only [Act.put,sA,sZ,sS])
   have l0:=(uh KL).cell (i:=0) (v:= .int .i64 (-1)) rfl;have l1:=(uh KL).cell (i:=1) (v:= .int .i64 (n3:Int)) rfl;have l2:=(uh KL).cell (i:=2) (v:= .int .i64 8) rfl
   rcases (show v5=0\/v5=1\/v5=2 by omega) with rfl | rfl | rfl
   ·
    (refine tk 6 rfl (by assumption) ?_;(try simp only [Act.put,sA,sZ,sS]))
    refine rd 7 rfl (fun K hK=> ?_);go_simp;refine hK.out _ _ ((uh kb).cell (i:=3) rfl) (fun hHeld=> ?_);clear hK K
    (try simp only [Act.put,sA,sZ,sS])
    refine wpAnyH_done (by kernel_rfl) ?_ _;refine ZI rfl rfl ?_;go_simp;clear hHeld;go_wp2_with fail;go_ret;exact ⟨_,rfl,uh Hs,uh HO⟩
   ·
    (refine tk 6 rfl (by assumption) ?_;(try simp only [Act.put,sA,sZ,sS]))
    refine rd 7 rfl (fun K hK=> ?_);go_simp;refine hK.out _ _ ((uh kb).cell (i:=3) rfl) (fun hHeld=> ?_);clear hK K
    (try simp only [Act.put,sA,sZ,sS])
    refine wpAnyH_done (by kernel_rfl) ?_ _;refine ZI rfl rfl ?_;go_simp;clear hHeld;go_wp2_with fail;go_ret;exact ⟨_,rfl,uh Hs,uh HO⟩
   ·
    (refine tk 6 rfl (by assumption) ?_;(try simp only [Act.put,sA,sZ,sS]))
    refine rd 7 rfl (fun K hK=> ?_);go_simp;refine hK.out _ _ ((uh kb).cell (i:=3) rfl) (fun hHeld=> ?_);clear hK K
    (try simp only [Act.put,sA,sZ,sS])
    refine wpAnyH_done (by kernel_rfl) ?_ _;refine ZI rfl rfl ?_;go_simp;clear hHeld;go_wp2_with fail;go_ret;exact ⟨_,rfl,uh Hs,uh HO⟩
  ·
   go_simp;refine (Draw.below_any a len cap bc 3 (by omega) (by omega) _ (uh Hs)).mono ?_;rintro e9 w5 ⟨v5,rfl,v50,v51,s9,p9⟩;replace kb:=Z9 ((uh kb).away p9 (by omega));replace HO:=Z9 ((uh HO).trans p9);replace Hs:=Z9 s9;clear s9 p9;refine hK.out _ _ ((uh kb).cell (i:=3) rfl) (fun hHeld=> ?_);clear hK K
   (try simp only [Act.put,sA,sZ,sS])
   refine rd 3 rfl (fun K hK=> ?_);go_simp
   have hlb:w5.heap.size ≠ bc:=by have:=(uh HO).size;omega
   obtain ⟨Wp,hWp,hba,KL⟩:=Zy w5 2 #[.int .i64 (-1),.int .i64 (n3:Int),.int .i64 8];replace kb:=bl kb hba;replace HO:=Z9 ((uh HO).trans (Tc hba));replace Hs:=Z9 ((uh Hs).alloc (.cells #[.int .i64 (-1),.int .i64 (n3:Int),.int .i64 8] 2));rw [hWp];refine hK.out _ _ ((uh kb).cell (i:=3) rfl) (fun hHeld=> ?_);clear hK K
   (try simp only [Act.put,sA,sZ,sS])
   clear hba
   (try rw [hWp] at Hs);clear hWp
   generalize w5.heap.size=lb at *;have l0:=(uh KL).cell (i:=0) (v:= .int .i64 (-1)) rfl;have l1:=(uh KL).cell (i:=1) (v:= .int .i64 (n3:Int)) rfl;have l2:=(uh KL).cell (i:=2) (v:= .int .i64 8) rfl
   rcases (show v5=0\/v5=1\/v5=2 by omega) with rfl | rfl | rfl
   ·
    (refine tk 6 rfl (by assumption) ?_;(try simp only [Act.put,sA,sZ,sS]))
    refine rd 7 rfl (fun K hK=> ?_);go_simp;refine hK.out _ _ ((uh kb).cell (i:=3) rfl) (fun hHeld=> ?_);clear hK K
    (try simp only [Act.put,sA,sZ,sS])
    refine wpAnyH_done (by kernel_rfl) ?_ _;refine ZI rfl rfl ?_;go_simp;clear hHeld;go_wp2_with fail;go_ret;exact ⟨_,rfl,uh Hs,uh HO⟩
   ·
    (refine tk 6 rfl (by assumption) ?_;(try simp only [Act.put,sA,sZ,sS]))
    refine rd 7 rfl (fun K hK=> ?_);go_simp;refine hK.out _ _ ((uh kb).cell (i:=3) rfl) (fun hHeld=> ?_);clear hK K
    (try simp only [Act.put,sA,sZ,sS])
    refine wpAnyH_done (by kernel_rfl) ?_ _;refine ZI rfl rfl ?_;go_simp;clear hHeld;go_wp2_with fail;go_ret;exact ⟨_,rfl,uh Hs,uh HO⟩
   ·
    (refine tk 6 rfl (by assumption) ?_;(try simp only [Act.put,sA,sZ,sS]))
    refine rd 7 rfl (fun K hK=> ?_);go_simp;refine hK.out _ _ ((uh kb).cell (i:=3) rfl) (fun hHeld=> ?_);clear hK K
    (try simp only [Act.put,sA,sZ,sS])
    refine wpAnyH_done (by kernel_rfl) ?_ _;refine ZI rfl rfl ?_;go_simp;clear hHeld;go_wp2_with fail;go_ret;exact ⟨_,rfl,uh Hs,uh HO⟩
 ·
  go_simp;refine (Draw.below_any a len cap bc 3 (by omega) (by omega) _ (uh Hs)).mono ?_;rintro e9 w5 ⟨v5,rfl,v50,v51,s9,p9⟩;replace kb:=Z9 ((uh kb).away p9 (by omega));replace HO:=Z9 ((uh HO).trans p9);replace Hs:=Z9 s9;clear s9 p9;refine hK.out _ _ ((uh kb).cell (i:=3) rfl) (fun hHeld=> ?_);clear hK K
  (try simp only [Act.put,sA,sZ,sS])
  refine rd 2 rfl (fun K hK=> ?_);go_simp;refine hK.out _ _ ((uh kb).cell (i:=3) rfl) (fun hHeld=> ?_);clear hK K
  (try simp only [Act.put,sA,sZ,sS])
  refine rd 3 rfl (fun K hK=> ?_);go_simp
  have hlb:w5.heap.size ≠ bc:=by have:=(uh HO).size;omega
  obtain ⟨Wp,hWp,hba,KL⟩:=Zy w5 2 #[.int .i64 (-1),.int .i64 (n3:Int),.int .i64 8];replace kb:=bl kb hba;replace HO:=Z9 ((uh HO).trans (Tc hba));replace Hs:=Z9 ((uh Hs).alloc (.cells #[.int .i64 (-1),.int .i64 (n3:Int),.int .i64 8] 2));rw [hWp];refine hK.out _ _ ((uh kb).cell (i:=3) rfl) (fun hHeld=> ?_);clear hK K
  (try simp only [Act.put,sA,sZ,sS])
  clear hba
  (try rw [hWp] at Hs);clear hWp
  generalize w5.heap.size=lb at *;have l0:=(uh KL).cell (i:=0) (v:= .int .i64 (-1)) rfl;have l1:=(uh KL).cell (i:=1) (v:= .int .i64 (n3:Int)) rfl;have l2:=(uh KL).cell (i:=2) (v:= .int .i64 8) rfl
  rcases (show v5=0\/v5=1\/v5=2 by omega) with rfl | rfl | rfl
  ·
   (refine tk 6 rfl (by assumption) ?_;(try simp only [Act.put,sA,sZ,sS]))
   refine rd 7 rfl (fun K hK=> ?_);go_simp;refine hK.out _ _ ((uh kb).cell (i:=3) rfl) (fun hHeld=> ?_);clear hK K
   (try simp only [Act.put,sA,sZ,sS])
   refine wpAnyH_done (by kernel_rfl) ?_ _;refine ZI rfl rfl ?_;go_simp;clear hHeld;go_wp2_with fail;go_ret;exact ⟨_,rfl,uh Hs,uh HO⟩
  ·
   (refine tk 6 rfl (by assumption) ?_;(try simp only [Act.put,sA,sZ,sS]))
   refine rd 7 rfl (fun K hK=> ?_);go_simp;refine hK.out _ _ ((uh kb).cell (i:=3) rfl) (fun hHeld=> ?_);clear hK K
   (try simp only [Act.put,sA,sZ,sS])
   refine wpAnyH_done (by kernel_rfl) ?_ _;refine ZI rfl rfl ?_;go_simp;clear hHeld;go_wp2_with fail;go_ret;exact ⟨_,rfl,uh Hs,uh HO⟩
  ·
   (refine tk 6 rfl (by assumption) ?_;(try simp only [Act.put,sA,sZ,sS]))
   refine rd 7 rfl (fun K hK=> ?_);go_simp;refine hK.out _ _ ((uh kb).cell (i:=3) rfl) (fun hHeld=> ?_);clear hK K
   (try simp only [Act.put,sA,sZ,sS])
   refine wpAnyH_done (by kernel_rfl) ?_ _;refine ZI rfl rfl ?_;go_simp;clear hHeld;go_wp2_with fail;go_ret;exact ⟨_,rfl,uh Hs,uh HO⟩
theorem Ee (a:Option Addr) (len cap bc:Nat) (a0 a1 a2 a3 a4:Option Addr) (n0 n1 n2 n3 n4 p0 p1 p2 p3 p4:Nat) (now:Int) (hn:n2<=1000000) (w:World) (hs:St a len cap bc w) :
  Calls Tryz.prog 59 #[.pointer (some ⟨bc,0,none⟩),.agg #[.slice a0 n0 p0,.slice a1 n1 p1,.slice a2 n2 p2,.slice a3 n3 p3,.slice a4 n4 p4,.int .i64 now]] w fun e w'=> ∃ x:Int,e= .returned (.int .i64 x)/\St a len cap bc w'/\Off bc w w':=by
 have Hs:=Z9 hs;have hbc:=Xx hs;clear hs
 go_enter Tryz.func59,Tryz.ntmps59
 go_upto_region 1 with fail
 have kb:Hid (Blk (w.alloc (.cells #[.slice a0 n0 p0,.slice a1 n1 p1,.slice a2 n2 p2,.slice a3 n3 p3,.slice a4 n4 p4,.int .i64 now] 32)) w.heap.size 32 #[.slice a0 n0 p0,.slice a1 n1 p1,.slice a2 n2 p2,.slice a3 n3 p3,.slice a4 n4 p4,.int .i64 now]):=Z9 (Blk.new _ _ _);have HO:Hid (Off bc w (w.alloc (.cells #[.slice a0 n0 p0,.slice a1 n1 p1,.slice a2 n2 p2,.slice a3 n3 p3,.slice a4 n4 p4,.int .i64 now] 32))):=Z9 ((Off.refl _ _).alloc _);replace Hs:Hid (St a len cap bc (w.alloc (.cells #[.slice a0 n0 p0,.slice a1 n1 p1,.slice a2 n2 p2,.slice a3 n3 p3,.slice a4 n4 p4,.int .i64 now] 32))):=Z9 ((uh Hs).alloc _);generalize w.alloc (.cells #[.slice a0 n0 p0,.slice a1 n1 p1,.slice a2 n2 p2,.slice a3 n3 p3,.slice a4 n4 p4,.int .i64 now] 32)=W at *;go_wp2_with fail;refine (Draw.once_any a len cap bc 10 (by omega) (by omega) _ (uh Hs)).mono ?_;rintro e w1 ⟨bq,rfl,s9,p9⟩;replace kb:=Z9 ((uh kb).away p9 (by omega));replace HO:=Z9 ((uh HO).trans p9);replace Hs:=Z9 s9;clear s9 p9;have x:=(uh kb).cell (i:=2) (v:= .slice a2 n2 p2) rfl;cases bq
 ·
  go_wp2_with fail;refine (Tj 1 (n2:Int) _).mono ?_;rintro e wz ⟨rfl,hwz⟩;subst wz;obtain ⟨mx,hmx⟩:∃ q,q=max 1 (n2:Int):=⟨_,rfl⟩;rw [<-hmx]
  have hm0:0<mx:=by omega
  have hm1:mx<=1000001:=by omega
  clear hmx x;go_wp2_with fail;refine (Draw.below_any a len cap bc mx hm0 (by omega) _ (uh Hs)).mono ?_;rintro e w2 ⟨v,rfl,v0,v1,s9,p9⟩;have HO2:=Z9 ((uh HO).trans p9);have Hs2:=Z9 s9;clear s9 p9;go_wp2_with fail;go_ret;exact ⟨_,rfl,uh Hs2,uh HO2⟩
 go_wp2_with fail;refine ZP (S:=fun w'=>w'.cell? ⟨w.heap.size,2,none⟩=some (.slice a2 n2 p2)) (by kernel_rfl) (List.cons_ne_nil _ _) (by kernel_rfl) x (fun hHeld=> ?_);simp only [List.dropLast_cons_cons,List.dropLast_singleton,List.length_cons,List.length_nil,Nat.zero_add,Nat.reduceAdd]
 (refine tk 0 rfl (by assumption) ?_;(try simp only [Act.put,sA,sZ,sS]))
 (refine tk 1 rfl (by assumption) ?_;(try simp only [Act.put,sA,sZ,sS]))
 (refine tk 4 rfl (by assumption) ?_;(try simp only [Act.put,sA,sZ,sS]))
 replace kb:=Z9 ((uh kb).below (Below.refl _ _).drew (uh kb).lt);replace HO:=Z9 ((uh HO).trans (Tc (Below.refl _ _).drew));replace Hs:=Z9 (UE (uh Hs));clear x;generalize w1.drew=X0 at *;refine wpAnyH_ready (rs:=[2,5]) (by kernel_rfl) (by simp) ?_;refine AllReadyH.cons rfl (fun K hK=> ?_) (AllReadyH.cons rfl (fun K hK=> ?_) AllReadyH.nil)
 ·
  go_simp;refine hK.out _ _ ((uh kb).cell (i:=2) rfl) (fun hHeld=> ?_);clear hK K
  (try simp only [Act.put,sA,sZ,sS])
  refine wpAnyH_ready (rs:=[3,5]) (by kernel_rfl) (by simp) ?_;refine AllReadyH.cons rfl (fun K hK=> ?_) (AllReadyH.cons rfl (fun K hK=> ?_) AllReadyH.nil)
  ·
   go_simp
   have hlb:X0.heap.size ≠ bc:=by have:=(uh HO).size;omega
   obtain ⟨Wp,hWp,hba,KL⟩:=Zy X0 2 #[.int .i64 (-1),.int .i64 (n2:Int)];replace kb:=bl kb hba;replace HO:=Z9 ((uh HO).trans (Tc hba));replace Hs:=Z9 ((uh Hs).alloc (.cells #[.int .i64 (-1),.int .i64 (n2:Int)] 2));rw [hWp];refine hK.out _ _ ((uh kb).cell (i:=2) rfl) (fun hHeld=> ?_);clear hK K
   (try simp only [Act.put,sA,sZ,sS])
   clear hba
   (try rw [hWp] at Hs);clear hWp
   generalize X0.heap.size=lb at *;refine rd 5 rfl (fun K hK=> ?_);go_simp;refine (Draw.below_any a len cap bc 2 (by omega) (by omega) _ (uh Hs)).mono ?_;rintro e9 w5 ⟨v5,rfl,v50,v51,s9,p9⟩;replace KL:=Z9 ((uh KL).away p9 hlb);replace kb:=Z9 ((uh kb).away p9 (by omega));replace HO:=Z9 ((uh HO).trans p9);replace Hs:=Z9 s9;clear s9 p9;refine hK.out _ _ ((uh kb).cell (i:=2) rfl) (fun hHeld=> ?_);clear hK K
   (try simp only [Act.put,sA,sZ,sS])
   have l0:=(uh KL).cell (i:=0) (v:= .int .i64 (-1)) rfl;have l1:=(uh KL).cell (i:=1) (v:= .int .i64 (n2:Int)) rfl
   rcases (show v5=0\/v5=1 by omega) with rfl | rfl
   ·
    (refine tk 6 rfl (by assumption) ?_;(try simp only [Act.put,sA,sZ,sS]))
    refine rd 7 rfl (fun K hK=> ?_);go_simp;refine hK.out _ _ ((uh kb).cell (i:=2) rfl) (fun hHeld=> ?_);clear hK K
    (try simp only [Act.put,sA,sZ,sS])
    refine wpAnyH_done (by kernel_rfl) ?_ _;refine ZI rfl rfl ?_;go_simp;clear hHeld;go_wp2_with fail;go_ret;exact ⟨_,rfl,uh Hs,uh HO⟩
   ·
    (refine tk 6 rfl (by assumption) ?_;(try simp only [Act.put,sA,sZ,sS]))
    refine rd 7 rfl (fun K hK=> ?_);go_simp;refine hK.out _ _ ((uh kb).cell (i:=2) rfl) (fun hHeld=> ?_);clear hK K
    (try simp only [Act.put,sA,sZ,sS])
    refine wpAnyH_done (by kernel_rfl) ?_ _;refine ZI rfl rfl ?_;go_simp;clear hHeld;go_wp2_with fail;go_ret;exact ⟨_,rfl,uh Hs,uh HO⟩
  ·
   go_simp;refine (Draw.below_any a len cap bc 2 (by omega) (by omega) _ (uh Hs)).mono ?_;rintro e9 w5 ⟨v5,rfl,v50,v51,s9,p9⟩;replace kb:=Z9 ((uh kb).away p9 (by omega));replace HO:=Z9 ((uh HO).trans p9);replace Hs:=Z9 s9;clear s9 p9;refine hK.out _ _ ((uh kb).cell (i:=2) rfl) (fun hHeld=> ?_);clear hK K
   (try simp only [Act.put,sA,sZ,sS])
   refine rd 3 rfl (fun K hK=> ?_);go_simp
   have hlb:w5.heap.size ≠ bc:=by have:=(uh HO).size;omega
   obtain ⟨Wp,hWp,hba,KL⟩:=Zy w5 2 #[.int .i64 (-1),.int .i64 (n2:Int)];replace kb:=bl kb hba;replace HO:=Z9 ((uh HO).trans (Tc hba));replace Hs:=Z9 ((uh Hs).alloc (.cells #[.int .i64 (-1),.int .i64 (n2:Int)] 2));rw [hWp];refine hK.out _ _ ((uh kb).cell (i:=2) rfl) (fun hHeld=> ?_);clear hK K
   (try simp only [Act.put,sA,sZ,sS])
   clear hba
   (try rw [hWp] at Hs);clear hWp
   generalize w5.heap.size=lb at *;have l0:=(uh KL).cell (i:=0) (v:= .int .i64 (-1)) rfl;have l1:=(uh KL).cell (i:=1) (v:= .int .i64 (n2:Int)) rfl
   rcases (show v5=0\/v5=1 by omega) with rfl | rfl
   ·
    (refine tk 6 rfl (by assumption) ?_;(try simp only [Act.put,sA,sZ,sS]))
    refine rd 7 rfl (fun K hK=> ?_);go_simp;refine hK.out _ _ ((uh kb).cell (i:=2) rfl) (fun hHeld=> ?_);clear hK K
    (try simp only [Act.put,sA,sZ,sS])
    refine wpAnyH_done (by kernel_rfl) ?_ _;refine ZI rfl rfl ?_;go_simp;clear hHeld;go_wp2_with fail;go_ret;exact ⟨_,rfl,uh Hs,uh HO⟩
   ·
    (refine tk 6 rfl (by assumption) ?_;(try simp only [Act.put,sA,sZ,sS]))
    refine rd 7 rfl (fun K hK=> ?_);go_simp;refine hK.out _ _ ((uh kb).cell (i:=2) rfl) (fun hHeld=> ?_);clear hK K
    (try simp only [Act.put,sA,sZ,sS])
    refine wpAnyH_done (by kernel_rfl) ?_ _;refine ZI rfl rfl ?_;go_simp;clear hHeld;go_wp2_with fail;go_ret;exact ⟨_,rfl,uh Hs,uh HO⟩
 ·
  go_simp;refine (Draw.below_any a len cap bc 2 (by omega) (by omega) _ (uh Hs)).mono ?_;rintro e9 w5 ⟨v5,rfl,v50,v51,s9,p9⟩;replace kb:=Z9 ((uh kb).away p9 (by omega));replace HO:=Z9 ((uh HO).trans p9);replace Hs:=Z9 s9;clear s9 p9;refine hK.out _ _ ((uh kb).cell (i:=2) rfl) (fun hHeld=> ?_);clear hK K
  (try simp only [Act.put,sA,sZ,sS])
  refine rd 2 rfl (fun K hK=> ?_);go_simp;refine hK.out _ _ ((uh kb).cell (i:=2) rfl) (fun hHeld=> ?_);clear hK K
  (try simp only [Act.put,sA,sZ,sS])
  refine rd 3 rfl (fun K hK=> ?_);go_simp
  have hlb:w5.heap.size ≠ bc:=by have:=(uh HO).size;omega
  obtain ⟨Wp,hWp,hba,KL⟩:=Zy w5 2 #[.int .i64 (-1),.int .i64 (n2:Int)];replace kb:=bl kb hba;replace HO:=Z9 ((uh HO).trans (Tc hba));replace Hs:=Z9 ((uh Hs).alloc (.cells #[.int .i64 (-1),.int .i64 (n2:Int)] 2));rw [hWp];refine hK.out _ _ ((uh kb).cell (i:=2) rfl) (fun hHeld=> ?_);clear hK K
  (try simp only [Act.put,sA,sZ,sS])
  clear hba
  (try rw [hWp] at Hs);clear hWp
  generalize w5.heap.size=lb at *;have l0:=(uh KL).cell (i:=0) (v:= .int .i64 (-1)) rfl;have l1:=(uh KL).cell (i:=1) (v:= .int .i64 (n2:Int)) rfl
  rcases (show v5=0\/v5=1 by omega) with rfl | rfl
  ·
   (refine tk 6 rfl (by assumption) ?_;(try simp only [Act.put,sA,sZ,sS]))
   refine rd 7 rfl (fun K hK=> ?_);go_simp;refine hK.out _ _ ((uh kb).cell (i:=2) rfl) (fun hHeld=> ?_);clear hK K
   (try simp only [Act.put,sA,sZ,sS])
   refine wpAnyH_done (by kernel_rfl) ?_ _;refine ZI rfl rfl ?_;go_simp;clear hHeld;go_wp2_with fail;go_ret;exact ⟨_,rfl,uh Hs,uh HO⟩
  ·
   (refine tk 6 rfl (by assumption) ?_;(try simp only [Act.put,sA,sZ,sS]))
   refine rd 7 rfl (fun K hK=> ?_);go_simp;refine hK.out _ _ ((uh kb).cell (i:=2) rfl) (fun hHeld=> ?_);clear hK K
   (try simp only [Act.put,sA,sZ,sS])
   refine wpAnyH_done (by kernel_rfl) ?_ _;refine ZI rfl rfl ?_;go_simp;clear hHeld;go_wp2_with fail;go_ret;exact ⟨_,rfl,uh Hs,uh HO⟩
set_option maxRecDepth 100000
theorem Et (a:Option Addr) (len cap:Nat) (w:World) (hr:Row w.heap.size w a len) :
  Calls Tryz.prog 46 #[.slice a len cap] w fun e w'=> ∃ M u0 u1 u2 u3 u4 x y rq,e= .returned (.tuple #[.agg #[u0,u1,u2,u3,u4,.int .i64 M.now],.int .i64 x,.int .i64 y])/\FullSmy (w.heap.size+1) w' u0 u1 u2 u3 u4 M rq/\Below w.heap.size w w':=by
 have Hr:=Z9 (Draw.row_later hr ((Below.refl _ _).alloc (Nat.le_refl _) (.cells #[.slice none 0 0,.slice none 0 0,.slice none 0 0,.slice none 0 0,.slice none 0 0,.int .i64 0] 32)));clear hr
 go_enter Tryz.func46,Tryz.ntmps46
 go_wp2_with fail;have kr:Hid (Blk (w.alloc (.cells #[.slice none 0 0,.slice none 0 0,.slice none 0 0,.slice none 0 0,.slice none 0 0,.int .i64 0] 32)) w.heap.size 32 #[.slice none 0 0,.slice none 0 0,.slice none 0 0,.slice none 0 0,.slice none 0 0,.int .i64 0]):=Z9 (Blk.new _ _ _);have BB:Hid (Below w.heap.size w (w.alloc (.cells #[.slice none 0 0,.slice none 0 0,.slice none 0 0,.slice none 0 0,.slice none 0 0,.int .i64 0] 32))):=Z9 ((Below.refl _ _).alloc (Nat.le_refl _) _)
 have hzW:w.heap.size<(w.alloc (.cells #[.slice none 0 0,.slice none 0 0,.slice none 0 0,.slice none 0 0,.slice none 0 0,.int .i64 0] 32)).heap.size:=by simp
 generalize w.alloc (.cells #[.slice none 0 0,.slice none 0 0,.slice none 0 0,.slice none 0 0,.slice none 0 0,.int .i64 0] 32)=W at *;refine (Draw.new_any a len cap _ (uh Hr)).mono ?_;rintro e w1 ⟨rfl,s1,o1⟩;have Hs:=Z9 s1;replace kr:=Z9 ((uh kr).away o1 (by omega));replace BB:=Z9 ((uh BB).trans (o1.below (by omega) (uh BB).size));clear s1 o1 Hr;generalize W.heap.size=cb at *;go_wp2_with fail;refine (PA a len cap cb _ (uh Hs)).mono ?_;rintro e w2 ⟨M,u0,u1,u2,u3,u4,rq,rfl,hm2,hm3,hf,s2,o2⟩;have Hm2:=Z9 hm2;have Hm3:=Z9 hm3;clear hm2 hm3;have hc1:=Xx (uh Hs);have k6:=hf.smy;obtain ⟨b0,q0,b1,q1,b2,q2,b3,q3,b4,q4,rfl,rfl,rfl,rfl,rfl,_,_,_,_,_,_,_,_,_,_⟩:=k6.five;have HF:=Z9 (hf.mono (n₁:=cb+1) (by omega));replace Hs:=Z9 s2;have Hs0:=Hs;replace kr:=Z9 ((uh kr).away o2 (by omega));replace BB:=Z9 ((uh BB).trans (o2.below (by omega) (uh BB).size));clear hf s2 o2 k6
 go_upto_region 3 with fail
 obtain ⟨W2,hW2,hb,km⟩:=Zy w2 32 (S6 b0 q0 b1 q1 b2 q2 b3 q3 b4 q4 M);replace kr:=bl kr hb;replace HF:=Z9 ((uh HF).below hb);replace Hs:=Z9 ((uh Hs).alloc (.cells #[.slice b0 M.rooms.length q0,.slice b1 M.guilds.length q1,.slice b2 M.smiths.length q2,.slice b3 M.desks.length q3,.slice b4 M.paces.length q4,.int .i64 M.now] 32));replace BB:=bt BB hb;have hmb:cb+1<=w2.heap.size:=Xx (uh Hs0);have hown:Hid (∀ k,YC (.slice b0 M.rooms.length q0) (.slice b1 M.guilds.length q1) (.slice b2 M.smiths.length q2) (.slice b3 M.desks.length q3) (.slice b4 M.paces.length q4) rq k->k ≠ w.heap.size/\cb<k):=Z9 (fun k e=>by have:=((uh HF).own e).1;omega);clear hb Hs0;rw [hW2]
 (try rw [hW2] at Hs);clear hW2
 generalize w2.heap.size=mb at *
 have hkl:M.smiths.length<=1000000:=by have:=uh Hm2;omega
 have hkd:M.desks.length<=1000000:=by have:=uh Hm3;omega
 obtain ⟨x0,x1,x2,x3,x4,x5⟩:=(uh km).c6;go_wp2_with fail;refine (Ee a len cap cb _ _ _ _ _ _ _ _ _ _ _ _ _ _ _ _ hkl _ (uh Hs)).mono ?_;rintro e9 w3 ⟨x,rfl,s9,p9⟩;have ho:=p9;replace km:=Z9 ((uh km).away ho (by omega));replace kr:=Z9 ((uh kr).away ho (by omega));replace HF:=Z9 ((uh HF).keep (fun k e=>ho.block k ((uh HF).own e).2 (by have:=(uh hown k e).2;omega)));replace BB:=Z9 ((uh BB).trans (ho.below (by omega) (uh BB).size));replace Hs:=Z9 s9;clear s9 p9 ho x0 x1 x2 x3 x4 x5;obtain ⟨x0,x1,x2,x3,x4,x5⟩:=(uh km).c6;go_wp2_with fail;refine wp_region_held_drew (S:=fun w'=>w'.cell? ⟨mb,0,none⟩=some (.slice b0 M.rooms.length q0)/\w'.cell? ⟨mb,1,none⟩=some (.slice b1 M.guilds.length q1)/\w'.cell? ⟨mb,2,none⟩=some (.slice b2 M.smiths.length q2)/\w'.cell? ⟨mb,3,none⟩=some (.slice b3 M.desks.length q3)/\w'.cell? ⟨mb,4,none⟩=some (.slice b4 M.paces.length q4)/\w'.cell? ⟨mb,5,none⟩=some (.int .i64 M.now)) (by kernel_rfl) ⟨x0,x1,x2,x3,x4,x5⟩ (fun hHeld=> ?_);clear x0 x1 x2 x3 x4 x5
 (refine tk 0 rfl (by assumption) ?_;(try simp only [Act.put,sA,sZ,sS]))
 (refine tk 1 rfl (by assumption) ?_;(try simp only [Act.put,sA,sZ,sS]))
 (refine tk 2 rfl (by assumption) ?_;(try simp only [Act.put,sA,sZ,sS]))
 (refine tk 3 rfl (by assumption) ?_;(try simp only [Act.put,sA,sZ,sS]))
 refine rd 4 rfl (fun K hK=> ?_);go_simp;refine (Ev a len cap cb _ _ _ _ _ _ _ _ _ _ _ _ _ _ _ _ hkd _ (UE (uh Hs))).mono ?_;rintro e9 w5 ⟨y,rfl,s9,p9⟩;have ho:=UO p9;replace km:=Z9 ((uh km).away ho (by omega));replace kr:=Z9 ((uh kr).away ho (by omega));replace HF:=Z9 ((uh HF).keep (fun k e=>ho.block k ((uh HF).own e).2 (by have:=(uh hown k e).2;omega)));replace BB:=Z9 ((uh BB).trans (ho.below (by omega) (uh BB).size));clear s9 p9 ho;refine hK.out _ _ (uh km).c6 (fun hHeld=> ?_);clear hK K
 (try simp only [Act.put,sA,sZ,sS])
 obtain ⟨o0,o1,o2,o3,o4,o5⟩:=(uh kr).c6;obtain ⟨f0,f1,f2,f3,f4,f5⟩:=(uh kr).f6;have kmN:Blk ((((((w5.setCell ⟨w.heap.size,0,none⟩ (.slice b0 M.rooms.length q0)).setCell ⟨w.heap.size,1,none⟩ (.slice b1 M.guilds.length q1)).setCell ⟨w.heap.size,2,none⟩ (.slice b2 M.smiths.length q2)).setCell ⟨w.heap.size,3,none⟩ (.slice b3 M.desks.length q3)).setCell ⟨w.heap.size,4,none⟩ (.slice b4 M.paces.length q4)).setCell ⟨w.heap.size,5,none⟩ (.int .i64 M.now)) mb 32 #[.slice b0 M.rooms.length q0,.slice b1 M.guilds.length q1,.slice b2 M.smiths.length q2,.slice b3 M.desks.length q3,.slice b4 M.paces.length q4,.int .i64 M.now]:=(((((((uh km).other (a:=⟨w.heap.size,0,none⟩) (by show mb ≠ w.heap.size;omega) (.slice b0 M.rooms.length q0)).other (a:=⟨w.heap.size,1,none⟩) (by show mb ≠ w.heap.size;omega) (.slice b1 M.guilds.length q1)).other (a:=⟨w.heap.size,2,none⟩) (by show mb ≠ w.heap.size;omega) (.slice b2 M.smiths.length q2)).other (a:=⟨w.heap.size,3,none⟩) (by show mb ≠ w.heap.size;omega) (.slice b3 M.desks.length q3)).other (a:=⟨w.heap.size,4,none⟩) (by show mb ≠ w.heap.size;omega) (.slice b4 M.paces.length q4)).other (a:=⟨w.heap.size,5,none⟩) (by show mb ≠ w.heap.size;omega) (.int .i64 M.now));refine rd 5 rfl (fun K hK=> ?_);go_simp;refine hK.out _ _ ⟨kmN.cell (i:=0) rfl,kmN.cell (i:=1) rfl,kmN.cell (i:=2) rfl,kmN.cell (i:=3) rfl,kmN.cell (i:=4) rfl,kmN.cell (i:=5) rfl⟩ (fun hHeld=> ?_);clear hK K
 (try simp only [Act.put,sA,sZ,sS])
 refine rd 6 rfl (fun K hK=> ?_);go_simp;refine hK.out _ _ ⟨kmN.cell (i:=0) rfl,kmN.cell (i:=1) rfl,kmN.cell (i:=2) rfl,kmN.cell (i:=3) rfl,kmN.cell (i:=4) rfl,kmN.cell (i:=5) rfl⟩ (fun hHeld=> ?_);clear hK K
 (try simp only [Act.put,sA,sZ,sS])
 refine rd 7 rfl (fun K hK=> ?_);go_simp;refine hK.out _ _ ⟨kmN.cell (i:=0) rfl,kmN.cell (i:=1) rfl,kmN.cell (i:=2) rfl,kmN.cell (i:=3) rfl,kmN.cell (i:=4) rfl,kmN.cell (i:=5) rfl⟩ (fun hHeld=> ?_);clear hK K
 (try simp only [Act.put,sA,sZ,sS])
 clear kmN;refine wpAnyH_done (by kernel_rfl) ?_ _;clear hHeld;go_wp2_with fail;refine bodyPost_ret (v:= .tuple #[.agg #[.slice b0 M.rooms.length q0,.slice b1 M.guilds.length q1,.slice b2 M.smiths.length q2,.slice b3 M.desks.length q3,.slice b4 M.paces.length q4,.int .i64 M.now],.int .i64 x,.int .i64 y]) (by simp [results,Tryz.results46,go_sem, *]) rfl ⟨M,_,_,_,_,_,x,y,rq,rfl,?_,?_⟩
 ·refine FullSmy.mono (n₀:=cb+1) ?_ (by omega)
  iterate 6 (refine FullSmy.set_off ?_ (fun k e=>(uh hown k e).1) _ _)
  exact uh HF
 ·iterate 6 (refine Below.setCell ?_ (by show w.heap.size<=w.heap.size;omega) _)
  exact uh BB
open Draw (Row NO Gr row_later IW FB)
set_option maxRecDepth 100000
theorem Eo {P:Program} {Q:Exit->Act->World->Prop} {id:Nat} {full:List Oper} {a:Act} {w:World} {S:World->Prop} (hm:P.follows .mixedOrders=true) (hne:full ≠ []) (hok:SU .any full.dropLast.toArray (full.getLast hne)=true) (hS:S w.drew)
  (h:∀ X,X=w.drew->S X->wpAnyH P .any full.dropLast.toArray (Ou P full.toArray Q full.dropLast.length) S full.dropLast.length (Array.replicate full.dropLast.length false) a X):(Code.region id full.toArray true).wp P Q a w:=ZP hm hne hok hS (fun hs=>h _ rfl hs)
theorem Dv (a0:Option Addr) (len0 cap0:Nat) (z0:List Int) (w:World) (w0:NO .u8 w a0 len0 cap0 z0) :
  Calls Tryz.prog 7 #[.slice a0 len0 cap0] w fun e w'=>e= .returned (.bool true)/\Below w.heap.size w w':=by
 by_cases hbig:4096<len0
 ·go_enter Tryz.func7,Tryz.ntmps7
  go_wp2_with fail;refine (IW _ _ _ _ hbig).mono ?_;rintro e w' ⟨rfl,rfl⟩;go_wp2_with fail;go_ret;exact ⟨rfl,Below.refl _ _⟩
 have Hr:=Z9 (Gr w0 (by omega));clear w0
 go_enter Tryz.func7,Tryz.ntmps7
 go_wp2_with fail;refine (FB _ _ _ _ (by omega)).mono ?_;rintro e w' ⟨rfl,hw'⟩;subst w';go_wp2_with fail;refine (Et _ _ _ _ (uh Hr)).mono ?_;rintro e w1 ⟨M,u0,u1,u2,u3,u4,who,b,rq,rfl,hf,hb⟩;obtain ⟨a0,p0,a1,p1,a2,p2,a3,p3,a4,p4,rfl,rfl,rfl,rfl,rfl,K1⟩:=Bx.put hf.smy (hb);replace Hr:=Z9 (row_later (uh Hr) hb);clear hb;clear hf
 go_upto_region 4 with fail
 have hb:Below w1.heap.size w1 (w1.alloc (.cells #[.slice a0 M.rooms.length p0,.slice a1 M.guilds.length p1,.slice a2 M.smiths.length p2,.slice a3 M.desks.length p3,.slice a4 M.paces.length p4,.int .i64 M.now] 32)):=(Below.refl _ _).alloc (Nat.le_refl _) _;replace Hr:=Z9 (row_later (uh Hr) hb);clear hb;generalize w1.alloc (.cells #[.slice a0 M.rooms.length p0,.slice a1 M.guilds.length p1,.slice a2 M.smiths.length p2,.slice a3 M.desks.length p3,.slice a4 M.paces.length p4,.int .i64 M.now] 32)=W1 at *;generalize w1.heap.size=mb at *;clear Hr;obtain ⟨c,hc⟩:∃ c,V6 M who b=c:=⟨_,rfl⟩;have Hc:=Z9 hc;clear hc;obtain ⟨c0,c1,c2,c3,c4,c5⟩:=K1.cells;go_wp2_with fail;clear c0 c1 c2 c3 c4 c5;refine (Eu (uh Hc) K1.smy).mono ?_;rintro e w2 ⟨rfl,hb⟩;replace K1:=K1.next hb;clear hb;obtain ⟨c0,c1,c2,c3,c4,c5⟩:=K1.cells;go_wp2_with fail;clear c0 c1 c2 c3 c4 c5;refine (Ew (uh Hc) K1.smy).mono ?_;rintro e w3 ⟨rfl,hb⟩;replace K1:=K1.next hb;clear hb;have hcs:=D9 M who b;rw [uh Hc] at hcs
 rcases hcs with hneg | ⟨hpos,hok,hwh,hop,hcv⟩
 ·subst hneg
  go_wp2_with fail;go_ret;exact ⟨rfl,K1.bb⟩
 obtain ⟨k,rfl,hk,hs⟩:=Xp hwh
 have hbb:0<=b/\b<(M.desks.length:Int)/\(Z8 M.desks b.toNat).1=true:=by unfold V4 WJ at hop;simpa [and_assoc] using hop
 obtain ⟨bn,rfl⟩:=Int.eq_ofNat_of_zero_le hbb.1
 have hbn:bn<M.desks.length:=by omega
 have hop2:(Z8 M.desks bn).1=true:=by simpa using hbb.2.2
 have HV:Hid (NL (XZ (D3 M k bn))=c):=Z9 ((C5 hok hk hs hbn hop2).trans hcv.symm);have hl12:=DK hok
 have hk1:(k:Int)<(M.smiths.length:Int):=by omega
 have hb1:(bn:Int)<(M.desks.length:Int):=by omega
 have hneg:¬ c<0:=by omega
 clear hok hwh hop hcv hbb hop2 hs Hc
 go_upto_region 9 with fail
 go_cut [7] (fun s wc=> ∃ xb g gc,s= .pointer (some ⟨xb,0,none⟩)/\xb ≠ g/\w3.heap.size<=xb/\w3.heap.size<=g/\Blk wc xb 32 #[.slice a0 M.rooms.length p0,.slice a1 M.guilds.length p1,.slice (some ⟨g,0,none⟩) M.smiths.length gc,.slice a3 M.desks.length p3,.slice a4 M.paces.length p4,.int .i64 M.now]/\SmithsAt w3.heap.size wc (.slice (some ⟨g,0,none⟩) M.smiths.length gc) M.smiths/\Below w3.heap.size w3 wc)
 case first=>
  obtain ⟨c0,c1,c2,c3,c4,c5⟩:=K1.cells;go_wp2_with fail;refine Eo (S:=fun w'=>w'.cell? ⟨mb,0,none⟩=some (.slice a0 M.rooms.length p0)/\w'.cell? ⟨mb,1,none⟩=some (.slice a1 M.guilds.length p1)/\w'.cell? ⟨mb,2,none⟩=some (.slice a2 M.smiths.length p2)/\w'.cell? ⟨mb,3,none⟩=some (.slice a3 M.desks.length p3)/\w'.cell? ⟨mb,4,none⟩=some (.slice a4 M.paces.length p4)/\w'.cell? ⟨mb,5,none⟩=some (.int .i64 M.now)) (by kernel_rfl) (List.cons_ne_nil _ _) (by kernel_rfl) ⟨c0,c1,c2,c3,c4,c5⟩ (fun X0 hX0 hHeld=> ?_);simp only [List.dropLast_cons_cons,List.dropLast_singleton,List.length_cons,List.length_nil,Nat.zero_add,Nat.reduceAdd];clear c0 c1 c2 c3 c4 c5
  (refine tk 0 rfl (by assumption) ?_;(try simp only [Act.put,sA,sZ,sS]))
  (refine tk 1 rfl (by assumption) ?_;(try simp only [Act.put,sA,sZ,sS]))
  (refine tk 2 rfl (by assumption) ?_;(try simp only [Act.put,sA,sZ,sS]))
  (refine tk 3 rfl (by assumption) ?_;(try simp only [Act.put,sA,sZ,sS]))
  (refine tk 5 rfl (by assumption) ?_;(try simp only [Act.put,sA,sZ,sS]))
  (refine tk 6 rfl (by assumption) ?_;(try simp only [Act.put,sA,sZ,sS]))
  (refine tk 8 rfl (by assumption) ?_;(try simp only [Act.put,sA,sZ,sS]))
  (refine tk 9 rfl (by assumption) ?_;(try simp only [Act.put,sA,sZ,sS]))
  (refine tk 10 rfl (by assumption) ?_;(try simp only [Act.put,sA,sZ,sS]))
  (refine tk 11 rfl (by assumption) ?_;(try simp only [Act.put,sA,sZ,sS]))
  (refine tk 12 rfl (by assumption) ?_;(try simp only [Act.put,sA,sZ,sS]))
  (refine tk 13 rfl (by assumption) ?_;(try simp only [Act.put,sA,sZ,sS]))
  have hx3:X0.heap.size=w3.heap.size:=by rw [hX0];rfl
  obtain ⟨n0,hn0⟩:∃ n,n=X0.heap.size:=⟨_,rfl⟩
  have hn3:n0=w3.heap.size:=by omega
  have HD:Hid (Below w3.heap.size w3 X0):=Z9 (by rw [hX0];exact (Below.refl _ _).drew)
  have K0:Bx w X0 mb a0 p0 a1 p1 a2 p2 a3 p3 a4 p4 M:=by rw [hX0];exact K1.drew
  have HK:=Z9 (fun (Y:World) (h:Below n0 X0 Y)=>K0.next (X:=Y) (by rw [<-hn0];exact h));have HG:Hid (∀ Y,Below n0 X0 Y->n0<=Y.heap.size):=Z9 (fun Y h=>by have:=h.size;omega);have HB:Hid (Below n0 X0 X0):=Z9 (Below.refl _ _);clear K0 hn0 hX0 hx3;refine wpAnyH_ready (rs:=[4,15]) (by kernel_rfl) (by simp) ?_;refine AllReadyH.cons rfl (fun K hK=> ?_) (AllReadyH.cons rfl (fun K hK=> ?_) AllReadyH.nil)
  ·
   go_simp;have hsz:=uh HG _ (uh HB);have HE:Hid (SmithsAt n0 (X0.alloc (.cells #[] 41)) (.slice (some ⟨X0.heap.size,0,none⟩) 0 0) []):=Z9 (Zb rfl hsz);replace HB:=Z9 ((uh HB).alloc hsz (.cells #[] 41));generalize X0.alloc (.cells #[] 41)=WL at *;generalize X0.heap.size=lb at *;refine hK.out _ _ (uh HK _ (uh HB)).cells (fun hHeld=> ?_);clear hK K
   (try simp only [Act.put,sA,sZ,sS])
   refine wpAnyH_ready (rs:=[7,15]) (by kernel_rfl) (by simp) ?_;refine AllReadyH.cons rfl (fun K hK=> ?_) (AllReadyH.cons rfl (fun K hK=> ?_) AllReadyH.nil)
   ·
    have hsw:=uh HG _ (uh HB);obtain ⟨v9,w9,hrun,hown,hg9,hat⟩:=Xh tyS (w:=WL) (t:=28) (ty:=28) (base:=n0) Tryz.underlying28 (uh HE) (uh HK _ (uh HB)).smy.smiths (by simp only [List.length_nil];omega) hsw;rw [List.nil_append] at hown;refine Xi rfl (.tmp 35) (.tmp 37) 28 rfl rfl rfl hrun ?_;replace HB:=Z9 ((uh HB).grown hg9 hsw (fun i e=>(RecAt.lt (uh HE) e).1));obtain ⟨ga,gc,rfl⟩:=RecAt.shape hown;obtain ⟨g,rfl,hg1,hg2,_,_⟩:=RecAt.view ZW (by omega) hown rfl (by omega);have HP:=Z9 hown;clear hrun hg9 hown;refine hK.out _ _ (uh HK _ (uh HB)).cells (fun hHeld=> ?_);clear hK K
    (try simp only [Act.put,sA,sZ,sS])
    (refine tk 14 rfl (by assumption) ?_;(try simp only [Act.put,sA,sZ,sS]))
    refine rd 15 rfl (fun K hK=> ?_);go_simp;have KX:Hid (Blk (w9.alloc (.cells #[.slice none 0 0,.slice none 0 0,.slice none 0 0,.slice none 0 0,.slice none 0 0,.int .i64 0] 32)) w9.heap.size 32 #[.slice none 0 0,.slice none 0 0,.slice none 0 0,.slice none 0 0,.slice none 0 0,.int .i64 0]):=Z9 (Blk.new _ _ _);have hxb:=uh HG _ (uh HB);have hgl:=RecAt.lt (uh HP) rfl
    have hxg:w9.heap.size ≠ g:=by omega
    replace HP:=Z9 (RecAt.later (uh HP) ((Below.refl _ _).alloc (Nat.le_refl _) (.cells #[.slice none 0 0,.slice none 0 0,.slice none 0 0,.slice none 0 0,.slice none 0 0,.int .i64 0] 32)));replace HB:=Z9 ((uh HB).alloc hxb (.cells #[.slice none 0 0,.slice none 0 0,.slice none 0 0,.slice none 0 0,.slice none 0 0,.int .i64 0] 32));generalize w9.alloc (.cells #[.slice none 0 0,.slice none 0 0,.slice none 0 0,.slice none 0 0,.slice none 0 0,.int .i64 0] 32)=WX at *;generalize w9.heap.size=xb at *;refine hK.out _ _ (uh HK _ (uh HB)).cells (fun hHeld=> ?_);clear hK K
    (try simp only [Act.put,sA,sZ,sS])
    refine wpAnyH_done (by kernel_rfl) ?_ _;refine ZI rfl rfl ?_;obtain ⟨o0,o1,o2,o3,o4,o5⟩:=(uh KX).c6;obtain ⟨t0,t1,t2,t3,t4,t5⟩:=(uh KX).f6;go_simp;clear hHeld;go_wp2_with fail;go_meet;exact ⟨xb,g,gc,rfl,hxg,by omega,by omega,(uh KX).put6 _ _ _ _ _ _,RecAt.off6 _ _ _ _ _ _ (RecAt.mono (uh HP) (by omega)) (fun i e=>by cases e;exact Ne.symm hxg),Below.put6 _ _ _ _ _ _ ((uh HD).trans ((uh HB).mono (by omega))) (by omega)⟩
   ·
    go_simp;have KX:Hid (Blk (WL.alloc (.cells #[.slice none 0 0,.slice none 0 0,.slice none 0 0,.slice none 0 0,.slice none 0 0,.int .i64 0] 32)) WL.heap.size 32 #[.slice none 0 0,.slice none 0 0,.slice none 0 0,.slice none 0 0,.slice none 0 0,.int .i64 0]):=Z9 (Blk.new _ _ _);have hxb:=uh HG _ (uh HB);have hel:n0<=lb/\lb<WL.heap.size:=RecAt.lt (uh HE) rfl;replace HE:=Z9 (RecAt.later (uh HE) ((Below.refl _ _).alloc (Nat.le_refl _) (.cells #[.slice none 0 0,.slice none 0 0,.slice none 0 0,.slice none 0 0,.slice none 0 0,.int .i64 0] 32)));replace HB:=Z9 ((uh HB).alloc hxb (.cells #[.slice none 0 0,.slice none 0 0,.slice none 0 0,.slice none 0 0,.slice none 0 0,.int .i64 0] 32));generalize WL.alloc (.cells #[.slice none 0 0,.slice none 0 0,.slice none 0 0,.slice none 0 0,.slice none 0 0,.int .i64 0] 32)=WX at *;generalize WL.heap.size=xb at *;refine hK.out _ _ (uh HK _ (uh HB)).cells (fun hHeld=> ?_);clear hK K
    (try simp only [Act.put,sA,sZ,sS])
    refine rd 7 rfl (fun K hK=> ?_);have hsw:=uh HG _ (uh HB);obtain ⟨v9,w9,hrun,hown,hg9,hat⟩:=Xh tyS (w:=WX) (t:=28) (ty:=28) (base:=n0) Tryz.underlying28 (uh HE) (uh HK _ (uh HB)).smy.smiths (by simp only [List.length_nil];omega) hsw;rw [List.nil_append] at hown;refine Xi rfl (.tmp 35) (.tmp 37) 28 rfl rfl rfl hrun ?_;replace HB:=Z9 ((uh HB).grown hg9 hsw (fun i e=>(RecAt.lt (uh HE) e).1));have hxl:=(uh KX).lt
    have hxne:xb ≠ lb:=by omega
    replace KX:=Z9 ((uh KX).same (hg9.block _ (uh KX).lt (fun e=>by cases e;exact hxne rfl)))
    have hxg2:∀ i,v9.ownBlock=some i->xb ≠ i:=fun i e=>by
     rcases hat with h | h
     ·rw [h] at e;cases e;exact hxne
     ·rw [h] at e;cases e;omega
    obtain ⟨ga,gc,rfl⟩:=RecAt.shape hown;obtain ⟨g,rfl,hg1,hg2,_,_⟩:=RecAt.view ZW (by omega) hown rfl (by omega);have HP:=Z9 hown;clear hrun hg9 hown;refine hK.out _ _ (uh HK _ (uh HB)).cells (fun hHeld=> ?_);clear hK K
    (try simp only [Act.put,sA,sZ,sS])
    have hxg:xb ≠ g:=hxg2 g rfl;clear hxg2
    (refine tk 14 rfl (by assumption) ?_;(try simp only [Act.put,sA,sZ,sS]))
    refine wpAnyH_done (by kernel_rfl) ?_ _;refine ZI rfl rfl ?_;obtain ⟨o0,o1,o2,o3,o4,o5⟩:=(uh KX).c6;obtain ⟨t0,t1,t2,t3,t4,t5⟩:=(uh KX).f6;go_simp;clear hHeld;go_wp2_with fail;go_meet;exact ⟨xb,g,gc,rfl,hxg,by omega,by omega,(uh KX).put6 _ _ _ _ _ _,RecAt.off6 _ _ _ _ _ _ (RecAt.mono (uh HP) (by omega)) (fun i e=>by cases e;exact Ne.symm hxg),Below.put6 _ _ _ _ _ _ ((uh HD).trans ((uh HB).mono (by omega))) (by omega)⟩
  ·
   go_simp;have KX:Hid (Blk (X0.alloc (.cells #[.slice none 0 0,.slice none 0 0,.slice none 0 0,.slice none 0 0,.slice none 0 0,.int .i64 0] 32)) X0.heap.size 32 #[.slice none 0 0,.slice none 0 0,.slice none 0 0,.slice none 0 0,.slice none 0 0,.int .i64 0]):=Z9 (Blk.new _ _ _);have hxb:=uh HG _ (uh HB);replace HB:=Z9 ((uh HB).alloc hxb (.cells #[.slice none 0 0,.slice none 0 0,.slice none 0 0,.slice none 0 0,.slice none 0 0,.int .i64 0] 32));generalize X0.alloc (.cells #[.slice none 0 0,.slice none 0 0,.slice none 0 0,.slice none 0 0,.slice none 0 0,.int .i64 0] 32)=WX at *;generalize X0.heap.size=xb at *;refine hK.out _ _ (uh HK _ (uh HB)).cells (fun hHeld=> ?_);clear hK K
   (try simp only [Act.put,sA,sZ,sS])
   refine rd 4 rfl (fun K hK=> ?_);go_simp;have hsz:=uh HG _ (uh HB);have HE:Hid (SmithsAt n0 (WX.alloc (.cells #[] 41)) (.slice (some ⟨WX.heap.size,0,none⟩) 0 0) []):=Z9 (Zb rfl hsz);have hxlb:=(uh KX).lt;replace KX:=Z9 ((uh KX).alloc (.cells #[] 41));replace HB:=Z9 ((uh HB).alloc hsz (.cells #[] 41));generalize WX.alloc (.cells #[] 41)=WL at *;generalize WX.heap.size=lb at *;refine hK.out _ _ (uh HK _ (uh HB)).cells (fun hHeld=> ?_);clear hK K
   (try simp only [Act.put,sA,sZ,sS])
   refine rd 7 rfl (fun K hK=> ?_);have hsw:=uh HG _ (uh HB);obtain ⟨v9,w9,hrun,hown,hg9,hat⟩:=Xh tyS (w:=WL) (t:=28) (ty:=28) (base:=n0) Tryz.underlying28 (uh HE) (uh HK _ (uh HB)).smy.smiths (by simp only [List.length_nil];omega) hsw;rw [List.nil_append] at hown;refine Xi rfl (.tmp 35) (.tmp 37) 28 rfl rfl rfl hrun ?_;replace HB:=Z9 ((uh HB).grown hg9 hsw (fun i e=>(RecAt.lt (uh HE) e).1));have hxl:=(uh KX).lt
   have hxne:xb ≠ lb:=by omega
   replace KX:=Z9 ((uh KX).same (hg9.block _ (uh KX).lt (fun e=>by cases e;exact hxne rfl)))
   have hxg2:∀ i,v9.ownBlock=some i->xb ≠ i:=fun i e=>by
    rcases hat with h | h
    ·rw [h] at e;cases e;exact hxne
    ·rw [h] at e;cases e;omega
   obtain ⟨ga,gc,rfl⟩:=RecAt.shape hown;obtain ⟨g,rfl,hg1,hg2,_,_⟩:=RecAt.view ZW (by omega) hown rfl (by omega);have HP:=Z9 hown;clear hrun hg9 hown;refine hK.out _ _ (uh HK _ (uh HB)).cells (fun hHeld=> ?_);clear hK K
   (try simp only [Act.put,sA,sZ,sS])
   have hxg:xb ≠ g:=hxg2 g rfl;clear hxg2
   (refine tk 14 rfl (by assumption) ?_;(try simp only [Act.put,sA,sZ,sS]))
   refine wpAnyH_done (by kernel_rfl) ?_ _;refine ZI rfl rfl ?_;obtain ⟨o0,o1,o2,o3,o4,o5⟩:=(uh KX).c6;obtain ⟨t0,t1,t2,t3,t4,t5⟩:=(uh KX).f6;go_simp;clear hHeld;go_wp2_with fail;go_meet;exact ⟨xb,g,gc,rfl,hxg,by omega,by omega,(uh KX).put6 _ _ _ _ _ _,RecAt.off6 _ _ _ _ _ _ (RecAt.mono (uh HP) (by omega)) (fun i e=>by cases e;exact Ne.symm hxg),Below.put6 _ _ _ _ _ _ ((uh HD).trans ((uh HB).mono (by omega))) (by omega)⟩
 case rest=>
  obtain ⟨xb,g,gc,rfl,hxg,hxl,hgl,kx,hsm,hb⟩:=hcut;obtain ⟨w4,rfl⟩:∃ x,x=wc:=⟨wc,rfl⟩;have K4:=K1.next hb;have KX:=Z9 kx;have HS:=Z9 hsm;obtain ⟨_,hge,_,hg2,hcl,hfr⟩:=RecAt.view ZW (by omega) (uh HS) rfl (by omega);cases hge;have s0:=hcl k hk 0 _ rfl;have s1:=hcl k hk 1 _ rfl;have s3:=hcl k hk 3 _ rfl;have s7:=hcl k hk 7 _ rfl;have f0:=hfr (k*11);have f1:=hfr (k*11+1);have f3:=hfr (k*11+3);have f7:=hfr (k*11+7);simp only [Nat.add_zero] at s0;clear hcl hfr kx hsm;obtain ⟨_,_,hde,_,_,r3⟩:=K1.smy.desks;cases hde
  rcases r3 with e0 | ⟨db,dof,rfl,hbw,hcd⟩
  ·rw [e0] at hbn;simp at hbn
  have hbw4:db<w4.heap.size:=Nat.lt_of_lt_of_le hbw hb.size
  have hdg:db ≠ g:=by omega
  obtain ⟨_,_,hde,_,_,r3⟩:=K4.smy.desks;cases hde
  rcases r3 with e0 | ⟨_,_,he,_,hcd4⟩
  ·rw [e0] at hbn;simp at hbn
  cases he;obtain ⟨d0,d1,d2⟩:=Zk hcd4 hbn;clear hcd hcd4
  have hmg:mb ≠ g:=by have:=K1.blk.lt;omega
  have hgm:g ≠ mb:=Ne.symm hmg;have hgx:g ≠ xb:=Ne.symm hxg;have H0:Hid (SmithsAt w3.heap.size w4 (.slice (some ⟨g,0,none⟩) M.smiths.length gc) (M.smiths.set k (Z8 M.smiths k))):=Z9 (by rw [DH hk];exact uh HS);have H1:=Z9 ((uh H0).put rfl hk (i:=0) (by omega) (.int .i64 2) (2,(Z8 M.smiths k).2) rfl);have H2:=Z9 ((uh H1).put rfl hk (i:=1) (by omega) (.int .i64 (bn:Int)) (2,(bn:Int),(Z8 M.smiths k).2.2) rfl);have H3:=Z9 ((uh H2).put rfl hk (i:=3) (by omega) (.int .i64 255) (2,(bn:Int),(Z8 M.smiths k).2.2.1,255,(Z8 M.smiths k).2.2.2.2) rfl);have H4:=Z9 ((uh H3).put rfl hk (i:=7) (by omega) (.int .i64 (Z8 M.desks bn).2.2) (CY M k bn) rfl);simp only [Nat.add_zero] at H1 H2 H3 H4
  have HB4:Hid (Below w3.heap.size w3 ((((w4.setCell ⟨g,k*11,none⟩ (.int .i64 2)).setCell ⟨g,k*11+1,none⟩ (.int .i64 (bn:Int))).setCell ⟨g,k*11+3,none⟩ (.int .i64 255)).setCell ⟨g,k*11+7,none⟩ (.int .i64 (Z8 M.desks bn).2.2))):=Z9 (by
   iterate 4 (refine Below.setCell ?_ hgl _)
   exact hb)
  have KY:Hid (Blk ((((w4.setCell ⟨g,k*11,none⟩ (.int .i64 2)).setCell ⟨g,k*11+1,none⟩ (.int .i64 (bn:Int))).setCell ⟨g,k*11+3,none⟩ (.int .i64 255)).setCell ⟨g,k*11+7,none⟩ (.int .i64 (Z8 M.desks bn).2.2)) xb 32 #[.slice a0 M.rooms.length p0,.slice a1 M.guilds.length p1,.slice (some ⟨g,0,none⟩) M.smiths.length gc,.slice (some ⟨db,dof,none⟩) M.desks.length p3,.slice a4 M.paces.length p4,.int .i64 M.now]):=Z9 ((((uh KX).other (a:=⟨g,k*11,none⟩) hxg _).other (a:=⟨g,k*11+1,none⟩) hxg _).other (a:=⟨g,k*11+3,none⟩) hxg _ |>.other (a:=⟨g,k*11+7,none⟩) hxg _);have HM:=Z9 (K1.smy.other (uh HB4) (uh H4));clear H0 H1 H2 H3 H4 hb HS;generalize hmk:(Z8 M.desks bn).2.2=mk at *;clear hmk;have c3:=K4.blk.cell (i:=3) (v:= .slice (some ⟨db,dof,none⟩) M.desks.length p3) rfl;have x2:=(uh KX).cell (i:=2) (v:= .slice (some ⟨g,0,none⟩) M.smiths.length gc) rfl
  go_upto_region 15 with fail
  generalize (((w4.setCell ⟨g,k*11,none⟩ (.int .i64 2)).setCell ⟨g,k*11+1,none⟩ (.int .i64 (bn:Int))).setCell ⟨g,k*11+3,none⟩ (.int .i64 255)).setCell ⟨g,k*11+7,none⟩ (.int .i64 mk)=W5 at *;clear s0 s1 s3 s7 f0 f1 f3 f7 d0 d1 d2 c3 x2 KX K4;obtain ⟨y0,y1,y2,y3,y4,y5⟩:=(uh KY).c6;go_wp2_with fail;refine (Qc _ _ _ _ _ _ (D3 M k bn) (uh HM)).mono ?_;rintro e w6 ⟨z0,z1,z2,z3,z4,rs,rfl,hf,hb⟩;replace HB4:=Z9 ((uh HB4).trans (hb.mono (uh HB4).size));obtain ⟨d0,t0,d1,t1,d2,t2,d3,t3,d4,t4,rfl,rfl,rfl,rfl,rfl,_⟩:=hf.smy.five;have HT:=Z9 hf.smy;clear hf hb y0 y1 y2 y3 y4 y5 KY HM;generalize XZ (D3 M k bn)=TM at *;go_wp2_with fail;refine (Eg (uh HV) (uh HT)).mono ?_;rintro e w7 ⟨rfl,hb⟩;replace HB4:=Z9 ((uh HB4).trans (hb.mono (uh HB4).size));clear hb;go_wp2_with fail;go_ret;exact ⟨by simp,K1.bb.trans ((uh HB4).mono K1.bb.size)⟩
end Go.Proofs.YtnponpamjddpjaaGreat
