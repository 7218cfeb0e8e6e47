/- Part 27 of what the proof rests on. No condition but those that a theorem names. -/
import Derived.Test.YtjhijildaceadaaGreatDoorXa26
set_option maxHeartbeats 8000000
set_option maxRecDepth 100000
namespace Go.Proofs.YtjhijildaceadaaGreatDoor
open Go.ChangeShapes Go.WideShapes Go.ChangeAt Go.RowKit Go.Sort Go.Shelf
set_option linter.unusedVariables false
set_option linter.unusedSimpArgs false
set_option maxRecDepth 100000
variable {w w' w0 w1 w2 w3 w₀ wr W W' X A B C : World} {v v0 v1 v2 v3 v4 u u0 u1 u2 u3 u4 : Value} {m : Z4}
theorem Td {F:Nat->TypeId->Array Value->Prop} {R:Nat} {a0 a1 a3 a4:Option Addr} {p0 p1 p2 p3 p4:Nat} {qs:List (Z3 × Value)} {q:Int->Addr} {g2 k:Nat} (K:Ny F w W R (.slice a0 m.rooms.length p0) (.slice a1 m.guilds.length p1) (.slice (some ⟨g2,0,none⟩) m.smiths.length p2) (.slice a3 m.desks.length p3) (.slice a4 m.paces.length p4) m qs) (he:Errs w q) (hq:V7 m (k:Int)=true) (hk:k<m.smiths.length):Calls Tryz.prog 141 #[.pointer (some ⟨R,0,none⟩),.int .i64 (k:Int)] W fun e W'=>e= .returned (.pointer (some ⟨g2,k*11,none⟩))/\Ny F w W' R (.slice a0 m.rooms.length p0) (.slice a1 m.guilds.length p1) (.slice (some ⟨g2,0,none⟩) m.smiths.length p2) (.slice a3 m.desks.length p3) (.slice a4 m.paces.length p4) m qs:=by
 have hk1:(k:Int)<(m.smiths.length:Int):=by omega
 have HE:=Z9 he
 have Hq:=Z9 hq
 clear he hq
 obtain ⟨c0,c1,c2,c3,c4,c5⟩:=K.cells
 have x1:=((uh HE).below K.bb).c1
 go_enter Tryz.func141,Tryz.ntmps141
 go_wp2_with fail
 refine ZU (S:=fun w'=>w'.cell? ⟨R,0,none⟩=some (.slice a0 m.rooms.length p0)/\w'.cell? ⟨R,1,none⟩=some (.slice a1 m.guilds.length p1)/\w'.cell? ⟨R,2,none⟩=some (.slice (some ⟨g2,0,none⟩) m.smiths.length p2)/\w'.cell? ⟨R,3,none⟩=some (.slice a3 m.desks.length p3)/\w'.cell? ⟨R,4,none⟩=some (.slice a4 m.paces.length p4)/\w'.cell? ⟨R,5,none⟩=some (.int .i64 m.now)/\w'.cell? ⟨4,0,none⟩=some (Zv (q 1))) (by kernel_rfl) (List.cons_ne_nil _ _) (by kernel_rfl) ⟨c0,c1,c2,c3,c4,c5,x1⟩ (fun hHeld=> ?_)
 simp only [List.dropLast_cons_cons,List.dropLast_singleton,List.length_cons,List.length_nil,Nat.zero_add,Nat.reduceAdd]
 replace K:=K.next ((Below.refl _ _).drew:Below W.heap.size W W.drew)
 clear c0 c1 c2 c3 c4 c5 x1
 generalize W.drew=W5 at *
 obtain ⟨c0,c1,c2,c3,c4,c5⟩:=K.cells
 have x1:=((uh HE).below K.bb).c1
 (refine tk 0 rfl (by assumption) ?_;(try simp only [Act.put,sA,sZ,sS]))
 (refine tk 1 rfl (by assumption) ?_;(try simp only [Act.put,sA,sZ,sS]))
 (refine tk 2 rfl (by assumption) ?_;(try simp only [Act.put,sA,sZ,sS]))
 (refine tk 3 rfl (by assumption) ?_;(try simp only [Act.put,sA,sZ,sS]))
 (refine tk 5 rfl (by assumption) ?_;(try simp only [Act.put,sA,sZ,sS]))
 refine wpAnyH_ready (rs:=[4]) (by kernel_rfl) (by simp) ?_
 refine AllReadyH.cons rfl (fun K0 hK=> ?_) AllReadyH.nil
 go_simp
 refine (Pz (uh Hq) K.full.smy).mono ?_
 rintro e9 w9 ⟨rfl,hb⟩
 replace K:=K.next hb
 clear hb
 clear c0 c1 c2 c3 c4 c5 x1
 obtain ⟨c0,c1,c2,c3,c4,c5⟩:=K.cells
 have x1:=((uh HE).below K.bb).c1
 refine hK.out _ _ ⟨c0,c1,c2,c3,c4,c5,x1⟩ (fun hHeld=> ?_)
 clear hK K0
 (try simp only [Act.put,sA,sZ,sS])
 refine wpAnyH_done (by kernel_rfl) ?_ _
 refine ZF rfl rfl ?_
 go_simp
 clear hHeld
 refine (XA _ _).mono ?_
 rintro e8 w8 ⟨rfl,h8⟩
 subst w8
 go_wp2_with fail
 go_ret
 exact ⟨rfl,K⟩
theorem RN {F:Nat->TypeId->Array Value->Prop} {R:Nat} {a0 a1 a2 a3 a4:Option Addr} {p0 p1 p2 p3 p4:Nat} {qs:List (Z3 × Value)} {q:Int->Addr} {who:Int} (K:Ny F w W R (.slice a0 m.rooms.length p0) (.slice a1 m.guilds.length p1) (.slice a2 m.smiths.length p2) (.slice a3 m.desks.length p3) (.slice a4 m.paces.length p4) m qs) (he:Errs w q) (hq:V7 m who=false):Calls Tryz.prog 141 #[.pointer (some ⟨R,0,none⟩),.int .i64 who] W fun e W'=>e= .panicked [{ v:=Zv (q 1),recovered:=false }]/\Below w.heap.size w W'/\(∀ k t cs,F k t cs->Blk W' k t cs):=by
 have HE:=Z9 he
 have Hq:=Z9 hq
 clear he hq
 obtain ⟨c0,c1,c2,c3,c4,c5⟩:=K.cells
 have x1:=((uh HE).below K.bb).c1
 go_enter Tryz.func141,Tryz.ntmps141
 go_wp2_with fail
 refine ZU (S:=fun w'=>w'.cell? ⟨R,0,none⟩=some (.slice a0 m.rooms.length p0)/\w'.cell? ⟨R,1,none⟩=some (.slice a1 m.guilds.length p1)/\w'.cell? ⟨R,2,none⟩=some (.slice a2 m.smiths.length p2)/\w'.cell? ⟨R,3,none⟩=some (.slice a3 m.desks.length p3)/\w'.cell? ⟨R,4,none⟩=some (.slice a4 m.paces.length p4)/\w'.cell? ⟨R,5,none⟩=some (.int .i64 m.now)/\w'.cell? ⟨4,0,none⟩=some (Zv (q 1))) (by kernel_rfl) (List.cons_ne_nil _ _) (by kernel_rfl) ⟨c0,c1,c2,c3,c4,c5,x1⟩ (fun hHeld=> ?_)
 simp only [List.dropLast_cons_cons,List.dropLast_singleton,List.length_cons,List.length_nil,Nat.zero_add,Nat.reduceAdd]
 replace K:=K.next ((Below.refl _ _).drew:Below W.heap.size W W.drew)
 clear c0 c1 c2 c3 c4 c5 x1
 generalize W.drew=W5 at *
 obtain ⟨c0,c1,c2,c3,c4,c5⟩:=K.cells
 have x1:=((uh HE).below K.bb).c1
 (refine tk 0 rfl (by assumption) ?_;(try simp only [Act.put,sA,sZ,sS]))
 (refine tk 1 rfl (by assumption) ?_;(try simp only [Act.put,sA,sZ,sS]))
 (refine tk 2 rfl (by assumption) ?_;(try simp only [Act.put,sA,sZ,sS]))
 (refine tk 3 rfl (by assumption) ?_;(try simp only [Act.put,sA,sZ,sS]))
 (refine tk 5 rfl (by assumption) ?_;(try simp only [Act.put,sA,sZ,sS]))
 refine wpAnyH_ready (rs:=[4]) (by kernel_rfl) (by simp) ?_
 refine AllReadyH.cons rfl (fun K0 hK=> ?_) AllReadyH.nil
 go_simp
 refine (Pz (uh Hq) K.full.smy).mono ?_
 rintro e9 w9 ⟨rfl,hb⟩
 replace K:=K.next hb
 clear hb
 clear c0 c1 c2 c3 c4 c5 x1
 obtain ⟨c0,c1,c2,c3,c4,c5⟩:=K.cells
 have x1:=((uh HE).below K.bb).c1
 refine hK.out _ _ ⟨c0,c1,c2,c3,c4,c5,x1⟩ (fun hHeld=> ?_)
 clear hK K0
 (try simp only [Act.put,sA,sZ,sS])
 refine wpAnyH_done (by kernel_rfl) ?_ _
 refine ZF rfl rfl ?_
 go_simp
 clear hHeld
 refine (WZ (q 1) _).mono ?_
 rintro e8 w8 ⟨rfl,h8⟩
 subst w8
 go_wp2_with fail
 exact ⟨rfl,rfl,K.bb,K.fb⟩
theorem Nm {F:Nat->TypeId->Array Value->Prop} {R:Nat} {a0 a1 a2 a4:Option Addr} {p0 p1 p2 p3 p4:Nat} {qs:List (Z3 × Value)} {q:Int->Addr} {g3 k:Nat} (K:Ny F w W R (.slice a0 m.rooms.length p0) (.slice a1 m.guilds.length p1) (.slice a2 m.smiths.length p2) (.slice (some ⟨g3,0,none⟩) m.desks.length p3) (.slice a4 m.paces.length p4) m qs) (he:Errs w q) (hk:k<m.desks.length):Calls Tryz.prog 174 #[.pointer (some ⟨R,0,none⟩),.int .i64 (k:Int)] W fun e W'=>e= .returned (.pointer (some ⟨g3,k*3,none⟩))/\Ny F w W' R (.slice a0 m.rooms.length p0) (.slice a1 m.guilds.length p1) (.slice a2 m.smiths.length p2) (.slice (some ⟨g3,0,none⟩) m.desks.length p3) (.slice a4 m.paces.length p4) m qs:=by
 have hk1:(k:Int)<(m.desks.length:Int):=by omega
 have hq:Yb m.desks.length (k:Int)=true:=by unfold Yb;simp;omega
 have HE:=Z9 he
 have Hq:=Z9 hq
 clear he hq
 obtain ⟨c0,c1,c2,c3,c4,c5⟩:=K.cells
 have x1:=((uh HE).below K.bb).c1
 go_enter Tryz.func174,Tryz.ntmps174
 go_wp2_with fail
 refine ZU (S:=fun w'=>w'.cell? ⟨R,0,none⟩=some (.slice a0 m.rooms.length p0)/\w'.cell? ⟨R,1,none⟩=some (.slice a1 m.guilds.length p1)/\w'.cell? ⟨R,2,none⟩=some (.slice a2 m.smiths.length p2)/\w'.cell? ⟨R,3,none⟩=some (.slice (some ⟨g3,0,none⟩) m.desks.length p3)/\w'.cell? ⟨R,4,none⟩=some (.slice a4 m.paces.length p4)/\w'.cell? ⟨R,5,none⟩=some (.int .i64 m.now)/\w'.cell? ⟨4,0,none⟩=some (Zv (q 1))) (by kernel_rfl) (List.cons_ne_nil _ _) (by kernel_rfl) ⟨c0,c1,c2,c3,c4,c5,x1⟩ (fun hHeld=> ?_)
 simp only [List.dropLast_cons_cons,List.dropLast_singleton,List.length_cons,List.length_nil,Nat.zero_add,Nat.reduceAdd]
 replace K:=K.next ((Below.refl _ _).drew:Below W.heap.size W W.drew)
 clear c0 c1 c2 c3 c4 c5 x1
 generalize W.drew=W5 at *
 obtain ⟨c0,c1,c2,c3,c4,c5⟩:=K.cells
 have x1:=((uh HE).below K.bb).c1
 (refine tk 0 rfl (by assumption) ?_;(try simp only [Act.put,sA,sZ,sS]))
 (refine tk 1 rfl (by assumption) ?_;(try simp only [Act.put,sA,sZ,sS]))
 (refine tk 2 rfl (by assumption) ?_;(try simp only [Act.put,sA,sZ,sS]))
 (refine tk 4 rfl (by assumption) ?_;(try simp only [Act.put,sA,sZ,sS]))
 (refine tk 6 rfl (by assumption) ?_;(try simp only [Act.put,sA,sZ,sS]))
 refine wpAnyH_ready (rs:=[3]) (by kernel_rfl) (by simp) ?_
 refine AllReadyH.cons rfl (fun K0 hK=> ?_) AllReadyH.nil
 go_simp
 refine (Vx _ _ _ _ _ _ _ _ _ _ _ _ _ _ _ _ _).mono ?_
 rintro e9 w9 ⟨rfl,hb⟩
 replace K:=K.next hb
 clear hb
 clear c0 c1 c2 c3 c4 c5 x1
 obtain ⟨c0,c1,c2,c3,c4,c5⟩:=K.cells
 have x1:=((uh HE).below K.bb).c1
 refine hK.out _ _ ⟨c0,c1,c2,c3,c4,c5,x1⟩ (fun hHeld=> ?_)
 clear hK K0
 (try simp only [Act.put,sA,sZ,sS])
 refine wpAnyH_ready (rs:=[5]) (by kernel_rfl) (by simp) ?_
 refine AllReadyH.cons rfl (fun K0 hK=> ?_) AllReadyH.nil
 go_simp
 refine (Calls.bool_of (Calls.same_below' (Vz _ _ _ _ _)) (uh Hq)).mono ?_
 rintro e9 w9 ⟨rfl,hb⟩
 replace K:=K.next hb
 clear hb
 clear c0 c1 c2 c3 c4 c5 x1
 obtain ⟨c0,c1,c2,c3,c4,c5⟩:=K.cells
 have x1:=((uh HE).below K.bb).c1
 refine hK.out _ _ ⟨c0,c1,c2,c3,c4,c5,x1⟩ (fun hHeld=> ?_)
 clear hK K0
 (try simp only [Act.put,sA,sZ,sS])
 refine wpAnyH_done (by kernel_rfl) ?_ _
 refine ZF rfl rfl ?_
 go_simp
 clear hHeld
 refine (XA _ _).mono ?_
 rintro e8 w8 ⟨rfl,h8⟩
 subst w8
 go_wp2_with fail
 go_ret
 exact ⟨rfl,K⟩
theorem LN {F:Nat->TypeId->Array Value->Prop} {R:Nat} {a0 a1 a2 a3 a4:Option Addr} {p0 p1 p2 p3 p4:Nat} {qs:List (Z3 × Value)} {q:Int->Addr} {who:Int} (K:Ny F w W R (.slice a0 m.rooms.length p0) (.slice a1 m.guilds.length p1) (.slice a2 m.smiths.length p2) (.slice a3 m.desks.length p3) (.slice a4 m.paces.length p4) m qs) (he:Errs w q) (hq:Yb m.desks.length who=false):Calls Tryz.prog 174 #[.pointer (some ⟨R,0,none⟩),.int .i64 who] W fun e W'=>e= .panicked [{ v:=Zv (q 1),recovered:=false }]/\Below w.heap.size w W'/\(∀ k t cs,F k t cs->Blk W' k t cs):=by
 have HE:=Z9 he
 have Hq:=Z9 hq
 clear he hq
 obtain ⟨c0,c1,c2,c3,c4,c5⟩:=K.cells
 have x1:=((uh HE).below K.bb).c1
 go_enter Tryz.func174,Tryz.ntmps174
 go_wp2_with fail
 refine ZU (S:=fun w'=>w'.cell? ⟨R,0,none⟩=some (.slice a0 m.rooms.length p0)/\w'.cell? ⟨R,1,none⟩=some (.slice a1 m.guilds.length p1)/\w'.cell? ⟨R,2,none⟩=some (.slice a2 m.smiths.length p2)/\w'.cell? ⟨R,3,none⟩=some (.slice a3 m.desks.length p3)/\w'.cell? ⟨R,4,none⟩=some (.slice a4 m.paces.length p4)/\w'.cell? ⟨R,5,none⟩=some (.int .i64 m.now)/\w'.cell? ⟨4,0,none⟩=some (Zv (q 1))) (by kernel_rfl) (List.cons_ne_nil _ _) (by kernel_rfl) ⟨c0,c1,c2,c3,c4,c5,x1⟩ (fun hHeld=> ?_)
 simp only [List.dropLast_cons_cons,List.dropLast_singleton,List.length_cons,List.length_nil,Nat.zero_add,Nat.reduceAdd]
 replace K:=K.next ((Below.refl _ _).drew:Below W.heap.size W W.drew)
 clear c0 c1 c2 c3 c4 c5 x1
 generalize W.drew=W5 at *
 obtain ⟨c0,c1,c2,c3,c4,c5⟩:=K.cells
 have x1:=((uh HE).below K.bb).c1
 (refine tk 0 rfl (by assumption) ?_;(try simp only [Act.put,sA,sZ,sS]))
 (refine tk 1 rfl (by assumption) ?_;(try simp only [Act.put,sA,sZ,sS]))
 (refine tk 2 rfl (by assumption) ?_;(try simp only [Act.put,sA,sZ,sS]))
 (refine tk 4 rfl (by assumption) ?_;(try simp only [Act.put,sA,sZ,sS]))
 (refine tk 6 rfl (by assumption) ?_;(try simp only [Act.put,sA,sZ,sS]))
 refine wpAnyH_ready (rs:=[3]) (by kernel_rfl) (by simp) ?_
 refine AllReadyH.cons rfl (fun K0 hK=> ?_) AllReadyH.nil
 go_simp
 refine (Vx _ _ _ _ _ _ _ _ _ _ _ _ _ _ _ _ _).mono ?_
 rintro e9 w9 ⟨rfl,hb⟩
 replace K:=K.next hb
 clear hb
 clear c0 c1 c2 c3 c4 c5 x1
 obtain ⟨c0,c1,c2,c3,c4,c5⟩:=K.cells
 have x1:=((uh HE).below K.bb).c1
 refine hK.out _ _ ⟨c0,c1,c2,c3,c4,c5,x1⟩ (fun hHeld=> ?_)
 clear hK K0
 (try simp only [Act.put,sA,sZ,sS])
 refine wpAnyH_ready (rs:=[5]) (by kernel_rfl) (by simp) ?_
 refine AllReadyH.cons rfl (fun K0 hK=> ?_) AllReadyH.nil
 go_simp
 refine (Calls.bool_of (Calls.same_below' (Vz _ _ _ _ _)) (uh Hq)).mono ?_
 rintro e9 w9 ⟨rfl,hb⟩
 replace K:=K.next hb
 clear hb
 clear c0 c1 c2 c3 c4 c5 x1
 obtain ⟨c0,c1,c2,c3,c4,c5⟩:=K.cells
 have x1:=((uh HE).below K.bb).c1
 refine hK.out _ _ ⟨c0,c1,c2,c3,c4,c5,x1⟩ (fun hHeld=> ?_)
 clear hK K0
 (try simp only [Act.put,sA,sZ,sS])
 refine wpAnyH_done (by kernel_rfl) ?_ _
 refine ZF rfl rfl ?_
 go_simp
 clear hHeld
 refine (WZ (q 1) _).mono ?_
 rintro e8 w8 ⟨rfl,h8⟩
 subst w8
 go_wp2_with fail
 exact ⟨rfl,rfl,K.bb,K.fb⟩
theorem Gt {F:Nat->TypeId->Array Value->Prop} {R:Nat}  {qs:List (Z3 × Value)} {q:Int->Addr} (K:Ny F w W R v0 v1 v2 v3 v4 m qs) (he:Errs w q) (hm:Zo m=true) (who low high:Int):Calls Tryz.prog 68 #[.pointer (some ⟨R,0,none⟩),.int .i64 who,.int .i64 low,.int .i64 high] W fun e W'=>PChg F w R q (Pf m who low high) (Uk m who low high) e W':=by
 obtain ⟨a0,p0,a1,p1,a2,p2,a3,p3,a4,p4,rfl,rfl,rfl,rfl,rfl⟩:=YQ K.full
 have HE:=Z9 he
 have HM:=Z9 hm
 clear he hm
 obtain ⟨wq,hwq⟩:∃ b,V7 m who=b:=⟨_,rfl⟩
 have Hwq:=Z9 hwq
 clear hwq
 cases wq
 ·have hc0:Uk m who low high=1:=by unfold Uk;rw [uh Hwq];rfl
  go_enter Tryz.func68,Tryz.ntmps68
  go_wp2_with fail
  refine (RN K (uh HE) (uh Hwq)).mono ?_
  rintro e w1 ⟨rfl,hb,hF⟩
  go_wp2_with fail
  exact ⟨rfl,PChg.no hb hF hc0 (by omega)⟩
 obtain ⟨k,rfl,hk,hs⟩:=WI (uh Hwq)
 have hk1:(k:Int)<(m.smiths.length:Int):=by omega
 obtain ⟨g2,hga,_,_,_,_⟩:=RecAt.view Z1 (by omega) K.full.smiths rfl (by omega)
 cases hga
 go_enter Tryz.func68,Tryz.ntmps68
 go_wp2_with fail
 refine (Td K (uh HE) (uh Hwq) hk).mono ?_
 rintro e w1 ⟨rfl,K1⟩
 clear K
 have K:=K1
 clear K1
 obtain ⟨pq,hpq⟩:∃ b,YU low high=b:=⟨_,rfl⟩
 have Hpq:=Z9 hpq
 clear hpq
 have x1:=((uh HE).below K.bb).c3
 go_wp2_with fail
 refine ZU (S:=fun w'=>w'.cell? ⟨0,0,none⟩=some (Zv (q 3))) (by kernel_rfl) (List.cons_ne_nil _ _) (by kernel_rfl) x1 (fun hHeld=> ?_)
 simp only [List.dropLast_cons_cons,List.dropLast_singleton,List.length_cons,List.length_nil,Nat.zero_add,Nat.reduceAdd]
 replace K:=K.next ((Below.refl _ _).drew:Below w1.heap.size w1 w1.drew)
 clear x1
 generalize w1.drew=W5 at *
 have x1:=((uh HE).below K.bb).c3
 (refine tk 0 rfl (by assumption) ?_;(try simp only [Act.put,sA,sZ,sS]))
 (refine tk 1 rfl (by assumption) ?_;(try simp only [Act.put,sA,sZ,sS]))
 (refine tk 3 rfl (by assumption) ?_;(try simp only [Act.put,sA,sZ,sS]))
 refine wpAnyH_ready (rs:=[2]) (by kernel_rfl) (by simp) ?_
 refine AllReadyH.cons rfl (fun K0 hK=> ?_) AllReadyH.nil
 go_simp
 refine (Calls.bool_of (Calls.same_below' (VK low high _)) (uh Hpq)).mono ?_
 rintro e9 w9 ⟨rfl,hb⟩
 replace K:=K.next hb
 clear hb
 clear x1
 have x1:=((uh HE).below K.bb).c3
 refine hK.out _ _ x1 (fun hHeld=> ?_)
 clear hK K0
 (try simp only [Act.put,sA,sZ,sS])
 refine wpAnyH_done (by kernel_rfl) ?_ _
 refine ZF rfl rfl ?_
 go_simp
 clear hHeld
 cases pq
 ·have hc0:Uk m (k:Int) low high=3:=by unfold Uk;rw [uh Hwq,uh Hpq];rfl
  refine (WZ (q 3) _).mono ?_
  rintro e8 w8 ⟨rfl,h8⟩
  subst w8
  go_wp2_with fail
  exact ⟨rfl,PChg.no K.bb K.fb hc0 (by omega)⟩
 refine (XA _ _).mono ?_
 rintro e8 w8 ⟨rfl,h8⟩
 subst w8
 have hc0:Uk m (k:Int) low high=0:=by unfold Uk;rw [uh Hwq,uh Hpq];rfl
 obtain ⟨⟨st,be,rk,my,gu,lo,hi,hd,ca,ut,wk⟩,hrk⟩:∃ d,Z8 m.smiths k=d:=⟨_,rfl⟩
 have hl:∀ x:Z2,k<(setS m k x).smiths.length:=fun x=>by unfold setS;simpa using hk
 have hlen:∀ x:Z2,m.smiths.length=(setS m k x).smiths.length:=fun x=>by unfold setS;simp
 have hat:∀ x:Z2,Z8 (setS m k x).smiths k=x:=fun x=>by unfold setS;rw [ZV hk,if_pos rfl]
 obtain ⟨_,hga,_,_,hc,hz⟩:=RecAt.view Z1 (by omega) K.full.smiths rfl (by omega)
 cases hga
 have s5:=hc k hk 5 _ rfl
 have f5:=hz (k*11+5)
 have K1:=K.putS rfl hk (i:=5) (by omega) (.int .i64 low) (st,be,rk,my,gu,low,hi,hd,ca,ut,wk) (by rw [hrk];rfl)
 obtain ⟨_,hga,_,_,hc1,hz1⟩:=RecAt.view Z1 (by omega) K1.full.smiths (hlen _) (by have:=hl (st,be,rk,my,gu,low,hi,hd,ca,ut,wk);omega)
 cases hga
 have s6:=hc1 k (hl _) 6 _ rfl
 have f6:=hz1 (k*11+6)
 have K2:=K1.putS (hlen _) (hl _) (i:=6) (by omega) (.int .i64 high) (st,be,rk,my,gu,low,high,hd,ca,ut,wk) (by rw [hat];rfl)
 rw [Qt] at K2
 have hx0:Pf m (k:Int) low high=setS m k (st,be,rk,my,gu,low,high,hd,ca,ut,wk):=by unfold Pf;rw [Int.toNat_natCast,hrk];rfl
 have HK:=Z9 K2
 clear K1 K2 hc hz hc1 hz1 hat hl hlen hrk x1
 go_wp2_with fail
 go_end0
 exact PChg.yes (uh HK) hc0 hx0
theorem EC {F:Nat->TypeId->Array Value->Prop} {R:Nat}  {qs:List (Z3 × Value)} {q:Int->Addr} (K:Ny F w W R v0 v1 v2 v3 v4 m qs) (he:Errs w q) (hm:Zo m=true) (who:Int):Calls Tryz.prog 90 #[.pointer (some ⟨R,0,none⟩),.int .i64 who] W fun e W'=>PChg F w R q (Ts m who) (Ww m who) e W':=by
 obtain ⟨a0,p0,a1,p1,a2,p2,a3,p3,a4,p4,rfl,rfl,rfl,rfl,rfl⟩:=YQ K.full
 have HE:=Z9 he
 have HM:=Z9 hm
 clear he hm
 obtain ⟨wq,hwq⟩:∃ b,Yp m who=b:=⟨_,rfl⟩
 have Hwq:=Z9 hwq
 clear hwq
 cases wq
 ·have hc0:Ww m who=1:=by unfold Ww;rw [uh Hwq];rfl
  go_enter Tryz.func90,Tryz.ntmps90
  go_wp2_with fail
  refine (LN K (uh HE) ((LR m who).trans (uh Hwq))).mono ?_
  rintro e w1 ⟨rfl,hb,hF⟩
  go_wp2_with fail
  exact ⟨rfl,PChg.no hb hF hc0 (by omega)⟩
 obtain ⟨k,rfl,hk⟩:=Uc (uh Hwq)
 have hk1:(k:Int)<(m.desks.length:Int):=by omega
 obtain ⟨g3,hga,_,_,_,_⟩:=RecAt.view ZT (by omega) K.full.desks rfl (by omega)
 cases hga
 go_enter Tryz.func90,Tryz.ntmps90
 go_wp2_with fail
 refine (Nm K (uh HE) hk).mono ?_
 rintro e w1 ⟨rfl,K1⟩
 clear K
 have K:=K1
 clear K1
 obtain ⟨op,hop⟩:∃ d,(Z8 m.desks k).1=d:=⟨_,rfl⟩
 obtain ⟨_,hga,_,_,hc,hz⟩:=RecAt.view ZT (by omega) K.full.desks rfl (by omega)
 cases hga
 have s0:=hc k hk 0 (.bool op) (by rw [<-hop];rfl)
 simp only [Nat.add_zero] at s0
 have Hop:=Z9 hop
 clear hop hc hz
 have x1:=((uh HE).below K.bb).c2
 go_wp2_with fail
 cases op
 ·refine ZU (S:=fun w'=>w'.cell? ⟨g3,k*3,none⟩=some (.bool false)/\w'.cell? ⟨1,0,none⟩=some (Zv (q 2))) (by kernel_rfl) (List.cons_ne_nil _ _) (by kernel_rfl) ⟨s0,x1⟩ (fun hHeld=> ?_)
  simp only [List.dropLast_cons_cons,List.dropLast_singleton,List.length_cons,List.length_nil,Nat.zero_add,Nat.reduceAdd]
  replace K:=K.next ((Below.refl _ _).drew:Below w1.heap.size w1 w1.drew)
  clear s0 x1
  generalize w1.drew=W5 at *
  obtain ⟨_,hga,_,_,hc,hz⟩:=RecAt.view ZT (by omega) K.full.desks rfl (by omega)
  cases hga
  have s0:=hc k hk 0 (.bool false) (by rw [<-uh Hop];rfl)
  simp only [Nat.add_zero] at s0
  have x1:=((uh HE).below K.bb).c2
  (refine tk 0 rfl (by assumption) ?_;(try simp only [Act.put,sA,sZ,sS]))
  (refine tk 1 rfl (by assumption) ?_;(try simp only [Act.put,sA,sZ,sS]))
  (refine tk 2 rfl (by assumption) ?_;(try simp only [Act.put,sA,sZ,sS]))
  (refine tk 3 rfl (by assumption) ?_;(try simp only [Act.put,sA,sZ,sS]))
  (refine tk 4 rfl (by assumption) ?_;(try simp only [Act.put,sA,sZ,sS]))
  (refine tk 5 rfl (by assumption) ?_;(try simp only [Act.put,sA,sZ,sS]))
  refine wpAnyH_done (by kernel_rfl) ?_ _
  refine ZF rfl rfl ?_
  go_simp
  clear hHeld
  refine (XA _ _).mono ?_
  rintro e8 w8 ⟨rfl,h8⟩
  subst w8
  have hc0:Ww m (k:Int)=0:=by unfold Ww;rw [uh Hwq,Int.toNat_natCast,uh Hop];rfl
  have f0:=hz (k*3)
  have hx0:Ts m (k:Int)={ m with desks:=m.desks.set k (true,(Z8 m.desks k).2) }:=by unfold Ts Zt;rw [Int.toNat_natCast]
  have K1:=K.putD rfl hk (i:=0) (by omega) (.bool true) (true,(Z8 m.desks k).2) rfl
  simp only [Nat.add_zero] at K1
  have HK:=Z9 K1
  clear K1 hc hz x1
  go_wp2_with fail
  go_end0
  exact PChg.yes (uh HK) hc0 hx0
 ·refine ZU (S:=fun w'=>w'.cell? ⟨g3,k*3,none⟩=some (.bool true)/\w'.cell? ⟨1,0,none⟩=some (Zv (q 2))) (by kernel_rfl) (List.cons_ne_nil _ _) (by kernel_rfl) ⟨s0,x1⟩ (fun hHeld=> ?_)
  simp only [List.dropLast_cons_cons,List.dropLast_singleton,List.length_cons,List.length_nil,Nat.zero_add,Nat.reduceAdd]
  replace K:=K.next ((Below.refl _ _).drew:Below w1.heap.size w1 w1.drew)
  clear s0 x1
  generalize w1.drew=W5 at *
  obtain ⟨_,hga,_,_,hc,hz⟩:=RecAt.view ZT (by omega) K.full.desks rfl (by omega)
  cases hga
  have s0:=hc k hk 0 (.bool true) (by rw [<-uh Hop];rfl)
  simp only [Nat.add_zero] at s0
  have x1:=((uh HE).below K.bb).c2
  (refine tk 0 rfl (by assumption) ?_;(try simp only [Act.put,sA,sZ,sS]))
  (refine tk 1 rfl (by assumption) ?_;(try simp only [Act.put,sA,sZ,sS]))
  (refine tk 2 rfl (by assumption) ?_;(try simp only [Act.put,sA,sZ,sS]))
  (refine tk 3 rfl (by assumption) ?_;(try simp only [Act.put,sA,sZ,sS]))
  (refine tk 4 rfl (by assumption) ?_;(try simp only [Act.put,sA,sZ,sS]))
  (refine tk 5 rfl (by assumption) ?_;(try simp only [Act.put,sA,sZ,sS]))
  refine wpAnyH_done (by kernel_rfl) ?_ _
  refine ZF rfl rfl ?_
  go_simp
  clear hHeld
  refine (WZ (q 2) _).mono ?_
  rintro e8 w8 ⟨rfl,h8⟩
  subst w8
  have hc0:Ww m (k:Int)=2:=by unfold Ww;rw [uh Hwq,Int.toNat_natCast,uh Hop];rfl
  go_wp2_with fail
  exact ⟨rfl,PChg.no K.bb K.fb hc0 (by omega)⟩
theorem EK {F:Nat->TypeId->Array Value->Prop} {R:Nat}  {qs:List (Z3 × Value)} {q:Int->Addr} (K:Ny F w W R v0 v1 v2 v3 v4 m qs) (he:Errs w q) (hm:Zo m=true) (who rank:Int):Calls Tryz.prog 60 #[.pointer (some ⟨R,0,none⟩),.int .i64 who,.int .i64 rank] W fun e W'=>PChg F w R q (Tt m who rank) (Wz m who rank) e W':=by
 obtain ⟨a0,p0,a1,p1,a2,p2,a3,p3,a4,p4,rfl,rfl,rfl,rfl,rfl⟩:=YQ K.full
 have HE:=Z9 he
 have HM:=Z9 hm
 clear he hm
 obtain ⟨wq,hwq⟩:∃ b,V7 m who=b:=⟨_,rfl⟩
 have Hwq:=Z9 hwq
 clear hwq
 cases wq
 ·have hc0:Wz m who rank=1:=by unfold Wz;rw [uh Hwq];rfl
  go_enter Tryz.func60,Tryz.ntmps60
  go_wp2_with fail
  refine (RN K (uh HE) (uh Hwq)).mono ?_
  rintro e w1 ⟨rfl,hb,hF⟩
  go_wp2_with fail
  exact ⟨rfl,PChg.no hb hF hc0 (by omega)⟩
 obtain ⟨k,rfl,hk,hs⟩:=WI (uh Hwq)
 have hk1:(k:Int)<(m.smiths.length:Int):=by omega
 obtain ⟨g2,hga,_,_,_,_⟩:=RecAt.view Z1 (by omega) K.full.smiths rfl (by omega)
 cases hga
 go_enter Tryz.func60,Tryz.ntmps60
 go_wp2_with fail
 refine (Td K (uh HE) (uh Hwq) hk).mono ?_
 rintro e w1 ⟨rfl,K1⟩
 clear K
 have K:=K1
 clear K1
 obtain ⟨⟨st,be,rk,my,gu,lo,hi,hd,ca,ut,wk⟩,hrk⟩:∃ d,Z8 m.smiths k=d:=⟨_,rfl⟩
 obtain ⟨⟨y0,y1,y2,y3,y4,y5,y6,y7,y8,y9,y10⟩,ok,hre⟩:∃ y b,ZE (st,be,rk,my,gu,lo,hi,hd,ca,ut,wk) rank=(y,b):=⟨_,_,rfl⟩
 obtain ⟨_,hga,_,_,hc,hz⟩:=RecAt.view Z1 (by omega) K.full.smiths rfl (by omega)
 cases hga
 have s0:=hc k hk 0 _ rfl
 have s1:=hc k hk 1 _ rfl
 have s2:=hc k hk 2 _ rfl
 have s3:=hc k hk 3 _ rfl
 have s4:=hc k hk 4 _ rfl
 have s5:=hc k hk 5 _ rfl
 have s6:=hc k hk 6 _ rfl
 have s7:=hc k hk 7 _ rfl
 have s8:=hc k hk 8 _ rfl
 have s9:=hc k hk 9 _ rfl
 have s10:=hc k hk 10 _ rfl
 rw [hrk] at s0 s1 s2 s3 s4 s5 s6 s7 s8 s9 s10
 simp only [Nat.add_zero] at s0 s1 s2 s3 s4 s5 s6 s7 s8 s9 s10
 have Hrk:=Z9 hrk
 have HR:Hid (∀ X:World,Calls Tryz.prog 142 #[.agg #[.int .i64 st,.int .i64 be,.int .i64 rk,.int .i64 my,.int .i64 gu,.int .i64 lo,.int .i64 hi,.int .i64 hd,.int .i64 ca,.int .i64 ut,.int .i64 wk],.int .i64 rank] X fun e w'=>e= .returned (.tuple #[.agg #[.int .i64 y0,.int .i64 y1,.int .i64 y2,.int .i64 y3,.int .i64 y4,.int .i64 y5,.int .i64 y6,.int .i64 y7,.int .i64 y8,.int .i64 y9,.int .i64 y10],.bool ok])/\Below X.heap.size X w'):=Z9 (fun X=>NK hre X)
 have Hre:=Z9 hre
 clear hc hz hrk hre
 go_wp2_with fail
 refine (uh HR _).mono ?_
 rintro e w2 ⟨rfl,hb⟩
 replace K:=K.next hb
 clear hb s0 s1 s2 s3 s4 s5 s6 s7 s8 s9 s10 HR
 go_upto_region 2 with fail
 obtain ⟨W3,hW3,hba,ks⟩:=WH w2 43 #[.int .i64 y0,.int .i64 y1,.int .i64 y2,.int .i64 y3,.int .i64 y4,.int .i64 y5,.int .i64 y6,.int .i64 y7,.int .i64 y8,.int .i64 y9,.int .i64 y10]
 replace K:=K.next hba
 clear hba
 rw [hW3]
 clear hW3
 generalize w2.heap.size=sb at *
 have x1:=((uh HE).below K.bb).c3
 go_wp2_with fail
 cases ok
 ·have hc0:Wz m (k:Int) rank=3:=by unfold Wz;rw [uh Hwq,Int.toNat_natCast,uh Hrk,uh Hre];rfl
  refine (WZ (q 3) _).mono ?_
  rintro e8 w8 ⟨rfl,h8⟩
  subst w8
  go_wp2_with fail
  exact ⟨rfl,PChg.no K.bb K.fb hc0 (by omega)⟩
 have hc0:Wz m (k:Int) rank=0:=by unfold Wz;rw [uh Hwq,Int.toNat_natCast,uh Hrk,uh Hre];rfl
 have hx0:Tt m (k:Int) rank=setS m k (y0,y1,y2,y3,y4,y5,y6,y7,y8,y9,y10):=by unfold Tt;rw [Int.toNat_natCast,uh Hrk,uh Hre]
 refine (XA _ _).mono ?_
 rintro e8 w8 ⟨rfl,h8⟩
 subst w8
 obtain ⟨_,hga,_,_,hc,hz⟩:=RecAt.view Z1 (by omega) K.full.smiths rfl (by omega)
 cases hga
 have s0:=hc k hk 0 _ rfl
 have s1:=hc k hk 1 _ rfl
 have s2:=hc k hk 2 _ rfl
 have s3:=hc k hk 3 _ rfl
 have s4:=hc k hk 4 _ rfl
 have s5:=hc k hk 5 _ rfl
 have s6:=hc k hk 6 _ rfl
 have s7:=hc k hk 7 _ rfl
 have s8:=hc k hk 8 _ rfl
 have s9:=hc k hk 9 _ rfl
 have s10:=hc k hk 10 _ rfl
 have f0:=hz (k*11+0)
 have f1:=hz (k*11+1)
 have f2:=hz (k*11+2)
 have f3:=hz (k*11+3)
 have f4:=hz (k*11+4)
 have f5:=hz (k*11+5)
 have f6:=hz (k*11+6)
 have f7:=hz (k*11+7)
 have f8:=hz (k*11+8)
 have f9:=hz (k*11+9)
 have f10:=hz (k*11+10)
 simp only [Nat.add_zero] at s0 s1 s2 s3 s4 s5 s6 s7 s8 s9 s10 f0
 obtain ⟨e0,e1,e2,e3,e4,e5,e6,e7,e8,e9,e10⟩:=(uh ks).c11
 have K1:=K.putW rfl hk (y0,y1,y2,y3,y4,y5,y6,y7,y8,y9,y10)
 rw [show ZR (y0,y1,y2,y3,y4,y5,y6,y7,y8,y9,y10)=[.int .i64 y0,.int .i64 y1,.int .i64 y2,.int .i64 y3,.int .i64 y4,.int .i64 y5,.int .i64 y6,.int .i64 y7,.int .i64 y8,.int .i64 y9,.int .i64 y10] from rfl,DC] at K1
 have HK:=Z9 K1
 clear K1 hc hz x1
 go_wp2_with fail
 go_end0
 exact PChg.yes (uh HK) hc0 hx0
theorem Jo {F:Nat->TypeId->Array Value->Prop} {R:Nat}  {qs:List (Z3 × Value)} {q:Int->Addr} (K:Ny F w W R v0 v1 v2 v3 v4 m qs) (he:Errs w q) (hm:Zo m=true) {who low high:Int} {k0 k1 k2:Nat} (h0:W.cell? ⟨k0,0,none⟩=some (.int .i64 who)) (h1:W.cell? ⟨k1,0,none⟩=some (.int .i64 low)) (h2:W.cell? ⟨k2,0,none⟩=some (.int .i64 high)):Calls Tryz.prog 67 #[.pointer (some ⟨R,0,none⟩),.pointer (some ⟨k0,0,none⟩),.pointer (some ⟨k1,0,none⟩),.pointer (some ⟨k2,0,none⟩)] W fun e W'=>PChg F w R q (Pf m who low high) (Uk m who low high) e W':=by
 have HC:=Z9 (Gt K he hm who low high)
 clear K
 go_enter Tryz.func67,Tryz.ntmps67
 go_wp2_with fail
 refine (uh HC).mono ?_
 rintro e w1 ⟨hb,hF,h9⟩
 clear h0 h1 h2
 rcases h9 with ⟨hc0,rfl,hx⟩ | ⟨hc0,rfl⟩
 ·go_wp2_with fail
  go_end0
  exact ⟨hb,hF,.inl ⟨hc0,rfl,hx⟩⟩
 ·go_wp2_with fail
  exact ⟨rfl,hb,hF,.inr ⟨hc0,rfl⟩⟩
theorem FP {R:Nat}  {qs:List (Z3 × Value)} {q:Int->Addr} (K:Nx w W R v0 v1 v2 v3 v4 m qs) (he:Errs w q) (hm:Zo m=true) {who low high:Int} {cb k0 k1 k2:Nat} (hc:W.cell? ⟨cb,0,none⟩=some (.func (Fn.func 67) #[] #[.pointer (some ⟨k0,0,none⟩),.pointer (some ⟨k1,0,none⟩),.pointer (some ⟨k2,0,none⟩)])) (h0:W.cell? ⟨k0,0,none⟩=some (.int .i64 who)) (h1:W.cell? ⟨k1,0,none⟩=some (.int .i64 low)) (h2:W.cell? ⟨k2,0,none⟩=some (.int .i64 high)):Calls Tryz.prog 139 #[.pointer (some ⟨R,0,none⟩),.pointer (some ⟨cb,0,none⟩)] W fun e W'=>Chg w R q (Pf m who low high) (Uk m who low high) e W':=by
 have hmf:∀ (fn:Fn) (first cap:Array Value) (w:World),(Instr.makeFunc fn first cap).run Tryz.prog w= .ok (.func fn first cap) w:=fun _ _ _ _=>rfl
 have HE:=Z9 he
 have HM:=Z9 hm
 have hRl:=K.hR
 clear he hm
 have hba:Below W.heap.size W (W.alloc (.cells #[.nilIface] 97)):=(Below.refl _ _).alloc (Nat.le_refl _) _
 have kw:Hid (Blk (W.alloc (.cells #[.nilIface] 97)) W.heap.size 97 #[.nilIface]):=Z9 (Blk.new _ _ _)
 replace hc:=(hba.cell (World.block_lt_of_cell? _ _ hc)).trans hc
 replace h0:=(hba.cell (World.block_lt_of_cell? _ _ h0)).trans h0
 replace h1:=(hba.cell (World.block_lt_of_cell? _ _ h1)).trans h1
 replace h2:=(hba.cell (World.block_lt_of_cell? _ _ h2)).trans h2
 have hsz:w.heap.size<=W.heap.size:=K.bb.size
 have HO:Hid (R ≠ W.heap.size/\ ∀ k,XW v0 v1 v2 v3 v4 qs k->k ≠ W.heap.size):=Z9 ⟨by have:=K.blk.lt;omega,fun k e=>by have:=(K.full.own e).2;omega⟩
 replace K:=K.next hba
 clear hba
 go_enter_defers Tryz.func139,Tryz.ntmps139
 go_wp2_with fail
 generalize W.alloc (.cells #[.nilIface] 97)=W1 at *
 generalize W.heap.size=bw at *
 have KY:Ny (fun k t cs=>k=bw/\t=97/\cs=#[.nilIface]) w W1 R v0 v1 v2 v3 v4 m qs:=⟨K,fun k t cs hF=>by obtain ⟨rfl,rfl,rfl⟩:=hF;exact ⟨uh kw,(uh HO).1.symm,fun e=>(uh HO).2 _ e rfl⟩⟩
 refine (Jo KY (uh HE) (uh HM) h0 h1 h2).mono ?_
 rintro e w1 ⟨hb,hF,h9⟩
 have kw1:=hF bw _ _ ⟨rfl,rfl,rfl⟩
 have c9:=kw1.cell (i:=0) (v:= .nilIface) rfl
 have f9:=kw1.free 0
 have Hb:=Z9 hb
 clear hF kw KY K hc HO hb h0 h1 h2
 rcases h9 with ⟨hc0,rfl,u0,u1,u2,u3,u4,rs,KN⟩ | ⟨hc0,rfl⟩
 ·obtain ⟨_,hnR,hnO⟩:=KN.fx bw _ _ ⟨rfl,rfl,rfl⟩
  have HK:Hid (Nx w (w1.setCell ⟨bw,0,none⟩ .nilIface) R u0 u1 u2 u3 u4 (Pf m who low high) rs):=Z9 ⟨KN.full.set_off (fun k e e2=>hnO (by rw [<-e2];exact e)) _ _,KN.blk.other (a:=⟨bw,0,none⟩) (fun e=>hnR e.symm) _,KN.nx.own,KN.bb.setCell (p:=⟨bw,0,none⟩) hsz _,KN.nx.hR⟩
  clear KN hnR hnO kw1
  go_wp2_with fail
  refine leaves_cons (f:=140) (args:=#[.pointer (some ⟨bw,0,none⟩)]) (by simp) (by simp [go_sem]) ?_
  refine (UO ⟨bw,0,none⟩ _).mono ?_
  rintro e u' w'' ⟨rfl,rfl,rfl⟩
  have c8:(w1.setCell ⟨bw,0,none⟩ .nilIface).cell? ⟨bw,0,none⟩=some .nilIface:=by simp [c9,f9,go_sem]
  have hfin:Chg w R q (Pf m who low high) (Uk m who low high) (.returned .nilIface) (w1.setCell ⟨bw,0,none⟩ .nilIface):=⟨(uh HK).bb,.inl ⟨hc0,rfl,u0,u1,u2,u3,u4,rs,uh HK⟩⟩
  simp [Leaves,settle,results,Tryz.results139,go_sem,c8,hfin]
 ·have hfin:Chg w R q (Pf m who low high) (Uk m who low high) (.returned (Zv (q (Uk m who low high)))) (w1.setCell ⟨bw,0,none⟩ (Zv (q (Uk m who low high)))):=⟨(uh Hb).setCell (p:=⟨bw,0,none⟩) hsz _,.inr ⟨hc0,rfl⟩⟩
  have HC8:=Z9 (Ue bw (q (Uk m who low high)) w1 c9 f9)
  have c8:(w1.setCell ⟨bw,0,none⟩ (Zv (q (Uk m who low high)))).cell? ⟨bw,0,none⟩=some (Zv (q (Uk m who low high))):=by simp [c9,f9,go_sem]
  clear kw1
  go_wp2_with fail
  refine leaves_cons (f:=140) (args:=#[.pointer (some ⟨bw,0,none⟩)]) (by simp) (by simp [go_sem]) ?_
  refine (uh HC8).mono ?_
  rintro e u' w'' ⟨rfl,rfl,rfl⟩
  simp [Leaves,settle,results,Tryz.results139,go_sem,c8,hfin]
theorem GH {F:Nat->TypeId->Array Value->Prop} {R:Nat}  {qs:List (Z3 × Value)} {q:Int->Addr} (K:Ny F w W R v0 v1 v2 v3 v4 m qs) (he:Errs w q) (hm:Zo m=true) {who:Int} {k0:Nat} (h0:W.cell? ⟨k0,0,none⟩=some (.int .i64 who)):Calls Tryz.prog 89 #[.pointer (some ⟨R,0,none⟩),.pointer (some ⟨k0,0,none⟩)] W fun e W'=>PChg F w R q (Ts m who) (Ww m who) e W':=by
 have HC:=Z9 (EC K he hm who)
 clear K
 go_enter Tryz.func89,Tryz.ntmps89
 go_wp2_with fail
 refine (uh HC).mono ?_
 rintro e w1 ⟨hb,hF,h9⟩
 clear h0
 rcases h9 with ⟨hc0,rfl,hx⟩ | ⟨hc0,rfl⟩
 ·go_wp2_with fail
  go_end0
  exact ⟨hb,hF,.inl ⟨hc0,rfl,hx⟩⟩
 ·go_wp2_with fail
  exact ⟨rfl,hb,hF,.inr ⟨hc0,rfl⟩⟩
theorem D7 {R:Nat}  {qs:List (Z3 × Value)} {q:Int->Addr} (K:Nx w W R v0 v1 v2 v3 v4 m qs) (he:Errs w q) (hm:Zo m=true) {who:Int} {cb k0:Nat} (hc:W.cell? ⟨cb,0,none⟩=some (.func (Fn.func 89) #[] #[.pointer (some ⟨k0,0,none⟩)])) (h0:W.cell? ⟨k0,0,none⟩=some (.int .i64 who)):Calls Tryz.prog 139 #[.pointer (some ⟨R,0,none⟩),.pointer (some ⟨cb,0,none⟩)] W fun e W'=>Chg w R q (Ts m who) (Ww m who) e W':=by
 have hmf:∀ (fn:Fn) (first cap:Array Value) (w:World),(Instr.makeFunc fn first cap).run Tryz.prog w= .ok (.func fn first cap) w:=fun _ _ _ _=>rfl
 have HE:=Z9 he
 have HM:=Z9 hm
 have hRl:=K.hR
 clear he hm
 have hba:Below W.heap.size W (W.alloc (.cells #[.nilIface] 97)):=(Below.refl _ _).alloc (Nat.le_refl _) _
 have kw:Hid (Blk (W.alloc (.cells #[.nilIface] 97)) W.heap.size 97 #[.nilIface]):=Z9 (Blk.new _ _ _)
 replace hc:=(hba.cell (World.block_lt_of_cell? _ _ hc)).trans hc
 replace h0:=(hba.cell (World.block_lt_of_cell? _ _ h0)).trans h0
 have hsz:w.heap.size<=W.heap.size:=K.bb.size
 have HO:Hid (R ≠ W.heap.size/\ ∀ k,XW v0 v1 v2 v3 v4 qs k->k ≠ W.heap.size):=Z9 ⟨by have:=K.blk.lt;omega,fun k e=>by have:=(K.full.own e).2;omega⟩
 replace K:=K.next hba
 clear hba
 go_enter_defers Tryz.func139,Tryz.ntmps139
 go_wp2_with fail
 generalize W.alloc (.cells #[.nilIface] 97)=W1 at *
 generalize W.heap.size=bw at *
 have KY:Ny (fun k t cs=>k=bw/\t=97/\cs=#[.nilIface]) w W1 R v0 v1 v2 v3 v4 m qs:=⟨K,fun k t cs hF=>by obtain ⟨rfl,rfl,rfl⟩:=hF;exact ⟨uh kw,(uh HO).1.symm,fun e=>(uh HO).2 _ e rfl⟩⟩
 refine (GH KY (uh HE) (uh HM) h0).mono ?_
 rintro e w1 ⟨hb,hF,h9⟩
 have kw1:=hF bw _ _ ⟨rfl,rfl,rfl⟩
 have c9:=kw1.cell (i:=0) (v:= .nilIface) rfl
 have f9:=kw1.free 0
 have Hb:=Z9 hb
 clear hF kw KY K hc HO hb h0
 rcases h9 with ⟨hc0,rfl,u0,u1,u2,u3,u4,rs,KN⟩ | ⟨hc0,rfl⟩
 ·obtain ⟨_,hnR,hnO⟩:=KN.fx bw _ _ ⟨rfl,rfl,rfl⟩
  have HK:Hid (Nx w (w1.setCell ⟨bw,0,none⟩ .nilIface) R u0 u1 u2 u3 u4 (Ts m who) rs):=Z9 ⟨KN.full.set_off (fun k e e2=>hnO (by rw [<-e2];exact e)) _ _,KN.blk.other (a:=⟨bw,0,none⟩) (fun e=>hnR e.symm) _,KN.nx.own,KN.bb.setCell (p:=⟨bw,0,none⟩) hsz _,KN.nx.hR⟩
  clear KN hnR hnO kw1
  go_wp2_with fail
  refine leaves_cons (f:=140) (args:=#[.pointer (some ⟨bw,0,none⟩)]) (by simp) (by simp [go_sem]) ?_
  refine (UO ⟨bw,0,none⟩ _).mono ?_
  rintro e u' w'' ⟨rfl,rfl,rfl⟩
  have c8:(w1.setCell ⟨bw,0,none⟩ .nilIface).cell? ⟨bw,0,none⟩=some .nilIface:=by simp [c9,f9,go_sem]
  have hfin:Chg w R q (Ts m who) (Ww m who) (.returned .nilIface) (w1.setCell ⟨bw,0,none⟩ .nilIface):=⟨(uh HK).bb,.inl ⟨hc0,rfl,u0,u1,u2,u3,u4,rs,uh HK⟩⟩
  simp [Leaves,settle,results,Tryz.results139,go_sem,c8,hfin]
 ·have hfin:Chg w R q (Ts m who) (Ww m who) (.returned (Zv (q (Ww m who)))) (w1.setCell ⟨bw,0,none⟩ (Zv (q (Ww m who)))):=⟨(uh Hb).setCell (p:=⟨bw,0,none⟩) hsz _,.inr ⟨hc0,rfl⟩⟩
  have HC8:=Z9 (Ue bw (q (Ww m who)) w1 c9 f9)
  have c8:(w1.setCell ⟨bw,0,none⟩ (Zv (q (Ww m who)))).cell? ⟨bw,0,none⟩=some (Zv (q (Ww m who))):=by simp [c9,f9,go_sem]
  clear kw1
  go_wp2_with fail
  refine leaves_cons (f:=140) (args:=#[.pointer (some ⟨bw,0,none⟩)]) (by simp) (by simp [go_sem]) ?_
  refine (uh HC8).mono ?_
  rintro e u' w'' ⟨rfl,rfl,rfl⟩
  simp [Leaves,settle,results,Tryz.results139,go_sem,c8,hfin]
theorem GV {F:Nat->TypeId->Array Value->Prop} {R:Nat}  {qs:List (Z3 × Value)} {q:Int->Addr} (K:Ny F w W R v0 v1 v2 v3 v4 m qs) (he:Errs w q) (hm:Zo m=true) {who rank:Int} {k0 k1:Nat} (h0:W.cell? ⟨k0,0,none⟩=some (.int .i64 who)) (h1:W.cell? ⟨k1,0,none⟩=some (.int .i64 rank)):Calls Tryz.prog 59 #[.pointer (some ⟨R,0,none⟩),.pointer (some ⟨k0,0,none⟩),.pointer (some ⟨k1,0,none⟩)] W fun e W'=>PChg F w R q (Tt m who rank) (Wz m who rank) e W':=by
 have HC:=Z9 (EK K he hm who rank)
 clear K
 go_enter Tryz.func59,Tryz.ntmps59
 go_wp2_with fail
 refine (uh HC).mono ?_
 rintro e w1 ⟨hb,hF,h9⟩
 clear h0 h1
 rcases h9 with ⟨hc0,rfl,hx⟩ | ⟨hc0,rfl⟩
 ·go_wp2_with fail
  go_end0
  exact ⟨hb,hF,.inl ⟨hc0,rfl,hx⟩⟩
 ·go_wp2_with fail
  exact ⟨rfl,hb,hF,.inr ⟨hc0,rfl⟩⟩
theorem D8 {R:Nat}  {qs:List (Z3 × Value)} {q:Int->Addr} (K:Nx w W R v0 v1 v2 v3 v4 m qs) (he:Errs w q) (hm:Zo m=true) {who rank:Int} {cb k0 k1:Nat} (hc:W.cell? ⟨cb,0,none⟩=some (.func (Fn.func 59) #[] #[.pointer (some ⟨k0,0,none⟩),.pointer (some ⟨k1,0,none⟩)])) (h0:W.cell? ⟨k0,0,none⟩=some (.int .i64 who)) (h1:W.cell? ⟨k1,0,none⟩=some (.int .i64 rank)):Calls Tryz.prog 139 #[.pointer (some ⟨R,0,none⟩),.pointer (some ⟨cb,0,none⟩)] W fun e W'=>Chg w R q (Tt m who rank) (Wz m who rank) e W':=by
 have hmf:∀ (fn:Fn) (first cap:Array Value) (w:World),(Instr.makeFunc fn first cap).run Tryz.prog w= .ok (.func fn first cap) w:=fun _ _ _ _=>rfl
 have HE:=Z9 he
 have HM:=Z9 hm
 have hRl:=K.hR
 clear he hm
 have hba:Below W.heap.size W (W.alloc (.cells #[.nilIface] 97)):=(Below.refl _ _).alloc (Nat.le_refl _) _
 have kw:Hid (Blk (W.alloc (.cells #[.nilIface] 97)) W.heap.size 97 #[.nilIface]):=Z9 (Blk.new _ _ _)
 replace hc:=(hba.cell (World.block_lt_of_cell? _ _ hc)).trans hc
 replace h0:=(hba.cell (World.block_lt_of_cell? _ _ h0)).trans h0
 replace h1:=(hba.cell (World.block_lt_of_cell? _ _ h1)).trans h1
 have hsz:w.heap.size<=W.heap.size:=K.bb.size
 have HO:Hid (R ≠ W.heap.size/\ ∀ k,XW v0 v1 v2 v3 v4 qs k->k ≠ W.heap.size):=Z9 ⟨by have:=K.blk.lt;omega,fun k e=>by have:=(K.full.own e).2;omega⟩
 replace K:=K.next hba
 clear hba
 go_enter_defers Tryz.func139,Tryz.ntmps139
 go_wp2_with fail
 generalize W.alloc (.cells #[.nilIface] 97)=W1 at *
 generalize W.heap.size=bw at *
 have KY:Ny (fun k t cs=>k=bw/\t=97/\cs=#[.nilIface]) w W1 R v0 v1 v2 v3 v4 m qs:=⟨K,fun k t cs hF=>by obtain ⟨rfl,rfl,rfl⟩:=hF;exact ⟨uh kw,(uh HO).1.symm,fun e=>(uh HO).2 _ e rfl⟩⟩
 refine (GV KY (uh HE) (uh HM) h0 h1).mono ?_
 rintro e w1 ⟨hb,hF,h9⟩
 have kw1:=hF bw _ _ ⟨rfl,rfl,rfl⟩
 have c9:=kw1.cell (i:=0) (v:= .nilIface) rfl
 have f9:=kw1.free 0
 have Hb:=Z9 hb
 clear hF kw KY K hc HO hb h0 h1
 rcases h9 with ⟨hc0,rfl,u0,u1,u2,u3,u4,rs,KN⟩ | ⟨hc0,rfl⟩
 ·obtain ⟨_,hnR,hnO⟩:=KN.fx bw _ _ ⟨rfl,rfl,rfl⟩
  have HK:Hid (Nx w (w1.setCell ⟨bw,0,none⟩ .nilIface) R u0 u1 u2 u3 u4 (Tt m who rank) rs):=Z9 ⟨KN.full.set_off (fun k e e2=>hnO (by rw [<-e2];exact e)) _ _,KN.blk.other (a:=⟨bw,0,none⟩) (fun e=>hnR e.symm) _,KN.nx.own,KN.bb.setCell (p:=⟨bw,0,none⟩) hsz _,KN.nx.hR⟩
  clear KN hnR hnO kw1
  go_wp2_with fail
  refine leaves_cons (f:=140) (args:=#[.pointer (some ⟨bw,0,none⟩)]) (by simp) (by simp [go_sem]) ?_
  refine (UO ⟨bw,0,none⟩ _).mono ?_
  rintro e u' w'' ⟨rfl,rfl,rfl⟩
  have c8:(w1.setCell ⟨bw,0,none⟩ .nilIface).cell? ⟨bw,0,none⟩=some .nilIface:=by simp [c9,f9,go_sem]
  have hfin:Chg w R q (Tt m who rank) (Wz m who rank) (.returned .nilIface) (w1.setCell ⟨bw,0,none⟩ .nilIface):=⟨(uh HK).bb,.inl ⟨hc0,rfl,u0,u1,u2,u3,u4,rs,uh HK⟩⟩
  simp [Leaves,settle,results,Tryz.results139,go_sem,c8,hfin]
 ·have hfin:Chg w R q (Tt m who rank) (Wz m who rank) (.returned (Zv (q (Wz m who rank)))) (w1.setCell ⟨bw,0,none⟩ (Zv (q (Wz m who rank)))):=⟨(uh Hb).setCell (p:=⟨bw,0,none⟩) hsz _,.inr ⟨hc0,rfl⟩⟩
  have HC8:=Z9 (Ue bw (q (Wz m who rank)) w1 c9 f9)
  have c8:(w1.setCell ⟨bw,0,none⟩ (Zv (q (Wz m who rank)))).cell? ⟨bw,0,none⟩=some (Zv (q (Wz m who rank))):=by simp [c9,f9,go_sem]
  clear kw1
  go_wp2_with fail
  refine leaves_cons (f:=140) (args:=#[.pointer (some ⟨bw,0,none⟩)]) (by simp) (by simp [go_sem]) ?_
  refine (uh HC8).mono ?_
  rintro e u' w'' ⟨rfl,rfl,rfl⟩
  simp [Leaves,settle,results,Tryz.results139,go_sem,c8,hfin]
end Go.Proofs.YtjhijildaceadaaGreatDoor
