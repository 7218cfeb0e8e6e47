/- Part 35 of what the proof rests on. No condition but those that a theorem names. -/
import Derived.Test.YtamgfpdahadnfaaGreatDoorXf32
set_option maxHeartbeats 8000000
set_option maxRecDepth 100000
namespace Go.Proofs.YtamgfpdahadnfaaGreatDoor
open Go.ChangeShapes Go.WideShapes Go.ChangeAt Go.RowKit Go.Sort Go.Shelf
set_option linter.unusedVariables false
set_option linter.unusedSimpArgs false
set_option maxRecDepth 100000
variable {w w' w0 w1 w2 w3 w₀ wr W W' X A B C : World} {v v0 v1 v2 v3 v4 u u0 u1 u2 u3 u4 : Value} {m : Z6}
theorem LM {F:Nat->TypeId->Array Value->Prop} {R:Nat} {a0 a1 a2 a4:Option Addr} {p0 p1 p2 p3 p4:Nat} {qs:List (ZZ × Value)} {q:Int->Addr} {g3 k:Nat} (K:Ny F w W R (.slice a0 m.rm.length p0) (.slice a1 m.gd.length p1) (.slice a2 m.sm.length p2) (.slice (some ⟨g3,0,none⟩) m.dk.length p3) (.slice a4 m.pc.length p4) m qs) (he:Errs w q) (hk:k<m.dk.length):Calls Tryz.prog 140 #[.pointer (some ⟨R,0,none⟩),.int .i64 (k:Int)] W fun e W'=>e= .returned (.pointer (some ⟨g3,k*3,none⟩))/\Ny F w W' R (.slice a0 m.rm.length p0) (.slice a1 m.gd.length p1) (.slice a2 m.sm.length p2) (.slice (some ⟨g3,0,none⟩) m.dk.length p3) (.slice a4 m.pc.length p4) m qs:=by
 have hk1:(k:Int)<(m.dk.length:Int):=by omega
 have hq:WR m.dk.length (k:Int)=true:=by unfold WR;simp;omega
 have HE:=Z9 he;have Hq:=Z9 hq;clear he hq;obtain ⟨c0,c1,c2,c3,c4,c5⟩:=K.cells;have x1:=((uh HE).below K.bb).c1;go_enter Tryz.func140,Tryz.ntmps140;go_wp2_with fail;refine ZS (S:=fun w'=>w'.cell? ⟨R,0,none⟩=some (.slice a0 m.rm.length p0)/\w'.cell? ⟨R,1,none⟩=some (.slice a1 m.gd.length p1)/\w'.cell? ⟨R,2,none⟩=some (.slice a2 m.sm.length p2)/\w'.cell? ⟨R,3,none⟩=some (.slice (some ⟨g3,0,none⟩) m.dk.length p3)/\w'.cell? ⟨R,4,none⟩=some (.slice a4 m.pc.length p4)/\w'.cell? ⟨R,5,none⟩=some (.int .i64 m.now)/\w'.cell? ⟨3,0,none⟩=some (YA (q 1))) (by kernel_rfl) (XM _ _) (by kernel_rfl) ⟨c0,c1,c2,c3,c4,c5,x1⟩ (fun hHeld=> ?_);simp only [XN,XO,Y4,YQ,Nat.zero_add,Nat.reduceAdd];replace K:=K.next ((Z1 _ _).drew:Below W.heap.size W W.drew);clear c0 c1 c2 c3 c4 c5 x1;generalize W.drew=W5 at *;obtain ⟨c0,c1,c2,c3,c4,c5⟩:=K.cells;have x1:=((uh HE).below K.bb).c1
 (refine tk 0 rfl (by assumption) ?_;(try simp only [Act.put,sA,sZ,sS]))
 (refine tk 1 rfl (by assumption) ?_;(try simp only [Act.put,sA,sZ,sS]))
 (refine tk 2 rfl (by assumption) ?_;(try simp only [Act.put,sA,sZ,sS]))
 (refine tk 4 rfl (by assumption) ?_;(try simp only [Act.put,sA,sZ,sS]))
 (refine tk 6 rfl (by assumption) ?_;(try simp only [Act.put,sA,sZ,sS]))
 refine wpAnyH_ready (rs:=[3]) (by kernel_rfl) (by simp) ?_;refine AllReadyH.cons rfl (fun K0 hK=> ?_) AllReadyH.nil;go_simp;refine (U0 _ _ _ _ _ _ _ _ _ _ _ _ _ _ _ _ _).mono ?_;rintro e9 w9 ⟨rfl,hb⟩;replace K:=K.next hb;clear hb;clear c0 c1 c2 c3 c4 c5 x1;obtain ⟨c0,c1,c2,c3,c4,c5⟩:=K.cells;have x1:=((uh HE).below K.bb).c1;refine hK.out _ _ ⟨c0,c1,c2,c3,c4,c5,x1⟩ (fun hHeld=> ?_);clear hK K0
 (try simp only [Act.put,sA,sZ,sS])
 refine wpAnyH_ready (rs:=[5]) (by kernel_rfl) (by simp) ?_;refine AllReadyH.cons rfl (fun K0 hK=> ?_) AllReadyH.nil;go_simp;refine (Calls.bool_of (Calls.same_below' (U3 _ _ _ _ _)) (uh Hq)).mono ?_;rintro e9 w9 ⟨rfl,hb⟩;replace K:=K.next hb;clear hb;clear c0 c1 c2 c3 c4 c5 x1;obtain ⟨c0,c1,c2,c3,c4,c5⟩:=K.cells;have x1:=((uh HE).below K.bb).c1;refine hK.out _ _ ⟨c0,c1,c2,c3,c4,c5,x1⟩ (fun hHeld=> ?_);clear hK K0
 (try simp only [Act.put,sA,sZ,sS])
 refine wpAnyH_done (by kernel_rfl) ?_ _;refine ZK rfl rfl ?_;go_simp;clear hHeld;refine (Sk _ _).mono ?_;rintro e8 w8 ⟨rfl,h8⟩;subst w8;go_wp2_with fail;go_ret;exact ⟨rfl,K⟩
theorem JO {F:Nat->TypeId->Array Value->Prop} {R:Nat} {a0 a1 a2 a3 a4:Option Addr} {p0 p1 p2 p3 p4:Nat} {qs:List (ZZ × Value)} {q:Int->Addr} {who:Int} (K:Ny F w W R (.slice a0 m.rm.length p0) (.slice a1 m.gd.length p1) (.slice a2 m.sm.length p2) (.slice a3 m.dk.length p3) (.slice a4 m.pc.length p4) m qs) (he:Errs w q) (hq:WR m.dk.length who=false):Calls Tryz.prog 140 #[.pointer (some ⟨R,0,none⟩),.int .i64 who] W fun e W'=>e= .panicked [{ v:=YA (q 1),recovered:=false }]/\Below w.heap.size w W'/\(∀ k t cs,F k t cs->Blk W' k t cs):=by
 have HE:=Z9 he;have Hq:=Z9 hq;clear he hq;obtain ⟨c0,c1,c2,c3,c4,c5⟩:=K.cells;have x1:=((uh HE).below K.bb).c1;go_enter Tryz.func140,Tryz.ntmps140;go_wp2_with fail;refine ZS (S:=fun w'=>w'.cell? ⟨R,0,none⟩=some (.slice a0 m.rm.length p0)/\w'.cell? ⟨R,1,none⟩=some (.slice a1 m.gd.length p1)/\w'.cell? ⟨R,2,none⟩=some (.slice a2 m.sm.length p2)/\w'.cell? ⟨R,3,none⟩=some (.slice a3 m.dk.length p3)/\w'.cell? ⟨R,4,none⟩=some (.slice a4 m.pc.length p4)/\w'.cell? ⟨R,5,none⟩=some (.int .i64 m.now)/\w'.cell? ⟨3,0,none⟩=some (YA (q 1))) (by kernel_rfl) (XM _ _) (by kernel_rfl) ⟨c0,c1,c2,c3,c4,c5,x1⟩ (fun hHeld=> ?_);simp only [XN,XO,Y4,YQ,Nat.zero_add,Nat.reduceAdd];replace K:=K.next ((Z1 _ _).drew:Below W.heap.size W W.drew);clear c0 c1 c2 c3 c4 c5 x1;generalize W.drew=W5 at *;obtain ⟨c0,c1,c2,c3,c4,c5⟩:=K.cells;have x1:=((uh HE).below K.bb).c1
 (refine tk 0 rfl (by assumption) ?_;(try simp only [Act.put,sA,sZ,sS]))
 (refine tk 1 rfl (by assumption) ?_;(try simp only [Act.put,sA,sZ,sS]))
 (refine tk 2 rfl (by assumption) ?_;(try simp only [Act.put,sA,sZ,sS]))
 (refine tk 4 rfl (by assumption) ?_;(try simp only [Act.put,sA,sZ,sS]))
 (refine tk 6 rfl (by assumption) ?_;(try simp only [Act.put,sA,sZ,sS]))
 refine wpAnyH_ready (rs:=[3]) (by kernel_rfl) (by simp) ?_;refine AllReadyH.cons rfl (fun K0 hK=> ?_) AllReadyH.nil;go_simp;refine (U0 _ _ _ _ _ _ _ _ _ _ _ _ _ _ _ _ _).mono ?_;rintro e9 w9 ⟨rfl,hb⟩;replace K:=K.next hb;clear hb;clear c0 c1 c2 c3 c4 c5 x1;obtain ⟨c0,c1,c2,c3,c4,c5⟩:=K.cells;have x1:=((uh HE).below K.bb).c1;refine hK.out _ _ ⟨c0,c1,c2,c3,c4,c5,x1⟩ (fun hHeld=> ?_);clear hK K0
 (try simp only [Act.put,sA,sZ,sS])
 refine wpAnyH_ready (rs:=[5]) (by kernel_rfl) (by simp) ?_;refine AllReadyH.cons rfl (fun K0 hK=> ?_) AllReadyH.nil;go_simp;refine (Calls.bool_of (Calls.same_below' (U3 _ _ _ _ _)) (uh Hq)).mono ?_;rintro e9 w9 ⟨rfl,hb⟩;replace K:=K.next hb;clear hb;clear c0 c1 c2 c3 c4 c5 x1;obtain ⟨c0,c1,c2,c3,c4,c5⟩:=K.cells;have x1:=((uh HE).below K.bb).c1;refine hK.out _ _ ⟨c0,c1,c2,c3,c4,c5,x1⟩ (fun hHeld=> ?_);clear hK K0
 (try simp only [Act.put,sA,sZ,sS])
 refine wpAnyH_done (by kernel_rfl) ?_ _;refine ZK rfl rfl ?_;go_simp;clear hHeld;refine (QU (q 1) _).mono ?_;rintro e8 w8 ⟨rfl,h8⟩;subst w8;go_wp2_with fail;exact ⟨rfl,rfl,K.bb,K.fb⟩
theorem Cp {F:Nat->TypeId->Array Value->Prop} {R:Nat}  {qs:List (ZZ × Value)} {q:Int->Addr} (K:Ny F w W R v0 v1 v2 v3 v4 m qs) (he:Errs w q) (hm:ZF m=true) (who:Int):Calls Tryz.prog 84 #[.pointer (some ⟨R,0,none⟩),.int .i64 who] W fun e W'=>PChg F w R q (RX m who) (VW m who) e W':=by
 obtain ⟨a0,p0,a1,p1,a2,p2,a3,p3,a4,p4,rfl,rfl,rfl,rfl,rfl⟩:=Wh K.full;have HE:=Z9 he;have HM:=Z9 hm;clear he hm;obtain ⟨wq,hwq⟩:∃ b,YP m who=b:=⟨_,rfl⟩
 have Hwq:=Z9 hwq;clear hwq;cases wq
 ·have hc0:VW m who=1:=by unfold VW;rw [uh Hwq];rfl
  go_enter Tryz.func84,Tryz.ntmps84;go_wp2_with fail;refine (JO K (uh HE) ((JS m who).trans (uh Hwq))).mono ?_;rintro e w1 ⟨rfl,hb,hF⟩;go_wp2_with fail;exact ⟨rfl,PChg.no hb hF hc0 (by omega)⟩
 obtain ⟨k,rfl,hk⟩:=SX (uh Hwq);have hk1:(k:Int)<(m.dk.length:Int):=by omega
 obtain ⟨g3,hga,_,_,_,_⟩:=RecAt.view ZH (by omega) K.full.dk rfl (by omega);cases hga;go_enter Tryz.func84,Tryz.ntmps84;go_wp2_with fail;refine (LM K (uh HE) hk).mono ?_;rintro e w1 ⟨rfl,K1⟩;clear K;have K:=K1;clear K1;obtain ⟨op,hop⟩:∃ d,(Z8 m.dk k).1=d:=⟨_,rfl⟩
 obtain ⟨_,hga,_,_,hc,hz⟩:=RecAt.view ZH (by omega) K.full.dk rfl (by omega);cases hga;have s0:=hc k hk 0 (.bool op) (by rw [<-hop];rfl);simp only [Nat.add_zero] at s0;have Hop:=Z9 hop;clear hop hc hz;have x1:=((uh HE).below K.bb).c2;go_wp2_with fail;cases op
 ·refine ZS (S:=fun w'=>w'.cell? ⟨g3,k*3,none⟩=some (.bool false)/\w'.cell? ⟨2,0,none⟩=some (YA (q 2))) (by kernel_rfl) (XM _ _) (by kernel_rfl) ⟨s0,x1⟩ (fun hHeld=> ?_)
  simp only [XN,XO,Y4,YQ,Nat.zero_add,Nat.reduceAdd];replace K:=K.next ((Z1 _ _).drew:Below w1.heap.size w1 w1.drew);clear s0 x1;generalize w1.drew=W5 at *;obtain ⟨_,hga,_,_,hc,hz⟩:=RecAt.view ZH (by omega) K.full.dk rfl (by omega);cases hga;have s0:=hc k hk 0 (.bool false) (by rw [<-uh Hop];rfl);simp only [Nat.add_zero] at s0;have x1:=((uh HE).below K.bb).c2
  (refine tk 0 rfl (by assumption) ?_;(try simp only [Act.put,sA,sZ,sS]))
  (refine tk 1 rfl (by assumption) ?_;(try simp only [Act.put,sA,sZ,sS]))
  (refine tk 2 rfl (by assumption) ?_;(try simp only [Act.put,sA,sZ,sS]))
  (refine tk 3 rfl (by assumption) ?_;(try simp only [Act.put,sA,sZ,sS]))
  (refine tk 4 rfl (by assumption) ?_;(try simp only [Act.put,sA,sZ,sS]))
  (refine tk 5 rfl (by assumption) ?_;(try simp only [Act.put,sA,sZ,sS]))
  refine wpAnyH_done (by kernel_rfl) ?_ _;refine ZK rfl rfl ?_;go_simp;clear hHeld;refine (Sk _ _).mono ?_;rintro e8 w8 ⟨rfl,h8⟩;subst w8;have hc0:VW m (k:Int)=0:=by unfold VW;rw [uh Hwq,Zy,uh Hop];rfl
  have f0:=hz (k*3);have hx0:RX m (k:Int)={ m with dk:=m.dk.set k (true,(Z8 m.dk k).2) }:=by unfold RX Zk;rw [Zy]
  have K1:=K.putD rfl hk (i:=0) (by omega) (.bool true) (true,(Z8 m.dk k).2) rfl;simp only [Nat.add_zero] at K1;have HK:=Z9 K1;clear K1 hc hz x1;go_wp2_with fail
  go_end0
  exact PChg.yes (uh HK) hc0 hx0
 ·refine ZS (S:=fun w'=>w'.cell? ⟨g3,k*3,none⟩=some (.bool true)/\w'.cell? ⟨2,0,none⟩=some (YA (q 2))) (by kernel_rfl) (XM _ _) (by kernel_rfl) ⟨s0,x1⟩ (fun hHeld=> ?_)
  simp only [XN,XO,Y4,YQ,Nat.zero_add,Nat.reduceAdd];replace K:=K.next ((Z1 _ _).drew:Below w1.heap.size w1 w1.drew);clear s0 x1;generalize w1.drew=W5 at *;obtain ⟨_,hga,_,_,hc,hz⟩:=RecAt.view ZH (by omega) K.full.dk rfl (by omega);cases hga;have s0:=hc k hk 0 (.bool true) (by rw [<-uh Hop];rfl);simp only [Nat.add_zero] at s0;have x1:=((uh HE).below K.bb).c2
  (refine tk 0 rfl (by assumption) ?_;(try simp only [Act.put,sA,sZ,sS]))
  (refine tk 1 rfl (by assumption) ?_;(try simp only [Act.put,sA,sZ,sS]))
  (refine tk 2 rfl (by assumption) ?_;(try simp only [Act.put,sA,sZ,sS]))
  (refine tk 3 rfl (by assumption) ?_;(try simp only [Act.put,sA,sZ,sS]))
  (refine tk 4 rfl (by assumption) ?_;(try simp only [Act.put,sA,sZ,sS]))
  (refine tk 5 rfl (by assumption) ?_;(try simp only [Act.put,sA,sZ,sS]))
  refine wpAnyH_done (by kernel_rfl) ?_ _;refine ZK rfl rfl ?_;go_simp;clear hHeld;refine (QU (q 2) _).mono ?_;rintro e8 w8 ⟨rfl,h8⟩;subst w8;have hc0:VW m (k:Int)=2:=by unfold VW;rw [uh Hwq,Zy,uh Hop];rfl
  go_wp2_with fail;exact ⟨rfl,PChg.no K.bb K.fb hc0 (by omega)⟩
theorem EK {F:Nat->TypeId->Array Value->Prop} {R:Nat}  {qs:List (ZZ × Value)} {q:Int->Addr} (K:Ny F w W R v0 v1 v2 v3 v4 m qs) (he:Errs w q) (hm:ZF m=true) {who:Int} {k0:Nat} (h0:W.cell? ⟨k0,0,none⟩=some (.int .i64 who)):Calls Tryz.prog 83 #[.pointer (some ⟨R,0,none⟩),.pointer (some ⟨k0,0,none⟩)] W fun e W'=>PChg F w R q (RX m who) (VW m who) e W':=by
 have HC:=Z9 (Cp K he hm who);clear K;go_enter Tryz.func83,Tryz.ntmps83;go_wp2_with fail;refine (uh HC).mono ?_;rintro e w1 ⟨hb,hF,h9⟩;clear h0
 rcases h9 with ⟨hc0,rfl,hx⟩ | ⟨hc0,rfl⟩
 ·go_wp2_with fail
  go_end0
  exact ⟨hb,hF,.inl ⟨hc0,rfl,hx⟩⟩
 ·go_wp2_with fail
  exact ⟨rfl,hb,hF,.inr ⟨hc0,rfl⟩⟩
theorem Bw {R:Nat}  {qs:List (ZZ × Value)} {q:Int->Addr} (K:Nx w W R v0 v1 v2 v3 v4 m qs) (he:Errs w q) (hm:ZF m=true) {who:Int} {cb k0:Nat} (hc:W.cell? ⟨cb,0,none⟩=some (.func (Fn.func 83) #[] #[.pointer (some ⟨k0,0,none⟩)])) (h0:W.cell? ⟨k0,0,none⟩=some (.int .i64 who)):Calls Tryz.prog 130 #[.pointer (some ⟨R,0,none⟩),.pointer (some ⟨cb,0,none⟩)] W fun e W'=>Chg w R q (RX m who) (VW m who) e W':=by
 have hmf:∀ (fn:Fn) (first cap:Array Value) (w:World),(Instr.makeFunc fn first cap).run Tryz.prog w= .ok (.func fn first cap) w:=fun _ _ _ _=>rfl;have HE:=Z9 he;have HM:=Z9 hm;have hRl:=K.hR;clear he hm;have hba:Below W.heap.size W (W.alloc (.cells #[.nilIface] 62)):=(Z1 _ _).alloc (Z2 _) _;have kw:Hid (Blk (W.alloc (.cells #[.nilIface] 62)) W.heap.size 62 #[.nilIface]):=Z9 (Blk.new _ _ _);replace hc:=(hba.cell (World.block_lt_of_cell? _ _ hc)).trans hc;replace h0:=(hba.cell (World.block_lt_of_cell? _ _ h0)).trans h0;have hsz:w.heap.size<=W.heap.size:=K.bb.size;have HO:Hid (R ≠ W.heap.size/\ ∀ k,We v0 v1 v2 v3 v4 qs k->k ≠ W.heap.size):=Z9 ⟨by have:=K.blk.lt;omega,fun k e=>by have:=(K.full.own e).2;omega⟩;replace K:=K.next hba;clear hba
 go_enter_defers Tryz.func130,Tryz.ntmps130
 go_wp2_with fail;generalize W.alloc (.cells #[.nilIface] 62)=W1 at *;generalize W.heap.size=bw at *;have KY:Ny (fun k t cs=>k=bw/\t=62/\cs=#[.nilIface]) w W1 R v0 v1 v2 v3 v4 m qs:=⟨K,fun k t cs hF=>by obtain ⟨rfl,rfl,rfl⟩:=hF;exact ⟨uh kw,(uh HO).1.symm,fun e=>(uh HO).2 _ e rfl⟩⟩
 refine (EK KY (uh HE) (uh HM) h0).mono ?_;rintro e w1 ⟨hb,hF,h9⟩;have kw1:=hF bw _ _ ⟨rfl,rfl,rfl⟩;have c9:=kw1.cell (i:=0) (v:= .nilIface) rfl;have f9:=kw1.free 0;have Hb:=Z9 hb;clear hF kw KY K hc HO hb h0
 rcases h9 with ⟨hc0,rfl,u0,u1,u2,u3,u4,rs,KN⟩ | ⟨hc0,rfl⟩
 ·obtain ⟨_,hnR,hnO⟩:=KN.fx bw _ _ ⟨rfl,rfl,rfl⟩
  have HK:Hid (Nx w (w1.setCell ⟨bw,0,none⟩ .nilIface) R u0 u1 u2 u3 u4 (RX m who) rs):=Z9 ⟨KN.full.set_off (fun k e e2=>hnO (by rw [<-e2];exact e)) _ _,KN.blk.other (a:=⟨bw,0,none⟩) (fun e=>hnR e.symm) _,KN.nx.own,KN.bb.setCell (p:=⟨bw,0,none⟩) hsz _,KN.nx.hR⟩;clear KN hnR hnO kw1;go_wp2_with fail;refine leaves_cons (f:=131) (args:=#[.pointer (some ⟨bw,0,none⟩)]) (by simp) (by simp [go_sem]) ?_;refine (LB ⟨bw,0,none⟩ _).mono ?_;rintro e u' w'' ⟨rfl,rfl,rfl⟩;have c8:(w1.setCell ⟨bw,0,none⟩ .nilIface).cell? ⟨bw,0,none⟩=some .nilIface:=by simp [c9,f9,go_sem]
  have hfin:Chg w R q (RX m who) (VW m who) (.returned .nilIface) (w1.setCell ⟨bw,0,none⟩ .nilIface):=⟨(uh HK).bb,.inl ⟨hc0,rfl,u0,u1,u2,u3,u4,rs,uh HK⟩⟩
  simp [Leaves,settle,results,Tryz.results130,go_sem,c8,hfin]
 ·have hfin:Chg w R q (RX m who) (VW m who) (.returned (YA (q (VW m who)))) (w1.setCell ⟨bw,0,none⟩ (YA (q (VW m who)))):=⟨(uh Hb).setCell (p:=⟨bw,0,none⟩) hsz _,.inr ⟨hc0,rfl⟩⟩
  have HC8:=Z9 (JM bw (q (VW m who)) w1 c9 f9);have c8:(w1.setCell ⟨bw,0,none⟩ (YA (q (VW m who)))).cell? ⟨bw,0,none⟩=some (YA (q (VW m who))):=by simp [c9,f9,go_sem]
  clear kw1;go_wp2_with fail;refine leaves_cons (f:=131) (args:=#[.pointer (some ⟨bw,0,none⟩)]) (by simp) (by simp [go_sem]) ?_;refine (uh HC8).mono ?_;rintro e u' w'' ⟨rfl,rfl,rfl⟩;simp [Leaves,settle,results,Tryz.results130,go_sem,c8,hfin]
end Go.Proofs.YtamgfpdahadnfaaGreatDoor
