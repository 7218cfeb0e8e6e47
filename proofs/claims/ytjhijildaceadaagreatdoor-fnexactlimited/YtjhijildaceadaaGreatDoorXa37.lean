/- Part 37 of what the proof rests on. No condition but those that a theorem names. -/
import Derived.Test.YtjhijildaceadaaGreatDoorXa36
set_option maxHeartbeats 8000000
set_option maxRecDepth 100000
namespace Go.Proofs.YtjhijildaceadaaGreatDoor
open Go.ChangeShapes Go.WideShapes Go.ChangeAt Go.RowKit Go.Sort Go.Shelf
set_option linter.unusedVariables false
set_option linter.unusedSimpArgs false
set_option maxRecDepth 100000
variable {w w' w0 w1 w2 w3 w₀ wr W W' X A B C : World} {v v0 v1 v2 v3 v4 u u0 u1 u2 u3 u4 : Value} {m : Z4}
theorem It {F:Nat->TypeId->Array Value->Prop} {R:Nat}  {qs:List (Z3 × Value)} {q:Int->Addr} (K:Ny F w W R v0 v1 v2 v3 v4 m qs) (he:Errs w q) (hm:Zo m=true) {who may:Int} {k0 k1:Nat} (h0:W.cell? ⟨k0,0,none⟩=some (.int .i64 who)) (h1:W.cell? ⟨k1,0,none⟩=some (.int .i64 may)):Calls Tryz.prog 64 #[.pointer (some ⟨R,0,none⟩),.pointer (some ⟨k0,0,none⟩),.pointer (some ⟨k1,0,none⟩)] W fun e W'=>PChg F w R q (V9 m who may) (YA m who may) e W':=by
 have HC:=Z9 (FL K he hm who may)
 clear K
 go_enter Tryz.func64,Tryz.ntmps64
 go_wp2_with fail
 refine (uh HC).mono ?_
 rintro e w1 ⟨hb,hF,h9⟩
 clear h0 h1
 rcases h9 with ⟨hc0,rfl,hx⟩ | ⟨hc0,rfl⟩
 ·go_wp2_with fail
  go_end0
  exact ⟨hb,hF,.inl ⟨hc0,rfl,hx⟩⟩
 ·go_wp2_with fail
  exact ⟨rfl,hb,hF,.inr ⟨hc0,rfl⟩⟩
theorem FN {R:Nat}  {qs:List (Z3 × Value)} {q:Int->Addr} (K:Nx w W R v0 v1 v2 v3 v4 m qs) (he:Errs w q) (hm:Zo m=true) {who may:Int} {cb k0 k1:Nat} (hc:W.cell? ⟨cb,0,none⟩=some (.func (Fn.func 64) #[] #[.pointer (some ⟨k0,0,none⟩),.pointer (some ⟨k1,0,none⟩)])) (h0:W.cell? ⟨k0,0,none⟩=some (.int .i64 who)) (h1:W.cell? ⟨k1,0,none⟩=some (.int .i64 may)):Calls Tryz.prog 139 #[.pointer (some ⟨R,0,none⟩),.pointer (some ⟨cb,0,none⟩)] W fun e W'=>Chg w R q (V9 m who may) (YA m who may) e W':=by
 have hmf:∀ (fn:Fn) (first cap:Array Value) (w:World),(Instr.makeFunc fn first cap).run Tryz.prog w= .ok (.func fn first cap) w:=fun _ _ _ _=>rfl
 have HE:=Z9 he
 have HM:=Z9 hm
 have hRl:=K.hR
 clear he hm
 have hba:Below W.heap.size W (W.alloc (.cells #[.nilIface] 97)):=(Below.refl _ _).alloc (Nat.le_refl _) _
 have kw:Hid (Blk (W.alloc (.cells #[.nilIface] 97)) W.heap.size 97 #[.nilIface]):=Z9 (Blk.new _ _ _)
 replace hc:=(hba.cell (World.block_lt_of_cell? _ _ hc)).trans hc
 replace h0:=(hba.cell (World.block_lt_of_cell? _ _ h0)).trans h0
 replace h1:=(hba.cell (World.block_lt_of_cell? _ _ h1)).trans h1
 have hsz:w.heap.size<=W.heap.size:=K.bb.size
 have HO:Hid (R ≠ W.heap.size/\ ∀ k,XW v0 v1 v2 v3 v4 qs k->k ≠ W.heap.size):=Z9 ⟨by have:=K.blk.lt;omega,fun k e=>by have:=(K.full.own e).2;omega⟩
 replace K:=K.next hba
 clear hba
 go_enter_defers Tryz.func139,Tryz.ntmps139
 go_wp2_with fail
 generalize W.alloc (.cells #[.nilIface] 97)=W1 at *
 generalize W.heap.size=bw at *
 have KY:Ny (fun k t cs=>k=bw/\t=97/\cs=#[.nilIface]) w W1 R v0 v1 v2 v3 v4 m qs:=⟨K,fun k t cs hF=>by obtain ⟨rfl,rfl,rfl⟩:=hF;exact ⟨uh kw,(uh HO).1.symm,fun e=>(uh HO).2 _ e rfl⟩⟩
 refine (It KY (uh HE) (uh HM) h0 h1).mono ?_
 rintro e w1 ⟨hb,hF,h9⟩
 have kw1:=hF bw _ _ ⟨rfl,rfl,rfl⟩
 have c9:=kw1.cell (i:=0) (v:= .nilIface) rfl
 have f9:=kw1.free 0
 have Hb:=Z9 hb
 clear hF kw KY K hc HO hb h0 h1
 rcases h9 with ⟨hc0,rfl,u0,u1,u2,u3,u4,rs,KN⟩ | ⟨hc0,rfl⟩
 ·obtain ⟨_,hnR,hnO⟩:=KN.fx bw _ _ ⟨rfl,rfl,rfl⟩
  have HK:Hid (Nx w (w1.setCell ⟨bw,0,none⟩ .nilIface) R u0 u1 u2 u3 u4 (V9 m who may) rs):=Z9 ⟨KN.full.set_off (fun k e e2=>hnO (by rw [<-e2];exact e)) _ _,KN.blk.other (a:=⟨bw,0,none⟩) (fun e=>hnR e.symm) _,KN.nx.own,KN.bb.setCell (p:=⟨bw,0,none⟩) hsz _,KN.nx.hR⟩
  clear KN hnR hnO kw1
  go_wp2_with fail
  refine leaves_cons (f:=140) (args:=#[.pointer (some ⟨bw,0,none⟩)]) (by simp) (by simp [go_sem]) ?_
  refine (UO ⟨bw,0,none⟩ _).mono ?_
  rintro e u' w'' ⟨rfl,rfl,rfl⟩
  have c8:(w1.setCell ⟨bw,0,none⟩ .nilIface).cell? ⟨bw,0,none⟩=some .nilIface:=by simp [c9,f9,go_sem]
  have hfin:Chg w R q (V9 m who may) (YA m who may) (.returned .nilIface) (w1.setCell ⟨bw,0,none⟩ .nilIface):=⟨(uh HK).bb,.inl ⟨hc0,rfl,u0,u1,u2,u3,u4,rs,uh HK⟩⟩
  simp [Leaves,settle,results,Tryz.results139,go_sem,c8,hfin]
 ·have hfin:Chg w R q (V9 m who may) (YA m who may) (.returned (Zv (q (YA m who may)))) (w1.setCell ⟨bw,0,none⟩ (Zv (q (YA m who may)))):=⟨(uh Hb).setCell (p:=⟨bw,0,none⟩) hsz _,.inr ⟨hc0,rfl⟩⟩
  have HC8:=Z9 (Ue bw (q (YA m who may)) w1 c9 f9)
  have c8:(w1.setCell ⟨bw,0,none⟩ (Zv (q (YA m who may)))).cell? ⟨bw,0,none⟩=some (Zv (q (YA m who may))):=by simp [c9,f9,go_sem]
  clear kw1
  go_wp2_with fail
  refine leaves_cons (f:=140) (args:=#[.pointer (some ⟨bw,0,none⟩)]) (by simp) (by simp [go_sem]) ?_
  refine (uh HC8).mono ?_
  rintro e u' w'' ⟨rfl,rfl,rfl⟩
  simp [Leaves,settle,results,Tryz.results139,go_sem,c8,hfin]
theorem II {F:Nat->TypeId->Array Value->Prop} {R:Nat}  {qs:List (Z3 × Value)} {q:Int->Addr} (K:Ny F w W R v0 v1 v2 v3 v4 m qs) (he:Errs w q) (hm:Zo m=true) {who:Int} {k0:Nat} (h0:W.cell? ⟨k0,0,none⟩=some (.int .i64 who)):Calls Tryz.prog 86 #[.pointer (some ⟨R,0,none⟩),.pointer (some ⟨k0,0,none⟩)] W fun e W'=>PChg F w R q (WW m who) (Yi m who) e W':=by
 have HC:=Z9 (F0 K he hm who)
 clear K
 go_enter Tryz.func86,Tryz.ntmps86
 go_wp2_with fail
 refine (uh HC).mono ?_
 rintro e w1 ⟨hb,hF,h9⟩
 clear h0
 rcases h9 with ⟨hc0,rfl,hx⟩ | ⟨hc0,rfl⟩
 ·go_wp2_with fail
  go_end0
  exact ⟨hb,hF,.inl ⟨hc0,rfl,hx⟩⟩
 ·go_wp2_with fail
  exact ⟨rfl,hb,hF,.inr ⟨hc0,rfl⟩⟩
theorem FO {R:Nat}  {qs:List (Z3 × Value)} {q:Int->Addr} (K:Nx w W R v0 v1 v2 v3 v4 m qs) (he:Errs w q) (hm:Zo m=true) {who:Int} {cb k0:Nat} (hc:W.cell? ⟨cb,0,none⟩=some (.func (Fn.func 86) #[] #[.pointer (some ⟨k0,0,none⟩)])) (h0:W.cell? ⟨k0,0,none⟩=some (.int .i64 who)):Calls Tryz.prog 139 #[.pointer (some ⟨R,0,none⟩),.pointer (some ⟨cb,0,none⟩)] W fun e W'=>Chg w R q (WW m who) (Yi m who) e W':=by
 have hmf:∀ (fn:Fn) (first cap:Array Value) (w:World),(Instr.makeFunc fn first cap).run Tryz.prog w= .ok (.func fn first cap) w:=fun _ _ _ _=>rfl
 have HE:=Z9 he
 have HM:=Z9 hm
 have hRl:=K.hR
 clear he hm
 have hba:Below W.heap.size W (W.alloc (.cells #[.nilIface] 97)):=(Below.refl _ _).alloc (Nat.le_refl _) _
 have kw:Hid (Blk (W.alloc (.cells #[.nilIface] 97)) W.heap.size 97 #[.nilIface]):=Z9 (Blk.new _ _ _)
 replace hc:=(hba.cell (World.block_lt_of_cell? _ _ hc)).trans hc
 replace h0:=(hba.cell (World.block_lt_of_cell? _ _ h0)).trans h0
 have hsz:w.heap.size<=W.heap.size:=K.bb.size
 have HO:Hid (R ≠ W.heap.size/\ ∀ k,XW v0 v1 v2 v3 v4 qs k->k ≠ W.heap.size):=Z9 ⟨by have:=K.blk.lt;omega,fun k e=>by have:=(K.full.own e).2;omega⟩
 replace K:=K.next hba
 clear hba
 go_enter_defers Tryz.func139,Tryz.ntmps139
 go_wp2_with fail
 generalize W.alloc (.cells #[.nilIface] 97)=W1 at *
 generalize W.heap.size=bw at *
 have KY:Ny (fun k t cs=>k=bw/\t=97/\cs=#[.nilIface]) w W1 R v0 v1 v2 v3 v4 m qs:=⟨K,fun k t cs hF=>by obtain ⟨rfl,rfl,rfl⟩:=hF;exact ⟨uh kw,(uh HO).1.symm,fun e=>(uh HO).2 _ e rfl⟩⟩
 refine (II KY (uh HE) (uh HM) h0).mono ?_
 rintro e w1 ⟨hb,hF,h9⟩
 have kw1:=hF bw _ _ ⟨rfl,rfl,rfl⟩
 have c9:=kw1.cell (i:=0) (v:= .nilIface) rfl
 have f9:=kw1.free 0
 have Hb:=Z9 hb
 clear hF kw KY K hc HO hb h0
 rcases h9 with ⟨hc0,rfl,u0,u1,u2,u3,u4,rs,KN⟩ | ⟨hc0,rfl⟩
 ·obtain ⟨_,hnR,hnO⟩:=KN.fx bw _ _ ⟨rfl,rfl,rfl⟩
  have HK:Hid (Nx w (w1.setCell ⟨bw,0,none⟩ .nilIface) R u0 u1 u2 u3 u4 (WW m who) rs):=Z9 ⟨KN.full.set_off (fun k e e2=>hnO (by rw [<-e2];exact e)) _ _,KN.blk.other (a:=⟨bw,0,none⟩) (fun e=>hnR e.symm) _,KN.nx.own,KN.bb.setCell (p:=⟨bw,0,none⟩) hsz _,KN.nx.hR⟩
  clear KN hnR hnO kw1
  go_wp2_with fail
  refine leaves_cons (f:=140) (args:=#[.pointer (some ⟨bw,0,none⟩)]) (by simp) (by simp [go_sem]) ?_
  refine (UO ⟨bw,0,none⟩ _).mono ?_
  rintro e u' w'' ⟨rfl,rfl,rfl⟩
  have c8:(w1.setCell ⟨bw,0,none⟩ .nilIface).cell? ⟨bw,0,none⟩=some .nilIface:=by simp [c9,f9,go_sem]
  have hfin:Chg w R q (WW m who) (Yi m who) (.returned .nilIface) (w1.setCell ⟨bw,0,none⟩ .nilIface):=⟨(uh HK).bb,.inl ⟨hc0,rfl,u0,u1,u2,u3,u4,rs,uh HK⟩⟩
  simp [Leaves,settle,results,Tryz.results139,go_sem,c8,hfin]
 ·have hfin:Chg w R q (WW m who) (Yi m who) (.returned (Zv (q (Yi m who)))) (w1.setCell ⟨bw,0,none⟩ (Zv (q (Yi m who)))):=⟨(uh Hb).setCell (p:=⟨bw,0,none⟩) hsz _,.inr ⟨hc0,rfl⟩⟩
  have HC8:=Z9 (Ue bw (q (Yi m who)) w1 c9 f9)
  have c8:(w1.setCell ⟨bw,0,none⟩ (Zv (q (Yi m who)))).cell? ⟨bw,0,none⟩=some (Zv (q (Yi m who))):=by simp [c9,f9,go_sem]
  clear kw1
  go_wp2_with fail
  refine leaves_cons (f:=140) (args:=#[.pointer (some ⟨bw,0,none⟩)]) (by simp) (by simp [go_sem]) ?_
  refine (uh HC8).mono ?_
  rintro e u' w'' ⟨rfl,rfl,rfl⟩
  simp [Leaves,settle,results,Tryz.results139,go_sem,c8,hfin]
theorem O6  {q:Int->Addr} (who may:Int) (he:Errs w q) (h:Smy w v0 v1 v2 v3 v4 m):Calls Tryz.prog 17 #[.agg #[v0,v1,v2,v3,v4,.int .i64 m.now],.int .i64 who,.int .i64 may] w fun e w'=>Uz w.heap.size (YD m who may).1 (YD m who may).2 e w'/\Below w.heap.size w w':=by
 have HE:=Z9 he
 clear he
 obtain ⟨a0,p0,a1,p1,a2,p2,a3,p3,a4,p4,rfl,rfl,rfl,rfl,rfl,K⟩:=Bx.new h
 clear h
 replace K:=K.alloc (.cells #[.int .i64 who] 2)
 replace K:=K.alloc (.cells #[.int .i64 may] 2)
 replace K:=K.alloc (.cells #[.slice none 0 0,.slice none 0 0,.slice none 0 0,.slice none 0 0,.slice none 0 0,.int .i64 0] 32)
 have kc0:Hid (Blk ((((w.alloc (.cells #[.slice a0 m.rooms.length p0,.slice a1 m.guilds.length p1,.slice a2 m.smiths.length p2,.slice a3 m.desks.length p3,.slice a4 m.paces.length p4,.int .i64 m.now] 32)).alloc (.cells #[.int .i64 who] 2)).alloc (.cells #[.int .i64 may] 2)).alloc (.cells #[.slice none 0 0,.slice none 0 0,.slice none 0 0,.slice none 0 0,.slice none 0 0,.int .i64 0] 32)) (w.heap.size+1) 2 #[.int .i64 who]):=Z9 (by
  have k:=Blk.new (w.alloc (.cells #[.slice a0 m.rooms.length p0,.slice a1 m.guilds.length p1,.slice a2 m.smiths.length p2,.slice a3 m.desks.length p3,.slice a4 m.paces.length p4,.int .i64 m.now] 32)) 2 #[.int .i64 who]
  rw [World.size_alloc] at k
  exact (k.alloc _).alloc _)
 have kc1:Hid (Blk ((((w.alloc (.cells #[.slice a0 m.rooms.length p0,.slice a1 m.guilds.length p1,.slice a2 m.smiths.length p2,.slice a3 m.desks.length p3,.slice a4 m.paces.length p4,.int .i64 m.now] 32)).alloc (.cells #[.int .i64 who] 2)).alloc (.cells #[.int .i64 may] 2)).alloc (.cells #[.slice none 0 0,.slice none 0 0,.slice none 0 0,.slice none 0 0,.slice none 0 0,.int .i64 0] 32)) (w.heap.size+1+1) 2 #[.int .i64 may]):=Z9 (by
  have k:=Blk.new ((w.alloc (.cells #[.slice a0 m.rooms.length p0,.slice a1 m.guilds.length p1,.slice a2 m.smiths.length p2,.slice a3 m.desks.length p3,.slice a4 m.paces.length p4,.int .i64 m.now] 32)).alloc (.cells #[.int .i64 who] 2)) 2 #[.int .i64 may]
  rw [World.size_alloc,World.size_alloc] at k
  exact k.alloc _)
 have kr:Hid (Blk ((((w.alloc (.cells #[.slice a0 m.rooms.length p0,.slice a1 m.guilds.length p1,.slice a2 m.smiths.length p2,.slice a3 m.desks.length p3,.slice a4 m.paces.length p4,.int .i64 m.now] 32)).alloc (.cells #[.int .i64 who] 2)).alloc (.cells #[.int .i64 may] 2)).alloc (.cells #[.slice none 0 0,.slice none 0 0,.slice none 0 0,.slice none 0 0,.slice none 0 0,.int .i64 0] 32)) (w.heap.size+1+1+1) 32 #[.slice none 0 0,.slice none 0 0,.slice none 0 0,.slice none 0 0,.slice none 0 0,.int .i64 0]):=Z9 (by
  have k:=Blk.new (((w.alloc (.cells #[.slice a0 m.rooms.length p0,.slice a1 m.guilds.length p1,.slice a2 m.smiths.length p2,.slice a3 m.desks.length p3,.slice a4 m.paces.length p4,.int .i64 m.now] 32)).alloc (.cells #[.int .i64 who] 2)).alloc (.cells #[.int .i64 may] 2)) 32 #[.slice none 0 0,.slice none 0 0,.slice none 0 0,.slice none 0 0,.slice none 0 0,.int .i64 0]
  rw [World.size_alloc,World.size_alloc,World.size_alloc] at k
  exact k)
 replace HE:=Z9 ((uh HE).below K.bb)
 have hsz:((((w.alloc (.cells #[.slice a0 m.rooms.length p0,.slice a1 m.guilds.length p1,.slice a2 m.smiths.length p2,.slice a3 m.desks.length p3,.slice a4 m.paces.length p4,.int .i64 m.now] 32)).alloc (.cells #[.int .i64 who] 2)).alloc (.cells #[.int .i64 may] 2)).alloc (.cells #[.slice none 0 0,.slice none 0 0,.slice none 0 0,.slice none 0 0,.slice none 0 0,.int .i64 0] 32)).heap.size=(w.heap.size+1+1+1+1):=by simp
 obtain ⟨⟨M,cd⟩,hD⟩:∃ D,Wb m (V9 m who may) (YA m who may)=D:=⟨_,rfl⟩
 rw [Cv,hD]
 have HD:=Z9 hD
 clear hD
 go_enter Tryz.func17,Tryz.ntmps17
 go_upto_region 1 with fail
 generalize ((((w.alloc (.cells #[.slice a0 m.rooms.length p0,.slice a1 m.guilds.length p1,.slice a2 m.smiths.length p2,.slice a3 m.desks.length p3,.slice a4 m.paces.length p4,.int .i64 m.now] 32)).alloc (.cells #[.int .i64 who] 2)).alloc (.cells #[.int .i64 may] 2)).alloc (.cells #[.slice none 0 0,.slice none 0 0,.slice none 0 0,.slice none 0 0,.slice none 0 0,.int .i64 0] 32))=W1 at *
 obtain ⟨c0,c1,c2,c3,c4,c5⟩:=K.cells
 go_wp2_with fail
 refine (WJ (X:=V9 m who may) (c:=YA m who may) (uh HE) K.smy (fun cb w1 W R v0 v1 v2 v3 v4 rs h0 h1 h2 h3=>FN h3 ((uh HE).below h0) h2 ((h3.bb.cell (World.block_lt_of_cell? _ _ h1)).trans h1) (h3.bb.cell (World.block_lt_of_cell? _ _ (((uh kc0).below h0 (uh kc0).lt).cell (i:=0) (v:= .int .i64 who) rfl)) |>.trans (((uh kc0).below h0 (uh kc0).lt).cell (i:=0) rfl)) (h3.bb.cell (World.block_lt_of_cell? _ _ (((uh kc1).below h0 (uh kc1).lt).cell (i:=0) (v:= .int .i64 may) rfl)) |>.trans (((uh kc1).below h0 (uh kc1).lt).cell (i:=0) rfl)))).mono ?_
 rintro e w2 ⟨⟨u0,u1,u2,u3,u4,rs,he9,hf⟩,hb⟩
 rw [uh HD] at he9 hf
 simp only at he9 hf
 subst he9
 have HF:=Z9 hf
 clear hf c0 c1 c2 c3 c4 c5
 replace K:=K.next hb
 replace kr:=bl kr hb
 clear hb
 obtain ⟨e0,g0,e1,g1,e2,g2,e3,g3,e4,g4,rfl,rfl,rfl,rfl,rfl⟩:=YQ (uh HF)
 obtain ⟨o0,o1,o2,o3,o4,o5⟩:=(uh kr).c6
 obtain ⟨f0,f1,f2,f3,f4,f5⟩:=(uh kr).f6
 go_wp2_with fail
 refine bodyPost_ret (v:= .tuple #[.agg #[.slice e0 M.rooms.length g0,.slice e1 M.guilds.length g1,.slice e2 M.smiths.length g2,.slice e3 M.desks.length g3,.slice e4 M.paces.length g4,.int .i64 M.now],.int .i64 cd]) (by simp [results,Tryz.results17,go_sem, *]) rfl ⟨?_,?_⟩
 ·refine ⟨_,_,_,_,_,rs,rfl,?_⟩
  refine FullSmy.mono (n₀:=(w.heap.size+1+1+1+1)) ?_ (by omega)
  iterate 6 (refine FullSmy.set_off ?_ (fun k e=>by have:=((uh HF).own e).1;omega) _ _)
  exact (uh HF).mono (Nat.le_of_eq hsz.symm)
 ·iterate 6 (refine Below.setCell ?_ (by show _<=w.heap.size+1+1+1;omega) _)
  exact K.bb
theorem NA  {q:Int->Addr} (who:Int) (he:Errs w q) (h:Smy w v0 v1 v2 v3 v4 m):Calls Tryz.prog 27 #[.agg #[v0,v1,v2,v3,v4,.int .i64 m.now],.int .i64 who] w fun e w'=>Uz w.heap.size (Y0 m who).1 (Y0 m who).2 e w'/\Below w.heap.size w w':=by
 have HE:=Z9 he
 clear he
 obtain ⟨a0,p0,a1,p1,a2,p2,a3,p3,a4,p4,rfl,rfl,rfl,rfl,rfl,K⟩:=Bx.new h
 clear h
 replace K:=K.alloc (.cells #[.int .i64 who] 2)
 replace K:=K.alloc (.cells #[.slice none 0 0,.slice none 0 0,.slice none 0 0,.slice none 0 0,.slice none 0 0,.int .i64 0] 32)
 have kc0:Hid (Blk (((w.alloc (.cells #[.slice a0 m.rooms.length p0,.slice a1 m.guilds.length p1,.slice a2 m.smiths.length p2,.slice a3 m.desks.length p3,.slice a4 m.paces.length p4,.int .i64 m.now] 32)).alloc (.cells #[.int .i64 who] 2)).alloc (.cells #[.slice none 0 0,.slice none 0 0,.slice none 0 0,.slice none 0 0,.slice none 0 0,.int .i64 0] 32)) (w.heap.size+1) 2 #[.int .i64 who]):=Z9 (by
  have k:=Blk.new (w.alloc (.cells #[.slice a0 m.rooms.length p0,.slice a1 m.guilds.length p1,.slice a2 m.smiths.length p2,.slice a3 m.desks.length p3,.slice a4 m.paces.length p4,.int .i64 m.now] 32)) 2 #[.int .i64 who]
  rw [World.size_alloc] at k
  exact k.alloc _)
 have kr:Hid (Blk (((w.alloc (.cells #[.slice a0 m.rooms.length p0,.slice a1 m.guilds.length p1,.slice a2 m.smiths.length p2,.slice a3 m.desks.length p3,.slice a4 m.paces.length p4,.int .i64 m.now] 32)).alloc (.cells #[.int .i64 who] 2)).alloc (.cells #[.slice none 0 0,.slice none 0 0,.slice none 0 0,.slice none 0 0,.slice none 0 0,.int .i64 0] 32)) (w.heap.size+1+1) 32 #[.slice none 0 0,.slice none 0 0,.slice none 0 0,.slice none 0 0,.slice none 0 0,.int .i64 0]):=Z9 (by
  have k:=Blk.new ((w.alloc (.cells #[.slice a0 m.rooms.length p0,.slice a1 m.guilds.length p1,.slice a2 m.smiths.length p2,.slice a3 m.desks.length p3,.slice a4 m.paces.length p4,.int .i64 m.now] 32)).alloc (.cells #[.int .i64 who] 2)) 32 #[.slice none 0 0,.slice none 0 0,.slice none 0 0,.slice none 0 0,.slice none 0 0,.int .i64 0]
  rw [World.size_alloc,World.size_alloc] at k
  exact k)
 replace HE:=Z9 ((uh HE).below K.bb)
 have hsz:(((w.alloc (.cells #[.slice a0 m.rooms.length p0,.slice a1 m.guilds.length p1,.slice a2 m.smiths.length p2,.slice a3 m.desks.length p3,.slice a4 m.paces.length p4,.int .i64 m.now] 32)).alloc (.cells #[.int .i64 who] 2)).alloc (.cells #[.slice none 0 0,.slice none 0 0,.slice none 0 0,.slice none 0 0,.slice none 0 0,.int .i64 0] 32)).heap.size=(w.heap.size+1+1+1):=by simp
 obtain ⟨⟨M,cd⟩,hD⟩:∃ D,Wb m (WW m who) (Yi m who)=D:=⟨_,rfl⟩
 rw [Ef,hD]
 have HD:=Z9 hD
 clear hD
 go_enter Tryz.func27,Tryz.ntmps27
 go_upto_region 1 with fail
 generalize (((w.alloc (.cells #[.slice a0 m.rooms.length p0,.slice a1 m.guilds.length p1,.slice a2 m.smiths.length p2,.slice a3 m.desks.length p3,.slice a4 m.paces.length p4,.int .i64 m.now] 32)).alloc (.cells #[.int .i64 who] 2)).alloc (.cells #[.slice none 0 0,.slice none 0 0,.slice none 0 0,.slice none 0 0,.slice none 0 0,.int .i64 0] 32))=W1 at *
 obtain ⟨c0,c1,c2,c3,c4,c5⟩:=K.cells
 go_wp2_with fail
 refine (WJ (X:=WW m who) (c:=Yi m who) (uh HE) K.smy (fun cb w1 W R v0 v1 v2 v3 v4 rs h0 h1 h2 h3=>FO h3 ((uh HE).below h0) h2 ((h3.bb.cell (World.block_lt_of_cell? _ _ h1)).trans h1) (h3.bb.cell (World.block_lt_of_cell? _ _ (((uh kc0).below h0 (uh kc0).lt).cell (i:=0) (v:= .int .i64 who) rfl)) |>.trans (((uh kc0).below h0 (uh kc0).lt).cell (i:=0) rfl)))).mono ?_
 rintro e w2 ⟨⟨u0,u1,u2,u3,u4,rs,he9,hf⟩,hb⟩
 rw [uh HD] at he9 hf
 simp only at he9 hf
 subst he9
 have HF:=Z9 hf
 clear hf c0 c1 c2 c3 c4 c5
 replace K:=K.next hb
 replace kr:=bl kr hb
 clear hb
 obtain ⟨e0,g0,e1,g1,e2,g2,e3,g3,e4,g4,rfl,rfl,rfl,rfl,rfl⟩:=YQ (uh HF)
 obtain ⟨o0,o1,o2,o3,o4,o5⟩:=(uh kr).c6
 obtain ⟨f0,f1,f2,f3,f4,f5⟩:=(uh kr).f6
 go_wp2_with fail
 refine bodyPost_ret (v:= .tuple #[.agg #[.slice e0 M.rooms.length g0,.slice e1 M.guilds.length g1,.slice e2 M.smiths.length g2,.slice e3 M.desks.length g3,.slice e4 M.paces.length g4,.int .i64 M.now],.int .i64 cd]) (by simp [results,Tryz.results27,go_sem, *]) rfl ⟨?_,?_⟩
 ·refine ⟨_,_,_,_,_,rs,rfl,?_⟩
  refine FullSmy.mono (n₀:=(w.heap.size+1+1+1)) ?_ (by omega)
  iterate 6 (refine FullSmy.set_off ?_ (fun k e=>by have:=((uh HF).own e).1;omega) _ _)
  exact (uh HF).mono (Nat.le_of_eq hsz.symm)
 ·iterate 6 (refine Below.setCell ?_ (by show _<=w.heap.size+1+1;omega) _)
  exact K.bb
open Go.ChangeShapes Go.WideShapes Go.ChangeAt Go.RowKit Go.Sort
theorem VI (h:Zo m=true):YT m:=by
 have hf:=TH (Ze h)
 have h1:=hf.rooms
 have h2:=hf.guilds
 have h3:=hf.smiths
 have h4:=hf.desks
 have h5:=hf.nums
 exact ⟨⟨by omega,fun j hj=>by have:=hf.paces _ (RM hj);omega⟩,by omega,by omega,by omega,by omega⟩
theorem U6:YT WV:=⟨⟨by simp [WV],fun j hj=>by simp [WV] at hj⟩,by simp [WV],by simp [WV],by simp [WV],by simp [WV]⟩
theorem Jn (m:Z4) (who lo hi:Int):YT (Yj m who lo hi).1:=by
 cases h:Zo m
 ·unfold Yj;rw [h];exact U6
 ·exact VI (Jm h who lo hi)
theorem GU (m:Z4) (who rank:Int):YT (Yk m who rank).1:=by
 cases h:Zo m
 ·unfold Yk;rw [h];exact U6
 ·exact VI (GS h who rank)
theorem Is (m:Z4) (who may:Int):YT (YD m who may).1:=by
 cases h:Zo m
 ·unfold YD;rw [h];exact U6
 ·exact VI (Ir h who may)
theorem EE (h:Loose m):m.paces.length=m.rooms.length:=by
 have hd:=h.head
 unfold Yc at hd
 simp only [Bool.and_eq_true,decide_eq_true_eq] at hd
 exact hd.2.2.2.2.1
theorem Cc {g:Nat} {zs:List Int} (h:∀ j,j<zs.length-> ∀ i u,(Vq (Z8 zs j))[i]?=some u->w.cell? ⟨g,j*1+i,none⟩=some u) {j:Nat} (hj:j<zs.length):w.cell? ⟨g,j,none⟩=some (.int .i64 (Z8 zs j)):=by
 have:=h j hj 0 _ rfl
 simpa using this
theorem IF {who:Int} (h:XZ m=true\/(XZ m=false/\(Zp m who).length=0)):Zn m who=(Zc m who m.desks.length).1:=by
 unfold Zn
 rcases h with e | ⟨e,e'⟩
 ·rw [e];rfl
 ·rw [e,e'];rfl
theorem IE {who:Int} (h:XZ m=false) (h':0<(Zp m who).length):Zn m who=(XY m who (Zp m who) (Zp m who).length).1:=by
 unfold Zn
 rw [h,decide_eq_true h'];rfl
theorem GA {who:Int} {k:Nat} (hm:YO m who k=true) (h:(Zc m who k).1<0\/(Zc m who k).2<Yt (ZB m k who) (YP m.rooms k)):Zc m who (k+1)=((k:Int),Yt (ZB m k who) (YP m.rooms k)):=by
 show (if _ then _ else _)=_
 rw [hm]
 rcases h with h | h
 ·rw [decide_eq_true h];rfl
 ·rw [decide_eq_true h,Bool.or_true];rfl
theorem Ew {who:Int} {k:Nat} (h:YO m who k=false\/(¬ (Zc m who k).1<0/\ ¬ (Zc m who k).2<Yt (ZB m k who) (YP m.rooms k))):Zc m who (k+1)=Zc m who k:=by
 show (if _ then _ else _)=_
 rcases h with h | ⟨h,h'⟩
 ·rw [h];rfl
 ·rw [decide_eq_false h,decide_eq_false h',Bool.or_false,Bool.and_false];rfl
theorem Ng {who:Int} {f:List Int} : XY m who f 1=(Z8 f 0,ZD m who (Z8 f 0)):=by
 cases f<;>rfl
theorem Pu {who:Int} {f:List Int} {k:Nat} (h1:1<=k) (hk:k<f.length):XY m who f (k+1)=Yu m who (XY m who f k) (Z8 f k):=by
 unfold XY
 have e:f.take (k+1)=f.take k++[Z8 f k]:=by
  rw [List.take_add_one,List.getElem?_eq_getElem hk,Uq hk];rfl
 rw [e,List.drop_append_of_le_length (by simp;omega),List.foldl_append]
 rfl
theorem FT {who:Nat} {f:List Int} {k:Nat} (h1:1<=k) (hk:k<f.length) (h:ZD m (who:Int) (Z8 f k)<(XY m (who:Int) f k).2\/(ZD m (who:Int) (Z8 f k)=(XY m (who:Int) f k).2/\Z8 f k=(Z8 m.smiths who).2.1)):XY m (who:Int) f (k+1)=(Z8 f k,ZD m (who:Int) (Z8 f k)):=by
 rw [Pu h1 hk]
 unfold Yu
 exact if_pos h
theorem Ec {who:Nat} {f:List Int} {k:Nat} (h1:1<=k) (hk:k<f.length) (h:¬ (ZD m (who:Int) (Z8 f k)<(XY m (who:Int) f k).2\/(ZD m (who:Int) (Z8 f k)=(XY m (who:Int) f k).2/\Z8 f k=(Z8 m.smiths who).2.1))):XY m (who:Int) f (k+1)=XY m (who:Int) f k:=by
 rw [Pu h1 hk]
 unfold Yu
 exact if_neg h
theorem UD  {who:Nat} (h:Smy w v0 v1 v2 v3 v4 m) (hS:Sane m) (hp:m.paces.length<=1000) (hA:Qz m who) :
  Calls Tryz.prog 79 #[.agg #[v0,v1,v2,v3,v4,.int .i64 m.now],.int .i64 (who:Int)] w fun e w'=>e= .returned (.int .i64 (Zn m (who:Int)))/\Below w.heap.size w w':=by
 have Hv:=Z9 (h.alloc (.cells #[v0,v1,v2,v3,v4,.int .i64 m.now] 32))
 obtain ⟨a0,p0,a1,p1,a2,p2,a3,p3,a4,p4,rfl,rfl,rfl,rfl,rfl,_,_,_,_,_,_,_,_,_,_⟩:=h.five
 clear h
 obtain ⟨BB0,kb0⟩:=VD w 32 (S6 a0 p0 a1 p1 a2 p2 a3 p3 a4 p4 m)
 have HS:=Z9 hS
 have HA:=Z9 hA
 have HP:=Z9 hp
 have h8:=hS.eight
 clear hS hA hp
 obtain ⟨c0,c1,c2,c3,c4,c5⟩:=(uh kb0).c6
 have hX:(XZ m=true\/(XZ m=false/\(Zp m (who:Int)).length=0))\/(XZ m=false/\0<(Zp m (who:Int)).length):=by
  cases XZ m
  ·by_cases h0:(Zp m (who:Int)).length=0
   ·exact .inl (.inr ⟨rfl,h0⟩)
   ·exact .inr ⟨rfl,by omega⟩
  ·exact .inl (.inl rfl)
 rcases hX with hX | ⟨hcr,hle⟩
 ·rw [IF hX]
  rcases hX with hcr | ⟨hcr,hle⟩
  all_goals
   go_enter Tryz.func79,Tryz.ntmps79
   go_wp2_with (first | (go_at_call 156;refine (SQ (uh Hv) (uh HS) (uh HA)).mono ?_;rintro e w1 ⟨fv,rfl,hf1,hb1⟩;obtain ⟨la,lc,rfl⟩:=RecAt.shape hf1;have HF:=Z9 hf1;have B1:=Z9 hb1;have kb1:=Z9 ((uh kb0).below hb1 (uh kb0).lt);have Hv1:=Z9 ((uh Hv).below hb1);have BB1:=Z9 ((uh BB0).trans (hb1.mono (uh BB0).size));clear hf1 hb1 kb0 Hv BB0 B1 c0 c1 c2 c3 c4 c5;have d0:=(uh kb1).cell (i:=0) (v:= .slice a0 m.rooms.length p0) rfl;have d1:=(uh kb1).cell (i:=1) (v:= .slice a1 m.guilds.length p1) rfl;have d2:=(uh kb1).cell (i:=2) (v:= .slice a2 m.smiths.length p2) rfl;have d3:=(uh kb1).cell (i:=3) (v:= .slice a3 m.desks.length p3) rfl;have d4:=(uh kb1).cell (i:=4) (v:= .slice a4 m.paces.length p4) rfl;have d5:=(uh kb1).cell (i:=5) (v:= .int .i64 m.now) rfl) | (go_at_call 157;refine (SP (uh Hv1) (uh HS)).mono ?_;rintro e w2 ⟨he,hb2⟩;rw [hcr] at he;subst he;have B2:=Z9 hb2;clear hb2) | fail)
   have kb2:=Z9 ((uh kb1).below (uh B2) (uh kb1).lt)
   have Hv2:=Z9 ((uh Hv1).below (uh B2))
   have BB2:=Z9 ((uh BB1).trans ((uh B2).mono (uh BB1).size))
   clear kb1 Hv1 BB1 B2 d0 d1 d2 d3 d4 d5 HF
   go_loopw [10,11,12] (fun bv mv i wr=> ∃ k:Nat,k<=m.desks.length/\bv= .int .i64 (Zc m (who:Int) k).1/\mv= .int .i64 (Zc m (who:Int) k).2/\i= .int .i64 k/\Blk wr w.heap.size 32 #[.slice a0 m.rooms.length p0,.slice a1 m.guilds.length p1,.slice a2 m.smiths.length p2,.slice a3 m.desks.length p3,.slice a4 m.paces.length p4,.int .i64 m.now]/\Smy wr (.slice a0 m.rooms.length p0) (.slice a1 m.guilds.length p1) (.slice a2 m.smiths.length p2) (.slice a3 m.desks.length p3) (.slice a4 m.paces.length p4) m/\Below w.heap.size w wr) (fun _ _ i _=>m.desks.length-(intOf i).toNat)
   case atStart=>exact ⟨0,Nat.zero_le _,rfl,rfl,rfl,uh kb2,uh Hv2,uh BB2⟩
   case round=>
    obtain ⟨k,hk,rfl,rfl,rfl,hkb,hv,hb0⟩:=hrel
    have kb:=Z9 hkb
    have Hv3:=Z9 hv
    have BB:=Z9 hb0
    clear hkb hv hb0 kb2 BB2 Hv2
    obtain ⟨e0,e1,e2,e3,e4,e5⟩:=(uh kb).c6
    by_cases hlt:k<m.desks.length
    ·have hlt1:(k:Int)<(m.desks.length:Int):=by omega
     have Hno:=Z9 (fun hh=>Ew (m:=m) (who:=(who:Int)) (k:=k) hh)
     have Hyes:=Z9 (fun ha hh=>GA (m:=m) (who:=(who:Int)) (k:=k) ha hh)
     have hfo:=QS ((uh HS).bench hlt)
     have Hma:=Z9 (fun (W:World) (hW:Below wr.heap.size wr W)=>NY ((uh Hv3).below hW) (uh HA).lt hlt (by omega) (uh HA).y0 (uh HA).y1)
     have Hu:=Z9 (fun (W:World) (hW:Below wr.heap.size wr W)=>UJ (k:Int) (who:Int) ((uh Hv3).below hW) (uh HS).guilded (by have:=(uh HS).few;omega))
     have Hf:=Z9 (fun (W:World) (hW:Below wr.heap.size wr W)=>SR (k:Int) ((uh Hv3).below hW).rooms ((uh HS).bench hlt))
     rw [<-hfo] at Hf
     clear hfo
     have Ht:=Z9 (fun (W:World)=>Calls.same_below (Pp (ZB m (k:Int) (who:Int)) (YP m.rooms (k:Int)) W))
     generalize YO m (who:Int) k=ma at *
     generalize ZB m (k:Int) (who:Int)=us at *
     generalize YP m.rooms (k:Int)=fo at *
     generalize Yt us fo=sp at *
     obtain ⟨bt,hbt⟩:∃ q,(Zc m (who:Int) k).1=q:=⟨_,rfl⟩
     obtain ⟨mt,hmt⟩:∃ q,(Zc m (who:Int) k).2=q:=⟨_,rfl⟩
     rw [hbt,hmt] at Hno Hyes
     rw [hbt,hmt]
     have Hbt:=Z9 hbt
     have Hmt:=Z9 hmt
     clear hbt hmt
     have y0:=cell_regrown e0
     have y1:=cell_regrown e1
     have y2:=cell_regrown e2
     have y3:=cell_regrown e3
     have y4:=cell_regrown e4
     have y5:=cell_regrown e5
     cases ma
     ·go_wp2_with fail
      refine wp_region_quiet_below (by kernel_rfl) (by kernel_rfl) ?_
      repeat (go_big_quiet_step (first | exact Calls.regrown_of (uh Hu _ (below_regrown _ _ _)) | exact Calls.regrown_of (uh Hf _ (below_regrown _ _ _)) | exact Calls.regrown_of (uh Ht _)))
      refine wpQuiet_nil ?_
      intro _ hw'
      obtain ⟨⟨dq,osq⟩,hw''⟩:=hw'
      subst hw''
      go_wp2_with (go_at_call 162;refine (uh Hma _ (below_regrown _ _ _)).mono ?_;rintro e w5 ⟨rfl,hb5⟩;have HX:=Z9 ((below_regrown wr dq osq).trans (hb5.mono (below_regrown _ _ _).size));clear hb5)
      go_roundw
      case rel=>exact ⟨k+1,by omega,by rw [uh Hno (.inl (by simp)),uh Hbt],by rw [uh Hno (.inl (by simp)),uh Hmt],by go_num,(uh kb).below (uh HX) (uh kb).lt,(uh Hv3).below (uh HX),(uh BB).trans ((uh HX).mono (uh BB).size)⟩
      case measure=>simp [intOf];omega
     by_cases hb1:bt<0
     ·go_wp2_with fail
      refine wp_region_quiet_below (by kernel_rfl) (by kernel_rfl) ?_
      repeat (go_big_quiet_step (first | exact Calls.regrown_of (uh Hu _ (below_regrown _ _ _)) | exact Calls.regrown_of (uh Hf _ (below_regrown _ _ _)) | exact Calls.regrown_of (uh Ht _)))
      refine wpQuiet_nil ?_
      intro _ hw'
      obtain ⟨⟨dq,osq⟩,hw''⟩:=hw'
      subst hw''
      go_wp2_with (go_at_call 162;refine (uh Hma _ (below_regrown _ _ _)).mono ?_;rintro e w5 ⟨rfl,hb5⟩;have HX:=Z9 ((below_regrown wr dq osq).trans (hb5.mono (below_regrown _ _ _).size));clear hb5)
      go_roundw
      case rel=>exact ⟨k+1,by omega,by rw [uh Hyes (by simp) (.inl hb1)],by rw [uh Hyes (by simp) (.inl hb1)],by go_num,(uh kb).below (uh HX) (uh kb).lt,(uh Hv3).below (uh HX),(uh BB).trans ((uh HX).mono (uh BB).size)⟩
      case measure=>simp [intOf];omega
     by_cases hb2:mt<sp
     ·go_wp2_with fail
      refine wp_region_quiet_below (by kernel_rfl) (by kernel_rfl) ?_
      repeat (go_big_quiet_step (first | exact Calls.regrown_of (uh Hu _ (below_regrown _ _ _)) | exact Calls.regrown_of (uh Hf _ (below_regrown _ _ _)) | exact Calls.regrown_of (uh Ht _)))
      refine wpQuiet_nil ?_
      intro _ hw'
      obtain ⟨⟨dq,osq⟩,hw''⟩:=hw'
      subst hw''
      go_wp2_with (go_at_call 162;refine (uh Hma _ (below_regrown _ _ _)).mono ?_;rintro e w5 ⟨rfl,hb5⟩;have HX:=Z9 ((below_regrown wr dq osq).trans (hb5.mono (below_regrown _ _ _).size));clear hb5)
      go_roundw
      case rel=>exact ⟨k+1,by omega,by rw [uh Hyes (by simp) (.inr hb2)],by rw [uh Hyes (by simp) (.inr hb2)],by go_num,(uh kb).below (uh HX) (uh kb).lt,(uh Hv3).below (uh HX),(uh BB).trans ((uh HX).mono (uh BB).size)⟩
      case measure=>simp [intOf];omega
     ·go_wp2_with fail
      refine wp_region_quiet_below (by kernel_rfl) (by kernel_rfl) ?_
      repeat (go_big_quiet_step (first | exact Calls.regrown_of (uh Hu _ (below_regrown _ _ _)) | exact Calls.regrown_of (uh Hf _ (below_regrown _ _ _)) | exact Calls.regrown_of (uh Ht _)))
      refine wpQuiet_nil ?_
      intro _ hw'
      obtain ⟨⟨dq,osq⟩,hw''⟩:=hw'
      subst hw''
      go_wp2_with (go_at_call 162;refine (uh Hma _ (below_regrown _ _ _)).mono ?_;rintro e w5 ⟨rfl,hb5⟩;have HX:=Z9 ((below_regrown wr dq osq).trans (hb5.mono (below_regrown _ _ _).size));clear hb5)
      go_roundw
      case rel=>exact ⟨k+1,by omega,by rw [uh Hno (.inr ⟨by omega,by omega⟩),uh Hbt],by rw [uh Hno (.inr ⟨by omega,by omega⟩),uh Hmt],by go_num,(uh kb).below (uh HX) (uh kb).lt,(uh Hv3).below (uh HX),(uh BB).trans ((uh HX).mono (uh BB).size)⟩
      case measure=>simp [intOf];omega
    ·obtain rfl:k=m.desks.length:=by omega
     go_wp2_with fail
     go_ret
     exact ⟨rfl,uh BB⟩
 ·rw [IE hcr hle]
  have hlb:(Zp m (who:Int)).length<=m.desks.length:=P2 m (who:Int) m.desks.length
  generalize hL:Zp m (who:Int)=L at *
  go_enter Tryz.func79,Tryz.ntmps79
  go_wp2_with (first | (go_at_call 156;refine (SQ (uh Hv) (uh HS) (uh HA)).mono ?_;rintro e w1 ⟨fv,rfl,hf1,hb1⟩;rw [hL] at hf1;obtain ⟨la,lc,rfl⟩:=RecAt.shape hf1;obtain ⟨g,rfl,_,g1,hgc,_⟩:=RecAt.view X8 (by omega) hf1 rfl hle;have C1:=Z9 (fun j hj=>Cc hgc (j:=j) hj);have kb1:=Z9 ((uh kb0).below hb1 (uh kb0).lt);have Hv1:=Z9 ((uh Hv).below hb1);have BB1:=Z9 ((uh BB0).trans (hb1.mono (uh BB0).size));clear hf1 hb1 hgc kb0 Hv BB0 c0 c1 c2 c3 c4 c5;have d0:=(uh kb1).cell (i:=0) (v:= .slice a0 m.rooms.length p0) rfl;have d1:=(uh kb1).cell (i:=1) (v:= .slice a1 m.guilds.length p1) rfl;have d2:=(uh kb1).cell (i:=2) (v:= .slice a2 m.smiths.length p2) rfl;have d3:=(uh kb1).cell (i:=3) (v:= .slice a3 m.desks.length p3) rfl;have d4:=(uh kb1).cell (i:=4) (v:= .slice a4 m.paces.length p4) rfl;have d5:=(uh kb1).cell (i:=5) (v:= .int .i64 m.now) rfl) | (go_at_call 157;refine (SP (uh Hv1) (uh HS)).mono ?_;rintro e w2 ⟨he,hb2⟩;rw [hcr] at he;subst he;have kb2:=Z9 ((uh kb1).below hb2 (uh kb1).lt);have Hv2:=Z9 ((uh Hv1).below hb2);have BB2:=Z9 ((uh BB1).trans (hb2.mono (uh BB1).size));have C2:=Z9 (fun j hj=>(hb2.cell (p:=⟨g,j,none⟩) g1).trans (uh C1 j hj));have g2:=Nat.lt_of_lt_of_le g1 hb2.size;clear hb2 kb1 Hv1 BB1 C1 g1 d0 d1 d2 d3 d4 d5;have d0:=(uh kb2).cell (i:=0) (v:= .slice a0 m.rooms.length p0) rfl;have d1:=(uh kb2).cell (i:=1) (v:= .slice a1 m.guilds.length p1) rfl;have d2:=(uh kb2).cell (i:=2) (v:= .slice a2 m.smiths.length p2) rfl;have d3:=(uh kb2).cell (i:=3) (v:= .slice a3 m.desks.length p3) rfl;have d4:=(uh kb2).cell (i:=4) (v:= .slice a4 m.paces.length p4) rfl;have d5:=(uh kb2).cell (i:=5) (v:= .int .i64 m.now) rfl;have x0:=uh C2 0 hle) | (go_at_call 158;refine (PB _ (uh Hv2) (uh HS) (uh HP) (uh HA).lt (uh HA).st).mono ?_;rintro e w3 ⟨rfl,hb3⟩;have B3:=Z9 hb3;clear hb3) | fail)
  have kb3:=Z9 ((uh kb2).below (uh B3) (uh kb2).lt)
  have Hv3:=Z9 ((uh Hv2).below (uh B3))
  have BB3:=Z9 ((uh BB2).trans ((uh B3).mono (uh BB2).size))
  have C3:=Z9 (fun j hj=>((uh B3).cell (p:=⟨g,j,none⟩) g2).trans (uh C2 j hj))
  have g3:=Nat.lt_of_lt_of_le g2 (uh B3).size
  clear kb2 Hv2 BB2 B3 C2 g2 d0 d1 d2 d3 d4 d5 x0
  go_loopw [6,7,8] (fun bv lv i wr=> ∃ k:Nat,1<=k/\k<=L.length/\bv= .int .i64 (XY m (who:Int) L k).1/\lv= .int .i64 (XY m (who:Int) L k).2/\i= .int .i64 k/\(∀ j,j<L.length->wr.cell? ⟨g,j,none⟩=some (.int .i64 (Z8 L j)))/\g<wr.heap.size/\Blk wr w.heap.size 32 #[.slice a0 m.rooms.length p0,.slice a1 m.guilds.length p1,.slice a2 m.smiths.length p2,.slice a3 m.desks.length p3,.slice a4 m.paces.length p4,.int .i64 m.now]/\Smy wr (.slice a0 m.rooms.length p0) (.slice a1 m.guilds.length p1) (.slice a2 m.smiths.length p2) (.slice a3 m.desks.length p3) (.slice a4 m.paces.length p4) m/\Below w.heap.size w wr) (fun _ _ i _=>L.length-(intOf i).toNat)
  case atStart=>exact ⟨1,Nat.le_refl _,by omega,by rw [Ng],by rw [Ng],rfl,uh C3,g3,uh kb3,uh Hv3,uh BB3⟩
  case round=>
   obtain ⟨k,hk1,hk,rfl,rfl,rfl,hc,hg,hkb,hv,hb0⟩:=hrel
   have HC:=Z9 hc
   have kb:=Z9 hkb
   have Hv4:=Z9 hv
   have BB:=Z9 hb0
   clear hkb hv hb0 kb3 BB3 Hv3 hc C3 g3
   obtain ⟨e0,e1,e2,e3,e4,e5⟩:=(uh kb).c6
   by_cases hlt:k<L.length
   ·have hlt1:(k:Int)<(L.length:Int):=by omega
    have x0:=uh HC k hlt
    obtain ⟨_,_,hse,_,_,r2⟩:=(uh Hv4).smiths
    cases hse
    have hwl:=(uh HA).lt
    rcases r2 with e0 | ⟨sb,so,rfl,hbs,hcs⟩
    ·rw [e0] at hwl;simp at hwl
    obtain ⟨_,s1,_⟩:=ZI hcs hwl
    clear hcs
    have hwl1:(who:Int)<(m.smiths.length:Int):=by omega
    have Hno:=Z9 (fun hh=>Ec (m:=m) (who:=who) (k:=k) hk1 hlt hh)
    have Hyes:=Z9 (fun hh=>FT (m:=m) (who:=who) (k:=k) hk1 hlt hh)
    have Hw:=Z9 (fun (W:World) (hW:Below wr.heap.size wr W)=>PB (Z8 L k) ((uh Hv4).below hW) (uh HS) (uh HP) (uh HA).lt (uh HA).st)
    generalize ZD m (who:Int) (Z8 L k)=n at *
    generalize Z8 L k=x at *
    generalize (Z8 m.smiths who).2.1=y at *
    obtain ⟨bt,hbt⟩:∃ q,(XY m (who:Int) L k).1=q:=⟨_,rfl⟩
    obtain ⟨lt,hmt⟩:∃ q,(XY m (who:Int) L k).2=q:=⟨_,rfl⟩
    rw [hmt] at Hno Hyes
    rw [hbt,hmt]
    have Hbt:=Z9 hbt
    have Hmt:=Z9 hmt
    clear hbt hmt
    have y0:=cell_regrown e0
    have y1:=cell_regrown e1
    have y2:=cell_regrown e2
    have y3:=cell_regrown e3
    have y4:=cell_regrown e4
    have y5:=cell_regrown e5
    have z0:=cell_regrown x0
    have z1:=cell_regrown s1
    go_wp2_with fail
    refine wp_region_quiet_below (by kernel_rfl) (by kernel_rfl) ?_
    repeat (go_big_quiet_step (first | exact Calls.regrown_of (uh Hw _ (below_regrown _ _ _))))
    refine wpQuiet_nil ?_
    intro _ hw'
    obtain ⟨⟨dq,osq⟩,hw''⟩:=hw'
    subst hw''
    go_wp2_with fail
    have hX:=Z9 (below_regrown wr dq osq)
    have q0:=y0 dq osq;have q1:=y1 dq osq;have q2:=y2 dq osq;have q3:=y3 dq osq;have q4:=y4 dq osq;have q5:=y5 dq osq
    have r0:=z0 dq osq
    have r1:=z1 dq osq
    clear z0 z1 x0 s1 y0 y1 y2 y3 y4 y5 e0 e1 e2 e3 e4 e5 Hw
    have HC2:=Z9 (fun j hj=>((uh hX).cell (p:=⟨g,j,none⟩) hg).trans (uh HC j hj))
    have hg2:=Nat.lt_of_lt_of_le hg (uh hX).size
    have kb9:=Z9 ((uh kb).below (uh hX) (uh kb).lt)
    have Hv9:=Z9 ((uh Hv4).below (uh hX))
    have BB9:=Z9 ((uh BB).trans ((uh hX).mono (uh BB).size))
    clear HC hg kb Hv4 BB hX hbs
    generalize grow (redrawn wr dq) osq=X at *
    have r2:=cell_regrown r0
    have r3:=cell_regrown r1
    have t0:=cell_regrown q0;have t1:=cell_regrown q1;have t2:=cell_regrown q2;have t3:=cell_regrown q3;have t4:=cell_regrown q4;have t5:=cell_regrown q5
    by_cases hn:n<lt
    ·refine wp_region_quiet_below (by kernel_rfl) (by kernel_rfl) ?_
     repeat (go_big_quiet_step (fail))
     refine wpQuiet_nil ?_
     intro _ hw'
     obtain ⟨⟨dq,osq⟩,hw''⟩:=hw'
     subst hw''
     go_wp2_with fail
     go_roundw
     case rel=>exact ⟨k+1,by omega,by omega,by rw [uh Hyes (by omega)],by rw [uh Hyes (by omega)],by go_num,fun j hj=>((below_regrown X dq osq).cell (p:=⟨g,j,none⟩) hg2).trans (uh HC2 j hj),Nat.lt_of_lt_of_le hg2 (below_regrown X dq osq).size,(uh kb9).below (below_regrown X dq osq) (uh kb9).lt,(uh Hv9).below (below_regrown X dq osq),(uh BB9).trans ((below_regrown X dq osq).mono (uh BB9).size)⟩
     case measure=>simp [intOf];omega
    by_cases he:n=lt
    ·subst he
     by_cases hxy:x=y
     ·subst hxy
      refine wp_region_quiet_below (by kernel_rfl) (by kernel_rfl) ?_
      repeat (go_big_quiet_step (fail))
      refine wpQuiet_nil ?_
      intro _ hw'
      obtain ⟨⟨dq,osq⟩,hw''⟩:=hw'
      subst hw''
      go_wp2_with fail
      go_roundw
      case rel=>exact ⟨k+1,by omega,by omega,by rw [uh Hyes (by omega)],by rw [uh Hyes (by omega)],by go_num,fun j hj=>((below_regrown X dq osq).cell (p:=⟨g,j,none⟩) hg2).trans (uh HC2 j hj),Nat.lt_of_lt_of_le hg2 (below_regrown X dq osq).size,(uh kb9).below (below_regrown X dq osq) (uh kb9).lt,(uh Hv9).below (below_regrown X dq osq),(uh BB9).trans ((below_regrown X dq osq).mono (uh BB9).size)⟩
      case measure=>simp [intOf];omega
     ·refine wp_region_quiet_below (by kernel_rfl) (by kernel_rfl) ?_
      repeat (go_big_quiet_step (fail))
      refine wpQuiet_nil ?_
      intro _ hw'
      obtain ⟨⟨dq,osq⟩,hw''⟩:=hw'
      subst hw''
      go_wp2_with fail
      go_roundw
      case rel=>exact ⟨k+1,by omega,by omega,by rw [uh Hno (by omega),uh Hbt],by rw [uh Hno (by omega),uh Hmt],by go_num,fun j hj=>((below_regrown X dq osq).cell (p:=⟨g,j,none⟩) hg2).trans (uh HC2 j hj),Nat.lt_of_lt_of_le hg2 (below_regrown X dq osq).size,(uh kb9).below (below_regrown X dq osq) (uh kb9).lt,(uh Hv9).below (below_regrown X dq osq),(uh BB9).trans ((below_regrown X dq osq).mono (uh BB9).size)⟩
      case measure=>simp [intOf];omega
    ·have e1:(n ==lt)=false:=by simpa using he
     have e2:decide (n=lt)=false:=decide_eq_false he
     refine wp_region_quiet_below (by kernel_rfl) (by kernel_rfl) ?_
     repeat (go_big_quiet_step (fail))
     refine wpQuiet_nil ?_
     intro _ hw'
     obtain ⟨⟨dq,osq⟩,hw''⟩:=hw'
     subst hw''
     go_wp2_with fail
     go_roundw
     case rel=>exact ⟨k+1,by omega,by omega,by rw [uh Hno (by omega),uh Hbt],by rw [uh Hno (by omega),uh Hmt],by go_num,fun j hj=>((below_regrown X dq osq).cell (p:=⟨g,j,none⟩) hg2).trans (uh HC2 j hj),Nat.lt_of_lt_of_le hg2 (below_regrown X dq osq).size,(uh kb9).below (below_regrown X dq osq) (uh kb9).lt,(uh Hv9).below (below_regrown X dq osq),(uh BB9).trans ((below_regrown X dq osq).mono (uh BB9).size)⟩
     case measure=>simp [intOf];omega
   ·obtain rfl:k=L.length:=by omega
    go_wp2_with fail
    go_ret
    exact ⟨rfl,uh BB⟩
theorem Mg (h:Loose m):m.paces.length<=1000:=by
 rw [EE h]
 have hd:=h.head
 unfold Yc at hd
 simp only [Bool.and_eq_true,decide_eq_true_eq] at hd
 have:=(Zi hd.1).2.1
 omega
theorem FM (h:Loose m) {k:Nat} (hk:k<m.smiths.length) (hs:(Z8 m.smiths k).1 ≠ 0):Qz m k/\ ∃ bn:Nat,(Z8 m.smiths k).2.1=(bn:Int)/\bn<m.desks.length:=by
 obtain ⟨p,_,hb⟩:=h.limits hk hs
 obtain ⟨⟨st,be,rk,my,gu,lo,hi,hd,ca,ut,wk⟩,hrk⟩:∃ d,Z8 m.smiths k=d:=⟨_,rfl⟩
 rw [hrk] at p hb
 obtain ⟨_,x1,_,x3,_⟩:=Zk p
 simp only at hb
 refine ⟨⟨hk,hs,?_,?_⟩,be.toNat,?_,by omega⟩
 ·rw [hrk];show (0:Int)<=my;omega
 ·rw [hrk];show my<=255;omega
 ·rw [hrk];show be=_;omega
end Go.Proofs.YtjhijildaceadaaGreatDoor
