/- Part 19 of what the proof rests on. No condition but those that a theorem names. -/
import Derived.Test.YtaegckehjlkaaaaGreatXc18
set_option maxHeartbeats 8000000
set_option maxRecDepth 100000
namespace Go.Proofs.YtaegckehjlkaaaaGreat
open Go.ChangeShapes Go.WideShapes Go.ChangeAt Go.RowKit Go.Sort Go.Shelf
set_option linter.unusedVariables false
set_option linter.unusedSimpArgs false
set_option maxRecDepth 100000
variable {w w' w0 w1 w2 w3 w₀ wr W W' X A B C : World} {v v0 v1 v2 v3 v4 u u0 u1 u2 u3 u4 : Value} {m : Z6}
theorem Pu (x u f : Int) (w : World) : (method 412 196 (.agg #[.int .i64 x, .int .i64 u, .int .i64 f]) "loop.example/g00553/impl.place").run Tryz.prog w = .ok (341, .agg #[.int .i64 x, .int .i64 u, .int .i64 f]) w := by kernel_rfl
theorem Su (x u f:Int) (w:World):Calls Tryz.prog 341 #[.agg #[.int .i64 x,.int .i64 u,.int .i64 f]] w fun e w'=>e= .returned (.int .i64 x)/\Below w.heap.size w w':=by
  go_enter Tryz.func341,Tryz.ntmps341
  go_wp2_with fail
  go_ret
  exact ⟨rfl,(Below.refl _ _).alloc (Nat.le_refl _) _⟩
theorem Df (x u f : Int) (w : World) : (method 412 196 (.agg #[.int .i64 x, .int .i64 u, .int .i64 f]) "loop.example/g00553/impl.takes").run Tryz.prog w = .ok (343, .agg #[.int .i64 x, .int .i64 u, .int .i64 f]) w := by kernel_rfl
theorem Gb (n x u f:Int) (w:World):Calls Tryz.prog 343 #[.agg #[.int .i64 x,.int .i64 u,.int .i64 f],.int .i64 n] w fun e w'=>e= .returned (.bool (W6 n u f))/\Below w.heap.size w w':=by
  go_enter Tryz.func343,Tryz.ntmps343
  go_wp2_with fail
  have BB:Hid (Below w.heap.size w (w.alloc (.cells #[.int .i64 x,.int .i64 u,.int .i64 f] 196))):=Z9 ((Below.refl _ _).alloc (Nat.le_refl _) _)
  refine (Oy _ _ _ _).mono ?_
  rintro e w1 ⟨rfl,hb⟩
  replace BB:=bt BB hb
  clear hb
  go_wp2_with fail
  go_ret
  exact ⟨rfl,uh BB⟩
theorem Mm (x u f : Int) (w : World) : (method 412 196 (.agg #[.int .i64 x, .int .i64 u, .int .i64 f]) "loop.example/g00553/impl.hasTooMuch").run Tryz.prog w = .ok (340, .agg #[.int .i64 x, .int .i64 u, .int .i64 f]) w := by kernel_rfl
theorem Ov (x u f:Int) (w:World):Calls Tryz.prog 340 #[.agg #[.int .i64 x,.int .i64 u,.int .i64 f]] w fun e w'=>e= .returned (.bool (WK u f))/\Below w.heap.size w w':=by
  go_enter Tryz.func340,Tryz.ntmps340
  go_wp2_with fail
  have BB:Hid (Below w.heap.size w (w.alloc (.cells #[.int .i64 x,.int .i64 u,.int .i64 f] 196))):=Z9 ((Below.refl _ _).alloc (Nat.le_refl _) _)
  refine (PL _ _ _).mono ?_
  rintro e w1 ⟨rfl,hb⟩
  replace BB:=bt BB hb
  clear hb
  go_wp2_with fail
  go_ret
  exact ⟨rfl,uh BB⟩
theorem De (x u f : Int) (w : World) : (method 412 196 (.agg #[.int .i64 x, .int .i64 u, .int .i64 f]) "loop.example/g00553/impl.spare").run Tryz.prog w = .ok (342, .agg #[.int .i64 x, .int .i64 u, .int .i64 f]) w := by kernel_rfl
theorem Np (x u f:Int) (w:World):Calls Tryz.prog 342 #[.agg #[.int .i64 x,.int .i64 u,.int .i64 f]] w fun e w'=>e= .returned (.int .i64 (Yi u f))/\Below w.heap.size w w':=by
  go_enter Tryz.func342,Tryz.ntmps342
  go_wp2_with fail
  have BB:Hid (Below w.heap.size w (w.alloc (.cells #[.int .i64 x,.int .i64 u,.int .i64 f] 196))):=Z9 ((Below.refl _ _).alloc (Nat.le_refl _) _)
  refine (PK _ _ _).mono ?_
  rintro e w1 ⟨rfl,hb⟩
  replace BB:=bt BB hb
  clear hb
  go_wp2_with fail
  go_ret
  exact ⟨rfl,uh BB⟩
theorem C4 (v:Value) (w:World):(Instr.typeAssert (.iface 196 v) 147 96 true).run Tryz.prog w= .ok (.tuple #[.iface 196 v,.bool true]) w:=by kernel_rfl
theorem OI {l:List String} (h:l ≠ []):∃ s,Instr.least l=some s:=by
  cases l with
  | nil=>exact absurd rfl h
  | cons s r=>exact ⟨_,rfl⟩
theorem FU (p : String → Bool) (f : String → String) {ms : List String} (h : ms ≠ []) : ∃ s, (match ms.partition p with | (u, e) => Instr.least e <|> Instr.least (u.map f)) = some s := by
  rw [List.partition_eq_filter_filter]
  dsimp only
  by_cases he : ms.filter (not ∘ p) = []
  · have hu : ms.filter p ≠ [] := by
      intro e
      apply h
      have h1 := List.filter_eq_nil_iff.1 he
      have h2 := List.filter_eq_nil_iff.1 e
      refine List.eq_nil_iff_forall_not_mem.2 (fun x hx => ?_)
      have k1 := h1 x hx
      have k2 := h2 x hx
      simp only [Function.comp_apply] at k1
      cases hp : p x
      · rw [hp] at k1; exact k1 rfl
      · exact k2 hp
    obtain ⟨s, hs⟩ := OI (l := (ms.filter p).map f) (by simpa using hu)
    rw [he, hs]
    exact ⟨s, rfl⟩
  · obtain ⟨s, hs⟩ := OI he
    rw [hs]
    exact ⟨s, rfl⟩
theorem Mo {want:Array (String × TypeId)} {got:Array Method} (h:(want.toList.filter fun x=> !got.any fun m=>m.name ==x.1 && m.sig ==x.2).isEmpty=false):∃ s,Instr.missingMethod want got=some s:=by
  refine FU _ _ (ms:=(want.toList.filter fun x=> !got.any fun m=>m.name ==x.1 && m.sig ==x.2).map (·.1)) ?_
  intro e
  rw [List.map_eq_nil_iff] at e
  rw [e] at h
  cases h
theorem JK {P:Program} {t xt asserted:TypeId} {v z:Value} {want:Array (String × TypeId)} {i j:TypeInfo} (hu:P.underlying asserted=some (.interface want)) (hi:P.info? t=some i) (hm:(want.toList.filter fun x=> !i.methods.any fun m=>m.name ==x.1 && m.sig ==x.2).isEmpty=false) (hj:P.info? asserted=some j) (hz:j.zero=some z):(Instr.typeAssert (.iface t v) xt asserted true).run P w= .ok (.tuple #[z,.bool false]) w:=by
  obtain ⟨s,hs⟩:=Mo hm
  simp [Instr.typeAssert,run_underlying hu,typeInfo,hi,hs,zeroValue,hj,hz]
theorem Fa:((Tryz.prog.info? 194).bind fun i=>(Tryz.prog.underlying 96).map fun d=>match d with | .interface want=>(want.toList.filter fun x=> !i.methods.any fun m=>m.name ==x.1 && m.sig ==x.2).isEmpty | _=>true)=some false:=by kernel_rfl
theorem EW (v:Value) (w:World):(Instr.typeAssert (.iface 194 v) 147 96 true).run Tryz.prog w= .ok (.tuple #[.nilIface,.bool false]) w:=by
  obtain ⟨j,hj,hz,_,_⟩:=Rv MU
  have h:=Fa
  cases hi:Tryz.prog.info? 194 with
  | none=>rw [hi] at h;cases h
  | some i=>
    cases hu:Tryz.prog.underlying 96 with
    | none=>rw [hi,hu] at h;cases h
    | some d=>
      rw [hi,hu] at h
      cases d with
      | interface want=>exact JK hu hi (by simpa using h) hj hz
      | _=>cases h
def L3 (m:Z6) (b:Int):Value:=if Wi m b then .iface 196 (.agg #[.int .i64 b,.int .i64 (ZA m b (-1)),.int .i64 (Zx m.rooms b)]) else .iface 194 (.agg #[.int .i64 b])
theorem JN  {b:Int} (h:Smy w v0 v1 v2 v3 v4 m) (hW:Wants m) (hl:m.smiths.length<=12):Calls Tryz.prog 144 #[.agg #[v0,v1,v2,v3,v4,.int .i64 m.now],.int .i64 b] w fun e w'=>e= .returned (L3 m b)/\Below w.heap.size w w':=by
  have HW:=Z9 hW
  clear hW
  obtain ⟨op,hop⟩:∃ q,Wi m b=q:=⟨_,rfl⟩
  have Hop:=Z9 hop
  unfold L3
  rw [hop]
  clear hop
  obtain ⟨us,hus⟩:∃ q,ZA m b (-1)=q:=⟨_,rfl⟩
  have Hus:=Z9 hus
  rw [hus]
  clear hus
  obtain ⟨a0,p0,a1,p1,a2,p2,a3,p3,a4,p4,rfl,rfl,rfl,rfl,rfl,K⟩:=Bx.new h
  clear h
  go_enter Tryz.func144,Tryz.ntmps144
  go_wp2_with fail
  generalize w.alloc (.cells #[.slice a0 m.rooms.length p0,.slice a1 m.guilds.length p1,.slice a2 m.smiths.length p2,.slice a3 m.desks.length p3,.slice a4 m.paces.length p4,.int .i64 m.now] 32)=W at *
  refine (SJ (uh Hop) K.smy).mono ?_
  rintro e w1 ⟨rfl,hb⟩
  replace K:=K.next hb
  clear hb
  cases op
  · go_wp2_with fail
    go_ret
    exact ⟨rfl,K.bb⟩
  clear Hop
  have HN:=Z9 (fun (X:World) (hX:Below w1.heap.size w1 X)=>R8 (uh Hus) (K.smy.below hX) (uh HW) hl)
  have HF:=Z9 (fun (X:World) (hX:Below w1.heap.size w1 X)=>PH b (K.smy.below hX).rooms)
  obtain ⟨c0,c1,c2,c3,c4,c5⟩:=K.cells
  have k0:=cell_regrown c0
  have k1:=cell_regrown c1
  have k2:=cell_regrown c2
  have k3:=cell_regrown c3
  have k4:=cell_regrown c4
  have k5:=cell_regrown c5
  go_wp2_with fail
  refine wp_region_quiet_below (by kernel_rfl) (by kernel_rfl) ?_
  repeat (go_big_quiet_step (first | exact Calls.regrown_of (uh HN _ (below_regrown _ _ _)) | exact Calls.regrown_of (uh HF _ (below_regrown _ _ _))))
  refine wpQuiet_nil ?_
  intro _ hw'
  obtain ⟨⟨dq,osq⟩,hw''⟩:=hw'
  subst hw''
  go_wp2_with fail
  go_ret
  exact ⟨rfl,K.bb.trans ((below_regrown _ _ _).mono K.bb.size)⟩
theorem Bx.grown {R:Nat} {a0 a1 a2 a3 a4:Option Addr} {p0 p1 p2 p3 p4:Nat} {r:Option Nat} (h:Bx w W R a0 p0 a1 p1 a2 p2 a3 p3 a4 p4 m) (hs:Smy w (.slice a0 m.rooms.length p0) (.slice a1 m.guilds.length p1) (.slice a2 m.smiths.length p2) (.slice a3 m.desks.length p3) (.slice a4 m.paces.length p4) m) (hg:W.grownBy X r) (hr:∀ k,r=some k->w.heap.size<=k/\k ≠ R):Bx w X R a0 p0 a1 p1 a2 p2 a3 p3 a4 p4 m:=by
  have hb:Below w.heap.size w X:=h.bb.grown hg h.bb.size (fun k e=>(hr k e).1)
  exact ⟨hs.below hb,(hg.block _ h.blk.lt (fun e=>(hr R e.symm).2 rfl)).trans h.blk,hb⟩
attribute [local go_sem] C4 EW
theorem RI  (h:Smy w v0 v1 v2 v3 v4 m) (hW:Wants m) (hl:m.smiths.length<=12) (hd:m.desks.length<=1000):Calls Tryz.prog 89 #[.agg #[v0,v1,v2,v3,v4,.int .i64 m.now]] w fun e w'=> ∃ v',e= .returned v'/\YD w.heap.size w' v' (XW m m.desks.length)/\Below w.heap.size w w':=by
  have HW:=Z9 hW
  clear hW
  have Hs:=Z9 h
  obtain ⟨a0,p0,a1,p1,a2,p2,a3,p3,a4,p4,rfl,rfl,rfl,rfl,rfl,K⟩:=Bx.new h
  clear h
  go_enter Tryz.func89,Tryz.ntmps89
  go_wp2_with fail
  go_loopw [3,11] (fun l i wr=> ∃ k:Nat,k<=m.desks.length/\i= .int .i64 k/\YD (w.heap.size+1) wr l (XW m k)/\Bx w wr w.heap.size a0 p0 a1 p1 a2 p2 a3 p3 a4 p4 m) (fun _ i _=>m.desks.length-(intOf i).toNat)
  case atStart=>exact ⟨0,Nat.zero_le _,rfl,YZ (by simp) (Nat.le_refl _),K.alloc _⟩
  case round=>
    obtain ⟨k,hk,rfl,hln,hK⟩:=hrel
    clear K
    have K:=hK
    clear hK
    obtain ⟨la,lc,rfl⟩:=RecAt.shape hln
    have HL:=Z9 hln
    have hfl:=TH m k
    clear hln
    by_cases hlt:k<m.desks.length
    · have hlt1:(k:Int)<(m.desks.length:Int):=by omega
      have HY:=Z9 (fun hh=>RW (m:=m) (k:=k) hh)
      have HN:=Z9 (fun hh=>QI (m:=m) (k:=k) hh)
      have hop:=GW hlt
      obtain ⟨op,hq⟩:∃ q,(Z8 m.desks k).1=q:=⟨_,rfl⟩
      rw [hq] at hop HY HN
      obtain ⟨bv,hbv⟩:∃ v,L3 m (k:Int)=v:=⟨_,rfl⟩
      have HB:=Z9 (fun (X:World) (hX:Smy X (.slice a0 m.rooms.length p0) (.slice a1 m.guilds.length p1) (.slice a2 m.smiths.length p2) (.slice a3 m.desks.length p3) (.slice a4 m.paces.length p4) m)=>JN (b:=(k:Int)) hX (uh HW) hl)
      rw [hbv] at HB
      unfold L3 at hbv
      rw [hop] at hbv
      unfold Tr at HY
      generalize ZA m (k:Int) (-1)=us at *
      generalize Zx m.rooms (k:Int)=fo at *
      subst hbv
      clear hq hop
      obtain ⟨c0,c1,c2,c3,c4,c5⟩:=K.cells
      go_wp2_with fail
      refine (uh HB _ K.smy).mono ?_
      rintro e w1 ⟨rfl,hb⟩
      replace K:=K.next hb
      replace HL:=Z9 (RecAt.later (uh HL) hb)
      clear hb c0 c1 c2 c3 c4 c5 HB
      cases op
      · rw [if_neg (by simp)]
        go_wp2_with fail
        go_roundw
        case rel=>exact ⟨k+1,by omega,by go_num,by rw [uh HN (by trivial)];exact uh HL,K⟩
        case measure=>simp [intOf];omega
      · rw [if_pos rfl]
        have hsx:=K.blk.lt
        go_wp2_with (at_builtin;refine Vx rfl (.tmp 22) (.tmp 24) 93 Tryz.underlying93 rfl (w.heap.size+1) _ _ (XW m k) [((k:Int),us,fo)] rfl rfl (RecAt.later (uh HL) ((Below.refl _ _).alloc (Nat.le_refl _) _)) (Xd ((k:Int),us,fo) rfl (Nat.le_refl _) (by omega)) (by simp;omega) (by simp;omega) ?_;intro u9 w9 hp9 hg9 hat9;have HP9:=Z9 hp9;have HG9:=Z9 hg9;clear hp9 hg9 hat9)
        have hgo:∀ i,(Value.slice la (XW m k).length lc).ownBlock=some i->w.heap.size<=i/\i ≠ w.heap.size:=fun i e=>by have:=(RecAt.lt (uh HL) e).1;omega
        replace K:=(K.alloc _).grown (uh Hs) (uh HG9) hgo
        go_wp2_with fail
        go_roundw
        case rel=>exact ⟨k+1,by omega,by go_num,by rw [uh HY (by trivial)];exact uh HP9,K⟩
        case measure=>simp [intOf];omega
    · obtain rfl:k=m.desks.length:=by omega
      go_wp2_with fail
      go_ret
      exact ⟨_,rfl,RecAt.mono (uh HL) (Nat.le_succ _),K.bb⟩
theorem Po {a0 a1 a2 a3 a4:Option Addr} {p0 p1 p2 p3 p4:Nat} {k:Nat} (h:Smy w (.slice a0 m.rooms.length p0) (.slice a1 m.guilds.length p1) (.slice a2 m.smiths.length p2) (.slice a3 m.desks.length p3) (.slice a4 m.paces.length p4) m) (hl:m.smiths.length<=1000) (hk:k<m.smiths.length):Calls Tryz.prog 140 #[.agg #[.slice a0 m.rooms.length p0,.slice a1 m.guilds.length p1,.slice a2 m.smiths.length p2,.slice a3 m.desks.length p3,.slice a4 m.paces.length p4,.int .i64 m.now],.int .i64 (k:Int)] w fun e w'=> ∃ g gc,e= .returned (.agg #[.slice a0 m.rooms.length p0,.slice a1 m.guilds.length p1,.slice (some ⟨g,0,none⟩) m.smiths.length gc,.slice a3 m.desks.length p3,.slice a4 m.paces.length p4,.int .i64 m.now])/\Smy w' (.slice a0 m.rooms.length p0) (.slice a1 m.guilds.length p1) (.slice (some ⟨g,0,none⟩) m.smiths.length gc) (.slice a3 m.desks.length p3) (.slice a4 m.paces.length p4) (Xp m (k:Int))/\Below w.heap.size w w':=by
  have Hv0:=Z9 h
  have hk1:(k:Int)<(m.smiths.length:Int):=by omega
  clear h
  go_enter Tryz.func140,Tryz.ntmps140
  go_upto_region 1 with fail
  obtain ⟨W,hW,kb,kr,BB⟩:=Yw w 32 (S6 a0 p0 a1 p1 a2 p2 a3 p3 a4 p4 m) 32 E6
  have Hv:=Z9 ((uh Hv0).below (uh BB))
  rw [hW]
  clear hW
  obtain ⟨c0,c1,c2,c3,c4,c5⟩:=(uh kb).c6
  go_wp2_with fail
  refine (WS _ _ _ _ _ _ _ _ _ _ _ _ _ _ _ _ _).mono ?_
  rintro e w1 ⟨rfl,hb⟩
  replace kb:=bl kb hb
  replace kr:=bl kr hb
  replace Hv:=Z9 ((uh Hv).below hb)
  replace BB:=bt BB hb
  clear hb c0 c1 c2 c3 c4 c5
  go_wp2_with fail
  refine (Tb (uh Hv).smiths hl).mono ?_
  rintro e w2 ⟨v2,rfl,hs,hb⟩
  have hlb:=(uh kb).lt
  have hlr:=(uh kr).lt
  have hlo:=(uh BB).size
  replace kb:=bl kb hb
  replace kr:=bl kr hb
  replace BB:=bt BB hb
  clear hb Hv
  obtain ⟨ga,gc,rfl⟩:=RecAt.shape hs
  obtain ⟨g,rfl,hg1,hg2,hcl,hfr⟩:=RecAt.view ZT (by omega) hs rfl (by omega)
  have hgb:g ≠ w.heap.size:=by omega
  have hgr:g ≠ w.heap.size+1:=by omega
  have hbg:w.heap.size ≠ g:=by omega
  have hrg:w.heap.size+1 ≠ g:=by omega
  have hwg:w.heap.size<=g:=by omega
  have HS:Hid (SmithsAt (w.heap.size+1) w2 (.slice (some ⟨g,0,none⟩) m.smiths.length gc) (m.smiths.set k (Z8 m.smiths k))):=Z9 (by rw [Lm hk];exact RecAt.mono hs (by omega))
  have s0:=hcl k hk 0 _ rfl
  have f0:=hfr (k*11)
  simp only [Nat.add_zero] at s0
  clear hcl hfr hs hg1
  obtain ⟨c0,c1,c2,c3,c4,c5⟩:=(uh kb).c6
  obtain ⟨q0,q1,q2,q3,q4,q5⟩:=(uh kb).f6
  obtain ⟨o0,o1,o2,o3,o4,o5⟩:=(uh kr).c6
  obtain ⟨t0,t1,t2,t3,t4,t5⟩:=(uh kr).f6
  go_wp2_with fail
  refine bodyPost_ret (v:= .agg #[.slice a0 m.rooms.length p0,.slice a1 m.guilds.length p1,.slice (some ⟨g,0,none⟩) m.smiths.length gc,.slice a3 m.desks.length p3,.slice a4 m.paces.length p4,.int .i64 m.now]) (by simp [results,Tryz.results140,go_sem, *]) rfl ⟨g,gc,rfl,?_,?_⟩
  · have h1:SmithsAt (w.heap.size+1) (w2.setCell ⟨w.heap.size,2,none⟩ (.slice (some ⟨g,0,none⟩) m.smiths.length gc)) (.slice (some ⟨g,0,none⟩) m.smiths.length gc) (m.smiths.set k (Z8 m.smiths k)):=RecAt.same (uh HS) (fun i e=>by cases e;exact heap_setCell_other _ _ _ _ hgb)
    have h2:=h1.put rfl hk (i:=0) (by omega) (.int .i64 1) (1,(Z8 m.smiths k).2) rfl
    exact (uh Hv0).other (Below.put6 _ _ _ _ _ _ (((uh BB).setCell (Nat.le_refl _) _).setCell (by show w.heap.size<=g;omega) _) (Nat.le_succ _)) (RecAt.off6 (.slice a0 m.rooms.length p0) (.slice a1 m.guilds.length p1) (.slice (some ⟨g,0,none⟩) m.smiths.length gc) (.slice a3 m.desks.length p3) (.slice a4 m.paces.length p4) (.int .i64 m.now) h2 (fun i e=>by cases e;exact hgr))
  · exact Below.put6 _ _ _ _ _ _ (((uh BB).setCell (Nat.le_refl _) _).setCell (by show w.heap.size<=g;omega) _) (Nat.le_succ _)
attribute [local go_sem] Pu
theorem L4  {who : Int} {q : List YA} (hq : RR m who = q) (h : Smy w v0 v1 v2 v3 v4 m) : Calls Tryz.prog 79 #[.agg #[v0, v1, v2, v3, v4, .int .i64 m.now], .int .i64 who] w fun e w' => ∃ v', e = .returned v' ∧ YD w.heap.size w' v' q ∧ Below w.heap.size w w' := by
  have Hq := Z9 hq
  clear hq
  obtain ⟨wn, hwn⟩ : ∃ x, YV m who = x := ⟨_, rfl⟩
  have Hwn := Z9 hwn
  clear hwn
  have Hs := Z9 h
  obtain ⟨a0, p0, a1, p1, a2, p2, a3, p3, a4, p4, rfl, rfl, rfl, rfl, rfl, K⟩ := Bx.new h
  clear h
  go_enter Tryz.func79, Tryz.ntmps79
  go_wp2_with fail
  have HL : Hid (YD (w.heap.size + 1) ((w.alloc (.cells #[.slice a0 m.rooms.length p0, .slice a1 m.guilds.length p1, .slice a2 m.smiths.length p2, .slice a3 m.desks.length p3, .slice a4 m.paces.length p4, .int .i64 m.now] 32)).alloc (.cells #[] 96)) (.slice (some ⟨w.heap.size + 1, 0, none⟩) 0 0) []) := Z9 (YZ (by simp) (Nat.le_refl _))
  replace K := K.alloc (.cells #[] 96)
  generalize (w.alloc (.cells #[.slice a0 m.rooms.length p0, .slice a1 m.guilds.length p1, .slice a2 m.smiths.length p2, .slice a3 m.desks.length p3, .slice a4 m.paces.length p4, .int .i64 m.now] 32)).alloc (.cells #[] 96) = W at *
  refine (UR (uh Hwn) K.smy).mono ?_
  rintro e w1 ⟨rfl, hb⟩
  replace K := K.next hb
  replace HL := Z9 (RecAt.later (uh HL) hb)
  clear hb
  rcases Pk (uh Hwn) with rfl | ⟨hw0, hok, hwh⟩
  · obtain rfl : q = [] := (uh Hq).symm.trans (DH (uh Hwn))
    go_wp2_with fail
    go_ret
    exact ⟨_, rfl, RecAt.mono (uh HL) (Nat.le_succ _), K.bb⟩
  have hwb : (wn == -1) = false := beq_eq_false_iff_ne.mpr (by omega)
  have hwd : ¬ wn = -1 := by omega
  obtain ⟨k, rfl, hk, hs⟩ := Yz hwh
  have HLo := Z9 (ZZ hok)
  have hl := RC hok
  have h8 := (uh HLo).sane.eight
  have HF := Z9 ((DI hok hwh hk).trans (uh Hq))
  clear Hq
  have HM := Z9 (fun x hx => Dh (uh HLo) hk hs (x := x) hx)
  have HU := Z9 (fun (g gc : Nat) (X : World) (hX : Smy X (.slice a0 m.rooms.length p0) (.slice a1 m.guilds.length p1) (.slice (some ⟨g, 0, none⟩) m.smiths.length gc) (.slice a3 m.desks.length p3) (.slice a4 m.paces.length p4) (Xp m (k : Int))) => RI (m := Xp m (k : Int)) hX ((uh HLo).wants.away hk hs) (by rw [N7]; exact hl) (show m.desks.length ≤ 1000 by omega))
  have hlen := TH (Xp m (k : Int)) m.desks.length
  clear hwh hok hw0 hs Hwn
  obtain ⟨c0, c1, c2, c3, c4, c5⟩ := K.cells
  go_wp2_with fail
  refine (Po K.smy (by omega) hk).mono ?_
  rintro e w2 ⟨g, gc, rfl, hsm, hb⟩
  replace K := K.next hb
  replace HL := Z9 (RecAt.later (uh HL) hb)
  have HA := Z9 hsm
  clear hb c0 c1 c2 c3 c4 c5 hsm hwb hwd
  go_wp2_with fail
  refine (uh HU g gc _ (uh HA)).mono ?_
  rintro e w3 ⟨v3, rfl, hu, hb⟩
  have hu2 : YD w2.heap.size w3 v3 (XW (Xp m (k : Int)) m.desks.length) := hu
  have hlo2 : ∀ i, v3.ownBlock = some i → w2.heap.size ≤ i := fun i e => (RecAt.lt hu2 e).1
  have hsp : ∀ i, v3.ownBlock = some i → (Value.slice (some ⟨w.heap.size + 1, 0, none⟩) 0 0).ownBlock ≠ some i := fun i e e2 => by have := hlo2 i e; have := (RecAt.lt (uh HL) e2).2; omega
  replace K := K.next hb
  replace HL := Z9 (RecAt.later (uh HL) hb)
  clear hb HU HA hu hlo2
  generalize XW (Xp m (k : Int)) m.desks.length = us at *
  obtain ⟨ua, uc, rfl⟩ := RecAt.shape hu2
  have HU := Z9 hu2
  have Hsp := Z9 hsp
  clear hu2 hsp
  have hus : us.length ≤ 8 := by omega
  go_wp2_with fail
  go_loopw [5, 19] (fun l i wr => ∃ j : Nat, j ≤ us.length ∧ i = .int .i64 j ∧ YD (w.heap.size + 1) wr l ((us.take j).filter (T0 m k)) ∧ YD w2.heap.size wr (.slice ua us.length uc) us ∧ (∀ i, (Value.slice ua us.length uc).ownBlock = some i → l.ownBlock ≠ some i) ∧ Bx w wr w.heap.size a0 p0 a1 p1 a2 p2 a3 p3 a4 p4 m) (fun _ i _ => us.length - (intOf i).toNat)
  case atStart => exact ⟨0, Nat.zero_le _, rfl, uh HL, uh HU, uh Hsp, K⟩
  case round =>
    obtain ⟨j, hj, rfl, hln, hun, hsp, hK⟩ := hrel
    clear K HL HU Hsp
    have K := hK
    clear hK
    obtain ⟨la, lc, rfl⟩ := RecAt.shape hln
    have HL := Z9 hln
    have HU := Z9 hun
    have Hsp := Z9 hsp
    have hfl : ((us.take j).filter (T0 m k)).length ≤ 8 := by have e1 := List.length_filter_le (T0 m k) (us.take j); have e2 : (us.take j).length ≤ us.length := (by simp; omega); omega
    clear hln hun hsp
    by_cases hlt : j < us.length
    · have hlt1 : (j : Int) < (us.length : Int) := by omega
      have HY := Z9 (fun hh => Om (p := T0 m k) hlt hh)
      have HN := Z9 (fun hh => MQ (p := T0 m k) hlt hh)
      obtain ⟨q, hq⟩ : ∃ q, T0 m k (Z8 us j) = q := ⟨_, rfl⟩
      have hmm := uh HM _ (Xn hlt)
      rw [hq] at HY HN hmm
      generalize (us.take j).filter (T0 m k) = ls at *
      obtain ⟨g, rfl, hgl, hgw, hcl, _⟩ := RecAt.view WN (by omega) (uh HU) rfl (by omega)
      have z0 := Ts hcl hlt
      clear hcl hq
      generalize hx : Z8 us j = x at *
      clear hx
      obtain ⟨bx, ux, fx⟩ := x
      simp only at z0 hmm
      obtain ⟨_, _, hse, _, _, r2⟩ := K.smy.smiths
      cases hse
      rcases r2 with e0 | ⟨sb, off, rfl, hbw, hcs⟩
      · rw [e0] at hk; simp at hk
      obtain ⟨d0, d1, d2, d3, d4, d5, d6, d7, d8, d9, d10⟩ := ZE hcs hk
      clear hcs d0 d1 d2 d4 d5 d6 d7 d8 d9 d10
      have hk1 : (k : Int) < (m.smiths.length : Int) := by omega
      have HI := Z9 (fun X => Calls.bool_of (Calls.same_below' (VS (Z8 m.smiths k).2.2.2.1 bx X)) hmm)
      clear hmm
      generalize hmy : (Z8 m.smiths k).2.2.2.1 = my at *
      clear hmy
      go_upto_region 7 with fail
      have c2 := K.blk.cell (i := 2) (v := .slice (some ⟨sb, off, none⟩) m.smiths.length p2) rfl
      have k2 := cell_regrown c2
      have k3 := cell_regrown d3
      refine wp_region_quiet_below (by kernel_rfl) (by kernel_rfl) ?_
      repeat (go_big_quiet_step (first | exact Calls.regrown_of (Su _ _ _ _) | exact Calls.regrown_of (uh HI _)))
      refine wpQuiet_nil ?_
      intro _ hw'
      obtain ⟨⟨dq, osq⟩, hw''⟩ := hw'
      subst hw''
      have hb : Below wr.heap.size wr (Go.Sort.grow (Go.redrawn wr dq) osq) := below_regrown wr dq osq
      generalize Go.Sort.grow (Go.redrawn wr dq) osq = wq at *
      replace K := K.next hb
      replace HL := Z9 (RecAt.later (uh HL) hb)
      replace HU := Z9 (RecAt.later (uh HU) hb)
      clear hb c2 k2 k3 d3 z0
      cases q
      · go_wp2_with fail
        go_roundw
        case rel => exact ⟨j + 1, by omega, by go_num, by rw [uh HN (by trivial)]; exact uh HL, uh HU, uh Hsp, K⟩
        case measure => simp [intOf]; omega
      · have hsx := K.blk.lt
        go_wp2_with (at_builtin; refine Vx rfl (.tmp 32) (.tmp 34) 93 Tryz.underlying93 rfl (w.heap.size + 1) _ _ ls [(bx, ux, fx)] rfl rfl (RecAt.later (uh HL) ((Below.refl _ _).alloc (Nat.le_refl _) _)) (Xd (bx, ux, fx) rfl (Nat.le_refl _) (by omega)) (by simp; omega) (by simp; omega) ?_; intro u9 w9 hp9 hg9 hat9; have HP9 := Z9 hp9; have HG9 := Z9 hg9; have HA9 := Z9 hat9; clear hp9 hg9 hat9)
        have hgo : ∀ i, (Value.slice la ls.length lc).ownBlock = some i → w.heap.size ≤ i ∧ i ≠ w.heap.size := fun i e => by have := (RecAt.lt (uh HL) e).1; omega
        replace K := (K.alloc _).grown (uh Hs) (uh HG9) hgo
        have hul := fun i e => (RecAt.lt (uh HU) (i := i) e).2
        have hsp9 : ∀ i, (Value.slice (some ⟨g, 0, none⟩) us.length uc).ownBlock = some i → u9.ownBlock ≠ some i := by
          intro i e e2
          rcases uh HA9 with h9 | h9
          · rw [h9] at e2; exact uh Hsp i e e2
          · rw [h9] at e2
            have := hul i e
            simp at e2
            omega
        replace HU := Z9 (RecAt.grown (RecAt.later (uh HU) ((Below.refl _ _).alloc (Nat.le_refl _) _)) (uh HG9) (uh Hsp))
        go_wp2_with fail
        go_roundw
        case rel => exact ⟨j + 1, by omega, by go_num, by rw [uh HY (by trivial)]; exact uh HP9, uh HU, hsp9, K⟩
        case measure => simp [intOf]; omega
    · obtain rfl : j = us.length := by omega
      have e9 : (us.take us.length).filter (T0 m k) = q := by rw [List.take_length]; exact uh HF
      have E9 := Z9 e9
      clear e9
      go_wp2_with fail
      go_ret
      exact ⟨_, rfl, by rw [← uh E9]; exact RecAt.mono (uh HL) (Nat.le_succ _), K.bb⟩
theorem Sz  {who:Int} (h:Smy w v0 v1 v2 v3 v4 m):Calls Tryz.prog 79 #[.agg #[v0,v1,v2,v3,v4,.int .i64 m.now],.int .i64 who] w fun e w'=> ∃ v',e= .returned v'/\YD w.heap.size w' v' (RR m who)/\Below w.heap.size w w':=L4 rfl h
end Go.Proofs.YtaegckehjlkaaaaGreat
