/- Part 1 of what the proof rests on besides. No condition but those that a theorem names. -/
import Derived.Test.YthbbahagpmdooaaGreatXq18
import Derived.Deep.SlicePairs
set_option maxHeartbeats 8000000
set_option maxRecDepth 100000
namespace Go.Proofs.YthbbahagpmdooaaGreat
open Go.ChangeShapes Go.WideShapes Go.ChangeAt Go.RowKit Go.Sort
set_option linter.unusedVariables false
def szV (n:Nat) (left:Int):Int:=if left-n<0 then -1 else left-n
theorem Y9 {n:Nat} {left:Int} (h:left-n<0):szV n left= -1:=by unfold szV;rw [if_pos h]
theorem Zc {n:Nat} {left:Int} (h:¬ left-n<0):szV n left=left-n:=by unfold szV;rw [if_neg h]
def Pairs (xs:List Value) (P:Nat->Value->Value->Prop) (k:Nat):Prop:= ∀ j,j<k-> ∃ u u',xs[j*2]?=some u/\xs[j*2+1]?=some u'/\P j u u'
theorem Pairs.next {xs:List Value} {P:Nat->Value->Value->Prop} {k:Nat} {u u':Value} (h:Pairs xs P k) (hl:k*2+1<xs.length) (hp:P k u u'):Pairs ((xs.set (k*2) u).set (k*2+1) u') P (k+1):=fun j hj=>by
 by_cases e:j<k
 ·obtain ⟨a,a',h1,h2,h3⟩:=h j e
  refine ⟨a,a',?_,?_,h3⟩
  ·rw [List.getElem?_set_ne (by omega),List.getElem?_set_ne (by omega)];exact h1
  ·rw [List.getElem?_set_ne (by omega),List.getElem?_set_ne (by omega)];exact h2
 ·obtain rfl:j=k:=by omega
  refine ⟨u,u',?_,?_,hp⟩
  ·rw [List.getElem?_set_ne (by omega),List.getElem?_set_self (by omega)]
  ·rw [List.getElem?_set_self (by simp;omega)]
theorem Pairs.mono {xs:List Value} {P Q:Nat->Value->Value->Prop} {k:Nat} (h:Pairs xs P k) (hpq:∀ j u u',P j u u'->Q j u u'):Pairs xs Q k:=fun j hj=>by
 obtain ⟨a,a',h1,h2,h3⟩:=h j hj
 exact ⟨a,a',h1,h2,hpq _ _ _ h3⟩
def Wo (ps:List Z5) (j:Nat) (u u':Value):Prop:=u= .int .i64 (Z7 ps j).1/\u'= .int .i64 (Z7 ps j).2
theorem IsPaces.of_row {w:World} {B g n cap t:Nat} {ps:List Z5} {xs:List Value} (h:w.ownsRow B t 2 (.slice (some ⟨g,0,none⟩) n cap) n xs) (hp:Pairs xs (Wo ps) ps.length) (hn:n=ps.length):IsPaces w (.slice (some ⟨g,0,none⟩) n cap) ps:=by
 subst hn
 have h':=h
 rcases h.2 with ⟨hh,_⟩ | ⟨g',cap',cur,hh,hb,hg,hnc,hcm,r⟩
 ·simp at hh
 ·simp only [Value.slice.injEq,Option.some.injEq,Addr.mk.injEq,and_true,true_and] at hh
  obtain ⟨rfl,rfl⟩:=hh
  refine ⟨_,cap,rfl,hnc,by unfold maxLen at hcm;omega,.inr ⟨g,0,rfl,(Array.getElem?_eq_some_iff.1 hg).1,fun k hk=> ?_⟩⟩
  obtain ⟨u,u',h1,h2,rfl,rfl⟩:=hp k hk
  refine ⟨?_,?_⟩
  ·rw [Nat.zero_add,World.ownsRow.cellAt h' _ (by omega)];exact h1
  ·rw [Nat.zero_add,World.ownsRow.cellAt h' _ (by omega)];exact h2
theorem YS {w:World} {B g n cap t:Nat} {xs:List Value} (h:w.ownsRow B t 2 (.slice (some ⟨g,0,none⟩) n cap) n xs) {j:Nat} (hj:j<n*2):(∃ c,w.cell? ⟨g,j,none⟩=some c)/\w.frozen? ⟨g,j,none⟩=false:=by
 refine ⟨?_,World.ownsRow.frozenAt h j⟩
 rw [World.ownsRow.cellAt h j hj]
 exact ⟨xs[j]'(by rw [h.1];exact hj),List.getElem?_eq_getElem _⟩
theorem Zo {B g:Nat} {w w':World} (hg:w.grownBy w' (some g)) (hB:B<=g) (hs:B<=w.heap.size):Below B w w':=(Below.refl B w).grown hg hs (fun k e=>by cases e;exact hB)
theorem Yz {w w':World} {B g n cap t:Nat} {xs:List Value} (h:w.ownsRow B t 2 (.slice (some ⟨g,0,none⟩) n cap) n xs) (hb:Below w.heap.size w w'):w'.ownsRow B t 2 (.slice (some ⟨g,0,none⟩) n cap) n xs:=by
 have hlt:=(World.ownsRow.lt h g rfl).2
 refine ⟨h.1,?_⟩
 rcases h.2 with hz | ⟨g',cap',cur,hh,hb',hg,r⟩
 ·exact .inl hz
 ·simp only [Value.slice.injEq,Option.some.injEq,Addr.mk.injEq,and_true,true_and] at hh
  obtain ⟨rfl,rfl⟩:=hh
  exact .inr ⟨g,cap,cur,rfl,hb',(hb.block g hlt).trans hg,r⟩
theorem YL (a:Option Addr) (n cap:Nat) (left:Int) (hn:n<=9223372036854775807) (h0:0<=left) (h1:left<=1048576) (w:World) :
  Calls Tryz.prog 171 #[.slice a n cap,.int .i64 left] w fun e w'=>e= .returned (.int .i64 (szV n left))/\w'=w:=by
 by_cases h:left-n<0
 all_goals
  go_enter Tryz.func171,Tryz.ntmps171
  go_wp2
  go_ret
  exact ⟨Zx (by first | exact (Y9 (by omega)).symm | exact (Zc (by omega)).symm),rfl⟩
theorem YI (b:Int) (a:Option Addr) (n cap:Nat) (left:Int) (hn:n<=9223372036854775807) (h0:0<=left) (h1:left<=1048576) (w:World) :
  Calls Tryz.prog 139 #[.agg #[.int .i64 b,.slice a n cap],.int .i64 left] w fun e w'=>e= .returned (.int .i64 (szV n left))/\Below w.heap.size w w':=by
 by_cases h:left-n<0
 ·go_enter Tryz.func139,Tryz.ntmps139
  go_wp2_with fail
  refine (YL _ _ _ _ hn h0 h1 _).mono ?_
  rw [Y9 (by omega)]
  rintro e w' ⟨rfl,rfl⟩
  go_wp2_with fail
  go_ret
  exact ⟨Zx (Y9 (by omega)).symm,(Below.refl _ _).alloc (Nat.le_refl _) _⟩
 ·go_enter Tryz.func139,Tryz.ntmps139
  go_wp2_with fail
  refine (YL _ _ _ _ hn h0 h1 _).mono ?_
  rw [Zc (by omega)]
  rintro e w' ⟨rfl,rfl⟩
  go_wp2_with fail
  go_ret
  exact ⟨Zx (Zc (by omega)).symm,(Below.refl _ _).alloc (Nat.le_refl _) _⟩
def VO (rs:List Z0):Prop:=rs.length<=1048576/\ ∀ j,j<rs.length->(ZS rs j).2.length<=1048576
theorem WD {w:World} {v:Value} {rs:List Z0} (h:IsRooms w v rs) (left:Int) (h0:0<=left) (h1:left<=1048576) :
  Calls Tryz.prog 94 #[v,.int .i64 left] w fun e w'=> ∃ x:Int,e= .returned (.int .i64 x)/\x<=1048576/\(0<=x->VO rs)/\Below w.heap.size w w':=by
 obtain ⟨a,cap,rfl,hc,hm,hr⟩:=h
 have Hr:=Z9 hr
 clear hr
 by_cases hn:left-rs.length<0
 ·go_enter Tryz.func94,Tryz.ntmps94
  go_wp2_with fail
  go_ret
  exact ⟨-1,rfl,by omega,fun h=>by omega,Below.refl _ _⟩
 ·go_enter Tryz.func94,Tryz.ntmps94
  go_wp2_with fail
  go_loopw [1,5] (fun l i wr=> ∃ (k:Nat) (y:Int),k<=rs.length/\i= .int .i64 k/\l= .int .i64 y/\0<=y/\y<=1048576/\(∀ j,j<k->(ZS rs j).2.length<=1048576)/\Below w.heap.size w wr) (fun _ i _=>rs.length-(intOf i).toNat)
  case atStart=>exact ⟨0,_,Nat.zero_le _,rfl,rfl,by omega,by omega,fun j hj=>by omega,Below.refl _ _⟩
  case round=>
   obtain ⟨k,y,hk,rfl,rfl,y0,y1,hst,hb⟩:=hrel
   have Hst:=Z9 hst
   have Hb:=Z9 hb
   clear hst
   by_cases hlt:k<rs.length
   ·rcases uh Hr with h0 | ⟨b,off,rfl,hbw,hcl⟩
    ·rw [h0] at hlt;simp at hlt
    obtain ⟨c0,pv,c1,hip⟩:=hcl k hlt
    rw [<-hb.cell (p:=⟨b,off+k*2,none⟩) hbw] at c0
    rw [<-hb.cell (p:=⟨b,off+k*2+1,none⟩) hbw] at c1
    obtain ⟨pa,pcap,rfl,hpc,hpm,_⟩:=hip
    generalize hp:(ZS rs k).2.length=n at *
    generalize (ZS rs k).1=rb at *
    have Hp:=Z9 hp
    clear hp hcl hb
    by_cases hy:y-n<0
    ·go_wp2_with fail
     refine (YI _ _ _ _ _ (by omega) y0 y1 _).mono ?_
     rw [Y9 (by omega)]
     rintro e w1 ⟨rfl,hb1⟩
     have Hb1:=Z9 hb1
     clear hb1
     go_wp2_with fail
     go_ret
     exact ⟨-1,rfl,by omega,fun h=>by omega,(uh Hb).trans ((uh Hb1).mono (uh Hb).size)⟩
    ·go_wp2_with fail
     refine (YI _ _ _ _ _ (by omega) y0 y1 _).mono ?_
     rw [Zc (by omega)]
     rintro e w1 ⟨rfl,hb1⟩
     have Hb1:=Z9 hb1
     clear hb1
     go_wp2_with fail
     go_roundw
     case rel=>exact ⟨k+1,y-n,by omega,by go_num,rfl,by omega,by omega,YM (uh Hst) (by rw [uh Hp];omega),(uh Hb).trans ((uh Hb1).mono (uh Hb).size)⟩
     case measure=>simp [intOf];omega
   ·obtain rfl:k=rs.length:=by omega
    go_wp2_with fail
    go_ret
    exact ⟨y,rfl,by omega,fun h=>⟨by omega,uh Hst⟩,hb⟩
theorem Vt (f c:Int) (w:World) :
  Calls Tryz.prog 203 #[.agg #[.int .i64 f,.int .i64 c],.agg #[.int .i64 f,.int .i64 c]] w fun e w'=>e= .returned (.bool true)/\Below w.heap.size w w':=by
 go_enter Tryz.func203,Tryz.ntmps203
 go_wp2_with fail
 go_ret
 exact ⟨rfl,((Below.refl _ _).alloc (Nat.le_refl _) _).alloc (by simp) _⟩
theorem Wd {w:World} {v u:Value} {ps:List Z5} (hv:IsPaces w v ps) (hu:IsPaces w u ps) :
  Calls Tryz.prog 173 #[v,u] w fun e w'=>e= .returned (.bool true)/\Below w.heap.size w w':=by
 obtain ⟨a,cap,rfl,hc,hm,hr⟩:=hv
 obtain ⟨a',cap',rfl,hc',hm',hr'⟩:=hu
 have Hr:=Z9 hr
 have Hr':=Z9 hr'
 clear hr hr'
 go_enter Tryz.func173,Tryz.ntmps173
 go_wp2_with fail
 go_loopw [5] (fun i wr=> ∃ k:Nat,k<=ps.length/\i= .int .i64 k/\Below w.heap.size w wr) (fun i _=>ps.length-(intOf i).toNat)
 case atStart=>exact ⟨0,Nat.zero_le _,rfl,Below.refl _ _⟩
 case round=>
  obtain ⟨k,hk,rfl,hb⟩:=hrel
  have Hb:=Z9 hb
  by_cases hlt:k<ps.length
  ·rcases uh Hr with h0 | ⟨b,off,rfl,hbw,hcl⟩
   ·rw [h0] at hlt;simp at hlt
   rcases uh Hr' with h0 | ⟨b',off',rfl,hbw',hcl'⟩
   ·rw [h0] at hlt;simp at hlt
   obtain ⟨c0,c1⟩:=hcl k hlt
   obtain ⟨d0,d1⟩:=hcl' k hlt
   rw [<-hb.cell (p:=⟨b,off+k*2,none⟩) hbw] at c0
   rw [<-hb.cell (p:=⟨b,off+k*2+1,none⟩) hbw] at c1
   rw [<-hb.cell (p:=⟨b',off'+k*2,none⟩) hbw'] at d0
   rw [<-hb.cell (p:=⟨b',off'+k*2+1,none⟩) hbw'] at d1
   generalize (Z7 ps k).1=f at *
   generalize (Z7 ps k).2=c at *
   have k0:=cell_regrown c0
   have k1:=cell_regrown c1
   have k2:=cell_regrown d0
   have k3:=cell_regrown d1
   clear hcl hcl' hb c0 c1 d0 d1
   go_wp2_with fail
   refine wp_region_quiet_below (by kernel_rfl) (by kernel_rfl) ?_
   repeat (go_big_quiet_step (exact Calls.regrown_of (Vt _ _ _)))
   refine wpQuiet_nil ?_
   intro _ hw'
   obtain ⟨⟨dq,osq⟩,hw''⟩:=hw'
   subst hw''
   go_wp2_with fail
   go_roundw
   case rel=>exact ⟨k+1,by omega,by go_num,(uh Hb).trans ((below_regrown _ _ _).mono (uh Hb).size)⟩
   case measure=>simp [intOf];omega
  ·go_wp2_with fail
   go_ret
   exact ⟨rfl,hb⟩
theorem Vu {w:World} {v u:Value} {ps:List Z5} (rb:Int) (hv:IsPaces w v ps) (hu:IsPaces w u ps) :
  Calls Tryz.prog 141 #[.agg #[.int .i64 rb,v],.agg #[.int .i64 rb,u]] w fun e w'=>e= .returned (.bool true)/\Below w.heap.size w w':=by
 have Hv:=Z9 hv
 have Hu:=Z9 hu
 obtain ⟨a,cap,rfl,hc,hm,hr⟩:=hv
 obtain ⟨a',cap',rfl,hc',hm',hr'⟩:=hu
 clear hr hr'
 go_enter Tryz.func141,Tryz.ntmps141
 go_wp2_with fail
 refine (Wd ((uh Hv).below (((Below.refl _ _).alloc (Nat.le_refl _) _).alloc (by simp) _)) ((uh Hu).below (((Below.refl _ _).alloc (Nat.le_refl _) _).alloc (by simp) _))).mono ?_
 rintro e w1 ⟨rfl,hb⟩
 have Hb:=Z9 hb
 clear hb
 go_wp2_with fail
 go_ret
 exact ⟨rfl,(((Below.refl _ _).alloc (Nat.le_refl _) _).alloc (by simp) _).trans ((uh Hb).mono (by simp;omega))⟩
theorem Wg {w:World} {v u:Value} {rs:List Z0} (hv:IsRooms w v rs) (hu:IsRooms w u rs) :
  Calls Tryz.prog 99 #[v,u] w fun e w'=>e= .returned (.bool true)/\Below w.heap.size w w':=by
 obtain ⟨a,cap,rfl,hc,hm,hr⟩:=hv
 obtain ⟨a',cap',rfl,hc',hm',hr'⟩:=hu
 have Hr:=Z9 hr
 have Hr':=Z9 hr'
 clear hr hr'
 go_enter Tryz.func99,Tryz.ntmps99
 go_wp2_with fail
 go_loopw [5] (fun i wr=> ∃ k:Nat,k<=rs.length/\i= .int .i64 k/\Below w.heap.size w wr) (fun i _=>rs.length-(intOf i).toNat)
 case atStart=>exact ⟨0,Nat.zero_le _,rfl,Below.refl _ _⟩
 case round=>
  obtain ⟨k,hk,rfl,hb⟩:=hrel
  have Hb:=Z9 hb
  by_cases hlt:k<rs.length
  ·rcases uh Hr with h0 | ⟨b,off,rfl,hbw,hcl⟩
   ·rw [h0] at hlt;simp at hlt
   rcases uh Hr' with h0 | ⟨b',off',rfl,hbw',hcl'⟩
   ·rw [h0] at hlt;simp at hlt
   obtain ⟨c0,pv,c1,hip⟩:=hcl k hlt
   obtain ⟨d0,pu,d1,hiu⟩:=hcl' k hlt
   rw [<-hb.cell (p:=⟨b,off+k*2,none⟩) hbw] at c0
   rw [<-hb.cell (p:=⟨b,off+k*2+1,none⟩) hbw] at c1
   rw [<-hb.cell (p:=⟨b',off'+k*2,none⟩) hbw'] at d0
   rw [<-hb.cell (p:=⟨b',off'+k*2+1,none⟩) hbw'] at d1
   have Hip:=Z9 (hip.below hb)
   have Hiu:=Z9 (hiu.below hb)
   obtain ⟨pa,pcap,rfl,_⟩:=hip
   obtain ⟨pa',pcap',rfl,_⟩:=hiu
   generalize (ZS rs k).1=f at *
   generalize (ZS rs k).2=ps at *
   have k0:=cell_regrown c0
   have k1:=cell_regrown c1
   have k2:=cell_regrown d0
   have k3:=cell_regrown d1
   clear hcl hcl' hb c0 c1 d0 d1
   go_wp2_with fail
   refine wp_region_quiet_below (by kernel_rfl) (by kernel_rfl) ?_
   repeat (go_big_quiet_step (exact Calls.regrown_of (Vu _ ((uh Hip).below (below_regrown _ _ _)) ((uh Hiu).below (below_regrown _ _ _)))))
   refine wpQuiet_nil ?_
   intro _ hw'
   obtain ⟨⟨dq,osq⟩,hw''⟩:=hw'
   subst hw''
   go_wp2_with fail
   go_roundw
   case rel=>exact ⟨k+1,by omega,by go_num,(uh Hb).trans ((below_regrown _ _ _).mono (uh Hb).size)⟩
   case measure=>simp [intOf];omega
  ·go_wp2_with fail
   go_ret
   exact ⟨rfl,hb⟩
theorem Vq {w:World} {v u:Value} {rs:List Z0} (hv:IsRooms w v rs) (hu:IsRooms w u rs) :
  Calls Tryz.prog 58 #[.agg #[v],.agg #[u]] w fun e w'=>e= .returned (.bool true)/\Below w.heap.size w w':=by
 have Hv:=Z9 hv
 have Hu:=Z9 hu
 obtain ⟨a,cap,rfl,hc,hm,hr⟩:=hv
 obtain ⟨a',cap',rfl,hc',hm',hr'⟩:=hu
 clear hr hr'
 go_enter Tryz.func58,Tryz.ntmps58
 go_wp2_with fail
 refine (Wg ((uh Hv).below (((Below.refl _ _).alloc (Nat.le_refl _) _).alloc (by simp) _)) ((uh Hu).below (((Below.refl _ _).alloc (Nat.le_refl _) _).alloc (by simp) _))).mono ?_
 rintro e w1 ⟨rfl,hb⟩
 have Hb:=Z9 hb
 clear hb
 go_wp2_with fail
 go_ret
 exact ⟨rfl,(((Below.refl _ _).alloc (Nat.le_refl _) _).alloc (by simp) _).trans ((uh Hb).mono (by simp;omega))⟩
theorem U4:(Tryz.prog.info? 188).map (fun i=>(i.zero,i.size,i.bytes))=some (some (.agg #[.int .i64 0,.int .i64 0]),2,16):=by kernel_rfl
theorem Vd:(Tryz.prog.info? 116).map (fun i=>(i.zero,i.size,i.bytes))=some (some (.agg #[.int .i64 0,.slice none 0 0]),2,32):=by kernel_rfl
theorem VH (f c:Int) (w:World) :
  Calls Tryz.prog 202 #[.agg #[.int .i64 f,.int .i64 c]] w fun e w'=>e= .returned (.agg #[.int .i64 f,.int .i64 c])/\Below w.heap.size w w':=by
 go_enter Tryz.func202,Tryz.ntmps202
 go_wp2_with fail
 exact bodyPost_ret (v:= .agg #[.int .i64 f,.int .i64 c]) (by simp [results,Tryz.results202,go_sem]) rfl ⟨rfl,(((Below.refl _ _).alloc (Nat.le_refl _) _).alloc (by simp) _).alloc (by simp;omega) _⟩
theorem WX {w:World} {v:Value} {ps:List Z5} (h:IsPaces w v ps) (hs:ps.length<=1048576) :
  Calls Tryz.prog 172 #[v] w fun e w'=> ∃ v',e= .returned v'/\IsPaces w' v' ps/\(∀ k,v'.ownBlock=some k->w.heap.size<=k)/\Below w.heap.size w w':=by
 obtain ⟨a,cap,rfl,hc,hm,hr⟩:=h
 have Hr:=Z9 hr
 clear hr
 obtain ⟨i0,hi,hz0,hz1,hz2⟩:=info_parts U4
 go_enter Tryz.func172,Tryz.ntmps172
 go_wp2_with (at_make;refine wpList_make_full _ rfl _ _ 114 rfl w.heap.size 188 i0 (.agg #[.int .i64 0,.int .i64 0]) 2 Tryz.underlying114 hi hz0 hz1 _ _ _ _ ps.length rfl rfl rfl rfl (by rw [hz2];omega) (by unfold maxLen;omega) (Nat.le_refl _) ?_;intro w0 hown hgrow)
 have Hown:=Z9 hown
 have Hgr:=Z9 hgrow
 clear hown hgrow
 go_loopw [4] (fun i wr=> ∃ k:Nat,k<=ps.length/\i= .int .i64 k/\ ∃ xs,wr.ownsRow w.heap.size 188 2 (.slice (some ⟨w.heap.size,0,none⟩) ps.length ps.length) ps.length xs/\Pairs xs (Wo ps) k/\Below w.heap.size w wr) (fun i _=>ps.length-(intOf i).toNat)
 case atStart=>exact ⟨0,Nat.zero_le _,rfl,_,uh Hown,fun j hj=>by omega,(Below.refl _ _).grown (uh Hgr) (Nat.le_refl _) (fun k e=>by cases e)⟩
 case round=>
  obtain ⟨k,hk,rfl,xs,hown,hpr,hb⟩:=hrel
  have Hb:=Z9 hb
  by_cases hlt:k<ps.length
  ·rcases uh Hr with h0 | ⟨b,off,rfl,hbw,hcl⟩
   ·rw [h0] at hlt;simp at hlt
   obtain ⟨c0,c1⟩:=hcl k hlt
   rw [<-hb.cell (p:=⟨b,off+k*2,none⟩) hbw] at c0
   rw [<-hb.cell (p:=⟨b,off+k*2+1,none⟩) hbw] at c1
   have hxs:xs.length=ps.length*2:=hown.1
   have Ho:=Z9 hown
   have Hpr:=Z9 hpr
   generalize hp:Z7 ps k=p at c0 c1
   obtain ⟨f,c⟩:=p
   simp only at c0 c1
   have Hp:=Z9 hp
   clear hcl hb hown hpr hp
   go_wp2_with fail
   refine (VH _ _ _).mono ?_
   rintro e w1 ⟨rfl,hb1⟩
   have ho1:=Yz (uh Ho) hb1
   obtain ⟨⟨x0,y0⟩,z0⟩:=YS ho1 (j:=k*2) (by omega)
   obtain ⟨⟨x1,y1⟩,z1⟩:=YS ho1 (j:=k*2+1) (by omega)
   have Hp2:=Z9 (Mf ho1 (k*2) (.int .i64 f) (.int .i64 c))
   have Hb1:=Z9 hb1
   have hsz:=hb1.size
   have hsz0:=(uh Hb).size
   clear ho1 hb1
   go_wp2_with fail
   go_roundw
   case rel=>exact ⟨k+1,by omega,by go_num,_,(uh Hp2).1,(uh Hpr).next (by omega) ⟨by rw [uh Hp],by rw [uh Hp]⟩,((uh Hb).trans ((uh Hb1).mono hsz0)).trans (Zo (uh Hp2).2 (Nat.le_refl _) (by omega))⟩
   case measure=>simp [intOf];omega
  ·obtain rfl:k=ps.length:=by omega
   go_wp2_with fail
   go_ret
   exact ⟨_,rfl,IsPaces.of_row hown hpr rfl,fun k e=>by cases e;exact Nat.le_refl _,hb⟩
theorem IsPaces.set {w:World} {v:Value} {ps:List Z5} (h:IsPaces w v ps) (b o:Nat) (u:Value) (hn:∀ k,v.ownBlock=some k->k ≠ b):IsPaces (w.setCell ⟨b,o,none⟩ u) v ps:=by
 obtain ⟨a,cap,rfl,hc,hm,hr⟩:=h
 refine ⟨a,cap,rfl,hc,hm,?_⟩
 rcases hr with hr | ⟨b',off,rfl,hlt,hcl⟩
 ·exact .inl hr
 ·have hne:b' ≠ b:=hn b' rfl
  refine .inr ⟨b',off,rfl,by simpa using hlt,fun k hk=> ?_⟩
  obtain ⟨h1,h2⟩:=hcl k hk
  exact ⟨by rw [World.cell?_setCell_other _ _ _ _ (by simp)];exact h1,by rw [World.cell?_setCell_other _ _ _ _ (by simp)];exact h2⟩
theorem VJ {w:World} {v:Value} {ps:List Z5} (rb:Int) (h:IsPaces w v ps) (hs:ps.length<=1048576) :
  Calls Tryz.prog 140 #[.agg #[.int .i64 rb,v]] w fun e w'=> ∃ v',e= .returned (.agg #[.int .i64 rb,v'])/\IsPaces w' v' ps/\(∀ k,v'.ownBlock=some k->w.heap.size<=k)/\Below w.heap.size w w':=by
 have Hv:=Z9 h
 obtain ⟨a,cap,rfl,hc,hm,hr⟩:=h
 clear hr
 have Hb0:Hid (∀ o1 o2 o3:Obj,Below w.heap.size w (((w.alloc o1).alloc o2).alloc o3)):=Z9 (fun o1 o2 o3=>(((Below.refl _ _).alloc (Nat.le_refl _) _).alloc (by simp) _).alloc (by simp;omega) _)
 go_enter Tryz.func140,Tryz.ntmps140
 go_wp2_with fail
 refine (WX ((uh Hv).below (uh Hb0 _ _ _)) hs).mono ?_
 rintro e w1 ⟨v',rfl,hp,hk,hb1⟩
 have hsz:w.heap.size+3<=w1.heap.size:=by have:=hb1.size;simp at this;omega
 have hk':∀ k,v'.ownBlock=some k->w.heap.size+3<=k:=fun k e=>by have:=hk k e;simp at this;omega
 obtain ⟨cc,ff⟩:=Fi hb1
 have x0:=cc (w.heap.size+2) 0 (by simp)
 have x1:=cc (w.heap.size+2) 1 (by simp)
 have y0:=cc (w.heap.size+1) 0 (by simp)
 have y1:=cc (w.heap.size+1) 1 (by simp)
 have fx0:=ff (w.heap.size+2) 0 (by simp)
 have fx1:=ff (w.heap.size+2) 1 (by simp)
 have fy0:=ff (w.heap.size+1) 0 (by simp)
 have fy1:=ff (w.heap.size+1) 1 (by simp)
 have Hp:=Z9 hp
 have Hk:=Z9 hk'
 have Hb1:=Z9 hb1
 obtain ⟨a',cap',rfl,_⟩:=hp
 clear cc ff hk hk' hb1
 go_wp2_with fail
 have Q:∀ b o u,b<=w.heap.size+2-> ∀ w' v',IsPaces w' v' ps->(∀ k,v'.ownBlock=some k->w.heap.size+3<=k)->IsPaces (w'.setCell ⟨b,o,none⟩ u) v' ps:=fun b o u hb w' v' h hk=>h.set b o u (fun k e=>by have:=hk k e;omega)
 have B1:Below w.heap.size w w1:=(uh Hb0 _ _ _).trans ((uh Hb1).mono (by simp;omega))
 refine bodyPost_ret (v:= .agg #[.int .i64 rb,.slice a' ps.length cap']) (by simp [results,Tryz.results140,go_sem, *]) rfl ⟨_,rfl,?_,fun k e=>by have:=uh Hk k e;omega,?_⟩
 ·exact Q _ _ _ (by omega) _ _ (Q _ _ _ (by omega) _ _ (Q _ _ _ (by omega) _ _ (uh Hp) (uh Hk)) (uh Hk)) (uh Hk)
 ·exact ((B1.setCell (by show _<=w.heap.size+1+1;omega) _).setCell (by show _<=w.heap.size+1;omega) _).setCell (by show _<=w.heap.size+1;omega) _
def Y7 (w:World) (g:Nat) (rs:List Z0) (j:Nat) (u u':Value):Prop:=u= .int .i64 (ZS rs j).1/\IsPaces w u' (ZS rs j).2/\ ∀ k,u'.ownBlock=some k->g<k
def RoomsFrom (n₀:Nat) (w:World) (v:Value) (rs:List Z0):Prop:=
 ∃ (a:Option Addr) (cap:Nat),v= .slice a rs.length cap/\rs.length<=cap/\cap<=9223372036854775807/\(rs=[]\/ ∃ b off,a=some ⟨b,off,none⟩/\n₀<=b/\b<w.heap.size/\
  ∀ k,k<rs.length->w.cell? ⟨b,off+k*2,none⟩=some (.int .i64 (ZS rs k).1)/\ ∃ pv,w.cell? ⟨b,off+k*2+1,none⟩=some pv/\IsPaces w pv (ZS rs k).2/\ ∀ j,pv.ownBlock=some j->n₀<=j)
theorem RoomsFrom.rooms {n₀:Nat} {w:World} {v:Value} {rs:List Z0} (h:RoomsFrom n₀ w v rs):IsRooms w v rs:=by
 obtain ⟨a,cap,rfl,hc,hm,hr⟩:=h
 refine ⟨a,cap,rfl,hc,hm,?_⟩
 rcases hr with hr | ⟨b,off,rfl,_,hlt,hcl⟩
 ·exact .inl hr
 ·exact .inr ⟨b,off,rfl,hlt,fun k hk=>by obtain ⟨h1,pv,h2,h3,_⟩:=hcl k hk;exact ⟨h1,pv,h2,h3⟩⟩
theorem RoomsFrom.set {n₀:Nat} {w:World} {v:Value} {rs:List Z0} (h:RoomsFrom n₀ w v rs) (g o:Nat) (u:Value) (hg:g<n₀):RoomsFrom n₀ (w.setCell ⟨g,o,none⟩ u) v rs:=by
 obtain ⟨a,cap,rfl,hc,hm,hr⟩:=h
 refine ⟨a,cap,rfl,hc,hm,?_⟩
 rcases hr with hr | ⟨b,off,rfl,hn,hlt,hcl⟩
 ·exact .inl hr
 ·have hne:b ≠ g:=by omega
  refine .inr ⟨b,off,rfl,hn,by simpa using hlt,fun k hk=> ?_⟩
  obtain ⟨h1,pv,h2,h3,h4⟩:=hcl k hk
  exact ⟨by rw [World.cell?_setCell_other _ _ _ _ (by simp)];exact h1,pv,by rw [World.cell?_setCell_other _ _ _ _ (by simp)];exact h2,h3.set _ _ _ (fun j e=>by have:=h4 j e;omega),h4⟩
theorem RoomsFrom.of_row {w:World} {B g n cap t:Nat} {rs:List Z0} {xs:List Value} (h:w.ownsRow B t 2 (.slice (some ⟨g,0,none⟩) n cap) n xs) (hp:Pairs xs (Y7 w g rs) rs.length) (hn:n=rs.length):RoomsFrom g w (.slice (some ⟨g,0,none⟩) n cap) rs:=by
 subst hn
 have h':=h
 rcases h.2 with ⟨hh,_⟩ | ⟨g',cap',cur,hh,hb,hg,hnc,hcm,r⟩
 ·simp at hh
 ·simp only [Value.slice.injEq,Option.some.injEq,Addr.mk.injEq,and_true,true_and] at hh
  obtain ⟨rfl,rfl⟩:=hh
  refine ⟨_,cap,rfl,hnc,by unfold maxLen at hcm;omega,.inr ⟨g,0,rfl,Nat.le_refl _,(Array.getElem?_eq_some_iff.1 hg).1,fun k hk=> ?_⟩⟩
  obtain ⟨u,u',h1,h2,rfl,h3,h4⟩:=hp k hk
  refine ⟨?_,u',?_,h3,fun j e=>Nat.le_of_lt (h4 j e)⟩
  ·rw [Nat.zero_add,World.ownsRow.cellAt h' _ (by omega)];exact h1
  ·rw [Nat.zero_add,World.ownsRow.cellAt h' _ (by omega)];exact h2
theorem WY {w:World} {v:Value} {rs:List Z0} (h:IsRooms w v rs) (hs:VO rs) :
  Calls Tryz.prog 95 #[v] w fun e w'=> ∃ v',e= .returned v'/\RoomsFrom w.heap.size w' v' rs/\Below w.heap.size w w':=by
 obtain ⟨a,cap,rfl,hc,hm,hr⟩:=h
 have Hr:=Z9 hr
 clear hr
 obtain ⟨hs1,hs2⟩:=hs
 have Hs2:=Z9 hs2
 clear hs2
 obtain ⟨i0,hi,hz0,hz1,hz2⟩:=info_parts Vd
 go_enter Tryz.func95,Tryz.ntmps95
 go_wp2_with (at_make;refine wpList_make_full _ rfl _ _ 24 rfl w.heap.size 116 i0 (.agg #[.int .i64 0,.slice none 0 0]) 2 Tryz.underlying24 hi hz0 hz1 _ _ _ _ rs.length rfl rfl rfl rfl (by rw [hz2];omega) (by unfold maxLen;omega) (Nat.le_refl _) ?_;intro w0 hown hgrow)
 have Hown:=Z9 hown
 have Hgr:=Z9 hgrow
 clear hown hgrow
 go_loopw [4] (fun i wr=> ∃ k:Nat,k<=rs.length/\i= .int .i64 k/\ ∃ xs,wr.ownsRow w.heap.size 116 2 (.slice (some ⟨w.heap.size,0,none⟩) rs.length rs.length) rs.length xs/\Pairs xs (Y7 wr w.heap.size rs) k/\Below w.heap.size w wr) (fun i _=>rs.length-(intOf i).toNat)
 case atStart=>exact ⟨0,Nat.zero_le _,rfl,_,uh Hown,fun j hj=>by omega,(Below.refl _ _).grown (uh Hgr) (Nat.le_refl _) (fun k e=>by cases e)⟩
 case round=>
  obtain ⟨k,hk,rfl,xs,hown,hpr,hb⟩:=hrel
  have Hb:=Z9 hb
  by_cases hlt:k<rs.length
  ·rcases uh Hr with h0 | ⟨b,off,rfl,hbw,hcl⟩
   ·rw [h0] at hlt;simp at hlt
   obtain ⟨c0,pv,c1,hip⟩:=hcl k hlt
   rw [<-hb.cell (p:=⟨b,off+k*2,none⟩) hbw] at c0
   rw [<-hb.cell (p:=⟨b,off+k*2+1,none⟩) hbw] at c1
   have hxs:xs.length=rs.length*2:=hown.1
   have hg1:w.heap.size<wr.heap.size:=(World.ownsRow.lt hown w.heap.size rfl).2
   have Ho:=Z9 hown
   have Hpr:=Z9 hpr
   have Hip:=Z9 (hip.below hb)
   obtain ⟨pa,pcap,rfl,_⟩:=hip
   have hsk:=uh Hs2 k hlt
   generalize hp:ZS rs k=p at *
   obtain ⟨rb,ps⟩:=p
   simp only at c0 c1 hsk
   have Hp:=Z9 hp
   clear hcl hb hown hpr hp
   go_wp2_with fail
   refine (VJ rb (uh Hip) hsk).mono ?_
   rintro e w1 ⟨v',rfl,hip',hk',hb1⟩
   have ho1:=Yz (uh Ho) hb1
   obtain ⟨⟨x0,y0⟩,z0⟩:=YS ho1 (j:=k*2) (by omega)
   obtain ⟨⟨x1,y1⟩,z1⟩:=YS ho1 (j:=k*2+1) (by omega)
   have Hp2:=Z9 (Mf ho1 (k*2) (.int .i64 rb) v')
   have Hip':=Z9 hip'
   have Hk':=Z9 hk'
   have Hb1:=Z9 hb1
   have hsz:=hb1.size
   have hsz0:=(uh Hb).size
   obtain ⟨a',cap',rfl,_⟩:=hip'
   clear ho1 hb1 hk'
   go_wp2_with fail
   have hne:∀ {u:Value},(∀ m,u.ownBlock=some m->w.heap.size<m)-> ∀ {qs},IsPaces wr u qs->IsPaces ((w1.setCell ⟨w.heap.size,k*2,none⟩ (.int .i64 rb)).setCell ⟨w.heap.size,k*2+1,none⟩ (.slice a' ps.length cap')) u qs:=fun hn qs hq=>((hq.below (uh Hb1)).set _ _ _ (fun m e=>by have:=hn m e;omega)).set _ _ _ (fun m e=>by have:=hn m e;omega)
   have hn':∀ m,(Value.slice a' ps.length cap').ownBlock=some m->w.heap.size<m:=fun m e=>by have:=uh Hk' _ e;omega
   have hlast:Y7 ((w1.setCell ⟨w.heap.size,k*2,none⟩ (.int .i64 rb)).setCell ⟨w.heap.size,k*2+1,none⟩ (.slice a' ps.length cap')) w.heap.size rs k (.int .i64 rb) (.slice a' ps.length cap'):=by
    unfold Y7
    rw [uh Hp]
    exact ⟨rfl,((uh Hip').set _ _ _ (fun m e=>by have:=hn' m e;omega)).set _ _ _ (fun m e=>by have:=hn' m e;omega),hn'⟩
   have hprev:=(uh Hpr).mono (Q:=Y7 ((w1.setCell ⟨w.heap.size,k*2,none⟩ (.int .i64 rb)).setCell ⟨w.heap.size,k*2+1,none⟩ (.slice a' ps.length cap')) w.heap.size rs) (fun j u u' h=>⟨h.1,hne h.2.2 h.2.1,h.2.2⟩)
   go_roundw
   case rel=>exact ⟨k+1,by omega,by go_num,_,(uh Hp2).1,hprev.next (by omega) hlast,((uh Hb).trans ((uh Hb1).mono hsz0)).trans (Zo (uh Hp2).2 (Nat.le_refl _) (by omega))⟩
   case measure=>simp [intOf];omega
  ·obtain rfl:k=rs.length:=by omega
   go_wp2_with fail
   go_ret
   exact ⟨_,rfl,RoomsFrom.of_row hown hpr rfl,hb⟩
section
variable {α : Type} {t k : Nat} {enc : α → List Value}
def Zz (xs:List α) (z:α) (j:Nat):List α:=xs.take j++List.replicate (xs.length-j) z
theorem Y5 {xs:List α} {z:α} {j:Nat} (h:j<=xs.length):(Zz xs z j).length=xs.length:=by unfold Zz;simp;omega
theorem Zj (xs:List α) (z:α):Zz xs z 0=List.replicate xs.length z:=by unfold Zz;simp
theorem Y3 (xs:List α) (z:α):Zz xs z xs.length=xs:=by unfold Zz;simp
theorem Y6 [Inhabited α] {xs:List α} {z:α} {j:Nat} (h:j<xs.length):(Zz xs z j).set j (Z8 xs j)=Zz xs z (j+1):=by
 unfold Zz
 have hl:(xs.take j).length=j:=by simp;omega
 rw [List.set_append_right _ _ (by rw [hl];exact Nat.le_refl _),hl,Nat.sub_self,Og h,List.take_succ_eq_append_getElem h,List.append_assoc]
 congr 1
 obtain ⟨m,hm⟩:∃ m,xs.length-j=m+1:=⟨xs.length-j-1,by omega⟩
 rw [hm,List.replicate_succ,List.set_cons_zero,show xs.length-(j+1)=m by omega]
 rfl
end
end Go.Proofs.YthbbahagpmdooaaGreat
namespace Go.Proofs.YthbbahagpmdooaaGreat
open Go.ChangeShapes Go.WideShapes Go.ChangeAt Go.RowKit Go.Sort
set_option linter.unusedVariables false
theorem Xv (a:Option Addr) (n cap:Nat) (left:Int) (hn:n<=9223372036854775807) (h0:0<=left) (h1:left<=1048576) (w:World) :
  Calls Tryz.prog 49 #[.slice a n cap,.int .i64 left] w fun e w'=>e= .returned (.int .i64 (szV n left))/\w'=w:=by
 by_cases h:left-n<0
 all_goals
  go_enter Tryz.func49,Tryz.ntmps49
  go_wp2
  go_ret
  exact ⟨Zx (by first | exact (Y9 (by omega)).symm | exact (Zc (by omega)).symm),rfl⟩
theorem Wa (x0:Int) (x1:Int) (x2:Int) (w:World) :
  Calls Tryz.prog 100 #[.agg #[.int .i64 x0,.int .i64 x1,.int .i64 x2],.agg #[.int .i64 x0,.int .i64 x1,.int .i64 x2]] w fun e w'=>e= .returned (.bool true)/\Below w.heap.size w w':=by
 go_enter Tryz.func100,Tryz.ntmps100
 go_wp2_with fail
 go_ret
 exact ⟨rfl,((Below.refl _ _).alloc (Nat.le_refl _) _).alloc (by simp) _⟩
theorem W5 {w:World} {v u:Value} {ps:List ZK} (hv:Yw w v ps) (hu:Yw w u ps) :
  Calls Tryz.prog 59 #[v,u] w fun e w'=>e= .returned (.bool true)/\Below w.heap.size w w':=by
 obtain ⟨a,cap,rfl,hc,hm,hr⟩:=hv
 obtain ⟨a',cap',rfl,hc',hm',hr'⟩:=hu
 have Hr:=Z9 hr
 have Hr':=Z9 hr'
 clear hr hr'
 go_enter Tryz.func59,Tryz.ntmps59
 go_wp2_with fail
 go_loopw [5] (fun i wr=> ∃ k:Nat,k<=ps.length/\i= .int .i64 k/\Below w.heap.size w wr) (fun i _=>ps.length-(intOf i).toNat)
 case atStart=>exact ⟨0,Nat.zero_le _,rfl,Below.refl _ _⟩
 case round=>
  obtain ⟨k,hk,rfl,hb⟩:=hrel
  have Hb:=Z9 hb
  by_cases hlt:k<ps.length
  ·rcases uh Hr with h0 | ⟨b,off,rfl,hbw,hcl⟩
   ·rw [h0] at hlt;simp at hlt
   rcases uh Hr' with h0 | ⟨b',off',rfl,hbw',hcl'⟩
   ·rw [h0] at hlt;simp at hlt
   obtain ⟨c0,c1,c2⟩:=Va hcl hlt
   obtain ⟨d0,d1,d2⟩:=Va hcl' hlt
   generalize Z8 ps k=p at *
   obtain ⟨x0,x1,x2⟩:=p
   simp only at c0 c1 c2 d0 d1 d2
   have k0:=cell_regrown ((hb.cell (p:=⟨b,off+k*3,none⟩) hbw).trans c0)
   have m0:=cell_regrown ((hb.cell (p:=⟨b',off'+k*3,none⟩) hbw').trans d0)
   have k1:=cell_regrown ((hb.cell (p:=⟨b,off+k*3+1,none⟩) hbw).trans c1)
   have m1:=cell_regrown ((hb.cell (p:=⟨b',off'+k*3+1,none⟩) hbw').trans d1)
   have k2:=cell_regrown ((hb.cell (p:=⟨b,off+k*3+2,none⟩) hbw).trans c2)
   have m2:=cell_regrown ((hb.cell (p:=⟨b',off'+k*3+2,none⟩) hbw').trans d2)
   clear hcl hcl' hb c0 c1 c2 d0 d1 d2
   go_wp2_with fail
   refine wp_region_quiet_below (by kernel_rfl) (by kernel_rfl) ?_
   repeat (go_big_quiet_step (exact Calls.regrown_of (Wa _ _ _ _)))
   refine wpQuiet_nil ?_
   intro _ hw'
   obtain ⟨⟨dq,osq⟩,hw''⟩:=hw'
   subst hw''
   go_wp2_with fail
   go_roundw
   case rel=>exact ⟨k+1,by omega,by go_num,(uh Hb).trans ((below_regrown _ _ _).mono (uh Hb).size)⟩
   case measure=>simp [intOf];omega
  ·go_wp2_with fail
   go_ret
   exact ⟨rfl,hb⟩
theorem WQ (x0:Int) (x1:Int) (x2:Int) (w:World) :
  Calls Tryz.prog 96 #[.agg #[.int .i64 x0,.int .i64 x1,.int .i64 x2]] w fun e w'=>e= .returned (.agg #[.int .i64 x0,.int .i64 x1,.int .i64 x2])/\Below w.heap.size w w':=by
 go_enter Tryz.func96,Tryz.ntmps96
 go_wp2_with fail
 exact bodyPost_ret (v:= .agg #[.int .i64 x0,.int .i64 x1,.int .i64 x2]) (by simp [results,Tryz.results96,go_sem]) rfl ⟨rfl,(((Below.refl _ _).alloc (Nat.le_refl _) _).alloc (by simp) _).alloc (by simp;omega) _⟩
theorem XW {w:World} {v:Value} {ps:List ZK} (h:Yw w v ps) (hs:ps.length<=1048576) :
  Calls Tryz.prog 54 #[v] w fun e w'=> ∃ v',e= .returned v'/\GuildsAt w.heap.size w' v' ps/\Below w.heap.size w w':=by
 obtain ⟨a,cap,rfl,hc,hm,hr⟩:=h
 have Hr:=Z9 hr
 clear hr
 obtain ⟨i0,hi,hz0,hz1,hz2⟩:=info_parts GX
 go_enter Tryz.func54,Tryz.ntmps54
 go_wp2_with (at_make;refine wpList_make_full _ rfl _ _ 27 rfl w.heap.size 121 i0 (.agg #[.int .i64 0,.int .i64 0,.int .i64 0]) 3 Tryz.underlying27 hi hz0 hz1 _ _ _ _ ps.length rfl rfl rfl rfl (by rw [hz2];omega) (by unfold maxLen;omega) (Nat.le_refl _) ?_;intro w0 hown hgrow)
 have Hown:Hid (GuildsAt w.heap.size w0 (.slice (some ⟨w.heap.size,0,none⟩) ps.length ps.length) (Zz ps (0,0,0) 0)):=Z9 (by
  rw [Hj Yb (by omega) (0,0,0) (Value.agg #[.int .i64 0,.int .i64 0,.int .i64 0]).cells rfl ps.length] at hown
  rw [Zj]
  show w0.ownsRow _ _ _ _ (List.replicate ps.length _).length _
  rw [List.length_replicate]
  exact hown)
 have Hgr:=Z9 hgrow
 clear hown hgrow
 go_loopw [4] (fun i wr=> ∃ k:Nat,k<=ps.length/\i= .int .i64 k/\GuildsAt w.heap.size wr (.slice (some ⟨w.heap.size,0,none⟩) ps.length ps.length) (Zz ps (0,0,0) k)/\Below w.heap.size w wr) (fun i _=>ps.length-(intOf i).toNat)
 case atStart=>exact ⟨0,Nat.zero_le _,rfl,uh Hown,(Below.refl _ _).grown (uh Hgr) (Nat.le_refl _) (fun k e=>by cases e)⟩
 case round=>
  obtain ⟨k,hk,rfl,hown,hb⟩:=hrel
  have Hb:=Z9 hb
  by_cases hlt:k<ps.length
  ·rcases uh Hr with h0 | ⟨b,off,rfl,hbw,hcl⟩
   ·rw [h0] at hlt;simp at hlt
   obtain ⟨c0,c1,c2⟩:=Va hcl hlt
   rw [<-hb.cell (p:=⟨b,off+k*3,none⟩) hbw] at c0
   rw [<-hb.cell (p:=⟨b,off+k*3+1,none⟩) hbw] at c1
   rw [<-hb.cell (p:=⟨b,off+k*3+2,none⟩) hbw] at c2
   have Ho:=Z9 hown
   have HS:=Z9 (Y6 (z:=((0,0,0):ZK)) hlt)
   generalize hp:Z8 ps k=p at *
   obtain ⟨x0,x1,x2⟩:=p
   simp only at c0 c1 c2
   clear hcl hb hown hp
   go_wp2_with fail
   refine (WQ _ _ _ _).mono ?_
   rintro e w1 ⟨rfl,hb1⟩
   have ho1:=RecAt.later (uh Ho) hb1
   have hfl:=Y5 (z:=((0,0,0):ZK)) hk
   obtain ⟨g,hg,_,_,hcells,hfz⟩:=RecAt.view Yb (by omega) ho1 hfl.symm (by omega)
   cases hg
   have hq:=fun i u hu=>hcells k (by omega) i u hu
   generalize Z8 (Zz ps (0,0,0) k) k=old at hq
   have o0:=hq 0 _ rfl
   have f0:=hfz (k*3)
   have o1:=hq 1 _ rfl
   have f1:=hfz (k*3+1)
   have o2:=hq 2 _ rfl
   have f2:=hfz (k*3+2)
   simp only [Nat.add_zero] at o0
   have Hp2:=Z9 (RecAt.put Yb (by omega) ho1 hfl.symm (j:=k) (by omega) (x0,x1,x2))
   have Hb1:=Z9 hb1
   have hsz:=hb1.size
   have hsz0:=(uh Hb).size
   clear ho1 hb1 hcells hq hfz hfl
   go_wp2_with fail
   go_roundw
   case rel=>exact ⟨k+1,by omega,by go_num,by have h9:=(uh Hp2).1;rw [uh HS] at h9;exact h9,((uh Hb).trans ((uh Hb1).mono hsz0)).trans (Zo (uh Hp2).2 (Nat.le_refl _) (by omega))⟩
   case measure=>simp [intOf];omega
  ·obtain rfl:k=ps.length:=by omega
   rw [Y3] at hown
   go_wp2_with fail
   go_ret
   exact ⟨_,rfl,hown,hb⟩
end Go.Proofs.YthbbahagpmdooaaGreat
