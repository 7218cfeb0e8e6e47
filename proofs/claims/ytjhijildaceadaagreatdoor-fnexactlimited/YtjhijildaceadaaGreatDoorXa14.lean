/- Part 14 of what the proof rests on. No condition but those that a theorem names. -/
import Derived.Test.YtjhijildaceadaaGreatDoorXa10
import Derived.Test.YtjhijildaceadaaGreatDoorXa13
import Derived.WalkMore
import Derived.Shelf.RegionOpen
set_option maxHeartbeats 8000000
set_option maxRecDepth 100000
namespace Go.Proofs.YtjhijildaceadaaGreatDoor
open Go.ChangeShapes Go.WideShapes Go.ChangeAt Go.RowKit
set_option linter.unusedVariables false
def CZ (J:Nat->Act->World->Prop) (Q:Exit->Act->World->Prop):Exit->Act->World->Prop
 | .goto l,a,w=>J l a w
 | e,a,w=>Q e a w
theorem L7 {J:Nat->Act->World->Prop} {Q:Exit->Act->World->Prop} {a:Act} {w:World} : CZ J Q .ret a w=Q .ret a w:=rfl
theorem LL {P:Program} {a:Act} {w:World} {Q:Exit->Act->World->Prop} {c:Code} (J:Nat->Act->World->Prop) (μ:Nat->Act->World->Nat)
  (first:c.wp P (CZ J Q) a w)
  (pass:∀ l a w,J l a w-> ∃ rest,findLabel c l=some rest/\rest.wp P (CZ (fun l' a' w'=>J l' a' w'/\μ l' a' w'<μ l a w) Q) a w):(Code.scope c).wp P Q a w:=by
 intro b k cs
 have key:∀ n l a w,μ l a w=n->J l a w-> ∃ rest,findLabel c l=some rest/\ ∃ e a' w',Q e a' w'/\Arrives P (lone (b.at a (.code rest:: .inScope c::k)) cs w) b k cs e a' w':=by
  intro n
  induction n using Nat.strongRecOn with
  | _ n ih=>
   intro l a w hn hJ
   obtain ⟨rest,hf,hp⟩:=pass l a w hJ
   refine ⟨rest,hf,?_⟩
   obtain ⟨e,a₁,w₁,hq,harr⟩:=hp b (.inScope c::k) cs
   cases e with
   | normal=>exact ⟨.normal,a₁,w₁,hq,Steps.trans harr (.one step_inScope)⟩
   | exit id=>exact ⟨.exit id,a₁,w₁,hq,fun k' hk=>harr k' (by simp [exitTo,hk])⟩
   | goto l'=>
    obtain ⟨hJ',hlt⟩:=hq
    obtain ⟨rest',hf',e₂,a₂,w₂,hq₂,harr₂⟩:=ih _ (by omega) l' a₁ w₁ rfl hJ'
    exact ⟨e₂,a₂,w₂,hq₂,.of_steps (harr _ (by simp [gotoIn,hf'])) harr₂⟩
   | ret=>exact ⟨_,a₁,w₁,hq,harr⟩
   | panic ch=>exact ⟨_,a₁,w₁,hq,harr⟩
   | outgrown=>exact ⟨_,a₁,w₁,hq,harr⟩
 obtain ⟨e,a₁,w₁,hq,harr⟩:=first b (.inScope c::k) cs
 cases e with
 | normal=>exact ⟨.normal,a₁,w₁,hq,.head step_scope (Steps.trans harr (.one step_inScope))⟩
 | exit id=>exact ⟨.exit id,a₁,w₁,hq,fun k' hk=> .head step_scope (harr k' (by simp [exitTo,hk]))⟩
 | goto l'=>
  obtain ⟨rest',hf',e₂,a₂,w₂,hq₂,harr₂⟩:=key _ l' a₁ w₁ rfl hq
  exact ⟨e₂,a₂,w₂,hq₂,.of_steps (.head step_scope (harr _ (by simp [gotoIn,hf']))) harr₂⟩
 | ret=>exact ⟨_,a₁,w₁,hq,.of_steps (.one step_scope) harr⟩
 | panic ch=>exact ⟨_,a₁,w₁,hq,.of_steps (.one step_scope) harr⟩
 | outgrown=>exact ⟨_,a₁,w₁,hq,.of_steps (.one step_scope) harr⟩
theorem Sc (lo n hi:Int) (w:World):Calls Tryz.prog 234 #[.int .i64 lo,.int .i64 n,.int .i64 hi] w fun e w'=>e= .returned (.bool (inB n lo hi))/\w'=w:=by
 by_cases h1:lo<=n
 ·by_cases h2:n<=hi
  all_goals
   go_enter Tryz.func234,Tryz.ntmps234
   go_wp2
   go_ret
   exact ⟨Z5 (by unfold inB;simp [h1,h2]),rfl⟩
 ·go_enter Tryz.func234,Tryz.ntmps234
  go_wp2
  go_ret
  exact ⟨Z5 (Xj (by omega)).symm,rfl⟩
theorem TM (f need:Int) (w:World) (f0:0<=f) (f1:f<=1000000) (n0:0<=need) (n1:need<=2000000) :
  Calls Tryz.prog 381 #[.int .i64 f,.int .i64 need] w fun e w'=>e= .returned (.bool (decide (5*need<=4*f)))/\w'=w:=by
 go_enter Tryz.func381,Tryz.ntmps381
 go_wp2_with fail
 go_ret
 exact ⟨Z5 rfl,rfl⟩
theorem Yx (x:Int) (w:World):Calls Tryz.prog 226 #[.int .i64 x] w fun e w'=>e= .returned (.bool (inB x 0 1000000))/\w'=w:=by
 go_enter Tryz.func226,Tryz.ntmps226
 go_wp2_with (go_at_call 76;refine (ZX _ _ _ _).mono ?_;rintro e w' ⟨rfl,rfl⟩)
 go_ret
 exact ⟨rfl,rfl⟩
theorem XO (b cap:Nat) (zs:List Int) (w:World) (hl:zs.length<=1000) (hc:∀ k,k<zs.length->w.cell? ⟨b,k,none⟩=some (.int .i64 (zs.getD k 0))) :
  Calls Tryz.prog 440 #[.slice (some ⟨b,0,none⟩) zs.length cap] w fun e w'=>e= .returned (.bool (zs.all fun z=>inB z 0 1000000))/\w'=w:=by
 have Hc:=Z9 hc
 clear hc
 go_enter Tryz.func440,Tryz.ntmps440
 go_wp2_with fail
 refine LL (fun l a' w'=>w'=w/\ ∃ (r:Bool) (k:Nat) (u4 u5 u6 u7 u8 u9 u10 u11 u12 u13 u14 u15:Value),k<=zs.length/\a'={ tmps:=#[.slice (some ⟨b,0,none⟩) zs.length cap,undef,.bool r,.int .i64 k,u4,u5,u6,u7,u8,u9,u10,u11,u12,u13,u14,u15],defers:=[] }/\
   ((l=0/\(zs.all fun z=>inB z 0 1000000)=true)\/(l=1/\((zs.take k).all fun z=>inB z 0 1000000)=true)\/(l=2/\(zs.all fun z=>inB z 0 1000000)=false))) (fun l a' _=>if l=1 then zs.length+1-(intOf (a'.tmps.getD 3 undef)).toNat else 0) ?_ ?_
 ·by_cases hlt:0<zs.length
  ·have hcell:=uh Hc 0 hlt
   generalize hz:zs.getD 0 0=z at hcell
   have Hz:=Z9 hz
   clear hz
   cases hp:inB z 0 1000000
   ·go_wp2_with fail
    go_step3
    go_wp2_with (go_at_call 234;refine (Sc _ _ _ _).mono ?_;rintro e w' ⟨rfl,rfl⟩)
    go_step3
    exact ⟨rfl,false,0,_,_,_,_,_,_,_,_,_,_,_,_,Nat.zero_le _,rfl,.inr (.inr ⟨rfl,TC hlt (uh Hz) hp⟩)⟩
   ·go_wp2_with fail
    go_step3
    go_wp2_with (go_at_call 234;refine (Sc _ _ _ _).mono ?_;rintro e w' ⟨rfl,rfl⟩)
    go_step3
    exact ⟨rfl,false,1,_,_,_,_,_,_,_,_,_,_,_,_,hlt,rfl,.inr (.inl ⟨rfl,QF (k:=0) hlt (uh Hz) (by simp) hp⟩)⟩
  ·obtain rfl:zs=[]:=List.eq_nil_of_length_eq_zero (by omega)
   go_wp2_with fail
   go_step3
   go_wp2_with fail
   go_step3
   exact ⟨rfl,false,0,_,_,_,_,_,_,_,_,_,_,_,_,Nat.zero_le _,rfl,.inl ⟨rfl,rfl⟩⟩
 ·rintro l a' w' ⟨rfl,r,k,u4,u5,u6,u7,u8,u9,u10,u11,u12,u13,u14,u15,hk,rfl,⟨rfl,ha⟩ | ⟨rfl,ha⟩ | ⟨rfl,ha⟩⟩
  ·refine ⟨_,rfl,?_⟩
   go_wp2_with fail
   rw [L7]
   go_ret
   exact ⟨Z5 ha.symm,rfl⟩
  ·refine ⟨_,rfl,?_⟩
   have Ha:=Z9 ha
   clear ha
   by_cases hlt:k<zs.length
   ·have hcell:=uh Hc k hlt
    have hne:((k:Int) ==(zs.length:Int))=false:=by simp;omega
    generalize hz:zs.getD k 0=z at hcell
    have Hz:=Z9 hz
    clear hz
    cases hp:inB z 0 1000000
    ·go_wp2_with (go_at_call 234;refine (Sc _ _ _ _).mono ?_;rintro e w' ⟨rfl,rfl⟩)
     go_step3
     refine ⟨⟨rfl,r,k,_,_,_,_,_,_,_,_,_,_,_,_,hk,rfl,.inr (.inr ⟨rfl,TC hlt (uh Hz) hp⟩)⟩,?_⟩
     simp [intOf];omega
    ·go_wp2_with (go_at_call 234;refine (Sc _ _ _ _).mono ?_;rintro e w' ⟨rfl,rfl⟩)
     go_step3
     refine ⟨⟨rfl,r,k+1,_,_,_,_,_,_,_,_,_,_,_,_,hlt,by go_num,.inr (.inl ⟨rfl,QF hlt (uh Hz) (uh Ha) hp⟩)⟩,?_⟩
     simp [intOf];omega
   ·obtain rfl:k=zs.length:=by omega
    go_wp2_with fail
    go_step3
    refine ⟨⟨rfl,r,zs.length,_,_,_,_,_,_,_,_,_,_,_,_,hk,rfl,.inl ⟨rfl,?_⟩⟩,?_⟩
    ·rw [<-uh Ha,List.take_of_length_le (by omega)]
    ·simp [intOf]
  ·refine ⟨_,rfl,?_⟩
   go_wp2_with fail
   rw [L7]
   go_ret
   exact ⟨Z5 ha.symm,rfl⟩
def amt (x:Int):Bool:=inB x 0 1000000
def UR (w u f:Int):Bool:=(amt w && (amt u && amt f)) && decide (5*(w+u)<=4*f)
def Wk (u f:Int):Bool:=(amt u && amt f) && !decide (5*u<=4*f)
def Yt (u f:Int):Int:=if amt u && amt f then f-u else -1000001
theorem Dh (u f:Int):decide (4*f<5*u)= !decide (5*u<=4*f):=by
 by_cases h:5*u<=4*f
 ·rw [decide_eq_true h,decide_eq_false (by omega)];rfl
 ·rw [decide_eq_false h,decide_eq_true (by omega)];rfl
theorem Ry {x:Int} (h:amt x=true):0<=x/\x<=1000000:=ZP h
theorem Ff (x y:Int):([x,y].all fun z=>inB z 0 1000000)=(amt x && amt y):=by simp [amt]
theorem BA (x y z:Int):([x,y,z].all fun z=>inB z 0 1000000)=(amt x && (amt y && amt z)):=by simp [amt]
theorem Pd (u f:Int) (w:World):Calls Tryz.prog 438 #[.int .i64 u,.int .i64 f] w fun e w'=>e= .returned (.int .i64 (Yt u f))/\Below w.heap.size w w':=by
 cases h:amt u && amt f
 ·have hs:Yt u f= -1000001:=by unfold Yt;rw [h];rfl
  have Hs:=Z9 hs
  go_enter Tryz.func438,Tryz.ntmps438
  go_wp2_with fail
  refine (XO _ _ [u,f] _ (by simp) ?_).mono ?_
  ·intro k hk
   simp at hk
   match k,hk with
   | 0,_=>simp
   | 1,_=>simp
  rintro e w' ⟨rfl,rfl⟩
  rw [Ff,h]
  go_wp2_with fail
  go_ret
  exact ⟨ZS (uh Hs).symm,(Below.refl _ _).alloc (Nat.le_refl _) _⟩
 ·have hs:Yt u f=f-u:=by unfold Yt;rw [h];rfl
  have Hs:=Z9 hs
  have h':=h
  simp only [Bool.and_eq_true] at h'
  obtain ⟨u0,u1⟩:=Ry h'.1
  obtain ⟨f0,f1⟩:=Ry h'.2
  go_enter Tryz.func438,Tryz.ntmps438
  go_wp2_with fail
  refine (XO _ _ [u,f] _ (by simp) ?_).mono ?_
  ·intro k hk
   simp at hk
   match k,hk with
   | 0,_=>simp
   | 1,_=>simp
  rintro e w' ⟨rfl,rfl⟩
  rw [Ff,h]
  go_wp2_with fail
  go_ret
  exact ⟨ZS (uh Hs).symm,(Below.refl _ _).alloc (Nat.le_refl _) _⟩
theorem Pe (u f:Int) (w:World):Calls Tryz.prog 437 #[.int .i64 u,.int .i64 f] w fun e w'=>e= .returned (.bool (Wk u f))/\Below w.heap.size w w':=by
 cases h:amt u && amt f
 ·have hs:Wk u f=false:=by unfold Wk;rw [h];rfl
  have Hs:=Z9 hs
  go_enter Tryz.func437,Tryz.ntmps437
  go_wp2_with fail
  refine (XO _ _ [u,f] _ (by simp) ?_).mono ?_
  ·intro k hk
   simp at hk
   match k,hk with
   | 0,_=>simp
   | 1,_=>simp
  rintro e w' ⟨rfl,rfl⟩
  rw [Ff,h]
  go_wp2_with fail
  go_ret
  exact ⟨Z5 (uh Hs).symm,(Below.refl _ _).alloc (Nat.le_refl _) _⟩
 ·have hs:Wk u f= !decide (5*u<=4*f):=by unfold Wk;rw [h];rfl
  have Hs:=Z9 hs
  have h':=h
  simp only [Bool.and_eq_true] at h'
  obtain ⟨u0,u1⟩:=Ry h'.1
  obtain ⟨f0,f1⟩:=Ry h'.2
  go_enter Tryz.func437,Tryz.ntmps437
  go_wp2_with fail
  refine (XO _ _ [u,f] _ (by simp) ?_).mono ?_
  ·intro k hk
   simp at hk
   match k,hk with
   | 0,_=>simp
   | 1,_=>simp
  rintro e w' ⟨rfl,rfl⟩
  rw [Ff,h]
  go_wp2_with (go_at_call 381;refine (TM f u _ f0 f1 u0 (by omega)).mono ?_;rintro e w' ⟨rfl,rfl⟩)
  go_ret
  exact ⟨Z5 (uh Hs).symm,(Below.refl _ _).alloc (Nat.le_refl _) _⟩
theorem NC (x u f:Int) (w:World):Calls Tryz.prog 439 #[.int .i64 x,.int .i64 u,.int .i64 f] w fun e w'=>e= .returned (.bool (UR x u f))/\Below w.heap.size w w':=by
 cases h:amt x && (amt u && amt f)
 ·have hs:UR x u f=false:=by unfold UR;rw [h];rfl
  have Hs:=Z9 hs
  go_enter Tryz.func439,Tryz.ntmps439
  go_wp2_with fail
  refine (XO _ _ [x,u,f] _ (by simp) ?_).mono ?_
  ·intro k hk
   simp at hk
   match k,hk with
   | 0,_=>simp
   | 1,_=>simp
   | 2,_=>simp
  rintro e w' ⟨rfl,rfl⟩
  rw [BA,h]
  go_wp2_with fail
  go_ret
  exact ⟨Z5 (uh Hs).symm,(Below.refl _ _).alloc (Nat.le_refl _) _⟩
 ·have hs:UR x u f=decide (5*(x+u)<=4*f):=by unfold UR;rw [h];rfl
  have Hs:=Z9 hs
  have h':=h
  simp only [Bool.and_eq_true] at h'
  obtain ⟨x0,x1⟩:=Ry h'.1
  obtain ⟨u0,u1⟩:=Ry h'.2.1
  obtain ⟨f0,f1⟩:=Ry h'.2.2
  go_enter Tryz.func439,Tryz.ntmps439
  go_wp2_with fail
  refine (XO _ _ [x,u,f] _ (by simp) ?_).mono ?_
  ·intro k hk
   simp at hk
   match k,hk with
   | 0,_=>simp
   | 1,_=>simp
   | 2,_=>simp
  rintro e w' ⟨rfl,rfl⟩
  rw [BA,h]
  go_wp2_with (go_at_call 381;refine (TM f (x+u) _ f0 f1 (by omega) (by omega)).mono ?_;rintro e w' ⟨rfl,rfl⟩)
  go_ret
  exact ⟨Z5 (uh Hs).symm,(Below.refl _ _).alloc (Nat.le_refl _) _⟩
theorem OB (x u f:Int) (w:World):Calls Tryz.prog 222 #[.int .i64 x,.int .i64 u,.int .i64 f] w fun e w'=>e= .returned (.bool (UR x u f))/\w'=w:=by
 cases hx:inB x 0 1000000
 ·go_enter Tryz.func222,Tryz.ntmps222
  go_wp2_with (go_at_call 226;refine (Yx _ _).mono ?_;rintro e w' ⟨rfl,rfl⟩)
  go_ret
  exact ⟨Z5 (by simp [UR,amt,hx]),rfl⟩
 ·cases hu:inB u 0 1000000
  ·go_enter Tryz.func222,Tryz.ntmps222
   go_wp2_with (go_at_call 226;refine (Yx _ _).mono ?_;rintro e w' ⟨rfl,rfl⟩)
   go_ret
   exact ⟨Z5 (by simp [UR,amt,hx,hu]),rfl⟩
  ·cases hf:inB f 0 1000000
   ·go_enter Tryz.func222,Tryz.ntmps222
    go_wp2_with (go_at_call 226;refine (Yx _ _).mono ?_;rintro e w' ⟨rfl,rfl⟩)
    go_ret
    exact ⟨Z5 (by simp [UR,amt,hx,hu,hf]),rfl⟩
   ·obtain ⟨x0,x1⟩:=ZP hx
    obtain ⟨u0,u1⟩:=ZP hu
    obtain ⟨f0,f1⟩:=ZP hf
    go_enter Tryz.func222,Tryz.ntmps222
    go_wp2_with (go_at_call 226;refine (Yx _ _).mono ?_;rintro e w' ⟨rfl,rfl⟩)
    go_ret
    exact ⟨Z5 (by simp [UR,amt,hx,hu,hf]),rfl⟩
theorem Pq (u f:Int) (w:World):Calls Tryz.prog 224 #[.int .i64 u,.int .i64 f] w fun e w'=>e= .returned (.bool (Wk u f))/\w'=w:=by
 cases hu:inB u 0 1000000
 ·go_enter Tryz.func224,Tryz.ntmps224
  go_wp2_with (go_at_call 226;refine (Yx _ _).mono ?_;rintro e w' ⟨rfl,rfl⟩)
  go_ret
  exact ⟨Z5 (by simp [Wk,amt,hu]),rfl⟩
 ·cases hf:inB f 0 1000000
  ·go_enter Tryz.func224,Tryz.ntmps224
   go_wp2_with (go_at_call 226;refine (Yx _ _).mono ?_;rintro e w' ⟨rfl,rfl⟩)
   go_ret
   exact ⟨Z5 (by simp [Wk,amt,hu,hf]),rfl⟩
  ·obtain ⟨u0,u1⟩:=ZP hu
   obtain ⟨f0,f1⟩:=ZP hf
   go_enter Tryz.func224,Tryz.ntmps224
   go_wp2_with (go_at_call 226;refine (Yx _ _).mono ?_;rintro e w' ⟨rfl,rfl⟩)
   go_ret
   exact ⟨Z5 (by simp [Wk,amt,hu,hf,Dh]),rfl⟩
theorem Pp (u f:Int) (w:World):Calls Tryz.prog 159 #[.int .i64 u,.int .i64 f] w fun e w'=>e= .returned (.int .i64 (Yt u f))/\w'=w:=by
 cases hu:inB u 0 1000000
 ·go_enter Tryz.func159,Tryz.ntmps159
  go_wp2_with (go_at_call 226;refine (Yx _ _).mono ?_;rintro e w' ⟨rfl,rfl⟩)
  go_ret
  exact ⟨ZS (by simp [Yt,amt,hu]),rfl⟩
 ·cases hf:inB f 0 1000000
  ·go_enter Tryz.func159,Tryz.ntmps159
   go_wp2_with (go_at_call 226;refine (Yx _ _).mono ?_;rintro e w' ⟨rfl,rfl⟩)
   go_ret
   exact ⟨ZS (by simp [Yt,amt,hu,hf]),rfl⟩
  ·obtain ⟨u0,u1⟩:=ZP hu
   obtain ⟨f0,f1⟩:=ZP hf
   go_enter Tryz.func159,Tryz.ntmps159
   go_wp2_with (go_at_call 226;refine (Yx _ _).mono ?_;rintro e w' ⟨rfl,rfl⟩)
   go_ret
   exact ⟨ZS (by simp [Yt,amt,hu,hf]),rfl⟩
open Go.ChangeShapes Go.WideShapes Go.ChangeAt Go.RowKit Go.Sort
def PO (gs:List ZH) (s:Z2):Int:=min (max s.2.2.2.2.2.2.2.2.2.1 (Vj (bnd gs s.2.2.2.2.1) s.2.2.2.2.2.1 s.2.2.2.2.2.2.1).1) (Vj (bnd gs s.2.2.2.2.1) s.2.2.2.2.2.1 s.2.2.2.2.2.2.1).2
def ZC (m:Z4) (who:Int):Int:=PO m.guilds (Z8 m.smiths who.toNat)
theorem DY (gs:List ZH) (s:Z2):0<=PO gs s/\PO gs s<=1024:=by
 obtain ⟨b0,b1,b2⟩:=Be gs s.2.2.2.2.1
 obtain ⟨n0,n1,n2⟩:=Ft (lo:=s.2.2.2.2.2.1) (hi:=s.2.2.2.2.2.2.1) b0 b1 b2
 unfold PO
 omega
theorem Rt (m:Z4) (who:Int):0<=ZC m who/\ZC m who<=1024:=DY _ _
def VJ (m:Z4) (but:Int) (q:List Z6):Int:=q.foldl (fun n e=>if e.2=but then n else n+ZC m e.2) 0
theorem Ii (m:Z4) (but:Int) (q:List Z6) (e:Z6):VJ m but (q++[e])=if e.2=but then VJ m but q else VJ m but q+ZC m e.2:=by
 unfold VJ;rw [List.foldl_append];rfl
theorem Kp (m:Z4) (but:Int):∀ (q:List Z6) (n:Int),0<=n->0<=q.foldl (fun n e=>if e.2=but then n else n+ZC m e.2) n/\q.foldl (fun n e=>if e.2=but then n else n+ZC m e.2) n<=n+1024*q.length
 | [],n,h=>⟨h,by simp⟩
 | e::q,n,h=>by
  have hw:=Rt m e.2
  have ih:=Kp m but q (if e.2=but then n else n+ZC m e.2) (by split<;>omega)
  refine ⟨ih.1,Int.le_trans ih.2 ?_⟩
  simp only [List.length_cons,Int.natCast_add,Int.natCast_one]
  split<;>omega
theorem Kq (m:Z4) (but:Int) (q:List Z6):0<=VJ m but q/\VJ m but q<=1024*q.length:=by
 have:=Kp m but q 0 (by omega)
 unfold VJ;omega
def ZB (m:Z4) (b but:Int):Int:=VJ m but (atV m.smiths b m.smiths.length)
theorem Uw (m:Z4) (b but:Int):0<=ZB m b but/\ZB m b but<=1024*m.smiths.length:=by
 have h:=Kq m but (atV m.smiths b m.smiths.length)
 have hl:=UG m.smiths b m.smiths.length
 unfold ZB
 refine ⟨h.1,Int.le_trans h.2 ?_⟩
 omega
def usedIn (m:Z4) (room:Int):Nat->Int × Int
 | 0=>(0,0)
 | k+1=>if (WT m.rooms k:Int)=room then ((if (Z8 m.desks k).1 then max (usedIn m room k).1 (ZB m k (-1)) else (usedIn m room k).1),(usedIn m room k).2+ZB m k (-1)) else usedIn m room k
theorem Mx (m:Z4) (room:Int) (hl:m.smiths.length<=12):∀ k:Nat,(0<=(usedIn m room k).1/\(usedIn m room k).1<=12288)/\0<=(usedIn m room k).2/\(usedIn m room k).2<=12288*k
 | 0=>by simp [usedIn]
 | k+1=>by
  have ih:=Mx m room hl k
  have hu:=Uw m k (-1)
  unfold usedIn
  split
  ·simp only
   constructor
   ·split<;>omega
   ·push_cast;omega
  ·push_cast;omega
def coalIn (m:Z4) (room:Nat):Int:=Qc (ZY m.rooms room) (usedIn m room m.desks.length).1 (usedIn m room m.desks.length).2
def coalTo (m:Z4):Nat->Int
 | 0=>0
 | k+1=>coalTo m k+coalIn m k
def Sg (m:Z4):Int:=coalTo m m.rooms.length
theorem PZ (m:Z4):∀ k:Nat,-(k:Int)<=coalTo m k/\coalTo m k<=1024000000*k
 | 0=>by simp [coalTo]
 | k+1=>by
  have ih:=PZ m k
  have hc:=IJ (ZY m.rooms k) (WM (ZY m.rooms k) (usedIn m k m.desks.length).1) (usedIn m k m.desks.length).2
  unfold coalTo coalIn Qc
  push_cast
  omega
def Vd (s:Z2) (b:Int):Z2:=(2,b,s.2.2)
def Yg (m:Z4) (who b:Int):Z4:={ m with smiths:=m.smiths.set who.toNat (Vd (Z8 m.smiths who.toNat) b) }
def ZD (m:Z4) (who b:Int):Int:=Sg (Yg m who b)
def YO (m:Z4) (who:Int) (b:Nat):Bool:=(Z8 m.desks b).1 && Xp (Z8 m.smiths who.toNat).2.2.2.1 b
def SK (m:Z4) (who:Int) (b:Nat):Bool:=YO m who b && UR (ZC m who) (ZB m b who) (YP m.rooms b)
def We (m:Z4) (who:Int):Nat->List Int
 | 0=>[]
 | k+1=>if SK m who k then We m who k++[(k:Int)] else We m who k
def Zp (m:Z4) (who:Int):List Int:=We m who m.desks.length
theorem P2 (m:Z4) (who:Int):∀ k,(We m who k).length<=k
 | 0=>Nat.le_refl _
 | k+1=>by
  have:=P2 m who k
  unfold We
  split
  ·simp;omega
  ·omega
theorem P4 (m:Z4) (who:Int) (x:Int):∀ k,x ∈ We m who k ↔ ∃ b:Nat,b<k/\x=(b:Int)/\SK m who b=true
 | 0=>by simp [We]
 | k+1=>by
  have ih:=P4 m who x k
  unfold We
  split
  ·rename_i hf
   rw [List.mem_append,ih]
   constructor
   ·rintro (⟨b,hb,e,h⟩ | h)
    ·exact ⟨b,by omega,e,h⟩
    ·exact ⟨k,by omega,by simpa using h,hf⟩
   ·rintro ⟨b,hb,e,h⟩
    by_cases hbk:b=k
    ·subst hbk;right;simp [e]
    ·left;exact ⟨b,by omega,e,h⟩
  ·rename_i hf
   rw [ih]
   constructor
   ·rintro ⟨b,hb,e,h⟩
    exact ⟨b,by omega,e,h⟩
   ·rintro ⟨b,hb,e,h⟩
    by_cases hbk:b=k
    ·subst hbk;exact absurd h hf
    ·exact ⟨b,by omega,e,h⟩
def VL (m:Z4) (b:Nat):Bool:=(Z8 m.desks b).1 && Wk (ZB m b (-1)) (YP m.rooms b)
def XZ (m:Z4):Bool:=(List.range m.desks.length).any (VL m)
def Yu (m:Z4) (who:Int) (a:Int × Int) (b:Int):Int × Int:=if ZD m who b<a.2\/(ZD m who b=a.2/\b=(Z8 m.smiths who.toNat).2.1) then (b,ZD m who b) else a
def XY (m:Z4) (who:Int) (f:List Int) (k:Nat):Int × Int:=((f.take k).drop 1).foldl (Yu m who) (Z8 f 0,ZD m who (Z8 f 0))
def Zc (m:Z4) (who:Int):Nat->Int × Int
 | 0=>(-1,0)
 | k+1=>if YO m who k && (decide ((Zc m who k).1<0) || decide ((Zc m who k).2<Yt (ZB m k who) (YP m.rooms k))) then ((k:Int),Yt (ZB m k who) (YP m.rooms k)) else Zc m who k
def Zn (m:Z4) (who:Int):Int:=if !XZ m && decide (0<(Zp m who).length) then (XY m who (Zp m who) (Zp m who).length).1 else (Zc m who m.desks.length).1
theorem IB (m:Z4) (who:Int) (P:Int->Prop):∀ (f:List Int) (a:Int × Int),P a.1->(∀ x ∈ f,P x)->P (f.foldl (Yu m who) a).1
 | [],a,h,_=>h
 | b::f,a,h,hf=>by
  refine IB m who P f (Yu m who a b) ?_ (fun x hx=>hf x (List.mem_cons_of_mem _ hx))
  unfold Yu
  split
  ·exact hf b (by simp)
  ·exact h
theorem Lv (m:Z4) (who:Int):∀ k:Nat,((Zc m who k).1= -1/\ ∀ b,b<k->YO m who b=false)\/ ∃ b:Nat,b<k/\(Zc m who k).1=(b:Int)/\YO m who b=true
 | 0=> .inl ⟨rfl,fun b hb=>by omega⟩
 | k+1=>by
  have ih:=Lv m who k
  unfold Zc
  split
  ·rename_i h
   simp only [Bool.and_eq_true] at h
   exact .inr ⟨k,by omega,rfl,h.1⟩
  ·rename_i h
   rcases ih with ⟨e,hn⟩ | ⟨b,hb,e,hm⟩
   ·refine .inl ⟨e,fun b hb=> ?_⟩
    by_cases hbk:b=k
    ·subst hbk
     cases hm:YO m who b
     ·rfl
     ·exfalso
      apply h
      rw [hm,e]
      rfl
    ·exact hn b (by omega)
   ·exact .inr ⟨b,by omega,e,hm⟩
theorem VQ (m:Z4) (who:Int):(Zn m who= -1/\ ∀ b,b<m.desks.length->YO m who b=false)\/ ∃ b:Nat,b<m.desks.length/\Zn m who=(b:Int)/\YO m who b=true:=by
 unfold Zn
 split
 ·rename_i h
  simp only [Bool.and_eq_true,decide_eq_true_eq] at h
  right
  have hin:∀ x ∈ Zp m who,∃ b:Nat,b<m.desks.length/\x=(b:Int)/\YO m who b=true:=by
   intro x hx
   obtain ⟨b,hb,e,hf⟩:=(P4 m who x m.desks.length).1 hx
   unfold SK at hf
   simp only [Bool.and_eq_true] at hf
   exact ⟨b,hb,e,hf.1⟩
  unfold XY
  exact IB m who (fun x=> ∃ b:Nat,b<m.desks.length/\x=(b:Int)/\YO m who b=true) _ _ (hin _ (U9 h.2)) (fun x hx=>hin x (List.mem_of_mem_take (List.mem_of_mem_drop hx)))
 ·exact Lv m who m.desks.length
theorem S7 {st be rk my gu lo hi hd ca ut wk:Int} (h0:1<=st/\st<=3) (h1:0<=be/\be<=7) (h2:inB rk (-5) 5=true) (h3:1<=my/\my<=255) (h4 : -1<=gu/\gu<=5) (h5:YU lo hi=true) (h6 : -1000000000000<=hd/\hd<=1000000000000) (h7:0<=ca/\ca<=Zr rk-1) (h8:0<=ut/\ut<=1024) (h9:0<=wk/\wk<=100000000000) :
  Zg (st,be,rk,my,gu,lo,hi,hd,ca,ut,wk)=true:=by
 unfold Zg
 simp only [Bool.and_eq_true]
 exact ⟨Zj h0.1 h0.2,Zj h1.1 h1.2,h2,Zj h3.1 h3.2,Zj h4.1 h4.2,h5,Zj h6.1 h6.2,Zj h7.1 h7.2,Zj h8.1 h8.2,Zj h9.1 h9.2⟩
theorem XT {m:Z4} {s:Z2} : YJ m s=true ↔ s=Ru\/(Zg s=true/\s.2.2.2.2.1<m.guilds.length/\s.2.1<m.desks.length):=by
 unfold YJ Zu
 simp only [Bool.and_eq_true,Bool.or_eq_true,decide_eq_true_eq]
 constructor
 ·rintro ⟨hg | hp,hr⟩
  ·exact .inl (Vy hg)
  ·right
   refine ⟨hp,?_⟩
   rcases hr with e | e
   ·have:s.1=0:=by simpa using e
    rw [Ol this] at hp
    cases hp
   ·exact e
 ·rintro (rfl | ⟨hp,hr⟩)
  ·exact ⟨.inl Gf,.inl rfl⟩
  ·exact ⟨.inr hp,.inr hr⟩
theorem Qr {m:Z4} {s:Z2} (h:ZW s=false):Ye m s=true:=by unfold Ye;rw [h];rfl
theorem O0 {m:Z4} {s:Z2} (h1:(Z8 m.desks s.2.1.toNat).1=true) (h2:Xp s.2.2.2.1 s.2.1=true) (h3:Xe (XS s) (Z8 m.desks s.2.1.toNat).2.2=true):Ye m s=true:=by
 unfold Ye
 rw [h1,h2,show s.2.2.2.2.2.2.2.1=XS s from rfl,h3]
 simp
theorem Ze {m:Z4} (h:Zo m=true):Loose m:=by
 unfold Zo at h
 simp only [Bool.and_eq_true] at h
 exact Jr h.1
def setS (m:Z4) (k:Nat) (s:Z2):Z4:={ m with smiths:=m.smiths.set k s }
theorem Loose.setS {m:Z4} (h:Loose m) {k:Nat} (hk:k<m.smiths.length) {s:Z2} (h1:YJ m s=true) (h2:Ye m s=true):Loose (setS m k s):=by
 refine ⟨?_,h.desk,h.pace,?_,?_,h.openD⟩
 ·have:=h.head
  unfold Yc at this ⊢
  unfold Go.Proofs.YtjhijildaceadaaGreatDoor.setS
  simpa using this
 ·intro i hi
  have hi':i<m.smiths.length:=by unfold Go.Proofs.YtjhijildaceadaaGreatDoor.setS at hi;simpa using hi
  show YJ (Go.Proofs.YtjhijildaceadaaGreatDoor.setS m k s) (Z8 (m.smiths.set k s) i)=true
  rw [WD (m:=m) (m':=Go.Proofs.YtjhijildaceadaaGreatDoor.setS m k s) rfl rfl,ZV hk]
  split
  ·exact h1
  ·exact h.here i hi'
 ·intro i hi
  have hi':i<m.smiths.length:=by unfold Go.Proofs.YtjhijildaceadaaGreatDoor.setS at hi;simpa using hi
  show Ye m (Z8 (m.smiths.set k s) i)=true
  rw [ZV hk]
  split
  ·exact h2
  ·exact h.seat i hi'
def Xb (m:Z4) (b:Int):Int:=(Z8 m.desks b.toNat).2.2
def JZ (s:Z2) (b had:Int):Z2:=(2,b,s.2.2.1,s.2.2.2.1,s.2.2.2.2.1,s.2.2.2.2.2.1,s.2.2.2.2.2.2.1,had,s.2.2.2.2.2.2.2.2)
def putS (m:Z4) (s:Z2) (b:Int):Z2:=(s.1,b,s.2.2.1,s.2.2.2.1,s.2.2.2.2.1,s.2.2.2.2.2.1,s.2.2.2.2.2.2.1,YR (XS s) (Xb m s.2.1) (Xb m b),s.2.2.2.2.2.2.2.2)
def XE (s:Z2) (may:Int):Z2:=(s.1,s.2.1,s.2.2.1,may,s.2.2.2.2)
def Jl (s:Z2) (lo hi:Int):Z2:=(s.1,s.2.1,s.2.2.1,s.2.2.2.1,s.2.2.2.2.1,lo,hi,s.2.2.2.2.2.2.2)
theorem Sf {m:Z4} (h:Loose m):m.desks.length<=8:=by
 have:=h.head
 unfold Yc at this
 simp only [Bool.and_eq_true,decide_eq_true_eq] at this
 have h8:=(Zi this.1).2.2.2
 omega
theorem Loose.limits {m:Z4} (h:Loose m) {k:Nat} (hk:k<m.smiths.length) (hs:(Z8 m.smiths k).1 ≠ 0):Zg (Z8 m.smiths k)=true/\(Z8 m.smiths k).2.2.2.2.1<m.guilds.length/\(Z8 m.smiths k).2.1<m.desks.length:=by
 rcases XT.1 (h.here k hk) with e | e
 ·rw [e] at hs;exact absurd rfl hs
 ·exact e
theorem L9 {m:Z4} (h:Loose m) {k:Nat} (hk:k<m.smiths.length) {rank:Int} {s:Z2} (hr:ZE (Z8 m.smiths k) rank=(s,true)):Loose (setS m k s):=by
 unfold ZE at hr
 split at hr
 ·rename_i hp
  split at hr
  ·rename_i hrk
   obtain ⟨rfl,_⟩:=Prod.mk.inj hr
   have hne:(Z8 m.smiths k).1 ≠ 0:=by
    intro e
    rw [Ol e] at hp
    cases hp
   obtain ⟨_,g1,b1⟩:=h.limits hk hne
   refine h.setS hk (XT.2 (.inr ⟨TY hp hrk,g1,b1⟩)) ?_
   have:=h.seat k hk
   unfold Ye at this ⊢
   exact this
  ·cases (Prod.mk.inj hr).2
 ·cases (Prod.mk.inj hr).2
theorem Jd {m:Z4} (h:Loose m) {k:Nat} (hk:k<m.smiths.length) (hs:(Z8 m.smiths k).1 ≠ 0) {lo hi:Int} (hp:YU lo hi=true):Loose (setS m k (Jl (Z8 m.smiths k) lo hi)):=by
 obtain ⟨p,g1,b1⟩:=h.limits hk hs
 refine h.setS hk (XT.2 (.inr ⟨?_,g1,b1⟩)) ?_
 ·generalize Z8 m.smiths k=s at *
  obtain ⟨st,be,rk,my,gu,lo',hi',hd,ca,ut,wk⟩:=s
  obtain ⟨x0,x1,x2,x3,x4,x5,x6,x7,x8,x9⟩:=Zk p
  exact S7 x0 x1 x2 x3 x4 hp x6 x7 x8 x9
 ·have:=h.seat k hk
  unfold Ye at this ⊢
  exact this
theorem Je {m:Z4} (h:Loose m) {k:Nat} (hk:k<m.smiths.length) (hs:(Z8 m.smiths k).1 ≠ 0) {may:Int} (m0:1<=may) (m1:may<=255) (hb:ZW (Z8 m.smiths k)=false\/Xp may (Z8 m.smiths k).2.1=true):Loose (setS m k (XE (Z8 m.smiths k) may)):=by
 obtain ⟨p,g1,b1⟩:=h.limits hk hs
 refine h.setS hk (XT.2 (.inr ⟨?_,g1,b1⟩)) ?_
 ·generalize Z8 m.smiths k=s at *
  obtain ⟨st,be,rk,my,gu,lo',hi',hd,ca,ut,wk⟩:=s
  obtain ⟨x0,x1,x2,x3,x4,x5,x6,x7,x8,x9⟩:=Zk p
  exact S7 x0 x1 x2 ⟨m0,m1⟩ x4 x5 x6 x7 x8 x9
 ·rcases hb with hb | hb
  ·exact Qr hb
  ·have:=h.seat k hk
   unfold Ye at this
   cases hp:ZW (Z8 m.smiths k)
   ·exact Qr hp
   ·rw [hp] at this
    simp only [Bool.not_true,Bool.false_or,Bool.and_eq_true] at this
    exact O0 (s:=XE (Z8 m.smiths k) may) this.1 hb this.2.2
theorem C0 {m:Z4} {s:Z2} {b:Nat} {had:Int} (h:Loose m) (hp:Zg s=true) (hg:s.2.2.2.2.1<m.guilds.length) (hb:b<m.desks.length) (ho:(Z8 m.desks b).1=true) (hm:Xp s.2.2.2.1 b=true) (hd:Xe had (Z8 m.desks b).2.2=true) :
  YJ m (JZ s b had)=true/\Ye m (JZ s b had)=true:=by
 have h8:=Sf h
 obtain ⟨st,be,rk,my,gu,lo',hi',hd',ca,ut,wk⟩:=s
 obtain ⟨x0,x1,x2,x3,x4,x5,x6,x7,x8,x9⟩:=Zk hp
 obtain ⟨d0,d1,_⟩:=UM hd
 refine ⟨XT.2 (.inr ⟨S7 (by omega) ⟨by omega,by omega⟩ x2 x3 x4 x5 ⟨d0,d1⟩ x7 x8 x9,hg,?_⟩),?_⟩
 ·show (b:Int)<_;omega
 ·exact O0 (m:=m) (s:=JZ (st,be,rk,my,gu,lo',hi',hd',ca,ut,wk) b had) (by show (Z8 m.desks ((b:Int)).toNat).1=true;simpa using ho) hm (by show Xe had (Z8 m.desks ((b:Int)).toNat).2.2=true;simpa using hd)
theorem NU {m:Z4} (h:Loose m) {s:Z2} {b:Nat} (hp:Zg s=true) (hpr:ZW s=true) (hg:s.2.2.2.2.1<m.guilds.length) (b0:0<=s.2.1) (b1:s.2.1<m.desks.length) (hband:Xe (XS s) (Xb m s.2.1)=true) (hb:b<m.desks.length) (ho:(Z8 m.desks b).1=true) (hm:Xp s.2.2.2.1 b=true) :
  YJ m (putS m s b)=true/\Ye m (putS m s b)=true:=by
 have h8:=Sf h
 obtain ⟨k0,k1⟩:=QQ (h.desk s.2.1.toNat (by omega))
 obtain ⟨k2,k3⟩:=QQ (h.desk b hb)
 obtain ⟨a0,a1,a2,a3,a4,a5⟩:=UM hband
 have hmk:Xb m (b:Int)=(Z8 m.desks b).2.2:=by unfold Xb;simp
 have hmv:YR (XS s) (Xb m s.2.1) (Xb m b)=XS s-Xb m s.2.1+Xb m b:=Df a0 a1 a2 a3 (by omega) (by omega)
 obtain ⟨st,be,rk,my,gu,lo',hi',hd',ca,ut,wk⟩:=s
 obtain ⟨x0,x1,x2,x3,x4,x5,x6,x7,x8,x9⟩:=Zk hp
 simp only at b0 b1 hmv a4 a5 k0 k1 hg hm
 refine ⟨XT.2 (.inr ⟨?_,hg,?_⟩),?_⟩
 ·unfold putS
  simp only
  rw [hmv]
  exact S7 x0 ⟨by omega,by omega⟩ x2 x3 x4 x5 ⟨by omega,by omega⟩ x7 x8 x9
 ·show (b:Int)<_;omega
 ·refine O0 (m:=m) (s:=putS m (st,be,rk,my,gu,lo',hi',hd',ca,ut,wk) b) (by show (Z8 m.desks ((b:Int)).toNat).1=true;simpa using ho) hm ?_
  show Xe (YR _ _ _) (Z8 m.desks ((b:Int)).toNat).2.2=true
  rw [hmv,show ((b:Int)).toNat=b by simp,<-hmk]
  exact KH (by omega) (by omega) (by omega) (by omega) (by omega) (by omega)
def Zt (m:Z4) (b:Nat) (o:Bool):Z4:={ m with desks:=m.desks.set b (o,(Z8 m.desks b).2) }
theorem L8 {m:Z4} (h:Loose m) {b:Nat} (hb:b<m.desks.length):Loose (Zt m b true):=by
 have hat:∀ j,(Z8 (Zt m b true).desks j)=if j=b then (true,(Z8 m.desks b).2) else Z8 m.desks j:=fun j=>ZV hb j
 have hmk:∀ j,(Z8 (Zt m b true).desks j).2=(Z8 m.desks j).2:=fun j=>by
  rw [hat]
  by_cases e:j=b
  ·rw [if_pos e,e]
  ·rw [if_neg e]
 have hop:∀ j,(Z8 m.desks j).1=true->(Z8 (Zt m b true).desks j).1=true:=fun j e=>by
  rw [hat]
  by_cases e':j=b
  ·rw [if_pos e']
  ·rw [if_neg e'];exact e
 have hlen:(Zt m b true).desks.length=m.desks.length:=by unfold Zt;simp
 refine ⟨?_,?_,h.pace,?_,?_,?_⟩
 ·have:=h.head
  unfold Yc at this ⊢
  rw [hlen]
  exact this
 ·intro j hj
  have:=h.desk j (by omega)
  unfold Vw at this ⊢
  rw [hmk]
  exact this
 ·intro i hi
  rw [WD (m:=m) (m':=Zt m b true) rfl hlen]
  exact h.here i hi
 ·intro i hi
  have:=h.seat i hi
  unfold Ye at this ⊢
  show (!ZW (Z8 m.smiths i) || _)=true
  cases hp:ZW (Z8 m.smiths i)
  ·rfl
  ·rw [hp] at this
   simp only [Bool.not_true,Bool.false_or,Bool.and_eq_true] at this ⊢
   refine ⟨hop _ this.1,this.2.1,?_⟩
   show Xe _ (Z8 (Zt m b true).desks (Z8 m.smiths i).2.1.toNat).2.2=true
   rw [hmk]
   exact this.2.2
 ·exact ⟨b,by omega,by rw [hat,if_pos rfl]⟩
def WV:Z4:=⟨[],[],[],[],[],0⟩
def V7 (m:Z4) (who:Int):Bool:=inB who 0 ((m.smiths.length:Int)-1) && !((Z8 m.smiths who.toNat).1 ==0)
theorem WI {m:Z4} {who:Int} (h:V7 m who=true):∃ k:Nat,who=(k:Int)/\k<m.smiths.length/\(Z8 m.smiths k).1 ≠ 0:=by
 unfold V7 at h
 simp only [Bool.and_eq_true,Bool.not_eq_true',beq_eq_false_iff_ne] at h
 have h1:=ZP h.1
 exact ⟨who.toNat,by omega,by omega,h.2⟩
theorem TH {m:Z4} (h:Loose m):Few m:=by
 have hd:=h.head
 unfold Yc at hd
 simp only [Bool.and_eq_true,decide_eq_true_eq] at hd
 obtain ⟨h1,h2,h3,h4,h5,_⟩:=hd
 obtain ⟨r1,r2,r3,r4⟩:=Zi h1
 have hg:=(RC h2).2
 refine ⟨by omega,fun r hr=> ?_,by omega,by omega,by omega,by omega⟩
 have hrb:=List.all_eq_true.1 r3 r hr
 unfold Zm at hrb
 simp only [Bool.and_eq_true] at hrb
 have:=ZP hrb.2.1
 omega
def Yj (m:Z4) (who lo hi:Int):Z4 × Int:=
 if Zo m then (if V7 m who then (if YU lo hi then (ZL (setS m who.toNat (Jl (Z8 m.smiths who.toNat) lo hi)),0) else (m,3)) else (m,1)) else (WV,3)
def Yk (m:Z4) (who rank:Int):Z4 × Int:=
 if Zo m then (if V7 m who then (if (ZE (Z8 m.smiths who.toNat) rank).2 then (ZL (setS m who.toNat (ZE (Z8 m.smiths who.toNat) rank).1),0) else (m,3)) else (m,1)) else (WV,3)
theorem Jm {m:Z4} (h:Zo m=true) (who lo hi:Int):Zo (Yj m who lo hi).1=true:=by
 unfold Yj
 rw [h]
 simp only [if_true]
 split
 ·rename_i hw
  obtain ⟨k,rfl,hk,hs⟩:=WI hw
  rw [show ((k:Int)).toNat=k by simp]
  split
  ·rename_i hp
   exact V4 (Jd (Ze h) hk hs hp)
  ·exact h
 ·exact h
theorem GS {m:Z4} (h:Zo m=true) (who rank:Int):Zo (Yk m who rank).1=true:=by
 unfold Yk
 rw [h]
 simp only [if_true]
 split
 ·rename_i hw
  obtain ⟨k,rfl,hk,hs⟩:=WI hw
  rw [show ((k:Int)).toNat=k by simp]
  split
  ·rename_i hp
   exact V4 (L9 (Ze h) hk (Prod.ext rfl hp))
  ·exact h
 ·exact h
theorem RO {m:Z4} (h:Loose m):m.smiths.length<=12:=by
 have hd:=h.head
 unfold Yc at hd
 simp only [Bool.and_eq_true,decide_eq_true_eq] at hd
 exact hd.2.2.1
theorem Qu (m:Z4) (k:Nat) (s t:Z2):setS (setS m k s) k t=setS m k t:=by unfold setS;simp
def Zx (m:Z4) (k:Nat) (may:Int):Z4:=setS m k (XE (Z8 m.smiths k) may)
def YD (m:Z4) (who may:Int):Z4 × Int:=
 if Zo m then (if V7 m who then (if inB may 1 255 then (if ZW (Z8 m.smiths who.toNat) && !Xp may (Z8 m.smiths who.toNat).2.1 then
  (if Zn (Zx m who.toNat may) who<0 then (m,2) else (ZL (setS (Zx m who.toNat may) who.toNat (putS (Zx m who.toNat may) (XE (Z8 m.smiths who.toNat) may) (Zn (Zx m who.toNat may) who))),0))
  else (ZL (Zx m who.toNat may),0)) else (m,3)) else (m,1)) else (WV,3)
theorem Sv {s:Z2} {may:Int} (h:Zg s=true) (m0:1<=may) (m1:may<=255):Zg (XE s may)=true:=by
 obtain ⟨st,be,rk,my,gu,lo',hi',hd,ca,ut,wk⟩:=s
 obtain ⟨x0,x1,x2,x3,x4,x5,x6,x7,x8,x9⟩:=Zk h
 exact S7 x0 x1 x2 ⟨m0,m1⟩ x4 x5 x6 x7 x8 x9
theorem Ir {m:Z4} (h:Zo m=true) (who may:Int):Zo (YD m who may).1=true:=by
 unfold YD
 rw [h]
 simp only [if_true]
 split
 ·rename_i hw
  obtain ⟨k,rfl,hk,hs⟩:=WI hw
  rw [show ((k:Int)).toNat=k by simp]
  have hlo:=Ze h
  split
  ·rename_i hm
   obtain ⟨m0,m1⟩:=ZP hm
   split
   ·rename_i hp
    simp only [Bool.and_eq_true,Bool.not_eq_true'] at hp
    split
    ·exact h
    ·rename_i hb
     rcases VQ (Zx m k may) (k:Int) with ⟨e,_⟩ | ⟨b,hbl,e,hma⟩
     ·exact absurd (show Zn (Zx m k may) (k:Int)<0 by rw [e];omega) hb
     ·rw [e]
      obtain ⟨p,g1,b1⟩:=hlo.limits hk hs
      obtain ⟨a0,a1,a2,a3,a4⟩:=hlo.at hk hp.1
      unfold YO at hma
      simp only [Bool.and_eq_true,Int.toNat_natCast] at hma
      have hat:Z8 (Zx m k may).smiths k=XE (Z8 m.smiths k) may:=by
       show Z8 (m.smiths.set k _) k=_
       rw [ZV hk,if_pos rfl]
      rw [hat] at hma
      have:=NU (m:=m) hlo (s:=XE (Z8 m.smiths k) may) (b:=b) (Sv p m0 m1) hp.1 g1 a0 a1 a4 hbl hma.1 hma.2
      unfold Zx
      rw [Qu]
      exact V4 (hlo.setS hk this.1 this.2)
   ·rename_i hp
    refine V4 (Je hlo hk hs m0 m1 ?_)
    cases h1:ZW (Z8 m.smiths k)
    ·exact .inl rfl
    ·right
     cases h2:Xp may (Z8 m.smiths k).2.1
     ·rw [h1,h2] at hp;exact absurd rfl hp
     ·rfl
  ·exact h
 ·exact h
open Go.ChangeShapes Go.WideShapes Go.ChangeAt Go.RowKit Go.Sort Go.Shelf
set_option linter.unusedSimpArgs false
set_option maxRecDepth 100000
structure Nx (w W:World) (R:Nat) (v0 v1 v2 v3 v4:Value) (m:Z4) (qs:List (Z3 × Value)):Prop where
 full:FullSmy w.heap.size W v0 v1 v2 v3 v4 m qs
 blk:Blk W R 32 #[v0,v1,v2,v3,v4,.int .i64 m.now]
 own:∀ k,XW v0 v1 v2 v3 v4 qs k->k ≠ R
 bb:Below w.heap.size w W
 hR:w.heap.size<=R
section
variable {w W X : World} {R : Nat} {v0 v1 v2 v3 v4 : Value} {m : Z4} {qs : List (Z3 × Value)}
theorem Nx.next (h:Nx w W R v0 v1 v2 v3 v4 m qs) (hb:Below W.heap.size W X):Nx w X R v0 v1 v2 v3 v4 m qs:=⟨h.full.below hb,h.blk.below hb h.blk.lt,h.own,h.bb.trans (hb.mono h.bb.size),h.hR⟩
theorem Nx.cells (h:Nx w W R v0 v1 v2 v3 v4 m qs):W.cell? ⟨R,0,none⟩=some v0/\W.cell? ⟨R,1,none⟩=some v1/\W.cell? ⟨R,2,none⟩=some v2/\W.cell? ⟨R,3,none⟩=some v3/\W.cell? ⟨R,4,none⟩=some v4/\W.cell? ⟨R,5,none⟩=some (.int .i64 m.now):=h.blk.c6
theorem Nx.putS {g n cap:Nat} (h:Nx w W R v0 v1 (.slice (some ⟨g,0,none⟩) n cap) v3 v4 m qs) (hn:n=m.smiths.length) {j i:Nat} (hj:j<m.smiths.length) (hi:i<11) (u:Value) (x:Z2) (hx:ZR x=(ZR (Z8 m.smiths j)).set i u):Nx w (W.setCell ⟨g,j*11+i,none⟩ u) R v0 v1 (.slice (some ⟨g,0,none⟩) n cap) v3 v4 (setS m j x) qs:=by
 have hg:=h.full.own (k:=g) (.inr (.inr (.inr (.inl rfl))))
 have hgR:=h.own g (.inr (.inr (.inr (.inl rfl))))
 exact ⟨h.full.putS hn hj hi u x hx,h.blk.other (a:=⟨g,j*11+i,none⟩) (fun e=>hgR e.symm) u,h.own,h.bb.setCell (p:=⟨g,j*11+i,none⟩) hg.1 u,h.hR⟩
theorem Nx.putW {g n cap:Nat} (h:Nx w W R v0 v1 (.slice (some ⟨g,0,none⟩) n cap) v3 v4 m qs) (hn:n=m.smiths.length) {j:Nat} (hj:j<m.smiths.length) (x:Z2):Nx w (Re W g (j*11) (ZR x)) R v0 v1 (.slice (some ⟨g,0,none⟩) n cap) v3 v4 (setS m j x) qs:=by
 have hg:=h.full.own (k:=g) (.inr (.inr (.inr (.inl rfl))))
 have hgR:=h.own g (.inr (.inr (.inr (.inl rfl))))
 obtain ⟨_,hgr⟩:=RecAt.put Z1 (by omega) h.full.smiths hn hj x
 exact ⟨h.full.putW hn hj x,h.blk.same (hgr.block R h.blk.lt (fun e=>hgR (by cases e;rfl))),h.own,h.bb.grown hgr h.bb.size (fun k e=>by cases e;exact hg.1),h.hR⟩
end
def Chg (w:World) (R:Nat) (q:Int->Addr) (X:Z4) (c:Int) (e:Ending) (W':World):Prop:=
 Below w.heap.size w W'/\((c=0/\e= .returned .nilIface/\ ∃ u0 u1 u2 u3 u4 rs,Nx w W' R u0 u1 u2 u3 u4 X rs)\/((c=1\/c=2\/c=3\/c=4\/c=5)/\e= .returned (Zv (q c))))
theorem Qt (m:Z4) (k:Nat) (s t:Z2):setS (setS m k s) k t=setS m k t:=by unfold setS;simp
end Go.Proofs.YtjhijildaceadaaGreatDoor
namespace Go.Proofs.YtjhijildaceadaaGreatDoor
open Go.ChangeShapes Go.WideShapes Go.ChangeAt Go.RowKit Go.Sort
set_option linter.unusedVariables false
structure Bx (w W:World) (R:Nat) (a0:Option Addr) (p0:Nat) (a1:Option Addr) (p1:Nat) (a2:Option Addr) (p2:Nat) (a3:Option Addr) (p3:Nat) (a4:Option Addr) (p4:Nat) (m:Z4):Prop where
 smy:Smy W (.slice a0 m.rooms.length p0) (.slice a1 m.guilds.length p1) (.slice a2 m.smiths.length p2) (.slice a3 m.desks.length p3) (.slice a4 m.paces.length p4) m
 blk:Blk W R 32 #[.slice a0 m.rooms.length p0,.slice a1 m.guilds.length p1,.slice a2 m.smiths.length p2,.slice a3 m.desks.length p3,.slice a4 m.paces.length p4,.int .i64 m.now]
 bb:Below w.heap.size w W
section
variable {w W X : World} {R : Nat} {a0 a1 a2 a3 a4 : Option Addr} {p0 p1 p2 p3 p4 : Nat} {m : Z4}
theorem Bx.next (h:Bx w W R a0 p0 a1 p1 a2 p2 a3 p3 a4 p4 m) (hb:Below W.heap.size W X):Bx w X R a0 p0 a1 p1 a2 p2 a3 p3 a4 p4 m:=⟨h.smy.below hb,h.blk.below hb h.blk.lt,h.bb.trans (hb.mono h.bb.size)⟩
theorem Bx.alloc (h:Bx w W R a0 p0 a1 p1 a2 p2 a3 p3 a4 p4 m) (o:Obj):Bx w (W.alloc o) R a0 p0 a1 p1 a2 p2 a3 p3 a4 p4 m:=h.next ((Below.refl _ _).alloc (Nat.le_refl _) _)
theorem Bx.drew (h:Bx w W R a0 p0 a1 p1 a2 p2 a3 p3 a4 p4 m):Bx w W.drew R a0 p0 a1 p1 a2 p2 a3 p3 a4 p4 m:=h.next (Below.refl _ _).drew
theorem Bx.cells (h:Bx w W R a0 p0 a1 p1 a2 p2 a3 p3 a4 p4 m):W.cell? ⟨R,0,none⟩=some (.slice a0 m.rooms.length p0)/\W.cell? ⟨R,1,none⟩=some (.slice a1 m.guilds.length p1)/\W.cell? ⟨R,2,none⟩=some (.slice a2 m.smiths.length p2)/\W.cell? ⟨R,3,none⟩=some (.slice a3 m.desks.length p3)/\W.cell? ⟨R,4,none⟩=some (.slice a4 m.paces.length p4)/\W.cell? ⟨R,5,none⟩=some (.int .i64 m.now):=h.blk.c6
end
theorem Bx.new {w:World} {v0 v1 v2 v3 v4:Value} {m:Z4} (h:Smy w v0 v1 v2 v3 v4 m):∃ a0 p0 a1 p1 a2 p2 a3 p3 a4 p4,v0= .slice a0 m.rooms.length p0/\v1= .slice a1 m.guilds.length p1/\v2= .slice a2 m.smiths.length p2/\v3= .slice a3 m.desks.length p3/\v4= .slice a4 m.paces.length p4/\Bx w (w.alloc (.cells #[.slice a0 m.rooms.length p0,.slice a1 m.guilds.length p1,.slice a2 m.smiths.length p2,.slice a3 m.desks.length p3,.slice a4 m.paces.length p4,.int .i64 m.now] 32)) w.heap.size a0 p0 a1 p1 a2 p2 a3 p3 a4 p4 m:=by
 obtain ⟨a0,p0,a1,p1,a2,p2,a3,p3,a4,p4,rfl,rfl,rfl,rfl,rfl,_⟩:=h.five
 exact ⟨a0,p0,a1,p1,a2,p2,a3,p3,a4,p4,rfl,rfl,rfl,rfl,rfl,h.alloc _,Blk.new _ _ _,(Below.refl _ _).alloc (Nat.le_refl _) _⟩
end Go.Proofs.YtjhijildaceadaaGreatDoor
