/- Part 8 of what the proof rests on. No condition but those that a theorem names. -/
import Derived.Test.YtaegckehjlkaaaaGreatXc07
import Derived.WalkMore
import Derived.Below
set_option maxHeartbeats 8000000
set_option maxRecDepth 100000
namespace Go.Proofs.YtaegckehjlkaaaaGreat
open Go.ChangeShapes Go.WideShapes Go.ChangeAt Go.RowKit
set_option linter.unusedVariables false
variable {w w' w0 w1 w2 w3 w₀ wr W W' X A B C : World} {v v0 v1 v2 v3 v4 u u0 u1 u2 u3 u4 : Value} {m : Z6}
def DQ (J:Nat->Act->World->Prop) (Q:Exit->Act->World->Prop):Exit->Act->World->Prop
 | .goto l,a,w=>J l a w
 | e,a,w=>Q e a w
theorem MY {J:Nat->Act->World->Prop} {Q:Exit->Act->World->Prop} {a:Act} : DQ J Q .ret a w=Q .ret a w:=rfl
theorem MJ {P:Program} {a:Act} {Q:Exit->Act->World->Prop} {c:Code} (J:Nat->Act->World->Prop) (μ:Nat->Act->World->Nat)
  (first:c.wp P (DQ J Q) a w)
  (pass:∀ l a w,J l a w-> ∃ rest,findLabel c l=some rest/\rest.wp P (DQ (fun l' a' w'=>J l' a' w'/\μ l' a' w'<μ l a w) Q) a w):(Code.scope c).wp P Q a w:=by
 intro b k cs
 have key:∀ n l a w,μ l a w=n->J l a w-> ∃ rest,findLabel c l=some rest/\ ∃ e a' w',Q e a' w'/\Arrives P (lone (b.at a (.code rest:: .inScope c::k)) cs w) b k cs e a' w':=by
  intro n
  induction n using Nat.strongRecOn with
  | _ n ih=>
   intro l a w hn hJ
   obtain ⟨rest,hf,hp⟩:=pass l a w hJ
   refine ⟨rest,hf,?_⟩
   obtain ⟨e,a₁,w₁,hq,harr⟩:=hp b (.inScope c::k) cs
   cases e with
   | normal=>exact ⟨.normal,a₁,w₁,hq,Steps.trans harr (.one step_inScope)⟩
   | exit id=>exact ⟨.exit id,a₁,w₁,hq,fun k' hk=>harr k' (by simp [exitTo,hk])⟩
   | goto l'=>
    obtain ⟨hJ',hlt⟩:=hq
    obtain ⟨rest',hf',e₂,a₂,w₂,hq₂,harr₂⟩:=ih _ (by omega) l' a₁ w₁ rfl hJ'
    exact ⟨e₂,a₂,w₂,hq₂,.of_steps (harr _ (by simp [gotoIn,hf'])) harr₂⟩
   | ret=>exact ⟨_,a₁,w₁,hq,harr⟩
   | panic ch=>exact ⟨_,a₁,w₁,hq,harr⟩
   | outgrown=>exact ⟨_,a₁,w₁,hq,harr⟩
 obtain ⟨e,a₁,w₁,hq,harr⟩:=first b (.inScope c::k) cs
 cases e with
 | normal=>exact ⟨.normal,a₁,w₁,hq,.head step_scope (Steps.trans harr (.one step_inScope))⟩
 | exit id=>exact ⟨.exit id,a₁,w₁,hq,fun k' hk=> .head step_scope (harr k' (by simp [exitTo,hk]))⟩
 | goto l'=>
  obtain ⟨rest',hf',e₂,a₂,w₂,hq₂,harr₂⟩:=key _ l' a₁ w₁ rfl hq
  exact ⟨e₂,a₂,w₂,hq₂,.of_steps (.head step_scope (harr _ (by simp [gotoIn,hf']))) harr₂⟩
 | ret=>exact ⟨_,a₁,w₁,hq,.of_steps (.one step_scope) harr⟩
 | panic ch=>exact ⟨_,a₁,w₁,hq,.of_steps (.one step_scope) harr⟩
 | outgrown=>exact ⟨_,a₁,w₁,hq,.of_steps (.one step_scope) harr⟩
theorem Si (lo n hi:Int) (w:World):Calls Tryz.prog 184 #[.int .i64 lo,.int .i64 n,.int .i64 hi] w fun e w'=>e= .returned (.bool (inB n lo hi))/\w'=w:=by
 by_cases h1:lo<=n
 ·by_cases h2:n<=hi
  all_goals
   go_enter Tryz.func184,Tryz.ntmps184
   go_wp2
   go_ret
   exact ⟨Z7 (by unfold inB;simp [h1,h2]),rfl⟩
 ·go_enter Tryz.func184,Tryz.ntmps184
  go_wp2
  go_ret
  exact ⟨Z7 (W7 (by omega)).symm,rfl⟩
theorem Tz (f need:Int) (w:World) (f0:0<=f) (f1:f<=1000000) (n0:0<=need) (n1:need<=2000000) :
  Calls Tryz.prog 308 #[.int .i64 f,.int .i64 need] w fun e w'=>e= .returned (.bool (decide (5*need<=4*f)))/\w'=w:=by
 go_enter Tryz.func308,Tryz.ntmps308
 go_wp2_with fail
 go_ret
 exact ⟨Z7 rfl,rfl⟩
theorem Yc (x:Int) (w:World):Calls Tryz.prog 83 #[.int .i64 x] w fun e w'=>e= .returned (.bool (inB x 0 1000000))/\w'=w:=by
 go_enter Tryz.func83,Tryz.ntmps83
 go_wp2_with (go_at_call 123;refine (Z0 _ _ _ _).mono ?_;rintro e w' ⟨rfl,rfl⟩)
 go_ret
 exact ⟨rfl,rfl⟩
theorem XB (b cap:Nat) (zs:List Int) (w:World) (hl:zs.length<=1000) (hc:∀ k,k<zs.length->w.cell? ⟨b,k,none⟩=some (.int .i64 (zs.getD k 0))) :
  Calls Tryz.prog 347 #[.slice (some ⟨b,0,none⟩) zs.length cap] w fun e w'=>e= .returned (.bool (zs.all fun z=>inB z 0 1000000))/\w'=w:=by
 have Hc:=Z9 hc
 clear hc
 go_enter Tryz.func347,Tryz.ntmps347
 go_wp2_with fail
 refine MJ (fun l a' w'=>w'=w/\ ∃ (r:Bool) (k:Nat) (u4 u5 u6 u7 u8 u9 u10 u11 u12 u13 u14 u15:Value),k<=zs.length/\a'={ tmps:=#[.slice (some ⟨b,0,none⟩) zs.length cap,undef,.bool r,.int .i64 k,u4,u5,u6,u7,u8,u9,u10,u11,u12,u13,u14,u15],defers:=[] }/\
   ((l=0/\(zs.all fun z=>inB z 0 1000000)=true)\/(l=1/\((zs.take k).all fun z=>inB z 0 1000000)=true)\/(l=2/\(zs.all fun z=>inB z 0 1000000)=false))) (fun l a' _=>if l=1 then zs.length+1-(intOf (a'.tmps.getD 3 undef)).toNat else 0) ?_ ?_
 ·by_cases hlt:0<zs.length
  ·have hcell:=uh Hc 0 hlt
   generalize hz:zs.getD 0 0=z at hcell
   have Hz:=Z9 hz
   clear hz
   cases hp:inB z 0 1000000
   ·go_wp2_with fail
    go_step3
    go_wp2_with (go_at_call 184;refine (Si _ _ _ _).mono ?_;rintro e w' ⟨rfl,rfl⟩)
    go_step3
    exact ⟨rfl,false,0,_,_,_,_,_,_,_,_,_,_,_,_,Nat.zero_le _,rfl,.inr (.inr ⟨rfl,Tq hlt (uh Hz) hp⟩)⟩
   ·go_wp2_with fail
    go_step3
    go_wp2_with (go_at_call 184;refine (Si _ _ _ _).mono ?_;rintro e w' ⟨rfl,rfl⟩)
    go_step3
    exact ⟨rfl,false,1,_,_,_,_,_,_,_,_,_,_,_,_,hlt,rfl,.inr (.inl ⟨rfl,Q9 (k:=0) hlt (uh Hz) (by simp) hp⟩)⟩
  ·obtain rfl:zs=[]:=List.eq_nil_of_length_eq_zero (by omega)
   go_wp2_with fail
   go_step3
   go_wp2_with fail
   go_step3
   exact ⟨rfl,false,0,_,_,_,_,_,_,_,_,_,_,_,_,Nat.zero_le _,rfl,.inl ⟨rfl,rfl⟩⟩
 ·rintro l a' w' ⟨rfl,r,k,u4,u5,u6,u7,u8,u9,u10,u11,u12,u13,u14,u15,hk,rfl,⟨rfl,ha⟩ | ⟨rfl,ha⟩ | ⟨rfl,ha⟩⟩
  ·refine ⟨_,rfl,?_⟩
   go_wp2_with fail
   rw [MY]
   go_ret
   exact ⟨Z7 ha.symm,rfl⟩
  ·refine ⟨_,rfl,?_⟩
   have Ha:=Z9 ha
   clear ha
   by_cases hlt:k<zs.length
   ·have hcell:=uh Hc k hlt
    have hne:((k:Int) ==(zs.length:Int))=false:=by simp;omega
    generalize hz:zs.getD k 0=z at hcell
    have Hz:=Z9 hz
    clear hz
    cases hp:inB z 0 1000000
    ·go_wp2_with (go_at_call 184;refine (Si _ _ _ _).mono ?_;rintro e w' ⟨rfl,rfl⟩)
     go_step3
     refine ⟨⟨rfl,r,k,_,_,_,_,_,_,_,_,_,_,_,_,hk,rfl,.inr (.inr ⟨rfl,Tq hlt (uh Hz) hp⟩)⟩,?_⟩
     simp [intOf];omega
    ·go_wp2_with (go_at_call 184;refine (Si _ _ _ _).mono ?_;rintro e w' ⟨rfl,rfl⟩)
     go_step3
     refine ⟨⟨rfl,r,k+1,_,_,_,_,_,_,_,_,_,_,_,_,hlt,by go_num,.inr (.inl ⟨rfl,Q9 hlt (uh Hz) (uh Ha) hp⟩)⟩,?_⟩
     simp [intOf];omega
   ·obtain rfl:k=zs.length:=by omega
    go_wp2_with fail
    go_step3
    refine ⟨⟨rfl,r,zs.length,_,_,_,_,_,_,_,_,_,_,_,_,hk,rfl,.inl ⟨rfl,?_⟩⟩,?_⟩
    ·rw [<-uh Ha,List.take_of_length_le (by omega)]
    ·simp [intOf]
  ·refine ⟨_,rfl,?_⟩
   go_wp2_with fail
   rw [MY]
   go_ret
   exact ⟨Z7 ha.symm,rfl⟩
def amt (x:Int):Bool:=inB x 0 1000000
def W6 (w u f:Int):Bool:=(amt w && (amt u && amt f)) && decide (5*(w+u)<=4*f)
def WK (u f:Int):Bool:=(amt u && amt f) && !decide (5*u<=4*f)
def Yi (u f:Int):Int:=if amt u && amt f then f-u else -1000001
theorem D9 (u f:Int):decide (4*f<5*u)= !decide (5*u<=4*f):=by
 by_cases h:5*u<=4*f
 ·rw [decide_eq_true h,decide_eq_false (by omega)];rfl
 ·rw [decide_eq_false h,decide_eq_true (by omega)];rfl
theorem RN {x:Int} (h:amt x=true):0<=x/\x<=1000000:=ZV h
theorem Gs (x y:Int):([x,y].all fun z=>inB z 0 1000000)=(amt x && amt y):=by simp [amt]
theorem CR (x y z:Int):([x,y,z].all fun z=>inB z 0 1000000)=(amt x && (amt y && amt z)):=by simp [amt]
theorem PK (u f:Int) (w:World):Calls Tryz.prog 345 #[.int .i64 u,.int .i64 f] w fun e w'=>e= .returned (.int .i64 (Yi u f))/\Below w.heap.size w w':=by
 cases h:amt u && amt f
 ·have hs:Yi u f= -1000001:=by unfold Yi;rw [h];rfl
  have Hs:=Z9 hs
  go_enter Tryz.func345,Tryz.ntmps345
  go_wp2_with fail
  refine (XB _ _ [u,f] _ (by simp) ?_).mono ?_
  ·intro k hk
   simp at hk
   match k,hk with
   | 0,_=>simp
   | 1,_=>simp
  rintro e w' ⟨rfl,rfl⟩
  rw [Gs,h]
  go_wp2_with fail
  go_ret
  exact ⟨ZJ (uh Hs).symm,(Below.refl _ _).alloc (Nat.le_refl _) _⟩
 ·have hs:Yi u f=f-u:=by unfold Yi;rw [h];rfl
  have Hs:=Z9 hs
  have h':=h
  simp only [Bool.and_eq_true] at h'
  obtain ⟨u0,u1⟩:=RN h'.1
  obtain ⟨f0,f1⟩:=RN h'.2
  go_enter Tryz.func345,Tryz.ntmps345
  go_wp2_with fail
  refine (XB _ _ [u,f] _ (by simp) ?_).mono ?_
  ·intro k hk
   simp at hk
   match k,hk with
   | 0,_=>simp
   | 1,_=>simp
  rintro e w' ⟨rfl,rfl⟩
  rw [Gs,h]
  go_wp2_with fail
  go_ret
  exact ⟨ZJ (uh Hs).symm,(Below.refl _ _).alloc (Nat.le_refl _) _⟩
theorem PL (u f:Int) (w:World):Calls Tryz.prog 344 #[.int .i64 u,.int .i64 f] w fun e w'=>e= .returned (.bool (WK u f))/\Below w.heap.size w w':=by
 cases h:amt u && amt f
 ·have hs:WK u f=false:=by unfold WK;rw [h];rfl
  have Hs:=Z9 hs
  go_enter Tryz.func344,Tryz.ntmps344
  go_wp2_with fail
  refine (XB _ _ [u,f] _ (by simp) ?_).mono ?_
  ·intro k hk
   simp at hk
   match k,hk with
   | 0,_=>simp
   | 1,_=>simp
  rintro e w' ⟨rfl,rfl⟩
  rw [Gs,h]
  go_wp2_with fail
  go_ret
  exact ⟨Z7 (uh Hs).symm,(Below.refl _ _).alloc (Nat.le_refl _) _⟩
 ·have hs:WK u f= !decide (5*u<=4*f):=by unfold WK;rw [h];rfl
  have Hs:=Z9 hs
  have h':=h
  simp only [Bool.and_eq_true] at h'
  obtain ⟨u0,u1⟩:=RN h'.1
  obtain ⟨f0,f1⟩:=RN h'.2
  go_enter Tryz.func344,Tryz.ntmps344
  go_wp2_with fail
  refine (XB _ _ [u,f] _ (by simp) ?_).mono ?_
  ·intro k hk
   simp at hk
   match k,hk with
   | 0,_=>simp
   | 1,_=>simp
  rintro e w' ⟨rfl,rfl⟩
  rw [Gs,h]
  go_wp2_with (go_at_call 308;refine (Tz f u _ f0 f1 u0 (by omega)).mono ?_;rintro e w' ⟨rfl,rfl⟩)
  go_ret
  exact ⟨Z7 (uh Hs).symm,(Below.refl _ _).alloc (Nat.le_refl _) _⟩
theorem Oy (x u f:Int) (w:World):Calls Tryz.prog 346 #[.int .i64 x,.int .i64 u,.int .i64 f] w fun e w'=>e= .returned (.bool (W6 x u f))/\Below w.heap.size w w':=by
 cases h:amt x && (amt u && amt f)
 ·have hs:W6 x u f=false:=by unfold W6;rw [h];rfl
  have Hs:=Z9 hs
  go_enter Tryz.func346,Tryz.ntmps346
  go_wp2_with fail
  refine (XB _ _ [x,u,f] _ (by simp) ?_).mono ?_
  ·intro k hk
   simp at hk
   match k,hk with
   | 0,_=>simp
   | 1,_=>simp
   | 2,_=>simp
  rintro e w' ⟨rfl,rfl⟩
  rw [CR,h]
  go_wp2_with fail
  go_ret
  exact ⟨Z7 (uh Hs).symm,(Below.refl _ _).alloc (Nat.le_refl _) _⟩
 ·have hs:W6 x u f=decide (5*(x+u)<=4*f):=by unfold W6;rw [h];rfl
  have Hs:=Z9 hs
  have h':=h
  simp only [Bool.and_eq_true] at h'
  obtain ⟨x0,x1⟩:=RN h'.1
  obtain ⟨u0,u1⟩:=RN h'.2.1
  obtain ⟨f0,f1⟩:=RN h'.2.2
  go_enter Tryz.func346,Tryz.ntmps346
  go_wp2_with fail
  refine (XB _ _ [x,u,f] _ (by simp) ?_).mono ?_
  ·intro k hk
   simp at hk
   match k,hk with
   | 0,_=>simp
   | 1,_=>simp
   | 2,_=>simp
  rintro e w' ⟨rfl,rfl⟩
  rw [CR,h]
  go_wp2_with (go_at_call 308;refine (Tz f (x+u) _ f0 f1 (by omega) (by omega)).mono ?_;rintro e w' ⟨rfl,rfl⟩)
  go_ret
  exact ⟨Z7 (uh Hs).symm,(Below.refl _ _).alloc (Nat.le_refl _) _⟩
theorem U7 (x u f:Int) (w:World):Calls Tryz.prog 34 #[.int .i64 x,.int .i64 u,.int .i64 f] w fun e w'=>e= .returned (.bool (W6 x u f))/\w'=w:=by
 cases hx:inB x 0 1000000
 ·go_enter Tryz.func34,Tryz.ntmps34
  go_wp2_with (go_at_call 83;refine (Yc _ _).mono ?_;rintro e w' ⟨rfl,rfl⟩)
  go_ret
  exact ⟨Z7 (by simp [W6,amt,hx]),rfl⟩
 ·cases hu:inB u 0 1000000
  ·go_enter Tryz.func34,Tryz.ntmps34
   go_wp2_with (go_at_call 83;refine (Yc _ _).mono ?_;rintro e w' ⟨rfl,rfl⟩)
   go_ret
   exact ⟨Z7 (by simp [W6,amt,hx,hu]),rfl⟩
  ·cases hf:inB f 0 1000000
   ·go_enter Tryz.func34,Tryz.ntmps34
    go_wp2_with (go_at_call 83;refine (Yc _ _).mono ?_;rintro e w' ⟨rfl,rfl⟩)
    go_ret
    exact ⟨Z7 (by simp [W6,amt,hx,hu,hf]),rfl⟩
   ·obtain ⟨x0,x1⟩:=ZV hx
    obtain ⟨u0,u1⟩:=ZV hu
    obtain ⟨f0,f1⟩:=ZV hf
    go_enter Tryz.func34,Tryz.ntmps34
    go_wp2_with (go_at_call 83;refine (Yc _ _).mono ?_;rintro e w' ⟨rfl,rfl⟩)
    go_ret
    exact ⟨Z7 (by simp [W6,amt,hx,hu,hf]),rfl⟩
theorem Tn (u f:Int) (w:World):Calls Tryz.prog 42 #[.int .i64 u,.int .i64 f] w fun e w'=>e= .returned (.bool (WK u f))/\w'=w:=by
 cases hu:inB u 0 1000000
 ·go_enter Tryz.func42,Tryz.ntmps42
  go_wp2_with (go_at_call 83;refine (Yc _ _).mono ?_;rintro e w' ⟨rfl,rfl⟩)
  go_ret
  exact ⟨Z7 (by simp [WK,amt,hu]),rfl⟩
 ·cases hf:inB f 0 1000000
  ·go_enter Tryz.func42,Tryz.ntmps42
   go_wp2_with (go_at_call 83;refine (Yc _ _).mono ?_;rintro e w' ⟨rfl,rfl⟩)
   go_ret
   exact ⟨Z7 (by simp [WK,amt,hu,hf]),rfl⟩
  ·obtain ⟨u0,u1⟩:=ZV hu
   obtain ⟨f0,f1⟩:=ZV hf
   go_enter Tryz.func42,Tryz.ntmps42
   go_wp2_with (go_at_call 83;refine (Yc _ _).mono ?_;rintro e w' ⟨rfl,rfl⟩)
   go_ret
   exact ⟨Z7 (by simp [WK,amt,hu,hf,D9]),rfl⟩
theorem WH (u f:Int) (w:World):Calls Tryz.prog 93 #[.int .i64 u,.int .i64 f] w fun e w'=>e= .returned (.int .i64 (Yi u f))/\w'=w:=by
 cases hu:inB u 0 1000000
 ·go_enter Tryz.func93,Tryz.ntmps93
  go_wp2_with (go_at_call 83;refine (Yc _ _).mono ?_;rintro e w' ⟨rfl,rfl⟩)
  go_ret
  exact ⟨ZJ (by simp [Yi,amt,hu]),rfl⟩
 ·cases hf:inB f 0 1000000
  ·go_enter Tryz.func93,Tryz.ntmps93
   go_wp2_with (go_at_call 83;refine (Yc _ _).mono ?_;rintro e w' ⟨rfl,rfl⟩)
   go_ret
   exact ⟨ZJ (by simp [Yi,amt,hu,hf]),rfl⟩
  ·obtain ⟨u0,u1⟩:=ZV hu
   obtain ⟨f0,f1⟩:=ZV hf
   go_enter Tryz.func93,Tryz.ntmps93
   go_wp2_with (go_at_call 83;refine (Yc _ _).mono ?_;rintro e w' ⟨rfl,rfl⟩)
   go_ret
   exact ⟨ZJ (by simp [Yi,amt,hu,hf]),rfl⟩
open Go.ChangeShapes Go.WideShapes Go.ChangeAt Go.RowKit Go.Sort
def RJ (gs:List ZC) (s:Z5):Int:=min (max s.2.2.2.2.2.2.2.2.2.1 (Vo (bnd gs s.2.2.2.2.1) s.2.2.2.2.2.1 s.2.2.2.2.2.2.1).1) (Vo (bnd gs s.2.2.2.2.1) s.2.2.2.2.2.1 s.2.2.2.2.2.2.1).2
def ZI (m:Z6) (who:Int):Int:=RJ m.guilds (Z8 m.smiths who.toNat)
theorem EP (gs:List ZC) (s:Z5):0<=RJ gs s/\RJ gs s<=1024:=by
 obtain ⟨b0,b1,b2⟩:=CD gs s.2.2.2.2.1
 obtain ⟨n0,n1,n2⟩:=GV (lo:=s.2.2.2.2.2.1) (hi:=s.2.2.2.2.2.2.1) b0 b1 b2
 unfold RJ
 omega
theorem Wr (m:Z6) (who:Int):0<=ZI m who/\ZI m who<=1024:=EP _ _
def Vv (m:Z6) (but:Int) (q:List Z1):Int:=q.foldl (fun n e=>if e.2=but then n else n+ZI m e.2) 0
theorem Jv (m:Z6) (but:Int) (q:List Z1) (e:Z1):Vv m but (q++[e])=if e.2=but then Vv m but q else Vv m but q+ZI m e.2:=by
 unfold Vv;rw [List.foldl_append];rfl
theorem LB (m:Z6) (but:Int):∀ (q:List Z1) (n:Int),0<=n->0<=q.foldl (fun n e=>if e.2=but then n else n+ZI m e.2) n/\q.foldl (fun n e=>if e.2=but then n else n+ZI m e.2) n<=n+1024*q.length
 | [],n,h=>⟨h,by simp⟩
 | e::q,n,h=>by
  have hw:=Wr m e.2
  have ih:=LB m but q (if e.2=but then n else n+ZI m e.2) (by split<;>omega)
  refine ⟨ih.1,Int.le_trans ih.2 ?_⟩
  simp only [List.length_cons,Int.natCast_add,Int.natCast_one]
  split<;>omega
theorem LC (m:Z6) (but:Int) (q:List Z1):0<=Vv m but q/\Vv m but q<=1024*q.length:=by
 have:=LB m but q 0 (by omega)
 unfold Vv;omega
def ZA (m:Z6) (b but:Int):Int:=Vv m but (atV m.smiths b m.smiths.length)
theorem Va (m:Z6) (b but:Int):0<=ZA m b but/\ZA m b but<=1024*m.smiths.length:=by
 have h:=LC m but (atV m.smiths b m.smiths.length)
 have hl:=Rb m.smiths b m.smiths.length
 unfold ZA
 refine ⟨h.1,Int.le_trans h.2 ?_⟩
 omega
def Y1 (m:Z6) (room:Int):Nat->Int × Int
 | 0=>(0,0)
 | k+1=>if (XJ m.rooms k:Int)=room then ((if (Z8 m.desks k).1 then max (Y1 m room k).1 (ZA m k (-1)) else (Y1 m room k).1),(Y1 m room k).2+ZA m k (-1)) else Y1 m room k
theorem Q4 (m:Z6) (room:Int) (hl:m.smiths.length<=12):∀ k:Nat,(0<=(Y1 m room k).1/\(Y1 m room k).1<=12288)/\0<=(Y1 m room k).2/\(Y1 m room k).2<=12288*k
 | 0=>by simp [Y1]
 | k+1=>by
  have ih:=Q4 m room hl k
  have hu:=Va m k (-1)
  unfold Y1
  split
  ·simp only
   constructor
   ·split<;>omega
   ·push_cast;omega
  ·push_cast;omega
def Ur (m:Z6) (room:Nat):Int:=QC (ZU m.rooms room) (Y1 m room m.desks.length).1 (Y1 m room m.desks.length).2
def V9 (m:Z6):Nat->Int
 | 0=>0
 | k+1=>V9 m k+Ur m k
def Ri (m:Z6):Int:=V9 m m.rooms.length
theorem Qp (m:Z6):∀ k:Nat,-(k:Int)<=V9 m k/\V9 m k<=1024000000*k
 | 0=>by simp [V9]
 | k+1=>by
  have ih:=Qp m k
  have hc:=JZ (ZU m.rooms k) (XI (ZU m.rooms k) (Y1 m k m.desks.length).1) (Y1 m k m.desks.length).2
  unfold V9 Ur QC
  push_cast
  omega
def Sk (s:Z5) (b:Int):Z5:=(2,b,s.2.2)
def Xi (m:Z6) (who b:Int):Z6:={ m with smiths:=m.smiths.set who.toNat (Sk (Z8 m.smiths who.toNat) b) }
def ZX (m:Z6) (who b:Int):Int:=Ri (Xi m who b)
def Zw (m:Z6) (who:Int) (b:Nat):Bool:=(Z8 m.desks b).1 && Wu (Z8 m.smiths who.toNat).2.2.2.1 b
def P1 (m:Z6) (who:Int) (b:Nat):Bool:=Zw m who b && W6 (ZI m who) (ZA m b who) (Zx m.rooms b)
def Wc (m:Z6) (who:Int):Nat->List Int
 | 0=>[]
 | k+1=>if P1 m who k then Wc m who k++[(k:Int)] else Wc m who k
def Zn (m:Z6) (who:Int):List Int:=Wc m who m.desks.length
theorem Qs (m:Z6) (who:Int):∀ k,(Wc m who k).length<=k
 | 0=>Nat.le_refl _
 | k+1=>by
  have:=Qs m who k
  unfold Wc
  split
  ·simp;omega
  ·omega
theorem So (m:Z6) (who:Int) (x:Int):∀ k,x ∈ Wc m who k ↔ ∃ b:Nat,b<k/\x=(b:Int)/\P1 m who b=true
 | 0=>by simp [Wc]
 | k+1=>by
  have ih:=So m who x k
  unfold Wc
  split
  ·rename_i hf
   rw [List.mem_append,ih]
   constructor
   ·rintro (⟨b,hb,e,h⟩ | h)
    ·exact ⟨b,by omega,e,h⟩
    ·exact ⟨k,by omega,by simpa using h,hf⟩
   ·rintro ⟨b,hb,e,h⟩
    by_cases hbk:b=k
    ·subst hbk;right;simp [e]
    ·left;exact ⟨b,by omega,e,h⟩
  ·rename_i hf
   rw [ih]
   constructor
   ·rintro ⟨b,hb,e,h⟩
    exact ⟨b,by omega,e,h⟩
   ·rintro ⟨b,hb,e,h⟩
    by_cases hbk:b=k
    ·subst hbk;exact absurd h hf
    ·exact ⟨b,by omega,e,h⟩
def Wa (m:Z6) (b:Nat):Bool:=(Z8 m.desks b).1 && WK (ZA m b (-1)) (Zx m.rooms b)
def XV (m:Z6):Bool:=(List.range m.desks.length).any (Wa m)
def Y2 (m:Z6) (who:Int) (a:Int × Int) (b:Int):Int × Int:=if ZX m who b<a.2\/(ZX m who b=a.2/\b=(Z8 m.smiths who.toNat).2.1) then (b,ZX m who b) else a
def XU (m:Z6) (who:Int) (f:List Int) (k:Nat):Int × Int:=((f.take k).drop 1).foldl (Y2 m who) (Z8 f 0,ZX m who (Z8 f 0))
def Zg (m:Z6) (who:Int):Nat->Int × Int
 | 0=>(-1,0)
 | k+1=>if Zw m who k && (decide ((Zg m who k).1<0) || decide ((Zg m who k).2<Yi (ZA m k who) (Zx m.rooms k))) then ((k:Int),Yi (ZA m k who) (Zx m.rooms k)) else Zg m who k
def Zr (m:Z6) (who:Int):Int:=if !XV m && decide (0<(Zn m who).length) then (XU m who (Zn m who) (Zn m who).length).1 else (Zg m who m.desks.length).1
theorem JQ (m:Z6) (who:Int) (P:Int->Prop):∀ (f:List Int) (a:Int × Int),P a.1->(∀ x ∈ f,P x)->P (f.foldl (Y2 m who) a).1
 | [],a,h,_=>h
 | b::f,a,h,hf=>by
  refine JQ m who P f (Y2 m who a b) ?_ (fun x hx=>hf x (List.mem_cons_of_mem _ hx))
  unfold Y2
  split
  ·exact hf b (by simp)
  ·exact h
theorem Mp (m:Z6) (who:Int):∀ k:Nat,((Zg m who k).1= -1/\ ∀ b,b<k->Zw m who b=false)\/ ∃ b:Nat,b<k/\(Zg m who k).1=(b:Int)/\Zw m who b=true
 | 0=> .inl ⟨rfl,fun b hb=>by omega⟩
 | k+1=>by
  have ih:=Mp m who k
  unfold Zg
  split
  ·rename_i h
   simp only [Bool.and_eq_true] at h
   exact .inr ⟨k,by omega,rfl,h.1⟩
  ·rename_i h
   rcases ih with ⟨e,hn⟩ | ⟨b,hb,e,hm⟩
   ·refine .inl ⟨e,fun b hb=> ?_⟩
    by_cases hbk:b=k
    ·subst hbk
     cases hm:Zw m who b
     ·rfl
     ·exfalso
      apply h
      rw [hm,e]
      rfl
    ·exact hn b (by omega)
   ·exact .inr ⟨b,by omega,e,hm⟩
theorem Vd (m:Z6) (who:Int):(Zr m who= -1/\ ∀ b,b<m.desks.length->Zw m who b=false)\/ ∃ b:Nat,b<m.desks.length/\Zr m who=(b:Int)/\Zw m who b=true:=by
 unfold Zr
 split
 ·rename_i h
  simp only [Bool.and_eq_true,decide_eq_true_eq] at h
  right
  have hin:∀ x ∈ Zn m who,∃ b:Nat,b<m.desks.length/\x=(b:Int)/\Zw m who b=true:=by
   intro x hx
   obtain ⟨b,hb,e,hf⟩:=(So m who x m.desks.length).1 hx
   unfold P1 at hf
   simp only [Bool.and_eq_true] at hf
   exact ⟨b,hb,e,hf.1⟩
  unfold XU
  exact JQ m who (fun x=> ∃ b:Nat,b<m.desks.length/\x=(b:Int)/\Zw m who b=true) _ _ (hin _ (Xn h.2)) (fun x hx=>hin x (List.mem_of_mem_take (List.mem_of_mem_drop hx)))
 ·exact Mp m who m.desks.length
structure Gq (m:Z6):Prop where
 guilds:Zk m.guilds=true
 lo:∀ i,i<m.smiths.length->(Z8 m.smiths i).1 ≠ 0-> -1<=(Z8 m.smiths i).2.2.2.2.1
 hi:∀ i,i<m.smiths.length->(Z8 m.smiths i).1 ≠ 0->(Z8 m.smiths i).2.2.2.2.1<m.guilds.length
theorem GX {s:Z5} (h:ZP s=true):s.1 ≠ 0:=fun e=>by unfold ZP at h;rw [e] at h;cases h
theorem UC  {k:Nat} (h:Smy w v0 v1 v2 v3 v4 m) (hg:Zk m.guilds=true) (hk:k<m.smiths.length) (g0 : -1<=(Z8 m.smiths k).2.2.2.2.1) (g1:(Z8 m.smiths k).2.2.2.2.1<m.guilds.length) :
  Calls Tryz.prog 68 #[.agg #[v0,v1,v2,v3,v4,.int .i64 m.now],.int .i64 (k:Int)] w fun e w'=>e= .returned (.int .i64 (ZI m (k:Int)))/\Below w.heap.size w w':=by
 have hw:ZI m (k:Int)=RJ m.guilds (Z8 m.smiths k):=rfl
 rw [hw]
 clear hw
 have Hv:=Z9 h
 obtain ⟨h0,h1,h2,h3,h4⟩:=h
 obtain ⟨a0,p0,rfl,hc0,hm0⟩:=IsRooms.shape h0
 obtain ⟨a1,p1,rfl,hc1,hm1⟩:=IsRec.shape h1
 obtain ⟨a2,p2,rfl,hc2,hm2,r2⟩:=h2
 obtain ⟨a3,p3,rfl,hc3,hm3⟩:=IsRec.shape h3
 obtain ⟨a4,p4,rfl,hc4,hm4⟩:=IsRec.shape h4
 clear h0 h1 h3 h4
 rcases r2 with e0 | ⟨sb,off,rfl,hbw,hcl⟩
 ·rw [e0] at hk;simp at hk
 obtain ⟨d0,d1,d2,d3,d4,d5,d6,d7,d8,d9,d10⟩:=ZE hcl hk
 clear hcl
 generalize Z8 m.smiths k=ss at *
 obtain ⟨st,be,rk,my,gu,lo,hi,hd,ca,ut,wk⟩:=ss
 simp only at d0 d1 d2 d3 d4 d5 d6 d7 d8 d9 d10 g0 g1
 have Hg:=Z9 hg
 clear hg
 go_enter Tryz.func68,Tryz.ntmps68
 go_wp2_with fail
 have BB:Hid (Below w.heap.size w ((w.alloc (.cells #[.slice a0 m.rooms.length p0,.slice a1 m.guilds.length p1,.slice (some ⟨sb,off,none⟩) m.smiths.length p2,.slice a3 m.desks.length p3,.slice a4 m.paces.length p4,.int .i64 m.now] 32)).alloc (.cells #[.int .i64 st,.int .i64 be,.int .i64 rk,.int .i64 my,.int .i64 gu,.int .i64 lo,.int .i64 hi,.int .i64 hd,.int .i64 ca,.int .i64 ut,.int .i64 wk] 41))):=Z9 (((Below.refl _ _).alloc (Nat.le_refl _) _).alloc (by simp) _)
 have Hv2:=Z9 ((uh Hv).below (uh BB)).guilds
 have ks:=Z9 (Blk.new (w.alloc (.cells #[.slice a0 m.rooms.length p0,.slice a1 m.guilds.length p1,.slice (some ⟨sb,off,none⟩) m.smiths.length p2,.slice a3 m.desks.length p3,.slice a4 m.paces.length p4,.int .i64 m.now] 32)) 41 #[.int .i64 st,.int .i64 be,.int .i64 rk,.int .i64 my,.int .i64 gu,.int .i64 lo,.int .i64 hi,.int .i64 hd,.int .i64 ca,.int .i64 ut,.int .i64 wk])
 simp only [World.size_alloc] at ks
 generalize (w.alloc (.cells #[.slice a0 m.rooms.length p0,.slice a1 m.guilds.length p1,.slice (some ⟨sb,off,none⟩) m.smiths.length p2,.slice a3 m.desks.length p3,.slice a4 m.paces.length p4,.int .i64 m.now] 32)).alloc (.cells #[.int .i64 st,.int .i64 be,.int .i64 rk,.int .i64 my,.int .i64 gu,.int .i64 lo,.int .i64 hi,.int .i64 hd,.int .i64 ca,.int .i64 ut,.int .i64 wk] 41)=W at *
 refine (P9 gu lo hi (uh Hv2) (Mj (uh Hg) m.guilds.length gu (uh Hv2) g0 g1 g1)).mono ?_
 rintro e w1 ⟨rfl,hb⟩
 replace ks:=bl ks hb
 replace BB:=bt BB hb
 have x9:=(uh ks).cell (i:=9) (v:= .int .i64 ut) rfl
 clear hb d0 d1 d2 d3 d4 d5 d6 d7 d8 d9 d10
 go_wp2_with (go_at_call 125;refine (Tj _ _ _ _).mono ?_;rintro e w' ⟨rfl,h9⟩;subst w')
 go_ret
 exact ⟨rfl,uh BB⟩
theorem Jw (m:Z6) (but:Int) {q:List Z1} {k:Nat} (hk:k<q.length):Vv m but (q.take (k+1))=if (ZY q k).2=but then Vv m but (q.take k) else Vv m but (q.take k)+ZI m (ZY q k).2:=by
 have:q.take (k+1)=q.take k++[ZY q k]:=by
  rw [List.take_succ_eq_append_getElem hk];unfold ZY;simp [List.getD,hk]
 rw [this,Jv]
theorem VI  (b but:Int) (h:Smy w v0 v1 v2 v3 v4 m) (hG:Gq m) (hl:m.smiths.length<=800) :
  Calls Tryz.prog 66 #[.agg #[v0,v1,v2,v3,v4,.int .i64 m.now],.int .i64 b,.int .i64 but] w fun e w'=>e= .returned (.int .i64 (ZA m b but))/\Below w.heap.size w w':=by
 have Hv:=Z9 (h.alloc (.cells #[v0,v1,v2,v3,v4,.int .i64 m.now] 32))
 obtain ⟨a0,p0,a1,p1,a2,p2,a3,p3,a4,p4,rfl,rfl,rfl,rfl,rfl,_,_,_,_,_,_,_,_,_,_⟩:=h.five
 clear h
 have HG:=Z9 hG
 clear hG
 go_enter Tryz.func66,Tryz.ntmps66
 go_wp2_with fail
 refine (Sp b (uh Hv) hl).mono ?_
 rintro e w1 ⟨v',rfl,he,hb⟩
 have kb:Hid (Blk w1 w.heap.size 32 #[.slice a0 m.rooms.length p0,.slice a1 m.guilds.length p1,.slice a2 m.smiths.length p2,.slice a3 m.desks.length p3,.slice a4 m.paces.length p4,.int .i64 m.now]):=Z9 ((Blk.new w _ _).below hb (by simp))
 have BB:Hid (Below w.heap.size w w1):=Z9 (((Below.refl _ _).alloc (Nat.le_refl _) _).trans (hb.mono (by simp)))
 replace Hv:=Z9 ((uh Hv).below hb)
 have hq:=Rb m.smiths b m.smiths.length
 have hmem:=Xs m.smiths b
 have Hu:Hid (ZA m b but=Vv m but (atV m.smiths b m.smiths.length)):=Z9 rfl
 have hmq:∀ x ∈ atV m.smiths b m.smiths.length,∃ j:Nat,j<m.smiths.length/\ZP (Z8 m.smiths j)=true/\x.2=(j:Int):=fun x hx=>by
  obtain ⟨j,hj,_,hp,rfl⟩:=(hmem x m.smiths.length).1 hx
  exact ⟨j,hj,hp,rfl⟩
 have Hm:=Z9 hmq
 clear hmem hmq hb
 have hp:=EntsAt.paces he
 clear he
 generalize atV m.smiths b m.smiths.length=q at *
 obtain ⟨qa,qc,rfl,hqc,hqm,hr⟩:=hp
 have Hr:=Z9 hr
 clear hr
 go_wp2_with fail
 go_loopw [7,9] (fun n i wr=> ∃ k:Nat,k<=q.length/\i= .int .i64 k/\n= .int .i64 (Vv m but (q.take k))/\Below w1.heap.size w1 wr) (fun _ i _=>q.length-(intOf i).toNat)
 case atStart=>exact ⟨0,Nat.zero_le _,rfl,rfl,Below.refl _ _⟩
 case round=>
  obtain ⟨k,hk,rfl,rfl,hbr⟩:=hrel
  have hub:=LC m but (q.take k)
  have htl:(q.take k).length<=k:=by rw [List.length_take];omega
  by_cases hlt:k<q.length
  ·rcases uh Hr with e0 | ⟨eb,eo,rfl,hbw,hcl⟩
   ·rw [e0] at hlt;simp at hlt
   obtain ⟨c0,c1⟩:=hcl k hlt
   rw [<-hbr.cell (p:=⟨eb,eo+k*2,none⟩) hbw] at c0
   rw [<-hbr.cell (p:=⟨eb,eo+k*2+1,none⟩) hbw] at c1
   obtain ⟨j,hj,hjp,hje⟩:=uh Hm _ (U4 hlt)
   have Hjp:=Z9 (GX hjp)
   clear hjp
   have hst:=Jw m but hlt
   have hwb:=Wr m (j:Int)
   rw [hje] at c1 hst
   clear hje hcl
   generalize (ZY q k).1=hd at *
   have Hst:=Z9 hst
   clear hst
   generalize Vv m but (q.take k)=u at *
   have u1:u<=1024*800:=by omega
   have kb1:=(uh kb).below hbr (uh kb).lt
   have Hv1:=Z9 ((uh Hv).below hbr)
   have Kb1:=Z9 kb1
   have Hbr:=Z9 hbr
   clear hbr kb1
   obtain ⟨x0,x1,x2,x3,x4,x5⟩:=(uh Kb1).c6
   by_cases hbut:(j:Int)=but
   ·have hbn:((j:Int) ==but)=true:=by simpa using hbut
    go_wp2_with fail
    go_roundw
    case rel=>exact ⟨k+1,by omega,by go_num,by rw [uh Hst,if_pos hbut],uh Hbr⟩
    case measure=>simp [intOf];omega
   ·have hbn:((j:Int) ==but)=false:=by simpa using hbut
    have Hw:=Z9 (fun (W:World) (hW:Below wr.heap.size wr W)=>UC ((uh Hv1).below hW) (uh HG).guilds hj ((uh HG).lo j hj (uh Hjp)) ((uh HG).hi j hj (uh Hjp)))
    generalize ZI m (j:Int)=wa at *
    have y0:=cell_regrown x0
    have y1:=cell_regrown x1
    have y2:=cell_regrown x2
    have y3:=cell_regrown x3
    have y4:=cell_regrown x4
    have y5:=cell_regrown x5
    have z0:=cell_regrown c0
    have z1:=cell_regrown c1
    go_wp2_with fail
    refine wp_region_quiet_below (by kernel_rfl) (by kernel_rfl) ?_
    repeat (go_big_quiet_step (exact Calls.regrown_of (uh Hw _ (below_regrown _ _ _))))
    refine wpQuiet_nil ?_
    intro _ hw'
    obtain ⟨⟨dq,osq⟩,hw''⟩:=hw'
    subst hw''
    go_wp2_with fail
    go_roundw
    case rel=>exact ⟨k+1,by omega,by go_num,by rw [uh Hst,if_neg hbut],(uh Hbr).trans ((below_regrown _ _ _).mono (uh Hbr).size)⟩
    case measure=>simp [intOf];omega
  ·obtain rfl:k=q.length:=by omega
   rw [List.take_length]
   go_wp2_with fail
   go_ret
   exact ⟨ZJ (uh Hu).symm,(uh BB).trans (hbr.mono (uh BB).size)⟩
end Go.Proofs.YtaegckehjlkaaaaGreat
