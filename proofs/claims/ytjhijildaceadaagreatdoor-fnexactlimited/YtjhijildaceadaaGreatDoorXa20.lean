/- Part 20 of what the proof rests on. No condition but those that a theorem names. -/
import Derived.Test.YtjhijildaceadaaGreatDoorXa19
import Derived.ChangeKeysEq
namespace Go.Proofs.YtjhijildaceadaaGreatDoor
open Go.ChangeShapes Go.WideShapes Go.ChangeAt Go.RowKit Go.Sort
set_option linter.unusedVariables false
variable {m : Z4}
def RP (m:Z4):List Z6->Int
 | []=>0
 | e::q=>ZC m e.2+RP m q
def Vv (m:Z4):List Int->Int
 | []=>0
 | x::q=>ZC m x+Vv m q
theorem J3 (m:Z4) (a b:List Z6):RP m (a++b)=RP m a+RP m b:=by
 induction a with
 | nil=>show RP m b=0+RP m b;omega
 | cons e a ih=>show ZC m e.2+RP m (a++b)=ZC m e.2+RP m a+RP m b;omega
theorem DP (m:Z4) (a b:List Int):Vv m (a++b)=Vv m a+Vv m b:=by
 induction a with
 | nil=>show Vv m b=0+Vv m b;omega
 | cons e a ih=>show ZC m e+Vv m (a++b)=ZC m e+Vv m a+Vv m b;omega
theorem Mq (m:Z4) (a:List Int) (x:Int):Vv m (a++[x])=Vv m a+ZC m x:=by rw [DP];show _+(ZC m x+0)=_;omega
theorem FG (m:Z4):∀ a:List Int,0<=Vv m a/\Vv m a<=1024*a.length
 | []=>by simp [Vv]
 | x::a=>by
  have ih:=FG m a
  have hw:=Rt m x
  show 0<=ZC m x+Vv m a/\ZC m x+Vv m a<=1024*((a.length+1:Nat):Int)
  omega
theorem DO (m:Z4) (q:List Z6) (e:Z6):RP m (VH q e)=RP m q+ZC m e.2:=by
 have h:=J3 m (q.take (Yq e q)) (q.drop (Yq e q))
 rw [List.take_append_drop] at h
 unfold VH
 rw [J3,h]
 show _+(ZC m e.2+_)=_
 omega
theorem Mw (m:Z4) (but:Int):∀ (q:List Z6) (n:Int),(∀ e ∈ q,e.2 ≠ but)->q.foldl (fun n e=>if e.2=but then n else n+ZC m e.2) n=n+RP m q
 | [],n,_=>by show n=n+0;omega
 | e::q,n,h=>by
  have h0:=h e (by simp)
  have ih:=Mw m but q (if e.2=but then n else n+ZC m e.2) (fun x hx=>h x (by simp [hx]))
  rw [List.foldl_cons,ih,if_neg h0]
  show _=n+(ZC m e.2+RP m q)
  omega
theorem E8 (m:Z4) (b:Int):ZB m b (-1)=RP m (atV m.smiths b m.smiths.length):=by
 have:=Mw m (-1) (atV m.smiths b m.smiths.length) 0 (fun e he=>by
  obtain ⟨i,_,_,_,rfl⟩:=(Yl m.smiths b e m.smiths.length).1 he
  show (i:Int) ≠ -1
  omega)
 unfold ZB VJ
 omega
theorem BC (b:Int) (s:Z2):atB b s=decide (s.2.1=b/\ZW s=true):=by
 unfold atB ZW
 rw [Bool.eq_iff_iff]
 simp only [Bool.and_eq_true,decide_eq_true_eq,beq_iff_eq]
 exact ⟨fun h=>⟨h.2,h.1⟩,fun h=>⟨h.2,h.1⟩⟩
theorem MA (m:Z4) (ss:List Z2) (b:Int):∀ k,Vv m (ZZ (atB b) ss k)=RP m (atV ss b k)
 | 0=>rfl
 | k+1=>by
  have ih:=MA m ss b k
  by_cases hat:(Z8 ss k).2.1=b/\ZW (Z8 ss k)=true
  ·rw [YY (by rw [BC];exact decide_eq_true hat),Mq,Ve hat.1 hat.2,DO,ih]
  ·rw [Yv (by rw [BC];exact decide_eq_false hat),UB hat,ih]
theorem Ik (m:Z4) (b:Int):Vv m (ZZ (atB b) m.smiths m.smiths.length)=ZB m b (-1):=by rw [MA,E8]
theorem EV (m:Z4) {ws:List Int} {k:Nat} (h:k<ws.length):Vv m (ws.take (k+1))=Vv m (ws.take k)+ZC m (Z8 ws k):=by rw [Rj h,Mq]
structure Wants (m:Z4):Prop where
 guilds:Zd m.guilds=true
 each:∀ i,i<m.smiths.length->(Z8 m.smiths i).1 ≠ 0->isB m.guilds (Z8 m.smiths i).2.2.2.2.1=true/\YU (Z8 m.smiths i).2.2.2.2.2.1 (Z8 m.smiths i).2.2.2.2.2.2.1=true
theorem Loose.wants (h:Loose m):Wants m:=by
 have hd:=h.head
 unfold Yc at hd
 simp only [Bool.and_eq_true,decide_eq_true_eq] at hd
 refine ⟨hd.2.1,fun i hi hs=> ?_⟩
 obtain ⟨hp,hg,_⟩:=h.limits hi hs
 have hgs:=hd.2.1
 generalize Z8 m.smiths i=s at *
 obtain ⟨st,be,rk,my,gu,lo,hi,hd,ca,ut,wk⟩:=s
 obtain ⟨_,_,_,_,⟨g0,g5⟩,hpair,_⟩:=Zk hp
 simp only at hg
 exact ⟨by unfold isB;rw [hgs,Zj g0 (by omega)];rfl,hpair⟩
theorem D2 (m:Z4) {k:Nat} (hk:k<m.smiths.length) (b:Int) (i:Nat):Z8 (Yg m (k:Int) b).smiths i=if i=k then Vd (Z8 m.smiths k) b else Z8 m.smiths i:=by
 unfold Yg
 simp only [Int.toNat_natCast]
 exact ZV hk i
theorem Wants.with (h:Wants m) {k:Nat} (hk:k<m.smiths.length) (hs:(Z8 m.smiths k).1 ≠ 0) (b:Int):Wants (Yg m (k:Int) b):=by
 refine ⟨h.guilds,fun i hi hne=> ?_⟩
 have hi':i<m.smiths.length:=by unfold Yg at hi;simpa using hi
 rw [D2 m hk] at hne ⊢
 by_cases e:i=k
 ·rw [if_pos e];exact h.each k hk hs
 ·rw [if_neg e] at hne ⊢;exact h.each i hi' hne
def U0 (m:Z4) (b:Int):Bool:=Yb m.desks.length b && (Z8 m.desks b.toNat).1
def VC (m:Z4) (bs:List Int):Int:=bs.foldl (fun n b=>if U0 m b then max n (ZB m b (-1)) else n) 0
def U5 (m:Z4) (bs:List Int):Int:=bs.foldl (fun n b=>n+ZB m b (-1)) 0
theorem Od (m:Z4) (bs:List Int) (b:Int):VC m (bs++[b])=if U0 m b then max (VC m bs) (ZB m b (-1)) else VC m bs:=by unfold VC;rw [List.foldl_append];rfl
theorem OV (m:Z4) (bs:List Int) (b:Int):U5 m (bs++[b])=U5 m bs+ZB m b (-1):=by unfold U5;rw [List.foldl_append];rfl
theorem Jy (m:Z4) (hl:m.smiths.length<=12):∀ (bs:List Int) (n:Int),0<=n->n<=12288->0<=bs.foldl (fun n b=>if U0 m b then max n (ZB m b (-1)) else n) n/\bs.foldl (fun n b=>if U0 m b then max n (ZB m b (-1)) else n) n<=12288
 | [],n,h0,h1=>⟨h0,h1⟩
 | b::bs,n,h0,h1=>by
  have hu:=Uw m b (-1)
  refine Jy m hl bs (if U0 m b then max n (ZB m b (-1)) else n) ?_ ?_<;>split<;>omega
theorem Dj (m:Z4) (hl:m.smiths.length<=12) (bs:List Int):0<=VC m bs/\VC m bs<=12288:=Jy m hl bs 0 (by omega) (by omega)
theorem Kw (m:Z4) (hl:m.smiths.length<=12):∀ (bs:List Int) (n:Int),0<=n->0<=bs.foldl (fun n b=>n+ZB m b (-1)) n/\bs.foldl (fun n b=>n+ZB m b (-1)) n<=n+12288*bs.length
 | [],n,h0=>⟨h0,by simp⟩
 | b::bs,n,h0=>by
  have hu:=Uw m b (-1)
  have ih:=Kw m hl bs (n+ZB m b (-1)) (by omega)
  refine ⟨ih.1,Int.le_trans ih.2 ?_⟩
  simp only [List.length_cons,Int.natCast_add,Int.natCast_one]
  omega
theorem D3 (m:Z4) (hl:m.smiths.length<=12) (bs:List Int):0<=U5 m bs/\U5 m bs<=12288*bs.length:=by
 have:=Kw m hl bs 0 (by omega)
 unfold U5;omega
theorem JS (h:Sane m) {r:Nat} (hr:r<m.rooms.length) {b:Nat} (hb:b<8):VY (V2 m.rooms (r:Int)) (b:Int)=true ↔ b<m.desks.length/\(WT m.rooms b:Int)=(r:Int):=by
 have hR:VW m.rooms (r:Int)=true:=by unfold VW;rw [h.hall,Zj (by omega) (by omega)];rfl
 have ha:=(Zi h.hall).2.2.1
 have h0:=Ya h.hall r (by omega)
 have h1:=Ya h.hall (r+1) (by omega)
 have hm:=Xs ha (i:=r) 1 (by omega)
 have hm0:=Xs ha (i:=r+1) (m.rooms.length-(r+1)) (by omega)
 rw [show r+1+(m.rooms.length-(r+1))=m.rooms.length by omega,List.take_length] at hm0
 have h8:=h.eight
 have hd:=h.desks
 rw [GZ hR,Int.toNat_natCast,CH h0.1 hm (by omega) (by omega) (by omega),decide_eq_true_iff]
 constructor
 ·intro hx
  have hbd:b<m.desks.length:=by omega
  exact ⟨hbd,by rw [(FD (h.bench hbd) hr).2 hx]⟩
 ·rintro ⟨hbd,e⟩
  exact (FD (h.bench hbd) hr).1 (by omega)
theorem Mk (h:Sane m) {r:Nat} (hr:r<m.rooms.length):∀ k:Nat,k<=m.desks.length->VC m (Vm (V2 m.rooms (r:Int)) k)=(usedIn m r k).1/\U5 m (Vm (V2 m.rooms (r:Int)) k)=(usedIn m r k).2
 | 0,_=>⟨rfl,rfl⟩
 | k+1,hk=>by
  have ih:=Mk h hr k (by omega)
  have h8:=h.eight
  have hs:=JS h hr (b:=k) (by omega)
  by_cases e:(WT m.rooms k:Int)=(r:Int)
  ·rw [Ti (hs.2 ⟨by omega,e⟩),Od,OV,ih.1,ih.2]
   have ho:U0 m (k:Int)=(Z8 m.desks k).1:=by
    unfold U0 Yb
    rw [Int.toNat_natCast,decide_eq_true (show (0:Int)<=(k:Int) by omega),decide_eq_true (show (k:Int)<(m.desks.length:Int) by omega)]
    simp
   rw [ho]
   show _=(if _ then _ else _:Int × Int).1/\_=(if _ then _ else _:Int × Int).2
   rw [if_pos e]
   exact ⟨rfl,rfl⟩
  ·have hn:VY (V2 m.rooms (r:Int)) (k:Int)=false:=by
    cases hc:VY (V2 m.rooms (r:Int)) (k:Int)
    ·rfl
    ·exact absurd (hs.1 hc).2 e
   rw [Vc hn]
   show _=(if _ then _ else _:Int × Int).1/\_=(if _ then _ else _:Int × Int).2
   rw [if_neg e]
   exact ih
theorem EM (h:Sane m) {r:Nat} (hr:r<m.rooms.length):VC m (TS (V2 m.rooms (r:Int)))=(usedIn m r m.desks.length).1/\U5 m (TS (V2 m.rooms (r:Int)))=(usedIn m r m.desks.length).2:=by
 have key:∀ d k:Nat,m.desks.length+d=k->k<=8->Vm (V2 m.rooms (r:Int)) k=Vm (V2 m.rooms (r:Int)) m.desks.length:=by
  intro d
  induction d with
  | zero=>intro k hk _;rw [<-hk];rfl
  | succ d ih=>
   intro k hk h8
   obtain ⟨j,rfl⟩:∃ j,k=j+1:=⟨k-1,by omega⟩
   have hn:VY (V2 m.rooms (r:Int)) (j:Int)=false:=by
    cases hc:VY (V2 m.rooms (r:Int)) (j:Int)
    ·rfl
    ·have:=((JS h hr (b:=j) (by omega)).1 hc).1;omega
   rw [Vc hn]
   exact ih j (by omega) (by omega)
 have h8:=h.eight
 have e:=key (8-m.desks.length) 8 (by omega) (by omega)
 unfold TS
 rw [e]
 exact Mk h hr m.desks.length (Nat.le_refl _)
def BD (s:Z2):Z2:=(1,s.2)
def XH (m:Z4) (who:Int):Z4:={ m with smiths:=m.smiths.set who.toNat (BD (Z8 m.smiths who.toNat)) }
theorem OY (m:Z4) {k:Nat} (hk:k<m.smiths.length) (i:Nat):Z8 (XH m (k:Int)).smiths i=if i=k then BD (Z8 m.smiths k) else Z8 m.smiths i:=by
 unfold XH
 simp only [Int.toNat_natCast]
 exact ZV hk i
theorem Nf (m:Z4) (who:Int):(XH m who).smiths.length=m.smiths.length:=by unfold XH;simp
theorem D9 (m:Z4) {k:Nat} (hk:k<m.smiths.length) (x:Int):ZC (XH m (k:Int)) x=ZC m x:=by
 unfold ZC
 rw [OY m hk]
 by_cases e:x.toNat=k
 ·rw [if_pos e,e];rfl
 ·rw [if_neg e];rfl
def Sa (m:Z4) (but:Int):List Z6->Int
 | []=>0
 | e::q=>(if e.2=but then 0 else ZC m e.2)+Sa m but q
theorem J2 (m:Z4) (but:Int) (a b:List Z6):Sa m but (a++b)=Sa m but a+Sa m but b:=by
 induction a with
 | nil=>show Sa m but b=0+Sa m but b;omega
 | cons e a ih=>show _+Sa m but (a++b)=_+Sa m but a+Sa m but b;omega
theorem OL (m:Z4) (but:Int) (q:List Z6) (e:Z6):Sa m but (VH q e)=Sa m but q+(if e.2=but then 0 else ZC m e.2):=by
 have h:=J2 m but (q.take (Yq e q)) (q.drop (Yq e q))
 rw [List.take_append_drop] at h
 unfold VH
 rw [J2,h]
 show _+((if e.2=but then 0 else ZC m e.2)+_)=_
 omega
theorem FH (m:Z4) (but:Int):∀ (q:List Z6) (n:Int),q.foldl (fun n e=>if e.2=but then n else n+ZC m e.2) n=n+Sa m but q
 | [],n=>by show n=n+0;omega
 | e::q,n=>by
  have ih:=FH m but q (if e.2=but then n else n+ZC m e.2)
  rw [List.foldl_cons,ih]
  show _=n+((if e.2=but then 0 else ZC m e.2)+Sa m but q)
  split<;>omega
theorem FI (m:Z4) (b but:Int):ZB m b but=Sa m but (atV m.smiths b m.smiths.length):=by
 have:=FH m but (atV m.smiths b m.smiths.length) 0
 unfold ZB VJ
 omega
theorem J4 (m:Z4) {k:Nat} (hk:k<m.smiths.length) (b:Int):∀ j,Sa (XH m (k:Int)) (-1) (atV (XH m (k:Int)).smiths b j)=Sa m (k:Int) (atV m.smiths b j)
 | 0=>rfl
 | j+1=>by
  have ih:=J4 m hk b j
  by_cases e:j=k
  ·subst e
   rw [UB (ss:=(XH m (j:Int)).smiths) (by rw [OY m hk,if_pos rfl];rintro ⟨_,h⟩;cases h),ih]
   by_cases hat:(Z8 m.smiths j).2.1=b/\ZW (Z8 m.smiths j)=true
   ·rw [Ve hat.1 hat.2,OL,if_pos rfl];omega
   ·rw [UB hat]
  ·have hr:Z8 (XH m (k:Int)).smiths j=Z8 m.smiths j:=by rw [OY m hk,if_neg e]
   by_cases hat:(Z8 m.smiths j).2.1=b/\ZW (Z8 m.smiths j)=true
   ·rw [Ve (ss:=(XH m (k:Int)).smiths) (by rw [hr];exact hat.1) (by rw [hr];exact hat.2),Ve hat.1 hat.2,OL,OL,ih,D9 m hk]
    show _+(if (j:Int)= -1 then 0 else ZC m (j:Int))=_+(if (j:Int)=(k:Int) then 0 else ZC m (j:Int))
    rw [if_neg (by omega),if_neg (by omega)]
   ·rw [UB (ss:=(XH m (k:Int)).smiths) (by rw [hr];exact hat),UB hat,ih]
theorem Fa (m:Z4) {k:Nat} (hk:k<m.smiths.length) (b:Int):ZB (XH m (k:Int)) b (-1)=ZB m b (k:Int):=by
 rw [FI,FI,Nf]
 exact J4 m hk b _
theorem Wants.away (h:Wants m) {k:Nat} (hk:k<m.smiths.length) (hs:(Z8 m.smiths k).1 ≠ 0):Wants (XH m (k:Int)):=by
 refine ⟨h.guilds,fun i hi hne=> ?_⟩
 rw [Nf] at hi
 rw [OY m hk] at hne ⊢
 by_cases e:i=k
 ·rw [if_pos e];exact h.each k hk hs
 ·rw [if_neg e] at hne ⊢;exact h.each i hi hne
abbrev YX:=Int × Int × Int
def TD (m:Z4) (k:Nat):YX:=((k:Int),ZB m (k:Int) (-1),YP m.rooms (k:Int))
def Yr (m:Z4):Nat->List YX
 | 0=>[]
 | k+1=>if (Z8 m.desks k).1 then Yr m k++[TD m k] else Yr m k
theorem RJ {k:Nat} (h:(Z8 m.desks k).1=true):Yr m (k+1)=Yr m k++[TD m k]:=by show (if _ then _ else _)=_;rw [if_pos h]
theorem Qi {k:Nat} (h:(Z8 m.desks k).1=false):Yr m (k+1)=Yr m k:=by show (if _ then _ else _)=_;rw [h];rfl
theorem TU (m:Z4):∀ k,(Yr m k).length<=k
 | 0=>Nat.le_refl _
 | k+1=>by
  have:=TU m k
  unfold Yr
  split
  ·simp;omega
  ·omega
theorem TV (m:Z4) (x:YX):∀ k,x ∈ Yr m k ↔ ∃ b:Nat,b<k/\(Z8 m.desks b).1=true/\x=TD m b
 | 0=>by simp [Yr]
 | k+1=>by
  have ih:=TV m x k
  cases ho:(Z8 m.desks k).1
  ·rw [Qi ho,ih]
   constructor
   ·rintro ⟨b,hb,h⟩;exact ⟨b,by omega,h⟩
   ·rintro ⟨b,hb,h1,h2⟩
    by_cases e:b=k
    ·subst e;rw [ho] at h1;cases h1
    ·exact ⟨b,by omega,h1,h2⟩
  ·rw [RJ ho,List.mem_append,ih]
   constructor
   ·rintro (⟨b,hb,h⟩ | h)
    ·exact ⟨b,by omega,h⟩
    ·exact ⟨k,by omega,ho,by simpa using h⟩
   ·rintro ⟨b,hb,h1,h2⟩
    by_cases e:b=k
    ·subst e;right;simp [h2]
    ·left;exact ⟨b,by omega,h1,h2⟩
def Ee (m:Z4) (who:Int) (k:Nat):YX:=((k:Int),ZB m (k:Int) who,YP m.rooms (k:Int))
def Wj (m:Z4) (who:Int):Nat->List YX
 | 0=>[]
 | k+1=>if YO m who k then Wj m who k++[Ee m who k] else Wj m who k
theorem Qf {who:Int} {k:Nat} (h:YO m who k=true):Wj m who (k+1)=Wj m who k++[Ee m who k]:=by show (if _ then _ else _)=_;rw [if_pos h]
theorem Q4 {who:Int} {k:Nat} (h:YO m who k=false):Wj m who (k+1)=Wj m who k:=by show (if _ then _ else _)=_;rw [h];rfl
theorem Me (m:Z4) (who:Int):∀ k,(Wj m who k).length<=k
 | 0=>Nat.le_refl _
 | k+1=>by
  have:=Me m who k
  unfold Wj
  split
  ·simp;omega
  ·omega
def UI (m:Z4) (k:Nat) (x:YX):Bool:=Xp (Z8 m.smiths k).2.2.2.1 x.1
theorem JA (m:Z4) {k:Nat} (hk:k<m.smiths.length):∀ n,(Yr (XH m (k:Int)) n).filter (UI m k)=Wj m (k:Int) n
 | 0=>rfl
 | n+1=>by
  have ih:=JA m hk n
  have hd:(XH m (k:Int)).desks=m.desks:=rfl
  have hm:YO m (k:Int) n=((Z8 m.desks n).1 && Xp (Z8 m.smiths k).2.2.2.1 (n:Int)):=rfl
  have hi:UI m k (TD (XH m (k:Int)) n)=Xp (Z8 m.smiths k).2.2.2.1 (n:Int):=rfl
  cases ho:(Z8 m.desks n).1
  ·rw [Qi (by rw [hd];exact ho),ih,Q4 (by rw [hm,ho];rfl)]
  ·rw [RJ (by rw [hd];exact ho),List.filter_append,ih]
   cases hb:Xp (Z8 m.smiths k).2.2.2.1 (n:Int)
   ·rw [Q4 (by rw [hm,ho,hb];rfl),List.filter_cons_of_neg (by rw [hi,hb];simp)]
    simp
   ·rw [Qf (by rw [hm,ho,hb];rfl),List.filter_cons_of_pos (by rw [hi,hb])]
    have hv:TD (XH m (k:Int)) n=Ee m (k:Int) n:=by unfold TD Ee;rw [Fa m hk];rfl
    rw [hv]
    rfl
def Xq (wn:Int) (x:YX):Bool:=UR wn x.2.1 x.2.2
theorem Ls (m:Z4) (who:Int):∀ k,((Wj m who k).filter (Xq (ZC m who))).map (·.1)=We m who k
 | 0=>rfl
 | k+1=>by
  have ih:=Ls m who k
  have hf:SK m who k=(YO m who k && Xq (ZC m who) (Ee m who k)):=rfl
  cases hm:YO m who k
  ·rw [Q4 hm,ih]
   show _=if _ then _ else _
   rw [hf,hm];rfl
  ·rw [Qf hm,List.filter_append,List.map_append,ih]
   show _=if _ then _ else _
   cases ht:Xq (ZC m who) (Ee m who k)
   ·rw [hf,hm,ht,List.filter_cons_of_neg (by rw [ht];simp)];simp
   ·rw [hf,hm,ht,List.filter_cons_of_pos ht];rfl
def Rc (a:Int × Int) (x:YX):Int × Int:=if a.1= -1\/a.2<Yt x.2.1 x.2.2 then (x.1,Yt x.2.1 x.2.2) else a
def Ta (l:List YX):Int × Int:=l.foldl Rc (-1,0)
theorem Ou (l:List YX) (x:YX):Ta (l++[x])=Rc (Ta l) x:=by unfold Ta;rw [List.foldl_append];rfl
theorem Jv (m:Z4) (who:Int):∀ k,Ta (Wj m who k)=Zc m who k
 | 0=>rfl
 | k+1=>by
  have ih:=Jv m who k
  have ho:=Lv m who k
  have hn:((Zc m who k).1<0) ↔ (Zc m who k).1= -1:=by
   rcases ho with ⟨e,_⟩ | ⟨b,_,e,_⟩
   ·rw [e];omega
   ·rw [e];omega
  have hM:Zc m who (k+1)=if YO m who k && (decide ((Zc m who k).1<0) || decide ((Zc m who k).2<Yt (ZB m k who) (YP m.rooms k))) then ((k:Int),Yt (ZB m k who) (YP m.rooms k)) else Zc m who k:=rfl
  rw [hM]
  cases hm:YO m who k
  ·rw [Q4 hm,ih];rfl
  ·rw [Qf hm,Ou,ih]
   show (if (Zc m who k).1= -1\/(Zc m who k).2<Yt (ZB m k who) (YP m.rooms k) then _ else _)=_
   by_cases hc:(Zc m who k).1= -1\/(Zc m who k).2<Yt (ZB m k who) (YP m.rooms k)
   ·rw [if_pos hc,if_pos (by rw [Bool.true_and,Bool.or_eq_true,decide_eq_true_iff,decide_eq_true_iff,hn];exact hc)];rfl
   ·rw [if_neg hc,if_neg (by rw [Bool.true_and,Bool.or_eq_true,decide_eq_true_iff,decide_eq_true_iff,hn];exact hc)]
def XP (m:Z4) (who:Int) (a:Int × Int) (b:Int):Int × Int:=if a.1= -1\/ZD m who b<a.2\/(ZD m who b=a.2/\b=(Z8 m.smiths who.toNat).2.1) then (b,ZD m who b) else a
def Vo (m:Z4) (who:Int) (f:List Int):Int × Int:=f.foldl (XP m who) (-1,0)
theorem ID (m:Z4) (who:Int) (f:List Int) (b:Int):Vo m who (f++[b])=XP m who (Vo m who f) b:=by unfold Vo;rw [List.foldl_append];rfl
theorem Ni (m:Z4) (who:Int):∀ (f:List Int) (a:Int × Int),0<=a.1->(∀ x ∈ f,0<=x)->f.foldl (XP m who) a=f.foldl (Yu m who) a
 | [],a,_,_=>rfl
 | b::f,a,h0,hf=>by
  have e:XP m who a b=Yu m who a b:=by
   unfold XP Yu
   by_cases hc:ZD m who b<a.2\/(ZD m who b=a.2/\b=(Z8 m.smiths who.toNat).2.1)
   ·rw [if_pos hc,if_pos (.inr hc)]
   ·rw [if_neg hc,if_neg (not_or.2 ⟨by omega,hc⟩)]
  rw [List.foldl_cons,List.foldl_cons,e]
  refine Ni m who f _ ?_ (fun x hx=>hf x (List.mem_cons_of_mem _ hx))
  unfold Yu
  split
  ·exact hf b (by simp)
  ·exact h0
theorem FW (m:Z4) (who:Int) {f:List Int} (h:0<f.length) (hf:∀ x ∈ f,0<=x):Vo m who f=XY m who f f.length:=by
 obtain ⟨x,r,rfl⟩:∃ x r,f=x::r:=by
  cases f with
  | nil=>simp at h
  | cons x r=>exact ⟨x,r,rfl⟩
 unfold Vo XY
 rw [List.take_length,List.foldl_cons]
 show r.foldl (XP m who) (XP m who (-1,0) x)=r.foldl (Yu m who) (x,ZD m who x)
 have e:XP m who (-1,0) x=(x,ZD m who x):=by unfold XP;rw [if_pos (.inl rfl)]
 rw [e]
 exact Ni m who r _ (hf x (by simp)) (fun y hy=>hf y (by simp [hy]))
theorem CN {who x:Int} (h:x ∈ Zp m who):∃ b:Nat,b<m.desks.length/\x=(b:Int)/\YO m who b=true:=by
 obtain ⟨b,hb,e,hf⟩:=(P4 m who x m.desks.length).1 h
 unfold SK at hf
 simp only [Bool.and_eq_true] at hf
 exact ⟨b,hb,e,hf.1⟩
theorem T8 {α:Type} [Inhabited α] {l:List α} {k:Nat} (h:k<l.length):l.take (k+1)=l.take k++[Z8 l k]:=by
 rw [List.take_succ_eq_append_getElem h,Uq h]
theorem Cd {k:Nat} (hk:k<m.desks.length):U0 m (k:Int)=(Z8 m.desks k).1:=by
 unfold U0 Yb
 rw [Int.toNat_natCast,decide_eq_true (show (0:Int)<=(k:Int) by omega),decide_eq_true (show (k:Int)<(m.desks.length:Int) by omega)]
 simp
theorem Eh (m:Z4):(Yr m m.desks.length).any (fun x=>Wk x.2.1 x.2.2)=XZ m:=by
 unfold XZ
 rw [Bool.eq_iff_iff,List.any_eq_true,List.any_eq_true]
 constructor
 ·rintro ⟨x,hx,hm⟩
  obtain ⟨b,hb,ho,rfl⟩:=(TV m x _).1 hx
  exact ⟨b,List.mem_range.2 hb,by unfold VL;rw [ho];exact hm⟩
 ·rintro ⟨b,hb,hc⟩
  unfold VL at hc
  simp only [Bool.and_eq_true] at hc
  exact ⟨TD m b,(TV m _ _).2 ⟨b,List.mem_range.1 hb,hc.1,rfl⟩,hc.2⟩
theorem Bb {α:Type} [Inhabited α] {p:α->Bool} {l:List α} (h:∀ i,i<l.length->p (Z8 l i)=false):l.any p=false:=by
 rw [List.any_eq_false]
 intro x hx
 obtain ⟨i,hi,rfl⟩:=List.getElem_of_mem hx
 rw [<-Uq hi,h i hi]
 simp
theorem BV {α:Type} [Inhabited α] {p:α->Bool} {l:List α} {i:Nat} (hi:i<l.length) (h:p (Z8 l i)=true):l.any p=true:=List.any_eq_true.2 ⟨_,U9 hi,h⟩
theorem Np {α:Type} [Inhabited α] {p:α->Bool} {l:List α} {j:Nat} (hj:j<l.length) (h:p (Z8 l j)=true):(l.take (j+1)).filter p=(l.take j).filter p++[Z8 l j]:=by
 rw [T8 hj,List.filter_append,List.filter_cons_of_pos h];rfl
theorem LP {α:Type} [Inhabited α] {p:α->Bool} {l:List α} {j:Nat} (hj:j<l.length) (h:p (Z8 l j)=false):(l.take (j+1)).filter p=(l.take j).filter p:=by
 rw [T8 hj,List.filter_append,List.filter_cons_of_neg (by rw [h];simp)];simp
theorem EN {l:List YX} {j:Nat} (hj:j<l.length):Ta (l.take (j+1))=Rc (Ta (l.take j)) (Z8 l j):=by rw [T8 hj,Ou]
theorem FX {who:Int} {l:List Int} {j:Nat} (hj:j<l.length):Vo m who (l.take (j+1))=XP m who (Vo m who (l.take j)) (Z8 l j):=by rw [T8 hj,ID]
def Wb (m X:Z4) (c:Int):Z4 × Int:=if Zo m then (if c=0 then (Zq X,0) else (m,c)) else (WV,3)
theorem Uf (h:Zo m=false) (X:Z4) (c:Int):Wb m X c=(WV,3):=by unfold Wb;rw [h];rfl
theorem UP (h:Zo m=true) (X:Z4):Wb m X 0=(Zq X,0):=by unfold Wb;rw [h];rfl
theorem WX (h:Zo m=true) (X:Z4) {c:Int} (hc:c ≠ 0):Wb m X c=(m,c):=by unfold Wb;rw [h,if_pos rfl,if_neg hc]
theorem Vb (h:Loose m):Zq m=ZL m:=by unfold Zq;rw [h.mk',if_pos rfl]
theorem DK (h:Loose m) {k:Nat} (hk:k<m.smiths.length) (hs:(Z8 m.smiths k).1 ≠ 0):ZW (Z8 m.smiths k)= !decide ((Z8 m.smiths k).1=1):=by
 obtain ⟨p,_,_⟩:=h.limits hk hs
 obtain ⟨⟨st,be,rk,my,gu,lo,hi,hd,ca,ut,wk⟩,hrk⟩:∃ d,Z8 m.smiths k=d:=⟨_,rfl⟩
 rw [hrk] at p hs ⊢
 obtain ⟨⟨x0,x1⟩,_⟩:=Zk p
 unfold ZW
 show (st ==2 || st ==3)= !decide (st=1)
 have hs':st ≠ 0:=hs
 rcases (by omega:st=1\/st=2\/st=3) with e | e | e<;>subst e<;>rfl
set_option maxRecDepth 100000
theorem FR (a b c d:Int) (w:World):(Op.equalIn 10000 225 (.agg #[.int .i64 a,.int .i64 b]) (.agg #[.int .i64 c,.int .i64 d])).run Tryz.prog w= .ok (a ==c && b ==d) w:=by
 have u:=Tryz.underlying2
 have ag:=Tryz.isAgg2
 have z:=Tryz.sizeOf2
 have hc:Tryz.prog.cellsOf 2=1:=by kernel_rfl
 obtain ⟨i,hi⟩:=Option.isSome_iff_exists.1 (show (Tryz.prog.info? 2).isSome=true by kernel_rfl)
 rw [show (10000:Nat)=9999+1 from rfl,run_equalIn_array w 9999 _ _ Tryz.underlying225 hi,hc]
 simp only [show List.range 2=[0,1] from rfl,Op.eqItems]
 go_simp
 by_cases h:a=c
 ·subst h
  by_cases h2:b=d
  ·subst h2;simp
  ·simp [h2]
 ·simp [h]
theorem CD (a b c d:Int) (w:World):(binOp .eql 225 (.agg #[.int .i64 a,.int .i64 b]) (.agg #[.int .i64 c,.int .i64 d])).run Tryz.prog w= .ok (.bool (a ==c && b ==d)) w:=by
 rw [run_eql_struct,FR];rfl
theorem QK (lo hi n:Int) (w:World):Calls Tryz.prog 311 #[.agg #[.int .i64 lo,.int .i64 hi],.int .i64 n] w fun e w'=>e= .returned (.agg #[.int .i64 (min lo n),.int .i64 (max hi n)])/\Below w.heap.size w w':=by
 by_cases h1:lo<=n
 all_goals
  by_cases h2:hi<n
  all_goals
   go_enter Tryz.func311,Tryz.ntmps311
   go_wp2_with fail
   exact bodyPost_ret (v:= .agg #[.int .i64 (min lo n),.int .i64 (max hi n)]) (by simp [results,Tryz.results311,go_sem];omega) rfl ⟨rfl,((Below.refl _ _).alloc (Nat.le_refl _) _).alloc (by simp) _⟩
theorem FQ (m:Int) (w:World) (m0 : -1000000000000<=m) (m1:m<=1000000000000):Calls Tryz.prog 260 #[.int .i64 m] w fun e w'=>e= .returned (.agg #[.int .i64 (m-20000),.int .i64 (m+63000)])/\Below w.heap.size w w':=by
 go_enter Tryz.func260,Tryz.ntmps260
 go_wp2_with fail
 exact bodyPost_ret (v:= .agg #[.int .i64 (m-20000),.int .i64 (m+63000)]) (by simp [results,Tryz.results260,go_sem]) rfl ⟨rfl,(Below.refl _ _).alloc (Nat.le_refl _) _⟩
def loL (lo:Int) (zs:List Int):Int:=zs.foldl min lo
def hiL (hi:Int) (zs:List Int):Int:=zs.foldl max hi
theorem Bk (zs:List Int):∀ lo,loL lo zs<=lo:=by
 induction zs with
 | nil=>intro lo;exact Int.le_refl _
 | cons z zs ih=>intro lo;exact Int.le_trans (ih (min lo z)) (Int.min_le_left _ _)
theorem Bi (zs:List Int):∀ hi,hi<=hiL hi zs:=by
 induction zs with
 | nil=>intro hi;exact Int.le_refl _
 | cons z zs ih=>intro hi;exact Int.le_trans (Int.le_max_left _ _) (ih (max hi z))
theorem LA (zs:List Int):∀ lo hi,(loL lo zs ==lo && hiL hi zs ==hi)=zs.all fun z=>inB z lo hi:=by
 induction zs with
 | nil=>intro lo hi;simp [loL,hiL]
 | cons z zs ih=>
  intro lo hi
  show (loL (min lo z) zs ==lo && hiL (max hi z) zs ==hi)=(inB z lo hi && zs.all fun z=>inB z lo hi)
  cases hz:inB z lo hi
  ·have hn:¬ (lo<=z/\z<=hi):=of_decide_eq_false hz
   have h1:=Bk zs (min lo z)
   have h2:=Bi zs (max hi z)
   simp only [Bool.false_and,Bool.and_eq_false_iff,beq_eq_false_iff_ne]
   omega
  ·obtain ⟨h1,h2⟩:=ZP hz
   rw [show min lo z=lo by omega,show max hi z=hi by omega,ih];rfl
theorem C8 {lo:Int} {zs:List Int} {k:Nat} (hk:k<zs.length):loL lo (zs.take (k+1))=min (loL lo (zs.take k)) (zs.getD k 0):=by
 unfold loL;rw [List.take_succ_eq_append_getElem hk,List.foldl_append];simp [List.getD,List.getElem?_eq_getElem hk]
theorem CU {hi:Int} {zs:List Int} {k:Nat} (hk:k<zs.length):hiL hi (zs.take (k+1))=max (hiL hi (zs.take k)) (zs.getD k 0):=by
 unfold hiL;rw [List.take_succ_eq_append_getElem hk,List.foldl_append];simp [List.getD,List.getElem?_eq_getElem hk]
attribute [local go_sem ↓] CD
set_option maxHeartbeats 400000 in
theorem RX (lo hi:Int) (b cap:Nat) (zs:List Int) (w:World) (hl:zs.length<=1000) (hb:b<w.heap.size) (hc:∀ k,k<zs.length->w.cell? ⟨b,k,none⟩=some (.int .i64 (zs.getD k 0))) :
  Calls Tryz.prog 262 #[.agg #[.int .i64 lo,.int .i64 hi],.slice (some ⟨b,0,none⟩) zs.length cap] w fun e w'=>e= .returned (.bool (zs.all fun z=>inB z lo hi))/\Below w.heap.size w w':=by
 have Hc:=Z9 hc
 clear hc
 go_enter Tryz.func262,Tryz.ntmps262
 go_wp2_with fail
 go_loopw [11] (fun i wr=> ∃ k:Nat,k<=zs.length/\i= .int .i64 k/\Blk wr (w.heap.size+1) 225 #[.int .i64 (loL lo (zs.take k)),.int .i64 (hiL hi (zs.take k))]/\Blk wr w.heap.size 225 #[.int .i64 lo,.int .i64 hi]/\Below w.heap.size w wr) (fun i _=>zs.length-(intOf i).toNat)
 case atStart=>
  refine ⟨0,Nat.zero_le _,rfl,?_,(Blk.new w _ _).alloc _,((Below.refl _ _).alloc (Nat.le_refl _) _).alloc (by simp) _⟩
  have:=Blk.new (w.alloc (.cells #[.int .i64 lo,.int .i64 hi] 225)) 225 #[.int .i64 lo,.int .i64 hi]
  simpa [loL,hiL] using this
 case round=>
  obtain ⟨k,hk,rfl,hs,ho,hbl⟩:=hrel
  have Hs:=Z9 hs
  have Ho:=Z9 ho
  have Hb:=Z9 hbl
  by_cases hlt:k<zs.length
  ·have c0:=uh Hc k hlt
   rw [<-hbl.cell (p:=⟨b,k,none⟩) hb] at c0
   have e1:=C8 (lo:=lo) hlt
   have e2:=CU (hi:=hi) hlt
   have s0:=hs.cell (i:=0) rfl
   have s1:=hs.cell (i:=1) rfl
   have g0:=hs.free 0
   have g1:=hs.free 1
   generalize zs.getD k 0=z at *
   generalize loL lo (zs.take k)=x at *
   generalize hiL hi (zs.take k)=y at *
   have E1:=Z9 e1
   have E2:=Z9 e2
   clear e1 e2 hs ho hbl
   go_wp2_with fail
   refine (QK x y z _).mono ?_
   rintro e w1 ⟨rfl,hb1⟩
   have hs1:=(uh Hs).below hb1 (uh Hs).lt
   have Hs1:=Z9 hs1
   have Ho1:Hid (Blk w1 w.heap.size 225 #[.int .i64 lo,.int .i64 hi]):=Z9 ((uh Ho).below hb1 (uh Ho).lt)
   have B1:Hid (Below w.heap.size w w1):=Z9 ((uh Hb).trans (hb1.mono (uh Hb).size))
   have s0:=hs1.cell (i:=0) rfl
   have s1:=hs1.cell (i:=1) rfl
   have g0:=hs1.free 0
   have g1:=hs1.free 1
   clear hs1 hb1
   go_wp2_with fail
   go_roundw
   case rel=>
    refine ⟨k+1,by omega,by go_num,?_,?_,?_⟩
    ·rw [uh E1,uh E2]
     simpa using ((uh Hs1).set 0 (.int .i64 (min x z))).set 1 (.int .i64 (max y z))
    ·exact ((uh Ho1).other (by simp) _).other (by simp) _
    ·exact ((uh B1).setCell (by simp) _).setCell (by simp) _
   case measure=>simp [intOf];omega
  ·obtain rfl:k=zs.length:=by omega
   rw [List.take_length] at hs
   have e3:=LA zs lo hi
   have s0:=hs.cell (i:=0) rfl
   have s1:=hs.cell (i:=1) rfl
   have o0:=ho.cell (i:=0) rfl
   have o1:=ho.cell (i:=1) rfl
   generalize loL lo zs=x at *
   generalize hiL hi zs=y at *
   have E3:=Z9 e3
   clear e3 hs ho hbl Hs
   go_wp2_with fail
   go_ret
   exact ⟨Z5 (uh E3),uh Hb⟩
theorem Wr (b cap:Nat) (zs:List Int) (w:World) (hl:zs.length<=1000) (hb:b<w.heap.size) (hc:∀ k,k<zs.length->w.cell? ⟨b,k,none⟩=some (.int .i64 (zs.getD k 0))) :
  Calls Tryz.prog 259 #[.slice (some ⟨b,0,none⟩) zs.length cap] w fun e w'=>e= .returned (.bool (zs.all fun z=>inB z (-1000000000000) 1000000000000))/\Below w.heap.size w w':=by
 have Hc:=Z9 hc
 clear hc
 go_enter Tryz.func259,Tryz.ntmps259
 go_wp2_with fail
 refine (RX _ _ b cap zs _ hl hb (uh Hc)).mono ?_
 rintro e w1 ⟨rfl,hb1⟩
 have B1:=Z9 hb1
 clear hb1
 go_wp2_with fail
 go_ret
 exact ⟨rfl,uh B1⟩
theorem ND (h m:Int) (w:World):Calls Tryz.prog 193 #[.int .i64 h,.int .i64 m] w fun e w'=>e= .returned (.bool (VN h m))/\Below w.heap.size w w':=by
 cases hh:WC h && WC m
 ·have hs:VN h m=false:=by unfold VN;rw [hh];rfl
  have Hs:=Z9 hs
  clear hs
  go_enter Tryz.func193,Tryz.ntmps193
  go_wp2_with fail
  refine (Wr _ _ [h,m] _ (by simp) (by simp) ?_).mono ?_
  ·intro k hk
   simp at hk
   match k,hk with
   | 0,_=>simp
   | 1,_=>simp
  rintro e w1 ⟨rfl,hb⟩
  rw [Fk,hh]
  have B1:Hid (Below w.heap.size w w1):=Z9 (((Below.refl _ _).alloc (Nat.le_refl _) _).trans (hb.mono (by simp)))
  clear hb
  go_wp2_with fail
  go_ret
  exact ⟨Z5 (uh Hs).symm,uh B1⟩
 ·have hs:VN h m=inB (h-m) (-20000) 63000:=by unfold VN;rw [hh];rfl
  have Hs:=Z9 hs
  have h':=hh
  simp only [Bool.and_eq_true] at h'
  obtain ⟨m0,m1⟩:=RD h'.2
  clear hs h'
  go_enter Tryz.func193,Tryz.ntmps193
  go_wp2_with fail
  refine (Wr _ _ [h,m] _ (by simp) (by simp) ?_).mono ?_
  ·intro k hk
   simp at hk
   match k,hk with
   | 0,_=>simp
   | 1,_=>simp
  rintro e w1 ⟨rfl,hb⟩
  rw [Fk,hh]
  have B1:Hid (Below w.heap.size w w1):=Z9 (((Below.refl _ _).alloc (Nat.le_refl _) _).trans (hb.mono (by simp)))
  clear hb
  go_wp2_with fail
  refine (FQ m _ m0 m1).mono ?_
  rintro e w2 ⟨rfl,hb⟩
  have B2:Hid (Below w.heap.size w w2):=Z9 ((uh B1).trans (hb.mono (uh B1).size))
  clear hb B1
  go_wp2_with fail
  refine (RX _ _ _ _ [h] _ (by simp) (by simp) ?_).mono ?_
  ·intro k hk
   simp at hk
   subst hk
   simp
  rintro e w3 ⟨rfl,hb⟩
  rw [BY]
  have B3:Hid (Below w.heap.size w w3):=Z9 (((uh B2).alloc (uh B2).size _).trans (hb.mono (by have:=(uh B2).size;simp;omega)))
  clear hb B2
  go_wp2_with fail
  go_ret
  exact ⟨Z5 (uh Hs).symm,uh B3⟩
theorem MN (h f t:Int) (w:World):Calls Tryz.prog 192 #[.int .i64 h,.int .i64 f,.int .i64 t] w fun e w'=>e= .returned (.int .i64 (YR h f t))/\Below w.heap.size w w':=by
 cases hh:WC h && (WC f && WC t)
 ·have hs:YR h f t=h:=by unfold YR;rw [hh];rfl
  have Hs:=Z9 hs
  clear hs
  go_enter Tryz.func192,Tryz.ntmps192
  go_wp2_with fail
  refine (Wr _ _ [h,f,t] _ (by simp) (by simp) ?_).mono ?_
  ·intro k hk
   simp at hk
   match k,hk with
   | 0,_=>simp
   | 1,_=>simp
   | 2,_=>simp
  rintro e w1 ⟨rfl,hb⟩
  rw [BF,hh]
  have B1:Hid (Below w.heap.size w w1):=Z9 (((Below.refl _ _).alloc (Nat.le_refl _) _).trans (hb.mono (by simp)))
  clear hb
  go_wp2_with fail
  go_ret
  exact ⟨ZS (uh Hs).symm,uh B1⟩
 ·have hs:YR h f t=h-f+t:=by unfold YR;rw [hh];rfl
  have Hs:=Z9 hs
  have h':=hh
  simp only [Bool.and_eq_true] at h'
  obtain ⟨h0,h1⟩:=RD h'.1
  obtain ⟨f0,f1⟩:=RD h'.2.1
  obtain ⟨t0,t1⟩:=RD h'.2.2
  clear hs h'
  go_enter Tryz.func192,Tryz.ntmps192
  go_wp2_with fail
  refine (Wr _ _ [h,f,t] _ (by simp) (by simp) ?_).mono ?_
  ·intro k hk
   simp at hk
   match k,hk with
   | 0,_=>simp
   | 1,_=>simp
   | 2,_=>simp
  rintro e w1 ⟨rfl,hb⟩
  rw [BF,hh]
  have B1:Hid (Below w.heap.size w w1):=Z9 (((Below.refl _ _).alloc (Nat.le_refl _) _).trans (hb.mono (by simp)))
  clear hb
  go_wp2_with fail
  go_ret
  exact ⟨ZS (uh Hs).symm,uh B1⟩
theorem NF (m f:Int) (w:World):Calls Tryz.prog 307 #[.int .i64 m,.int .i64 f] w fun e w'=>e= .returned (.int .i64 (ZM m f))/\Below w.heap.size w w':=by
 cases hh:WC m && WC f
 ·have hs:ZM m f=m:=by unfold ZM;rw [hh];rfl
  have Hs:=Z9 hs
  clear hs
  go_enter Tryz.func307,Tryz.ntmps307
  go_wp2_with fail
  refine (Wr _ _ [m,f] _ (by simp) (by simp) ?_).mono ?_
  ·intro k hk
   simp at hk
   match k,hk with
   | 0,_=>simp
   | 1,_=>simp
  rintro e w1 ⟨rfl,hb⟩
  rw [Fk,hh]
  have B1:Hid (Below w.heap.size w w1):=Z9 (((Below.refl _ _).alloc (Nat.le_refl _) _).trans (hb.mono (by simp)))
  clear hb
  go_wp2_with fail
  go_ret
  exact ⟨ZS (uh Hs).symm,uh B1⟩
 ·have hs:ZM m f=min (max m f) 900000000000:=by unfold ZM;rw [hh];rfl
  have Hs:=Z9 hs
  clear hs
  go_enter Tryz.func307,Tryz.ntmps307
  go_wp2_with fail
  refine (Wr _ _ [m,f] _ (by simp) (by simp) ?_).mono ?_
  ·intro k hk
   simp at hk
   match k,hk with
   | 0,_=>simp
   | 1,_=>simp
  rintro e w1 ⟨rfl,hb⟩
  rw [Fk,hh]
  have B1:Hid (Below w.heap.size w w1):=Z9 (((Below.refl _ _).alloc (Nat.le_refl _) _).trans (hb.mono (by simp)))
  clear hb
  go_wp2_with fail
  refine (Vt m f 900000000000 _).mono ?_
  rintro e w2 ⟨rfl,hw2⟩
  subst w2
  go_wp2_with fail
  go_ret
  exact ⟨ZS (uh Hs).symm,uh B1⟩
theorem Ix (x:Int) (w:World):Calls Tryz.prog 189 #[.int .i64 x] w fun e w'=>e= .returned (.bool (WC x))/\w'=w:=by
 go_enter Tryz.func189,Tryz.ntmps189
 go_wp2_with (go_at_call 76;refine (ZX _ _ _ _).mono ?_;rintro e w' ⟨rfl,rfl⟩)
 go_ret
 exact ⟨rfl,rfl⟩
theorem YI {x:Int} {r:Bool} (h:WC x=r) (w:World):Calls Tryz.prog 189 #[.int .i64 x] w fun e w'=>e= .returned (.bool r)/\w'=w:=by
 rw [<-h];exact Ix x w
theorem MZ (h f t:Int) (w:World):Calls Tryz.prog 104 #[.int .i64 h,.int .i64 f,.int .i64 t] w fun e w'=>e= .returned (.int .i64 (YR h f t))/\w'=w:=by
 cases h1:WC h
 ·have hs:YR h f t=h:=by unfold YR;rw [h1];rfl
  have Hs:=Z9 hs
  have H1:=Z9 h1
  clear hs h1
  go_enter Tryz.func104,Tryz.ntmps104
  go_wp2_with (go_at_call 189;refine (YI (uh H1) _).mono ?_;rintro e w' ⟨rfl,rfl⟩)
  go_ret
  exact ⟨ZS (uh Hs).symm,rfl⟩
 cases h2:WC f
 ·have hs:YR h f t=h:=by unfold YR;rw [h1,h2];rfl
  have Hs:=Z9 hs
  have H1:=Z9 h1
  have H2:=Z9 h2
  clear hs h1 h2
  go_enter Tryz.func104,Tryz.ntmps104
  go_wp2_with (go_at_call 189;first | (refine (YI (uh H1) _).mono ?_;rintro e w' ⟨rfl,rfl⟩) | (refine (YI (uh H2) _).mono ?_;rintro e w' ⟨rfl,rfl⟩))
  go_ret
  exact ⟨ZS (uh Hs).symm,rfl⟩
 cases h3:WC t
 ·have hs:YR h f t=h:=by unfold YR;rw [h1,h2,h3];rfl
  have Hs:=Z9 hs
  have H1:=Z9 h1
  have H2:=Z9 h2
  have H3:=Z9 h3
  clear hs h1 h2 h3
  go_enter Tryz.func104,Tryz.ntmps104
  go_wp2_with (go_at_call 189;first | (refine (YI (uh H1) _).mono ?_;rintro e w' ⟨rfl,rfl⟩) | (refine (YI (uh H2) _).mono ?_;rintro e w' ⟨rfl,rfl⟩) | (refine (YI (uh H3) _).mono ?_;rintro e w' ⟨rfl,rfl⟩))
  go_ret
  exact ⟨ZS (uh Hs).symm,rfl⟩
 have hs:YR h f t=h-f+t:=by unfold YR;rw [h1,h2,h3];rfl
 obtain ⟨a0,a1⟩:=RD h1
 obtain ⟨b0,b1⟩:=RD h2
 obtain ⟨c0,c1⟩:=RD h3
 have Hs:=Z9 hs
 have H1:=Z9 h1
 have H2:=Z9 h2
 have H3:=Z9 h3
 clear hs h1 h2 h3
 go_enter Tryz.func104,Tryz.ntmps104
 go_wp2_with (go_at_call 189;first | (refine (YI (uh H1) _).mono ?_;rintro e w' ⟨rfl,rfl⟩) | (refine (YI (uh H2) _).mono ?_;rintro e w' ⟨rfl,rfl⟩) | (refine (YI (uh H3) _).mono ?_;rintro e w' ⟨rfl,rfl⟩))
 go_ret
 exact ⟨ZS (uh Hs).symm,rfl⟩
theorem OE (m f:Int) (w:World):Calls Tryz.prog 221 #[.int .i64 m,.int .i64 f] w fun e w'=>e= .returned (.int .i64 (ZM m f))/\w'=w:=by
 cases h1:WC m
 ·have hs:ZM m f=m:=by unfold ZM;rw [h1];rfl
  have Hs:=Z9 hs
  have H1:=Z9 h1
  clear hs h1
  go_enter Tryz.func221,Tryz.ntmps221
  go_wp2_with (go_at_call 189;refine (YI (uh H1) _).mono ?_;rintro e w' ⟨rfl,rfl⟩)
  go_ret
  exact ⟨ZS (uh Hs).symm,rfl⟩
 cases h2:WC f
 ·have hs:ZM m f=m:=by unfold ZM;rw [h1,h2];rfl
  have Hs:=Z9 hs
  have H1:=Z9 h1
  have H2:=Z9 h2
  clear hs h1 h2
  go_enter Tryz.func221,Tryz.ntmps221
  go_wp2_with (go_at_call 189;first | (refine (YI (uh H1) _).mono ?_;rintro e w' ⟨rfl,rfl⟩) | (refine (YI (uh H2) _).mono ?_;rintro e w' ⟨rfl,rfl⟩))
  go_ret
  exact ⟨ZS (uh Hs).symm,rfl⟩
 have hs:ZM m f=min (max m f) 900000000000:=by unfold ZM;rw [h1,h2];rfl
 have Hs:=Z9 hs
 have H1:=Z9 h1
 have H2:=Z9 h2
 clear hs h1 h2
 go_enter Tryz.func221,Tryz.ntmps221
 go_wp2_with (first | (go_at_call 138;refine (Qb _ _ _).mono ?_;rintro e w' ⟨rfl,rfl⟩) | (go_at_call 279;refine (Ma _ _ _).mono ?_;rintro e w' ⟨rfl,rfl⟩) | (go_at_call 189;first | (refine (YI (uh H1) _).mono ?_;rintro e w' ⟨rfl,rfl⟩) | (refine (YI (uh H2) _).mono ?_;rintro e w' ⟨rfl,rfl⟩)))
 go_ret
 exact ⟨ZS (uh Hs).symm,rfl⟩
end Go.Proofs.YtjhijildaceadaaGreatDoor
