/- Part 12 of what the proof rests on. No condition but those that a theorem names. -/
import Derived.Test.YtaegckehjlkaaaaGreatXc11
namespace Go.Proofs.YtaegckehjlkaaaaGreat
open Go.ChangeShapes Go.WideShapes Go.ChangeAt Go.RowKit Go.Sort
set_option linter.unusedVariables false
variable {w w' w0 w1 w2 w3 w₀ wr W W' X A B C : World} {m : Z6}
def R1 (m:Z6):List Z1->Int
 | []=>0
 | e::q=>ZI m e.2+R1 m q
def VC (m:Z6):List Int->Int
 | []=>0
 | x::q=>ZI m x+VC m q
theorem Lt (m:Z6) (a b:List Z1):R1 m (a++b)=R1 m a+R1 m b:=by
 induction a with
 | nil=>show R1 m b=0+R1 m b;omega
 | cons e a ih=>show ZI m e.2+R1 m (a++b)=ZI m e.2+R1 m a+R1 m b;omega
theorem EI (m:Z6) (a b:List Int):VC m (a++b)=VC m a+VC m b:=by
 induction a with
 | nil=>show VC m b=0+VC m b;omega
 | cons e a ih=>show ZI m e+VC m (a++b)=ZI m e+VC m a+VC m b;omega
theorem Ns (m:Z6) (a:List Int) (x:Int):VC m (a++[x])=VC m a+ZI m x:=by rw [EI];show _+(ZI m x+0)=_;omega
theorem H7 (m:Z6):∀ a:List Int,0<=VC m a/\VC m a<=1024*a.length
 | []=>by simp [VC]
 | x::a=>by
  have ih:=H7 m a
  have hw:=Wr m x
  show 0<=ZI m x+VC m a/\ZI m x+VC m a<=1024*((a.length+1:Nat):Int)
  omega
theorem EH (m:Z6) (q:List Z1) (e:Z1):R1 m (RX q e)=R1 m q+ZI m e.2:=by
 have h:=Lt m (q.take (X7 e q)) (q.drop (X7 e q))
 rw [List.take_append_drop] at h
 unfold RX
 rw [Lt,h]
 show _+(ZI m e.2+_)=_
 omega
theorem Nx (m:Z6) (but:Int):∀ (q:List Z1) (n:Int),(∀ e ∈ q,e.2 ≠ but)->q.foldl (fun n e=>if e.2=but then n else n+ZI m e.2) n=n+R1 m q
 | [],n,_=>by show n=n+0;omega
 | e::q,n,h=>by
  have h0:=h e (by simp)
  have ih:=Nx m but q (if e.2=but then n else n+ZI m e.2) (fun x hx=>h x (by simp [hx]))
  rw [List.foldl_cons,ih,if_neg h0]
  show _=n+(ZI m e.2+R1 m q)
  omega
theorem Gi (m:Z6) (b:Int):ZA m b (-1)=R1 m (atV m.smiths b m.smiths.length):=by
 have:=Nx m (-1) (atV m.smiths b m.smiths.length) 0 (fun e he=>by
  obtain ⟨i,_,_,_,rfl⟩:=(Xs m.smiths b e m.smiths.length).1 he
  show (i:Int) ≠ -1
  omega)
 unfold ZA Vv
 omega
theorem CS (b:Int) (s:Z5):atB b s=decide (s.2.1=b/\ZP s=true):=by
 unfold atB ZP
 rw [Bool.eq_iff_iff]
 simp only [Bool.and_eq_true,decide_eq_true_eq,beq_iff_eq]
 exact ⟨fun h=>⟨h.2,h.1⟩,fun h=>⟨h.2,h.1⟩⟩
theorem Nz (m:Z6) (ss:List Z5) (b:Int):∀ k,VC m (ZQ (atB b) ss k)=R1 m (atV ss b k)
 | 0=>rfl
 | k+1=>by
  have ih:=Nz m ss b k
  by_cases hat:(Z8 ss k).2.1=b/\ZP (Z8 ss k)=true
  ·rw [XT (by rw [CS];exact decide_eq_true hat),Ns,Vh hat.1 hat.2,EH,ih]
  ·rw [Xy (by rw [CS];exact decide_eq_false hat),Uq hat,ih]
theorem Jy (m:Z6) (b:Int):VC m (ZQ (atB b) m.smiths m.smiths.length)=ZA m b (-1):=by rw [Nz,Gi]
theorem F9 (m:Z6) {ws:List Int} {k:Nat} (h:k<ws.length):VC m (ws.take (k+1))=VC m (ws.take k)+ZI m (Z8 ws k):=by rw [MD h,Ns]
structure Wants (m:Z6):Prop where
 guilds:Zk m.guilds=true
 each:∀ i,i<m.smiths.length->(Z8 m.smiths i).1 ≠ 0->isB m.guilds (Z8 m.smiths i).2.2.2.2.1=true/\Yr (Z8 m.smiths i).2.2.2.2.2.1 (Z8 m.smiths i).2.2.2.2.2.2.1=true
theorem Loose.wants (h:Loose m):Wants m:=by
 have hd:=h.head
 unfold YG at hd
 simp only [Bool.and_eq_true,decide_eq_true_eq] at hd
 refine ⟨hd.2.1,fun i hi hs=> ?_⟩
 obtain ⟨hp,hg,_⟩:=h.limits hi hs
 have hgs:=hd.2.1
 generalize Z8 m.smiths i=s at *
 obtain ⟨st,be,rk,my,gu,lo,hi,hd,ca,ut,wk⟩:=s
 obtain ⟨_,_,_,_,⟨g0,g5⟩,hpair,_⟩:=Zc hp
 simp only at hg
 exact ⟨by unfold isB;rw [hgs,Zq g0 (by omega)];rfl,hpair⟩
theorem ET (m:Z6) {k:Nat} (hk:k<m.smiths.length) (b:Int) (i:Nat):Z8 (Xi m (k:Int) b).smiths i=if i=k then Sk (Z8 m.smiths k) b else Z8 m.smiths i:=by
 unfold Xi
 simp only [Int.toNat_natCast]
 exact ZF hk i
theorem Wants.with (h:Wants m) {k:Nat} (hk:k<m.smiths.length) (hs:(Z8 m.smiths k).1 ≠ 0) (b:Int):Wants (Xi m (k:Int) b):=by
 refine ⟨h.guilds,fun i hi hne=> ?_⟩
 have hi':i<m.smiths.length:=by unfold Xi at hi;simpa using hi
 rw [ET m hk] at hne ⊢
 by_cases e:i=k
 ·rw [if_pos e];exact h.each k hk hs
 ·rw [if_neg e] at hne ⊢;exact h.each i hi' hne
def Wi (m:Z6) (b:Int):Bool:=Xu m.desks.length b && (Z8 m.desks b.toNat).1
def VK (m:Z6) (bs:List Int):Int:=bs.foldl (fun n b=>if Wi m b then max n (ZA m b (-1)) else n) 0
def Vb (m:Z6) (bs:List Int):Int:=bs.foldl (fun n b=>n+ZA m b (-1)) 0
theorem OO (m:Z6) (bs:List Int) (b:Int):VK m (bs++[b])=if Wi m b then max (VK m bs) (ZA m b (-1)) else VK m bs:=by unfold VK;rw [List.foldl_append];rfl
theorem Pp (m:Z6) (bs:List Int) (b:Int):Vb m (bs++[b])=Vb m bs+ZA m b (-1):=by unfold Vb;rw [List.foldl_append];rfl
theorem KO (m:Z6) (hl:m.smiths.length<=12):∀ (bs:List Int) (n:Int),0<=n->n<=12288->0<=bs.foldl (fun n b=>if Wi m b then max n (ZA m b (-1)) else n) n/\bs.foldl (fun n b=>if Wi m b then max n (ZA m b (-1)) else n) n<=12288
 | [],n,h0,h1=>⟨h0,h1⟩
 | b::bs,n,h0,h1=>by
  have hu:=Va m b (-1)
  refine KO m hl bs (if Wi m b then max n (ZA m b (-1)) else n) ?_ ?_<;>split<;>omega
theorem Eb (m:Z6) (hl:m.smiths.length<=12) (bs:List Int):0<=VK m bs/\VK m bs<=12288:=KO m hl bs 0 (by omega) (by omega)
theorem LI (m:Z6) (hl:m.smiths.length<=12):∀ (bs:List Int) (n:Int),0<=n->0<=bs.foldl (fun n b=>n+ZA m b (-1)) n/\bs.foldl (fun n b=>n+ZA m b (-1)) n<=n+12288*bs.length
 | [],n,h0=>⟨h0,by simp⟩
 | b::bs,n,h0=>by
  have hu:=Va m b (-1)
  have ih:=LI m hl bs (n+ZA m b (-1)) (by omega)
  refine ⟨ih.1,Int.le_trans ih.2 ?_⟩
  simp only [List.length_cons,Int.natCast_add,Int.natCast_one]
  omega
theorem EU (m:Z6) (hl:m.smiths.length<=12) (bs:List Int):0<=Vb m bs/\Vb m bs<=12288*bs.length:=by
 have:=LI m hl bs 0 (by omega)
 unfold Vb;omega
theorem Li (h:Sane m) {r:Nat} (hr:r<m.rooms.length) {b:Nat} (hb:b<8):Vm (VM m.rooms (r:Int)) (b:Int)=true ↔ b<m.desks.length/\(XJ m.rooms b:Int)=(r:Int):=by
 have hR:US m.rooms (r:Int)=true:=by unfold US;rw [h.hall,Zq (by omega) (by omega)];rfl
 have ha:=(Zs h.hall).2.2.1
 have h0:=XQ h.hall r (by omega)
 have h1:=XQ h.hall (r+1) (by omega)
 have hm:=VR ha (i:=r) 1 (by omega)
 have hm0:=VR ha (i:=r+1) (m.rooms.length-(r+1)) (by omega)
 rw [show r+1+(m.rooms.length-(r+1))=m.rooms.length by omega,List.take_length] at hm0
 have h8:=h.eight
 have hd:=h.desks
 rw [Eu hR,Int.toNat_natCast,Du h0.1 hm (by omega) (by omega) (by omega),decide_eq_true_iff]
 constructor
 ·intro hx
  have hbd:b<m.desks.length:=by omega
  exact ⟨hbd,by rw [(G8 (h.bench hbd) hr).2 hx]⟩
 ·rintro ⟨hbd,e⟩
  exact (G8 (h.bench hbd) hr).1 (by omega)
theorem Nh (h:Sane m) {r:Nat} (hr:r<m.rooms.length):∀ k:Nat,k<=m.desks.length->VK m (Vt (VM m.rooms (r:Int)) k)=(Y1 m r k).1/\Vb m (Vt (VM m.rooms (r:Int)) k)=(Y1 m r k).2
 | 0,_=>⟨rfl,rfl⟩
 | k+1,hk=>by
  have ih:=Nh h hr k (by omega)
  have h8:=h.eight
  have hs:=Li h hr (b:=k) (by omega)
  by_cases e:(XJ m.rooms k:Int)=(r:Int)
  ·rw [S8 (hs.2 ⟨by omega,e⟩),OO,Pp,ih.1,ih.2]
   have ho:Wi m (k:Int)=(Z8 m.desks k).1:=by
    unfold Wi Xu
    rw [Int.toNat_natCast,decide_eq_true (show (0:Int)<=(k:Int) by omega),decide_eq_true (show (k:Int)<(m.desks.length:Int) by omega)]
    simp
   rw [ho]
   show _=(if _ then _ else _:Int × Int).1/\_=(if _ then _ else _:Int × Int).2
   rw [if_pos e]
   exact ⟨rfl,rfl⟩
  ·have hn:Vm (VM m.rooms (r:Int)) (k:Int)=false:=by
    cases hc:Vm (VM m.rooms (r:Int)) (k:Int)
    ·rfl
    ·exact absurd (hs.1 hc).2 e
   rw [Vg hn]
   show _=(if _ then _ else _:Int × Int).1/\_=(if _ then _ else _:Int × Int).2
   rw [if_neg e]
   exact ih
theorem FZ (h:Sane m) {r:Nat} (hr:r<m.rooms.length):VK m (TF (VM m.rooms (r:Int)))=(Y1 m r m.desks.length).1/\Vb m (TF (VM m.rooms (r:Int)))=(Y1 m r m.desks.length).2:=by
 have key:∀ d k:Nat,m.desks.length+d=k->k<=8->Vt (VM m.rooms (r:Int)) k=Vt (VM m.rooms (r:Int)) m.desks.length:=by
  intro d
  induction d with
  | zero=>intro k hk _;rw [<-hk];rfl
  | succ d ih=>
   intro k hk h8
   obtain ⟨j,rfl⟩:∃ j,k=j+1:=⟨k-1,by omega⟩
   have hn:Vm (VM m.rooms (r:Int)) (j:Int)=false:=by
    cases hc:Vm (VM m.rooms (r:Int)) (j:Int)
    ·rfl
    ·have:=((Li h hr (b:=j) (by omega)).1 hc).1;omega
   rw [Vg hn]
   exact ih j (by omega) (by omega)
 have h8:=h.eight
 have e:=key (8-m.desks.length) 8 (by omega) (by omega)
 unfold TF
 rw [e]
 exact Nh h hr m.desks.length (Nat.le_refl _)
def Zi (m:Z6) (who b:Int):Int:=if ZS m && (Yg m who && Wi m b) then ZX m who b else -1
def CT (s:Z5):Z5:=(1,s.2)
def Xp (m:Z6) (who:Int):Z6:={ m with smiths:=m.smiths.set who.toNat (CT (Z8 m.smiths who.toNat)) }
theorem Ps (m:Z6) {k:Nat} (hk:k<m.smiths.length) (i:Nat):Z8 (Xp m (k:Int)).smiths i=if i=k then CT (Z8 m.smiths k) else Z8 m.smiths i:=by
  unfold Xp
  simp only [Int.toNat_natCast]
  exact ZF hk i
theorem N7 (m:Z6) (who:Int):(Xp m who).smiths.length=m.smiths.length:=by unfold Xp;simp
theorem EY (m:Z6) {k:Nat} (hk:k<m.smiths.length) (x:Int):ZI (Xp m (k:Int)) x=ZI m x:=by
  unfold ZI
  rw [Ps m hk]
  by_cases e:x.toNat=k
  · rw [if_pos e,e];rfl
  · rw [if_neg e];rfl
def Ta (m:Z6) (but:Int):List Z1->Int
  | []=>0
  | e::q=>(if e.2=but then 0 else ZI m e.2)+Ta m but q
theorem Ls (m:Z6) (but:Int) (a b:List Z1):Ta m but (a++b)=Ta m but a+Ta m but b:=by
  induction a with
  | nil=>show Ta m but b=0+Ta m but b;omega
  | cons e a ih=>show _+Ta m but (a++b)=_+Ta m but a+Ta m but b;omega
theorem S5 (m:Z6) (but:Int) (q:List Z1) (e:Z1):Ta m but (RX q e)=Ta m but q+(if e.2=but then 0 else ZI m e.2):=by
  have h:=Ls m but (q.take (X7 e q)) (q.drop (X7 e q))
  rw [List.take_append_drop] at h
  unfold RX
  rw [Ls,h]
  show _+((if e.2=but then 0 else ZI m e.2)+_)=_
  omega
theorem Ie (m:Z6) (but:Int):∀ (q:List Z1) (n:Int),q.foldl (fun n e=>if e.2=but then n else n+ZI m e.2) n=n+Ta m but q
  | [],n=>by show n=n+0;omega
  | e::q,n=>by
    have ih:=Ie m but q (if e.2=but then n else n+ZI m e.2)
    rw [List.foldl_cons,ih]
    show _=n+((if e.2=but then 0 else ZI m e.2)+Ta m but q)
    split<;>omega
theorem Py (m:Z6) (b but:Int):ZA m b but=Ta m but (atV m.smiths b m.smiths.length):=by
  have:=Ie m but (atV m.smiths b m.smiths.length) 0
  unfold ZA Vv
  omega
theorem Lu (m:Z6) {k:Nat} (hk:k<m.smiths.length) (b:Int):∀ j,Ta (Xp m (k:Int)) (-1) (atV (Xp m (k:Int)).smiths b j)=Ta m (k:Int) (atV m.smiths b j)
  | 0=>rfl
  | j+1=>by
    have ih:=Lu m hk b j
    by_cases e:j=k
    · subst e
      rw [Uq (ss:=(Xp m (j:Int)).smiths) (by rw [Ps m hk,if_pos rfl];rintro ⟨_,h⟩;cases h),ih]
      by_cases hat:(Z8 m.smiths j).2.1=b/\ZP (Z8 m.smiths j)=true
      · rw [Vh hat.1 hat.2,S5,if_pos rfl];omega
      · rw [Uq hat]
    · have hr:Z8 (Xp m (k:Int)).smiths j=Z8 m.smiths j:=by rw [Ps m hk,if_neg e]
      by_cases hat:(Z8 m.smiths j).2.1=b/\ZP (Z8 m.smiths j)=true
      · rw [Vh (ss:=(Xp m (k:Int)).smiths) (by rw [hr];exact hat.1) (by rw [hr];exact hat.2),Vh hat.1 hat.2,S5,S5,ih,EY m hk]
        show _+(if (j:Int)= -1 then 0 else ZI m (j:Int))=_+(if (j:Int)=(k:Int) then 0 else ZI m (j:Int))
        rw [if_neg (by omega),if_neg (by omega)]
      · rw [Uq (ss:=(Xp m (k:Int)).smiths) (by rw [hr];exact hat),Uq hat,ih]
theorem Gj (m:Z6) {k:Nat} (hk:k<m.smiths.length) (b:Int):ZA (Xp m (k:Int)) b (-1)=ZA m b (k:Int):=by
  rw [Py,Py,N7]
  exact Lu m hk b _
def OQ (m:Z6) (k:Nat) (b:Int):Int:=if (Z8 m.smiths k).2.1=b/\ZP (Z8 m.smiths k)=true then ZI m (k:Int) else 0
theorem Ia (m:Z6) (k:Nat) (b:Int):∀ j,Ta m (k:Int) (atV m.smiths b j)=Ta m (-1) (atV m.smiths b j)-(if k<j then OQ m k b else 0)
  | 0=>by show (0:Int)=0-(if k<0 then _ else 0);rw [if_neg (by omega)];rfl
  | j+1=>by
    have ih:=Ia m k b j
    by_cases hat:(Z8 m.smiths j).2.1=b/\ZP (Z8 m.smiths j)=true
    · rw [Vh hat.1 hat.2,S5,S5,ih]
      show _+(if (j:Int)=(k:Int) then 0 else ZI m (j:Int))=_+(if (j:Int)= -1 then 0 else ZI m (j:Int))-_
      rw [if_neg (show ¬ (j:Int)= -1 by omega)]
      by_cases e:j=k
      · subst e
        rw [if_pos rfl,if_neg (by omega),if_pos (by omega)]
        unfold OQ
        rw [if_pos hat]
        omega
      · rw [if_neg (show ¬ (j:Int)=(k:Int) by omega)]
        by_cases hl:k<j
        · rw [if_pos hl,if_pos (show k<j+1 by omega)];omega
        · rw [if_neg hl,if_neg (show ¬ k<j+1 by omega)];omega
    · rw [Uq hat,ih]
      by_cases e:j=k
      · subst e
        rw [if_neg (by omega),if_pos (by omega)]
        unfold OQ
        rw [if_neg hat]
      · by_cases hl:k<j
        · rw [if_pos hl,if_pos (by omega)]
        · rw [if_neg hl,if_neg (by omega)]
theorem EN (m:Z6) {k:Nat} (hk:k<m.smiths.length) (b:Int):ZA m b (k:Int)=ZA m b (-1)-OQ m k b:=by
  rw [Py,Py,Ia,if_pos hk]
theorem Wants.away (h:Wants m) {k:Nat} (hk:k<m.smiths.length) (hs:(Z8 m.smiths k).1 ≠ 0):Wants (Xp m (k:Int)):=by
  refine ⟨h.guilds,fun i hi hne=> ?_⟩
  rw [N7] at hi
  rw [Ps m hk] at hne ⊢
  by_cases e:i=k
  · rw [if_pos e];exact h.each k hk hs
  · rw [if_neg e] at hne ⊢;exact h.each i hi hne
abbrev YA:=Int × Int × Int
def Tr (m:Z6) (k:Nat):YA:=((k:Int),ZA m (k:Int) (-1),Zx m.rooms (k:Int))
def XW (m:Z6):Nat->List YA
  | 0=>[]
  | k+1=>if (Z8 m.desks k).1 then XW m k++[Tr m k] else XW m k
theorem RW {k:Nat} (h:(Z8 m.desks k).1=true):XW m (k+1)=XW m k++[Tr m k]:=by show (if _ then _ else _)=_;rw [if_pos h]
theorem QI {k:Nat} (h:(Z8 m.desks k).1=false):XW m (k+1)=XW m k:=by show (if _ then _ else _)=_;rw [h];rfl
theorem TH (m:Z6):∀ k,(XW m k).length<=k
  | 0=>Nat.le_refl _
  | k+1=>by
    have:=TH m k
    unfold XW
    split
    · simp;omega
    · omega
theorem TI (m:Z6) (x:YA):∀ k,x ∈ XW m k ↔ ∃ b:Nat,b<k/\(Z8 m.desks b).1=true/\x=Tr m b
  | 0=>by simp [XW]
  | k+1=>by
    have ih:=TI m x k
    cases ho:(Z8 m.desks k).1
    · rw [QI ho,ih]
      constructor
      · rintro ⟨b,hb,h⟩;exact ⟨b,by omega,h⟩
      · rintro ⟨b,hb,h1,h2⟩
        by_cases e:b=k
        · subst e;rw [ho] at h1;cases h1
        · exact ⟨b,by omega,h1,h2⟩
    · rw [RW ho,List.mem_append,ih]
      constructor
      · rintro (⟨b,hb,h⟩ | h)
        · exact ⟨b,by omega,h⟩
        · exact ⟨k,by omega,ho,by simpa using h⟩
      · rintro ⟨b,hb,h1,h2⟩
        by_cases e:b=k
        · subst e;right;simp [h2]
        · left;exact ⟨b,by omega,h1,h2⟩
def E7 (m:Z6) (who:Int) (k:Nat):YA:=((k:Int),ZA m (k:Int) who,Zx m.rooms (k:Int))
def Tg (m:Z6) (who:Int):Nat->List YA
  | 0=>[]
  | k+1=>if Zw m who k then Tg m who k++[E7 m who k] else Tg m who k
theorem QG {who:Int} {k:Nat} (h:Zw m who k=true):Tg m who (k+1)=Tg m who k++[E7 m who k]:=by show (if _ then _ else _)=_;rw [if_pos h]
theorem Rr {who:Int} {k:Nat} (h:Zw m who k=false):Tg m who (k+1)=Tg m who k:=by show (if _ then _ else _)=_;rw [h];rfl
theorem M8 (m:Z6) (who:Int):∀ k,(Tg m who k).length<=k
  | 0=>Nat.le_refl _
  | k+1=>by
    have:=M8 m who k
    unfold Tg
    split
    · simp;omega
    · omega
def T0 (m:Z6) (k:Nat) (x:YA):Bool:=Wu (Z8 m.smiths k).2.2.2.1 x.1
theorem KU (m:Z6) {k:Nat} (hk:k<m.smiths.length):∀ n,(XW (Xp m (k:Int)) n).filter (T0 m k)=Tg m (k:Int) n
  | 0=>rfl
  | n+1=>by
    have ih:=KU m hk n
    have hd:(Xp m (k:Int)).desks=m.desks:=rfl
    have hm:Zw m (k:Int) n=((Z8 m.desks n).1 && Wu (Z8 m.smiths k).2.2.2.1 (n:Int)):=rfl
    have hi:T0 m k (Tr (Xp m (k:Int)) n)=Wu (Z8 m.smiths k).2.2.2.1 (n:Int):=rfl
    cases ho:(Z8 m.desks n).1
    · rw [QI (by rw [hd];exact ho),ih,Rr (by rw [hm,ho];rfl)]
    · rw [RW (by rw [hd];exact ho),List.filter_append,ih]
      cases hb:Wu (Z8 m.smiths k).2.2.2.1 (n:Int)
      · rw [Rr (by rw [hm,ho,hb];rfl),List.filter_cons_of_neg (by rw [hi,hb];simp)]
        simp
      · rw [QG (by rw [hm,ho,hb];rfl),List.filter_cons_of_pos (by rw [hi,hb])]
        have hv:Tr (Xp m (k:Int)) n=E7 m (k:Int) n:=by unfold Tr E7;rw [Gj m hk];rfl
        rw [hv]
        rfl
def RR (m:Z6) (who:Int):List YA:=if ZS m && Yg m who then Tg m who m.desks.length else []
def VJ (m:Z6) (who b:Int):Bool:=ZS m && (Yg m who && (Yq m b && Zw m who b.toNat))
def Zp (m:Z6) (who:Int):List Int:=if ZS m && Yg m who then Zn m who else []
def Yo (m:Z6):Bool:=ZS m && XV m
def Yk (m:Z6) (who:Int):Int:=if ZS m && Yg m who then Zr m who else -1
def Xg (wn:Int) (x:YA):Bool:=W6 wn x.2.1 x.2.2
theorem GS (m:Z6) (who:Int):∀ k,((Tg m who k).filter (Xg (ZI m who))).map (·.1)=Wc m who k
  | 0=>rfl
  | k+1=>by
    have ih:=GS m who k
    have hf:P1 m who k=(Zw m who k && Xg (ZI m who) (E7 m who k)):=rfl
    cases hm:Zw m who k
    · rw [Rr hm,ih]
      show _=if _ then _ else _
      rw [hf,hm];rfl
    · rw [QG hm,List.filter_append,List.map_append,ih]
      show _=if _ then _ else _
      cases ht:Xg (ZI m who) (E7 m who k)
      · rw [hf,hm,ht,List.filter_cons_of_neg (by rw [ht];simp)];simp
      · rw [hf,hm,ht,List.filter_cons_of_pos ht];rfl
theorem GA (m:Z6) (who:Int):((RR m who).filter (Xg (YV m who))).map (·.1)=Zp m who:=by
  unfold RR Zp YV
  cases h:(ZS m && Yg m who)
  · rfl
  · simp only [if_true];exact GS m who _
def Ry (a:Int × Int) (x:YA):Int × Int:=if a.1= -1\/a.2<Yi x.2.1 x.2.2 then (x.1,Yi x.2.1 x.2.2) else a
def SX (l:List YA):Int × Int:=l.foldl Ry (-1,0)
theorem O1 (l:List YA) (x:YA):SX (l++[x])=Ry (SX l) x:=by unfold SX;rw [List.foldl_append];rfl
theorem KJ (m:Z6) (who:Int):∀ k,SX (Tg m who k)=Zg m who k
  | 0=>rfl
  | k+1=>by
    have ih:=KJ m who k
    have ho:=Mp m who k
    have hn:((Zg m who k).1<0) ↔ (Zg m who k).1= -1:=by
      rcases ho with ⟨e,_⟩ | ⟨b,_,e,_⟩
      · rw [e];omega
      · rw [e];omega
    have hM:Zg m who (k+1)=if Zw m who k && (decide ((Zg m who k).1<0) || decide ((Zg m who k).2<Yi (ZA m k who) (Zx m.rooms k))) then ((k:Int),Yi (ZA m k who) (Zx m.rooms k)) else Zg m who k:=rfl
    rw [hM]
    cases hm:Zw m who k
    · rw [Rr hm,ih];rfl
    · rw [QG hm,O1,ih]
      show (if (Zg m who k).1= -1\/(Zg m who k).2<Yi (ZA m k who) (Zx m.rooms k) then _ else _)=_
      by_cases hc:(Zg m who k).1= -1\/(Zg m who k).2<Yi (ZA m k who) (Zx m.rooms k)
      · rw [if_pos hc,if_pos (by rw [Bool.true_and,Bool.or_eq_true,decide_eq_true_iff,decide_eq_true_iff,hn];exact hc)];rfl
      · rw [if_neg hc,if_neg (by rw [Bool.true_and,Bool.or_eq_true,decide_eq_true_iff,decide_eq_true_iff,hn];exact hc)]
def XC (m:Z6) (who:Int) (a:Int × Int) (b:Int):Int × Int:=if a.1= -1\/ZX m who b<a.2\/(ZX m who b=a.2/\b=(Z8 m.smiths who.toNat).2.1) then (b,ZX m who b) else a
def Vy (m:Z6) (who:Int) (f:List Int):Int × Int:=f.foldl (XC m who) (-1,0)
theorem JT (m:Z6) (who:Int) (f:List Int) (b:Int):Vy m who (f++[b])=XC m who (Vy m who f) b:=by unfold Vy;rw [List.foldl_append];rfl
theorem Ob (m : Z6) (who : Int) : ∀ (f : List Int) (a : Int × Int), 0 ≤ a.1 → (∀ x ∈ f, 0 ≤ x) → f.foldl (XC m who) a = f.foldl (Y2 m who) a
  | [], a, _, _ => rfl
  | b :: f, a, h0, hf => by
    have e : XC m who a b = Y2 m who a b := by
      unfold XC Y2
      by_cases hc : ZX m who b < a.2 ∨ (ZX m who b = a.2 ∧ b = (Z8 m.smiths who.toNat).2.1)
      · rw [if_pos hc, if_pos (.inr hc)]
      · rw [if_neg hc, if_neg (by rintro (h | h); · omega
                                  · exact hc h)]
    rw [List.foldl_cons, List.foldl_cons, e]
    refine Ob m who f _ ?_ (fun x hx => hf x (List.mem_cons_of_mem _ hx))
    unfold Y2
    split
    · exact hf b (by simp)
    · exact h0
theorem Io (m:Z6) (who:Int) {f:List Int} (h:0<f.length) (hf:∀ x ∈ f,0<=x):Vy m who f=XU m who f f.length:=by
  obtain ⟨x,r,rfl⟩:∃ x r,f=x::r:=by
    cases f with
    | nil=>simp at h
    | cons x r=>exact ⟨x,r,rfl⟩
  unfold Vy XU
  rw [List.take_length,List.foldl_cons]
  show r.foldl (XC m who) (XC m who (-1,0) x)=r.foldl (Y2 m who) (x,ZX m who x)
  have e:XC m who (-1,0) x=(x,ZX m who x):=by unfold XC;rw [if_pos (.inl rfl)]
  rw [e]
  exact Ob m who r _ (hf x (by simp)) (fun y hy=>hf y (by simp [hy]))
theorem J8 {who x:Int} (h:x ∈ Zn m who):∃ b:Nat,b<m.desks.length/\x=(b:Int)/\Zw m who b=true:=by
  obtain ⟨b,hb,e,hf⟩:=(So m who x m.desks.length).1 h
  unfold P1 at hf
  simp only [Bool.and_eq_true] at hf
  exact ⟨b,hb,e,hf.1⟩
theorem E8 (m:Z6) (who:Int):Yk m who=if Yo m || decide ((Zp m who).length=0) then (SX (RR m who)).1 else (Vy m who (Zp m who)).1:=by
  unfold Yk Yo Zp RR
  cases h1:ZS m
  · rfl
  cases h2:Yg m who
  · cases XV m<;>rfl
  simp only [Bool.and_self,if_true,Bool.true_and]
  unfold Zr
  rw [KJ]
  cases hc:XV m
  · by_cases hl:(Zn m who).length=0
    · rw [if_neg (by simp [hl]),if_pos (by simp [hl])]
    · rw [if_pos (by simp;omega),if_neg (by simp;intro e;rw [e] at hl;simp at hl)]
      rw [Io m who (by omega) (fun x hx=>by obtain ⟨b,_,rfl,_⟩:=J8 hx;omega)]
  · rfl
theorem MR (m:Z6) (who:Int):∀ k,(Wc m who k).Pairwise (· < ·)
  | 0=>List.Pairwise.nil
  | k+1=>by
    have ih:=MR m who k
    unfold Wc
    split
    · refine List.pairwise_append.2 ⟨ih,List.pairwise_singleton _ _,fun a ha b hb=> ?_⟩
      obtain ⟨j,hj,rfl,_⟩:=(So m who a k).1 ha
      have:b=(k:Int):=by simpa using hb
      omega
    · exact ih
theorem L5 (m : Z6) (who : Int) (own : Int) (ho : own = (Z8 m.smiths who.toNat).2.1) : ∀ (f : List Int) (a : Int × Int) (seen : List Int), a.2 = ZX m who a.1 → a.1 ∈ seen → (seen ++ f).Pairwise (· < ·) →
    (∀ x ∈ seen, a.2 ≤ ZX m who x ∧ (ZX m who x = a.2 → a.1 = own ∨ (x ≠ own ∧ a.1 ≤ x))) →
    (f.foldl (Y2 m who) a).2 = ZX m who (f.foldl (Y2 m who) a).1 ∧ (f.foldl (Y2 m who) a).1 ∈ seen ++ f ∧ ∀ x ∈ seen ++ f, (f.foldl (Y2 m who) a).2 ≤ ZX m who x ∧ (ZX m who x = (f.foldl (Y2 m who) a).2 → (f.foldl (Y2 m who) a).1 = own ∨ (x ≠ own ∧ (f.foldl (Y2 m who) a).1 ≤ x))
  | [], a, seen, h1, h2, h3, h4 => by
    rw [List.append_nil]
    exact ⟨h1, h2, h4⟩
  | b :: f, a, seen, h1, h2, h3, h4 => by
    have hlt : ∀ x ∈ seen, x < b := fun x hx => (List.pairwise_append.1 h3).2.2 x hx b (by simp)
    have hs : seen ++ b :: f = (seen ++ [b]) ++ f := by simp
    rw [hs] at h3 ⊢
    rw [List.foldl_cons]
    by_cases hc : ZX m who b < a.2 ∨ (ZX m who b = a.2 ∧ b = (Z8 m.smiths who.toNat).2.1)
    · have e : Y2 m who a b = (b, ZX m who b) := by unfold Y2; rw [if_pos hc]
      rw [e]
      refine L5 m who own ho f _ (seen ++ [b]) rfl (by simp) h3 (fun x hx => ?_)
      rw [List.mem_append] at hx
      rcases hx with hx | hx
      · obtain ⟨k1, k2⟩ := h4 x hx
        refine ⟨?_, fun e2 => ?_⟩
        · show ZX m who b ≤ _
          rcases hc with h | ⟨h, _⟩ <;> omega
        · have e3 : ZX m who x = ZX m who b := e2
          rcases hc with h | ⟨h, h'⟩
          · omega
          · left; show b = own; rw [ho]; exact h'
      · have : x = b := by simpa using hx
        subst this
        refine ⟨Int.le_refl _, fun _ => ?_⟩
        by_cases e9 : x = own
        · exact .inl e9
        · exact .inr ⟨e9, Int.le_refl _⟩
    · have e : Y2 m who a b = a := by unfold Y2; rw [if_neg hc]
      rw [e]
      refine L5 m who own ho f a (seen ++ [b]) h1 (by simp [h2]) h3 (fun x hx => ?_)
      rw [List.mem_append] at hx
      rcases hx with hx | hx
      · exact h4 x hx
      · have : x = b := by simpa using hx
        subst this
        refine ⟨by omega, fun e2 => ?_⟩
        right
        refine ⟨fun e9 => hc (.inr ⟨e2, by rw [← ho]; exact e9⟩), ?_⟩
        have := hlt a.1 h2
        omega
theorem DC {who:Int} (hc:XV m=false) (hl:0<(Zn m who).length):Zr m who ∈ Zn m who/\ ∀ x ∈ Zn m who,ZX m who (Zr m who)<=ZX m who x/\(ZX m who x=ZX m who (Zr m who)->Zr m who=(Z8 m.smiths who.toNat).2.1\/(x ≠ (Z8 m.smiths who.toNat).2.1/\Zr m who<=x)):=by
  have hr:=MR m who m.desks.length
  have hv:Zr m who=(XU m who (Zn m who) (Zn m who).length).1:=by unfold Zr;rw [hc,if_pos (by simp;omega)]
  rw [hv]
  have hF:Zn m who=Wc m who m.desks.length:=rfl
  rw [<-hF] at hr
  generalize Zn m who=f at *
  obtain ⟨x,r,rfl⟩:∃ x r,f=x::r:=by
    cases f with
    | nil=>simp at hl
    | cons x r=>exact ⟨x,r,rfl⟩
  unfold XU
  rw [List.take_length]
  obtain ⟨h1,h2,h3⟩:=L5 m who _ rfl r (x,ZX m who x) [x] rfl (by simp) hr (fun y hy=>by
    have:y=x:=by simpa using hy
    subst this
    refine ⟨Int.le_refl _,fun _=> ?_⟩
    by_cases e9:y=(Z8 m.smiths who.toNat).2.1
    · exact .inl e9
    · exact .inr ⟨e9,Int.le_refl _⟩)
  show (r.foldl (Y2 m who) (x,ZX m who x)).1 ∈ x::r/\_
  refine ⟨h2,fun y hy=> ?_⟩
  have:=h3 y hy
  rw [h1] at this
  exact this
def YR (m:Z6) (who:Int) (b:Nat):Int:=Yi (ZA m (b:Int) who) (Zx m.rooms (b:Int))
theorem GU (m:Z6) (who:Int):∀ k,((Zg m who k).1= -1/\ ∀ b,b<k->Zw m who b=false)\/ ∃ c:Nat,c<k/\(Zg m who k).1=(c:Int)/\Zw m who c=true/\(Zg m who k).2=YR m who c/\ ∀ b,b<k->Zw m who b=true->YR m who b<=YR m who c/\(YR m who b=YR m who c->c<=b)
  | 0=> .inl ⟨rfl,fun b hb=>by omega⟩
  | k+1=>by
    have ih:=GU m who k
    have hM:Zg m who (k+1)=if Zw m who k && (decide ((Zg m who k).1<0) || decide ((Zg m who k).2<YR m who k)) then ((k:Int),YR m who k) else Zg m who k:=rfl
    rw [hM]
    cases hm:Zw m who k
    · rw [if_neg (by simp)]
      rcases ih with ⟨e,hn⟩ | ⟨c,hc,e,h1,h2,h3⟩
      · refine .inl ⟨e,fun b hb=> ?_⟩
        by_cases eb:b=k
        · subst eb;exact hm
        · exact hn b (by omega)
      · refine .inr ⟨c,by omega,e,h1,h2,fun b hb hmb=> ?_⟩
        by_cases eb:b=k
        · subst eb;rw [hm] at hmb;cases hmb
        · exact h3 b (by omega) hmb
    · rcases ih with ⟨e,hn⟩ | ⟨c,hc,e,h1,h2,h3⟩
      · rw [if_pos (by rw [e];rfl)]
        refine .inr ⟨k,by omega,rfl,hm,rfl,fun b hb hmb=> ?_⟩
        by_cases eb:b=k
        · subst eb;exact ⟨Int.le_refl _,fun _=>Nat.le_refl _⟩
        · rw [hn b (by omega)] at hmb;cases hmb
      · by_cases hs:(Zg m who k).2<YR m who k
        · rw [if_pos (by simp [hs])]
          refine .inr ⟨k,by omega,rfl,hm,rfl,fun b hb hmb=> ?_⟩
          by_cases eb:b=k
          · subst eb;exact ⟨Int.le_refl _,fun _=>Nat.le_refl _⟩
          · have:=h3 b (by omega) hmb
            refine ⟨by omega,fun h9=>by omega⟩
        · rw [if_neg (by rw [e];simp;omega)]
          refine .inr ⟨c,by omega,e,h1,h2,fun b hb hmb=> ?_⟩
          by_cases eb:b=k
          · subst eb;exact ⟨by omega,fun _=>by omega⟩
          · exact h3 b (by omega) hmb
theorem Fe {who:Int} (h:XV m=true\/(Zn m who).length=0):(Zr m who= -1/\ ∀ b,b<m.desks.length->Zw m who b=false)\/ ∃ c:Nat,c<m.desks.length/\Zr m who=(c:Int)/\Zw m who c=true/\ ∀ b,b<m.desks.length->Zw m who b=true->YR m who b<=YR m who c/\(YR m who b=YR m who c->c<=b):=by
  have hv:Zr m who=(Zg m who m.desks.length).1:=by
    unfold Zr
    rw [if_neg]
    rcases h with h | h<;>simp [h]
  rw [hv]
  rcases GU m who m.desks.length with ⟨e,hn⟩ | ⟨c,hc,e,h1,h2,h3⟩
  · exact .inl ⟨e,hn⟩
  · exact .inr ⟨c,hc,e,h1,h3⟩
theorem TR {α:Type} [Inhabited α] {l:List α} {k:Nat} (h:k<l.length):l.take (k+1)=l.take k++[Z8 l k]:=by
  rw [List.take_succ_eq_append_getElem h,Sw h]
theorem D4 (h:Loose m) {k:Nat} (hk:k<m.smiths.length) (hs:(Z8 m.smiths k).1 ≠ 0):0<=(Z8 m.smiths k).2.2.2.1/\(Z8 m.smiths k).2.2.2.1<=255:=by
  obtain ⟨hp,_,_⟩:=h.limits hk hs
  generalize Z8 m.smiths k=s at *
  obtain ⟨st,be,rk,my,gu,lo,hi,hd,ca,ut,wk⟩:=s
  obtain ⟨_,_,_,⟨y0,y1⟩,_⟩:=Zc hp
  show 0<=my/\my<=255
  omega
theorem GW {k:Nat} (hk:k<m.desks.length):Wi m (k:Int)=(Z8 m.desks k).1:=by
  unfold Wi Xu
  rw [Int.toNat_natCast,decide_eq_true (show (0:Int)<=(k:Int) by omega),decide_eq_true (show (k:Int)<(m.desks.length:Int) by omega)]
  simp
theorem Dh (h:Loose m) {k:Nat} (hk:k<m.smiths.length) (hs:(Z8 m.smiths k).1 ≠ 0) {x:YA} (hx:x ∈ XW (Xp m (k:Int)) m.desks.length):Vm (Z8 m.smiths k).2.2.2.1 x.1=T0 m k x:=by
  obtain ⟨b,hb,_,rfl⟩:=(TI _ x _).1 hx
  obtain ⟨y0,y1⟩:=D4 h hk hs
  have h8:=h.sane.eight
  unfold Vm T0 Tr
  rw [Zq y0 y1,Zq (show (0:Int)<=(b:Int) by omega) (show (b:Int)<=7 by omega)]
  rfl
theorem DH {who:Int} (h:YV m who= -1):RR m who=[]:=by
  unfold RR
  unfold YV at h
  have hb:=(Wr m who).1
  cases hc:(ZS m && Yg m who)
  · rfl
  · rw [hc,if_pos rfl] at h;omega
theorem DI {k:Nat} (h:ZS m=true) (hw:Yg m (k:Int)=true) (hk:k<m.smiths.length):(XW (Xp m (k:Int)) m.desks.length).filter (T0 m k)=RR m (k:Int):=by
  unfold RR
  rw [h,hw,KU m hk]
  rfl
theorem Fb (m:Z6):(XW m m.desks.length).any (fun x=>WK x.2.1 x.2.2)=XV m:=by
  unfold XV
  rw [Bool.eq_iff_iff,List.any_eq_true,List.any_eq_true]
  constructor
  · rintro ⟨x,hx,hm⟩
    obtain ⟨b,hb,ho,rfl⟩:=(TI m x _).1 hx
    exact ⟨b,List.mem_range.2 hb,by unfold Wa;rw [ho];exact hm⟩
  · rintro ⟨b,hb,hc⟩
    unfold Wa at hc
    simp only [Bool.and_eq_true] at hc
    exact ⟨Tr m b,(TI m _ _).2 ⟨b,List.mem_range.1 hb,hc.1,rfl⟩,hc.2⟩
theorem CC {α:Type} [Inhabited α] {p:α->Bool} {l:List α} (h:∀ i,i<l.length->p (Z8 l i)=false):l.any p=false:=by
  rw [List.any_eq_false]
  intro x hx
  obtain ⟨i,hi,rfl⟩:=List.getElem_of_mem hx
  rw [<-Sw hi,h i hi]
  simp
theorem C0 {α:Type} [Inhabited α] {p:α->Bool} {l:List α} {i:Nat} (hi:i<l.length) (h:p (Z8 l i)=true):l.any p=true:=List.any_eq_true.2 ⟨_,Xn hi,h⟩
theorem Om {α:Type} [Inhabited α] {p:α->Bool} {l:List α} {j:Nat} (hj:j<l.length) (h:p (Z8 l j)=true):(l.take (j+1)).filter p=(l.take j).filter p++[Z8 l j]:=by
  rw [TR hj,List.filter_append,List.filter_cons_of_pos h];rfl
theorem MQ {α:Type} [Inhabited α] {p:α->Bool} {l:List α} {j:Nat} (hj:j<l.length) (h:p (Z8 l j)=false):(l.take (j+1)).filter p=(l.take j).filter p:=by
  rw [TR hj,List.filter_append,List.filter_cons_of_neg (by rw [h];simp)];simp
theorem F0 {l:List YA} {j:Nat} (hj:j<l.length):SX (l.take (j+1))=Ry (SX (l.take j)) (Z8 l j):=by rw [TR hj,O1]
theorem Ip {who:Int} {l:List Int} {j:Nat} (hj:j<l.length):Vy m who (l.take (j+1))=XC m who (Vy m who (l.take j)) (Z8 l j):=by rw [TR hj,JT]
theorem On {k:Nat} {x:Int} (hx:x ∈ Zp m (k:Int)):Zi m (k:Int) x=ZX m (k:Int) x:=by
  unfold Zp at hx
  cases hc:(ZS m && Yg m (k:Int))
  · rw [hc] at hx;simp at hx
  rw [hc,if_pos rfl] at hx
  simp only [Bool.and_eq_true] at hc
  obtain ⟨b,hb,rfl,hm⟩:=J8 hx
  unfold Zw at hm
  simp only [Bool.and_eq_true] at hm
  unfold Zi
  rw [hc.1,hc.2,GW hb,hm.1]
  rfl
def TX (x:YA):List Value:=[.iface 196 (.agg #[.int .i64 x.1,.int .i64 x.2.1,.int .i64 x.2.2])]
theorem WN (x:YA):(TX x).length=1:=rfl
abbrev YD (n₀:Nat) (w:World) (v:Value) (xs:List YA):Prop:=RecAt 96 1 TX n₀ w v xs
theorem MU:(Tryz.prog.info? 96).map (fun i=>(i.zero,i.size,i.bytes))=some (some .nilIface,1,16):=by kernel_rfl
theorem Ts {g:Nat} {xs:List YA} (h:∀ j,j<xs.length-> ∀ i u,(TX (Z8 xs j))[i]?=some u->w.cell? ⟨g,j*1+i,none⟩=some u) {j:Nat} (hj:j<xs.length):w.cell? ⟨g,j,none⟩=some (.iface 196 (.agg #[.int .i64 (Z8 xs j).1,.int .i64 (Z8 xs j).2.1,.int .i64 (Z8 xs j).2.2])):=by
 have:=h j hj 0 _ rfl
 simpa using this
theorem QS {base t ty:Nat} (ht:Tryz.prog.underlying t=some (.slice 96)) {v x:Value} {ps qs:List YA} (hown:YD base w v ps) (hx:IsRec 1 TX w x qs) (hb:ps.length+qs.length<=4000) (hbase:base<=w.heap.size) :
  ∃ v' w',(Builtin.append_ #[t,t] ty #[v,x]).run Tryz.prog w= .ok v' w'/\YD base w' v' (ps++qs)/\w.grownBy w' v.ownBlock/\(v'.ownBlock=v.ownBlock\/v'.ownBlock=some w.heap.size):=by
 obtain ⟨i0,hi,hz0,hz1,hz2⟩:=Rv MU
 obtain ⟨a,c,rfl,hc,hm,hr⟩:=hx
 by_cases h0:qs=[]
 ·subst h0
  refine ⟨v,w,Ti ht hi hown a c,by simpa using hown,Tv _ _,.inl rfl⟩
 ·rcases hr with hr | ⟨b,off,rfl,hlt,hcl⟩
  ·exact absurd hr h0
  ·obtain ⟨v',w',hr,h2,h3,_,h5⟩:=run_append_own_at (P:=Tryz.prog) w base t ty 96 i0 .nilIface 1 16 ht hi hz0 hz1 hz2 rfl (by omega) v ps.length _ hown ⟨b,off,none⟩ qs.length c (VF TX qs) (WJ WN qs)
    (Nf WN (by omega) hcl) (J9 (fun x u hu=>by rcases List.mem_singleton.1 hu with rfl;rfl) qs) (by simp only [maxLen];omega) (by omega) hbase
   refine ⟨v',w',hr,?_,h3,h5⟩
   unfold YD RecAt
   rw [P2,List.length_append]
   exact h2
theorem Vx {ops:Array Oper} {rest:List Oper} {o:Oper} {a:Act} {Q:Exit->Act->World->Prop} (hgd:o.guard=none) (s x:Operand) (t:TypeId) (ht:Tryz.prog.underlying t=some (.slice 96))
  (ho:o.op= .call { callee:= .builtin .append,args:=#[s,x],argTypes:=#[t,t] }) (base:Nat) (v u:Value) (ps qs:List YA) (hs:a.eval s=v) (hx:a.eval x=u) (hown:YD base w v ps) (hr:IsRec 1 TX w u qs)
  (hb:ps.length+qs.length<=4000) (hbase:base<=w.heap.size)
  (h:∀ v' w',YD base w' v' (ps++qs)->w.grownBy w' v.ownBlock->(v'.ownBlock=v.ownBlock\/v'.ownBlock=some w.heap.size)->wpList Tryz.prog ops Q rest (a.put o.dst v') w') :
  wpList Tryz.prog ops Q (o::rest) a w:=by
 refine wpList_plain hgd fun K hK=> ?_
 obtain ⟨v',w',hrun,h2,h3,h5⟩:=QS (ty:=o.type) ht hown hr hb hbase
 unfold Oper.wp execOp
 simp only [ho,resolve,invoke,builtin,Sem.run_bind,Sem.run_pure,Result.andThen_ok,List.map_toArray,List.map_cons,List.map_nil,hs,hx,hrun]
 exact hK _ _ (h v' w' h2 h3 h5)
end Go.Proofs.YtaegckehjlkaaaaGreat
