/- Part 2 of what the proof rests on. No condition but those that a theorem names. -/
import Derived.Test.YtmdgokjeobnnaaaGreatDoorXt01
namespace Go.Proofs.YtmdgokjeobnnaaaGreatDoor
open Go.ChangeShapes Go.WideShapes Go.ChangeAt Go.RowKit Go.Proofs.Tryz
set_option linter.unusedVariables false
def Wx (k:Nat):Int:=[1024,819,655,524,419,335].getD k 0
def Wd (k:Nat):Int:=[1024,1280,1600,2000,2500,3125].getD k 0
def Zf (r:Int):Int:=if inB r (-5) 5 then (if 0<=r then Wx r.toNat else Wd (-r).toNat) else 0
theorem LW:∀ k:Fin 5,Wx (k.val+1)=Wx k.val*4 / 5/\0<=Wx k.val/\Wx k.val<=1024:=by decide
theorem LD:∀ k:Fin 5,Wd (k.val+1)=Wd k.val*5 / 4/\0<=Wd k.val/\Wd k.val<=3125:=by decide
theorem NC {k:Nat} (h:k<5):Wx (k+1)=Wx k*4 / 5/\0<=Wx k/\Wx k<=1024:=LW ⟨k,h⟩
theorem Nq {k:Nat} (h:k<5):Wd (k+1)=Wd k*5 / 4/\0<=Wd k/\Wd k<=3125:=LD ⟨k,h⟩
theorem GH {r:Int} (h:inB r (-5) 5=true):r= -5\/r= -4\/r= -3\/r= -2\/r= -1\/r=0\/r=1\/r=2\/r=3\/r=4\/r=5:=by
 have:=ZS h;omega
theorem U2 {r:Int} (h:inB r (-5) 5=false):Zf r=0:=by unfold Zf;simp [h]
theorem ML {r:Int} (h:inB r (-5) 5=true) (h0:0<=r):Zf r=Wx r.toNat:=by unfold Zf;simp [h,h0]
theorem O6 {r:Int} (h:inB r (-5) 5=true) (h0:¬ 0<=r):Zf r=Wd (-r).toNat:=by unfold Zf;simp [h,h0]
theorem Zg (x:Int) (w:World):cE 82 #[.int .i64 x] w (.bool (inB x (-5) 5)):=by
 go_enter func82,ntmps82;go_wp2_with (go_at_call 27;refine (Z4 _ _ _ _).mono ?_;rintro e w' ⟨rfl,rfl⟩)
 go_ret;exact ⟨rfl,rfl⟩
set_option maxHeartbeats 400000 in
theorem SD (r:Int) (w:World):cE 79 #[.int .i64 r] w (.int .i64 (Zf r)):=by
 cases hb:inB r (-5) 5
 ·rw [U2 hb]
  go_enter func79,ntmps79;go_wp2_with (go_at_call 82;refine (Zg _ _).mono ?_;rintro e w' ⟨rfl,rfl⟩)
  go_ret;exact ⟨rfl,rfl⟩
 ·obtain ⟨r0,r1⟩:=ZS hb
  by_cases h0:0<=r
  ·rw [ML hb h0]
   obtain ⟨n,rfl⟩:=Int.eq_ofNat_of_zero_le h0;rw [Zl];go_enter func79,ntmps79;go_wp2_with (go_at_call 82;refine (Zg _ _).mono ?_;rintro e w' ⟨rfl,rfl⟩)
   go_loop [0,3] (fun i s=> ∃ k:Nat,k<=n/\i= .int .i64 ((n:Int)-k)/\s= .int .i64 (Wx k)) (fun i _=>(intOf i).toNat)
   case atStart=>exact ⟨0,Zi _,by simp,rfl⟩
   case round=>
    obtain ⟨k,hk,rfl,rfl⟩:=hrel;by_cases hlt:k<n
    ·obtain ⟨hs,f1,f2⟩:=NC (k:=k) (by omega)
     have Hs:=Z9 hs;clear hs;generalize Wx k=z at *;go_wp2_with fail
     go_round
     case rel=>exact ⟨k+1,by omega,by go_num,by rw [uh Hs]⟩
     case measure=>exact ms
    ·obtain rfl:k=n:=by omega
     go_wp2_with fail
     go_loop [0,3] (fun i s=>i= .int .i64 0/\s= .int .i64 (Wx k)) (fun _ _=>0)
     case atStart=>exact ⟨by simp,rfl⟩
     case round=>
      obtain ⟨rfl,rfl⟩:=hrel;go_wp2_with fail;go_ret;exact ⟨rfl,rfl⟩
  ·rw [O6 hb h0]
   obtain ⟨n,hn⟩:=Int.eq_ofNat_of_zero_le (show 0<= -r by omega);obtain rfl:r= -(n:Int):=by omega
   rw [show (-(-(n:Int))).toNat=n by omega];clear hn;go_enter func79,ntmps79;go_wp2_with (go_at_call 82;refine (Zg _ _).mono ?_;rintro e w' ⟨rfl,rfl⟩)
   go_loop [0,3] (fun i s=>i= .int .i64 (-(n:Int))/\s= .int .i64 1024) (fun _ _=>0)
   case atStart=>exact ⟨rfl,rfl⟩
   case round=>
    obtain ⟨rfl,rfl⟩:=hrel;go_wp2_with fail
    go_loop [0,3] (fun i s=> ∃ k:Nat,k<=n/\i= .int .i64 ((k:Int)-n)/\s= .int .i64 (Wd k)) (fun i _=>(-(intOf i)).toNat)
    case atStart=>exact ⟨0,Zi _,by simp,rfl⟩
    case round=>
     obtain ⟨k,hk,rfl,rfl⟩:=hrel;by_cases hlt:k<n
     ·obtain ⟨hs,f1,f2⟩:=Nq (k:=k) (by omega)
      have Hs:=Z9 hs;clear hs;generalize Wd k=z at *;go_wp2_with fail
      go_round
      case rel=>exact ⟨k+1,by omega,by go_num,by rw [uh Hs]⟩
      case measure=>exact ms
     ·obtain rfl:k=n:=by omega
      go_wp2_with fail;go_ret;exact ⟨rfl,rfl⟩
end Go.Proofs.YtmdgokjeobnnaaaGreatDoor
