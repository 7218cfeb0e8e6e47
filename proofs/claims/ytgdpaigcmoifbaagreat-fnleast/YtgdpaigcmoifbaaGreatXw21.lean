/- Part 21 of what the proof rests on. No condition but those that a theorem names. -/
import Derived.Test.YtgdpaigcmoifbaaGreatXw12
import Derived.Test.YtgdpaigcmoifbaaGreatXw13
namespace Go.Proofs.YtgdpaigcmoifbaaGreat
open Go.ChangeShapes Go.WideShapes Go.ChangeAt Go.RowKit Go.Sort Go.Proofs.Tryz
set_option linter.unusedVariables false
set_option maxRecDepth 100000
variable {w w' w0 w1 w2 w3 w₀ wr W W' X A B C : World} {v v0 v1 v2 v3 v4 u u0 u1 u2 u3 u4 : Value}
set_option maxHeartbeats 1000000 in
theorem PC  {zs:List Int} (hv:OI w v zs) (hu:OI w u zs) :
  cB 21 #[v,u] w (.bool true):=by
 obtain ⟨a,cap,rfl,hc,hm,hr⟩:=hv;obtain ⟨a',cap',rfl,hc',hm',hr'⟩:=hu;have Hr:=Z9 hr;have Hr':=Z9 hr';clear hr hr';go_enter func21,ntmps21;go_wp2_with fail
 go_loopw [5] (fun i wr=> ∃ k:Nat,k<=zs.length/\i= .int .i64 k/\Below w.heap.size w wr) (fun i _=>zs.length-(intOf i).toNat)
 case atStart=>exact ⟨0,ZA _,rfl,Z3 _ _⟩
 case round=>
  obtain ⟨k,hk,rfl,hb⟩:=hrel;have Hb:=Z9 hb;by_cases hlt:k<zs.length
  ·rcases uh Hr with h0 | ⟨b,off,rfl,hbw,hcl⟩
   ·rw [h0] at hlt;simp at hlt
   rcases uh Hr' with h0 | ⟨b',off',rfl,hbw',hcl'⟩
   ·rw [h0] at hlt;simp at hlt
   have c0:=Rs hcl hlt;have d0:=Rs hcl' hlt;rw [<-hb.cell (p:=⟨b,off+k,none⟩) hbw] at c0;rw [<-hb.cell (p:=⟨b',off'+k,none⟩) hbw'] at d0;generalize Z8 zs k=z at *;clear hcl hcl' hb;go_wp2_with fail;go_quiet (fail);go_wp2_with fail;go_roundw
   case rel=>exact ⟨k+1,by omega,by go_num,⟨(uh Hb).os,(uh Hb).tape,(uh Hb).output,(uh Hb).size,(uh Hb).block⟩⟩
   case measure=>exact ms
  ·go_wp2_with fail
   go_ret;exact ⟨rfl,hb⟩
theorem G0 (st be rk my gu lo hi hd ca ut wk:Int) (w:World):Calls prog 28 #[.agg (I11 st be rk my gu lo hi hd ca ut wk)] w fun e w'=>
  e= .returned (.bool (ZL (st,be,rk,my,gu,lo,hi,hd,ca,ut,wk)))/\Below w.heap.size w w':=by
 unfold ZL;simp only;cases h2:(st ==2)
 all_goals
  go_enter func28,ntmps28;go_wp2_with fail;go_ret;exact ⟨by first | rfl | (simp),(ba _ _)⟩
theorem Kf {st be rk my gu lo hi hd ca ut wk:Int} {q:Bool} (h:ZL (st,be,rk,my,gu,lo,hi,hd,ca,ut,wk)=q) (w:World):cB 28 #[.agg (I11 st be rk my gu lo hi hd ca ut wk)] w (.bool q):=by
 have:=G0 st be rk my gu lo hi hd ca ut wk w;rw [h] at this;exact this
theorem BL (zs:List Int):UR Tj zs=zs.map (Value.int .i64):=by
 unfold UR
 induction zs with
 | nil=>rfl
 | cons z zs ih=>rw [List.flatMap_cons,ih];rfl
theorem NumsAt.ints {n₀:Nat}  {zs:List Int} (h:NumsAt n₀ w v zs):IntsAt n₀ w v zs:=by
 unfold IntsAt;rw [<-BL];exact h
theorem AV {zs:List Int} (h:zs.Pairwise (· < ·)):∀ k,k+1<zs.length->zs.getD k 0<zs.getD (k+1) 0:=fun k hk=>by
 have:=List.pairwise_iff_getElem.1 h k (k+1) (by omega) hk (by omega);simpa [List.getD,show k<zs.length by omega,hk] using this
end Go.Proofs.YtgdpaigcmoifbaaGreat
