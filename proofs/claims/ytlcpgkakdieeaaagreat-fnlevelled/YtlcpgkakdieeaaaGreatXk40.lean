/- Part 40 of what the proof rests on. No condition but those that a theorem names. -/
import Derived.Test.YtlcpgkakdieeaaaGreatXk34
import Derived.Test.YtlcpgkakdieeaaaGreatXk35
namespace Go.Proofs.YtlcpgkakdieeaaaGreat
open Go.ChangeShapes Go.WideShapes Go.ChangeAt Go.RowKit Go.Sort
set_option linter.unusedVariables false
set_option linter.unusedSimpArgs false
set_option maxRecDepth 100000
variable {w w' w0 w1 w2 w3 w₀ wr W W' X A B C : World} {v v0 v1 v2 v3 v4 u u0 u1 u2 u3 u4 : Value} {m : Z6}
theorem DE (r:Option (Nat × Nat)):∃ (x y:Int) (f:Bool),SP r= .tuple #[.int .i64 x,.int .i64 y,.bool f]:=by
 cases r with
 | none=>exact ⟨_,_,_,rfl⟩
 | some r=>obtain ⟨a,b⟩:=r;exact ⟨_,_,_,rfl⟩
theorem Li  {x y:Int} {f:Bool} (hq:SP (Zb m)= .tuple #[.int .i64 x,.int .i64 y,.bool f]) (h:Smy w v0 v1 v2 v3 v4 m):cB 14 #[.agg #[v0,v1,v2,v3,v4,.int .i64 m.now]] w (.tuple #[.int .i64 x,.int .i64 y,.bool f]):=by
 have hc:=SK h;rw [hq] at hc;exact hc
theorem KP  {x y:Int} {f:Bool} (hq:SP (Zb m)= .tuple #[.int .i64 x,.int .i64 y,.bool f]) (h:Smy w v0 v1 v2 v3 v4 m):cB 10 #[.agg #[v0,v1,v2,v3,v4,.int .i64 m.now]] w (.tuple #[.int .i64 x,.int .i64 y,.bool f]):=by
 have hc:=NJ h;rw [hq] at hc;exact hc
set_option maxRecDepth 100000
theorem MY  {x y:Int} {f:Bool} (hq:SP (YZ m)= .tuple #[.int .i64 x,.int .i64 y,.bool f]) (h:Smy w v0 v1 v2 v3 v4 m):cB 15 #[.agg #[v0,v1,v2,v3,v4,.int .i64 m.now]] w (.tuple #[.int .i64 x,.int .i64 y,.bool f]):=by
 have hc:=SZ h;rw [hq] at hc;exact hc
theorem MC  {x y:Int} {f:Bool} (hq:SP (YZ m)= .tuple #[.int .i64 x,.int .i64 y,.bool f]) (h:Smy w v0 v1 v2 v3 v4 m):cB 11 #[.agg #[v0,v1,v2,v3,v4,.int .i64 m.now]] w (.tuple #[.int .i64 x,.int .i64 y,.bool f]):=by
 have hc:=Pb h;rw [hq] at hc;exact hc
end Go.Proofs.YtlcpgkakdieeaaaGreat
