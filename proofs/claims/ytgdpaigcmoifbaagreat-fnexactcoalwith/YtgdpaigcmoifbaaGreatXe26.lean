/- Part 26 of what the proof rests on. No condition but those that a theorem names. -/
import Derived.Test.YtgdpaigcmoifbaaGreatXe22
import Derived.Test.YtgdpaigcmoifbaaGreatXe24
import Derived.Laws.CopyRow
namespace Go.Proofs.YtgdpaigcmoifbaaGreat
open Go.ChangeShapes Go.WideShapes Go.ChangeAt Go.RowKit Go.Sort Go.Proofs.Tryz
set_option linter.unusedVariables false
set_option linter.unusedSimpArgs false
set_option maxRecDepth 100000
set_option maxHeartbeats 1000000 in
theorem copiedSmith_any {w : World} {v : Value} {ps : List SmithV} (h : IsSmiths w v ps) (hl : ps.length ≤ 1000) : Calls prog 168 #[v] w fun e w' => ∃ v', e = .returned v' ∧ SmithsAt w.heap.size w' v' ps ∧ Below w.heap.size w w' := by
 have HR := hide (h.below ((alBrf _ _).alloc (alNlr _) (.cells #[] 38)))
 obtain ⟨a, cap, rfl, hc, hm, hr⟩ := h
 clear hr
 go_enter func168, ntmps168
 go_wp2_with (at_builtin; refine wpList_append_recs tyS rfl (.tmp 3) (.tmp 4) 160 underlying160 rfl w.heap.size _ _ [] ps rfl rfl (recs_empty rfl (alNlr _)) (uh HR) (by simp; omega) (by simp) ?_; intro u9 w9 hp9 hg9 hat9; rw [List.nil_append] at hp9; have HP9 := hide hp9; have HG9 := hide hg9; clear hp9 hg9 hat9)
 have hb9 : Below w.heap.size w w9 := ((ba _ _)).trans ((alBrf _ _).grown (uh HG9) (by simp) (fun i e => by cases e; exact alNlr _))
 go_wp2_with fail
 go_ret
 exact ⟨_, rfl, uh HP9, hb9⟩
end Go.Proofs.YtgdpaigcmoifbaaGreat
