/- How long what Queued and Unqueued answer can be. No condition. -/
import Derived.Test.YtekobedbjemdiaaEntMath
namespace Go.Proofs.Ytekobedbjemdiaa
set_option linter.unusedVariables false

theorem queuedV_len (ps : List PaceV) (e : PaceV) : (queuedV ps e).1.length ≤ 101 := by
  unfold queuedV
  cases h : queueB ps
  · simp
  · have h1 := (isQ_of h).len
    cases h2 : queueB (putV ps e)
    · simp; omega
    · have := (isQ_of h2).len; simp; omega

theorem unqueuedV_len (ps : List PaceV) (who : Int) : (unqueuedV ps who).1.length ≤ 101 := by
  unfold unqueuedV
  cases h : queueB ps
  · simp
  · have h1 := (isQ_of h).len
    by_cases h2 : 0 ≤ findV ps who
    · simp only [if_true, if_pos h2]
      have := List.length_eraseIdx_le ps (findV ps who).toNat
      omega
    · simp only [if_true, if_neg h2]; omega

end Go.Proofs.Ytekobedbjemdiaa
