/- Lists of records (Guild): what they read as, and contracts of the laws' own helpers over them: how many, copies in memory of their own, that two that read alike are alike. Conditions: the slices can be read; what is copied is no longer than 2^20. -/
import Derived.Test.YtkagjopogihnbaaRecKit2
namespace Go.Proofs.Ytkagjopogihnbaa
open Go.ChangeShapes Go.WideShapes Go.ChangeAt Go.RowKit Go.Sort
set_option linter.unusedVariables false

abbrev GuildV := Int × Int × Int
def encGuild (p : GuildV) : List Value := [.int .i64 p.1, .int .i64 p.2.1, .int .i64 p.2.2]
theorem encGuild_len (p : GuildV) : (encGuild p).length = 3 := rfl
abbrev IsGuilds (w : World) (v : Value) (ps : List GuildV) : Prop := IsRec 3 encGuild w v ps
theorem guild_cells {w : World} {b off : Nat} {ps : List GuildV} (h : ∀ j, j < ps.length → ∀ i u, (encGuild (recAt ps j))[i]? = some u → w.cell? ⟨b, off + j * 3 + i, none⟩ = some u) {j : Nat} (hj : j < ps.length) :
    w.cell? ⟨b, off + j * 3, none⟩ = some (.int .i64 (recAt ps j).1) ∧ w.cell? ⟨b, off + j * 3 + 1, none⟩ = some (.int .i64 (recAt ps j).2.1) ∧ w.cell? ⟨b, off + j * 3 + 2, none⟩ = some (.int .i64 (recAt ps j).2.2) :=
  ⟨h j hj 0 _ rfl, h j hj 1 _ rfl, h j hj 2 _ rfl⟩






end Go.Proofs.Ytkagjopogihnbaa
