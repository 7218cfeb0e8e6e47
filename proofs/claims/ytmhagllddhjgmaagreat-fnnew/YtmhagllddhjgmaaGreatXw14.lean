/- What the proof rests on, part 14: lists and numbers, how they lie in memory, and contracts of the calls. No condition but those that a theorem names. -/
import Derived.Test.YtmhagllddhjgmaaGreatXw01
import Derived.Test.YtmhagllddhjgmaaGreatXw02
import Derived.Test.YtmhagllddhjgmaaGreatXw03
import Derived.Test.YtmhagllddhjgmaaGreatXw12
import Derived.Test.YtmhagllddhjgmaaGreatXw13
import Derived.WalkKit
import Derived.ProofKit
import Derived.OpenShut
import Derived.Outline
import Derived.Deep.QuietTactic
import Derived.BigQuiet
import Derived.Laws.OwnMore
import Derived.OwnWalk
import Derived.Maps.AppendAt
import Derived.Lib.QuietBelow
import Derived.Lib.ItoaNum
import Derived.Lib.ItoaLen
import Derived.Lib.AtoiTie
import Derived.Lib.ParseIntBTie
import Derived.Lib.SplitLaws
import Derived.Lib.Join
/- Contract of the model's reading of a hall (ReadHall): it answers what the text says, in memory of its own. Condition: the text is no longer than 2^20. -/
namespace Go.Proofs.YtmhagllddhjgmaaGreat
open Go.ChangeShapes Go.WideShapes Go.ChangeAt Go.RowKit Go.Sort
open Go.Lib (digitVal decFrom)
set_option linter.unusedVariables false

theorem mapM_snoc {α β : Type} {f : α → Option β} {l : List α} {k : Nat} {xs : List β} {y : β} (hk : k < l.length) (h : (l.take k).mapM f = some xs) (hy : f l[k] = some y) : (l.take (k + 1)).mapM f = some (xs ++ [y]) := by
  rw [List.take_succ_eq_append_getElem hk, List.mapM_append, h]; simp [hy]
theorem mapM_none {α β : Type} {f : α → Option β} : ∀ {l : List α} {k : Nat} (hk : k < l.length), f l[k] = none → l.mapM f = none
  | x :: l, 0, _, h => by simp at h; simp [List.mapM_cons, h]
  | x :: l, k + 1, hk, h => by
    have ih := mapM_none (f := f) (l := l) (k := k) (by simpa using hk) (by simpa using h)
    rw [List.mapM_cons, ih]; cases f x <;> rfl
theorem readRoom_eq {l a : Txt} {ws : List Txt} (h : splitL 32 l = a :: ws) : readRoom l = (readN a).bind fun n => (ws.mapM readPace).bind fun ps => some (n, ps) := by unfold readRoom; rw [h]
theorem readHall_none {l : Txt} (h : (splitL 47 l).mapM readRoom = none) : readHall l = none := by unfold readHall; rw [h]; rfl
theorem readHall_some {l : Txt} {rs : List RoomV} (h : (splitL 47 l).mapM readRoom = some rs) (hb : hallB rs = true) : readHall l = some rs := by unfold readHall; rw [h]; simp [hb]
theorem readHall_bad {l : Txt} {rs : List RoomV} (h : (splitL 47 l).mapM readRoom = some rs) (hb : hallB rs = false) : readHall l = none := by unfold readHall; rw [h]; simp [hb]
theorem cell_two_new (w : World) (u u' : Value) (t : TypeId) : ∀ (j : Nat) (x : Value), ([u, u'] : List Value)[j]? = some x → (w.alloc (.cells #[u, u'] t)).cell? ((⟨w.heap.size, 0, none⟩ : Addr).add j) = some x := by
  intro j x h
  match j with
  | 0 => simp at h; subst h; simp [Addr.add]
  | 1 => simp at h; subst h; simp [Addr.add]
  | j + 2 => simp at h
theorem cell_two_at (w : World) (u u' : Value) (t : TypeId) (b : Nat) (hb : b = w.heap.size) : ∀ (j : Nat) (x : Value), ([u, u'] : List Value)[j]? = some x → (w.alloc (.cells #[u, u'] t)).cell? ((⟨b, 0, none⟩ : Addr).add j) = some x := by
  subst hb; exact cell_two_new w u u' t
/-- A pace is put to a row. -/
theorem PacesAt.push {B : Nat} {w w1 : World} {v v' : Value} {ps : List PaceV} {f k : Int} {o : Obj} (h : PacesAt B w v ps) (hB : B ≤ w.heap.size)
    (hown : w1.ownsRow B 138 2 v' (ps.length + 1) (pcells ps ++ [.int .i64 f, .int .i64 k])) (hg : (w.alloc o).grownBy w1 v.ownBlock) :
    PacesAt B w1 v' (ps ++ [(f, k)]) ∧ Below B w w1 := by
  refine ⟨?_, ((Below.refl B w).alloc hB o).grown hg (by simp; omega) (fun j e => (h.lt e).1)⟩
  unfold PacesAt
  simpa [pcells] using hown

/-- A pace is put to the row of a room that lies in block b: before and behind the store. -/
theorem rd_inner {b : Nat} {w w6 : World} {v v' : Value} {ps : List PaceV} {n f kk : Int} {o : Obj} (hp : PacesAt (b + 1) w v ps) (hsz : b + 1 ≤ w.heap.size)
    (hown : w6.ownsRow (b + 1) 138 2 v' (ps.length + 1) (pcells ps ++ [.int .i64 f, .int .i64 kk])) (hg : (w.alloc o).grownBy w6 v.ownBlock)
    (c0 : w.cell? ⟨b, 0, none⟩ = some (.int .i64 n)) (c1 : w.cell? ⟨b, 1, none⟩ = some v) (c2 : w.frozen? ⟨b, 1, none⟩ = false) :
    ∃ a cap, v' = .slice a (ps.length + 1) cap ∧ w6.cell? ⟨b, 1, none⟩ = some v ∧ w6.frozen? ⟨b, 1, none⟩ = false ∧
      Hid ((w6.setCell ⟨b, 1, none⟩ v').cell? ⟨b, 0, none⟩ = some (.int .i64 n) ∧ (w6.setCell ⟨b, 1, none⟩ v').cell? ⟨b, 1, none⟩ = some v' ∧ (w6.setCell ⟨b, 1, none⟩ v').frozen? ⟨b, 1, none⟩ = false ∧
        PacesAt (b + 1) (w6.setCell ⟨b, 1, none⟩ v') v' (ps ++ [(f, kk)]) ∧ Below b w (w6.setCell ⟨b, 1, none⟩ v') ∧ b + 1 ≤ (w6.setCell ⟨b, 1, none⟩ v').heap.size) := by
  obtain ⟨hpa, hbl⟩ := hp.push hsz hown hg
  obtain ⟨a, cap, hsh⟩ := hpa.shape
  have d0 := (hbl.cell (p := ⟨b, 0, none⟩) (by show b < b + 1; omega)).trans c0
  have d1 := (hbl.cell (p := ⟨b, 1, none⟩) (by show b < b + 1; omega)).trans c1
  have d2 := (hbl.frozen (p := ⟨b, 1, none⟩) (by show b < b + 1; omega)).trans c2
  refine ⟨a, cap, by simpa using hsh, d1, d2, ?_⟩
  refine ⟨?_, ?_, ?_, ?_, ?_, ?_⟩
  · rw [World.cell?_setCell_other _ _ _ _ (by simp)]; exact d0
  · exact World.cell?_setCell_same _ _ _ d1
  · rw [World.frozen?_setCell]; exact d2
  · exact own_same hpa (fun q e => Below.heap_setCell w6 ⟨b, 1, none⟩ v' q (by have := (hpa.lt e).1; show q ≠ b; omega))
  · have hb0 : Below b w w6 := hbl.mono (Nat.le_succ b)
    exact hb0.setCell (Nat.le_refl b) v'
  · have := hbl.size; simp; omega

/-- A room is put to the rooms that lie behind block b: before and behind the store. -/
theorem rd_outer {b n₀ : Nat} {w w6 : World} {v v' pv : Value} {qs : List (RoomV × Value)} {ps : List PaceV} {n : Int} {o : Obj} (h : OwnHall n₀ w v qs) (hp : PacesAt n₀ w pv ps)
    (hoff : ∀ b, pv.ownBlock = some b → v.ownBlock ≠ some b) (hap : ∀ q ∈ qs, ∀ b, q.2.ownBlock = some b → pv.ownBlock ≠ some b)
    (hown : w6.ownsRow n₀ 95 2 v' (qs.length + 1) (rcells qs ++ [.int .i64 n, pv])) (hg : (w.alloc o).grownBy w6 v.ownBlock) (hat : v'.ownBlock = v.ownBlock ∨ v'.ownBlock = some (w.alloc o).heap.size)
    (hb : b < n₀) (hsz : n₀ ≤ w.heap.size) (c1 : w.cell? ⟨b, 0, none⟩ = some v) (c2 : w.frozen? ⟨b, 0, none⟩ = false) :
    ∃ a cap, v' = .slice a (qs.length + 1) cap ∧ w6.cell? ⟨b, 0, none⟩ = some v ∧ w6.frozen? ⟨b, 0, none⟩ = false ∧
      Hid ((w6.setCell ⟨b, 0, none⟩ v').cell? ⟨b, 0, none⟩ = some v' ∧ (w6.setCell ⟨b, 0, none⟩ v').frozen? ⟨b, 0, none⟩ = false ∧
        OwnHall n₀ (w6.setCell ⟨b, 0, none⟩ v') v' (qs ++ [((n, ps), pv)]) ∧ Below n₀ w w6) := by
  have hpush := h.push hp hoff hap hown hg hat
  have hbl : Below n₀ w w6 := ((Below.refl n₀ w).alloc hsz o).grown hg (by simp; omega) (fun j e => (h.lt (.inl e)).1)
  obtain ⟨a, cap, hsh⟩ := hpush.shape
  have d1 := (hbl.cell (p := ⟨b, 0, none⟩) hb).trans c1
  have d2 := (hbl.frozen (p := ⟨b, 0, none⟩) hb).trans c2
  refine ⟨a, cap, by simpa using hsh, d1, d2, ?_, ?_, ?_, hbl⟩
  · exact World.cell?_setCell_same _ _ _ d1
  · rw [World.frozen?_setCell]; exact d2
  · exact hpush.same (fun k h0 hk => Below.heap_setCell w6 ⟨b, 0, none⟩ v' k (by show k ≠ b; omega))

end Go.Proofs.YtmhagllddhjgmaaGreat

