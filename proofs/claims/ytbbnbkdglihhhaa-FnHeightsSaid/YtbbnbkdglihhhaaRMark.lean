/- Results ([]Mark, bool), and rows of marks that grow or are written. -/
import Derived.Test.YtbbnbkdglihhhaaMClone
import Derived.Test.YtbbnbkdglihhhaaTide3
namespace Go.Proofs.Ytbbnbkdglihhhaa.RMark
open Go.RowKit Go.Proofs.Ytbbnbkdglihhhaa.Mem Go.Proofs.Ytbbnbkdglihhhaa.Base Go.Proofs.Ytbbnbkdglihhhaa.SMark Go.Proofs.Ytbbnbkdglihhhaa.Boxes Go.Proofs.Ytbbnbkdglihhhaa.Keep Go.Proofs.Ytbbnbkdglihhhaa.MClone
set_option linter.unusedVariables false
set_option maxRecDepth 100000
def MPost (L : List R) (q : Bool) (w : World) (e : Ending) (w' : World) : Prop :=
  ∃ A c, e = .returned (.tuple #[.slice A L.length c, .bool q]) ∧ w'.ownsRow w.heap.size 95 2 (.slice A L.length c) L.length (flat L) ∧ Below w.heap.size w w'
theorem m_mk {L M : List R} {q r : Bool} {w w' : World} {A : Option Addr} {c : Nat} {v : Value} (hL : L = M) (hq : q = r) (h : v = .tuple #[.slice A M.length c, .bool r])
    (ho : w'.ownsRow w.heap.size 95 2 (.slice A M.length c) M.length (flat M)) (hB : Below w.heap.size w w') : MPost L q w (.returned v) w' := by
  subst hL; subst hq; exact ⟨A, c, by rw [h], ho, hB⟩
theorem flat_snoc (l : List R) (x : R) : flat (l ++ [x]) = flat l ++ [.int .i64 x.f0, .int .i64 x.f1] := by unfold flat; rw [List.flatMap_append]; simp [R.cells]
theorem new2 (V : World) (x : R) : ∀ j u, ([.int .i64 x.f0, .int .i64 x.f1] : List Value)[j]? = some u → (V.alloc (.cells #[.int .i64 x.f0, .int .i64 x.f1] 95)).cell? (Addr.add ⟨V.heap.size, 0, none⟩ j) = some u := by
  intro j u hu
  rw [cell_add, Nat.zero_add]
  exact (Box.new (w := V) (Below.refl _ _) [.int .i64 x.f0, .int .i64 x.f1] 95 rfl).cells j u hu
theorem one2 (x : R) : ∀ u ∈ ([.int .i64 x.f0, .int .i64 x.f1] : List Value), u.oneCell' = true := by
  intro u hu; simp at hu; rcases hu with rfl | rfl <;> rfl
theorem row_app {w : World} {base : Nat} {A1 : Option Addr} {c1 : Nat} {L : List R} {x : R} (h : w.ownsRow base 95 2 (.slice A1 (L.length + 1) c1) (L.length + 1) (flat L ++ [.int .i64 x.f0, .int .i64 x.f1])) :
    w.ownsRow base 95 2 (.slice A1 (L ++ [x]).length c1) (L ++ [x]).length (flat (L ++ [x])) := by
  rw [flat_snoc, List.length_append]; exact h
theorem set_same {α : Type} (l : List α) (i : Nat) (v : α) (h : l[i]? = some v) : l.set i v = l := by
  apply List.ext_getElem?
  intro j
  rw [List.getElem?_set]
  split
  · rename_i hij; subst hij
    have : i < l.length := (List.getElem?_eq_some_iff.1 h).1
    rw [if_pos this, h]
  · rfl
theorem flat_set1 (l : List R) (k : Nat) (v : Int) (h : k < l.length) : (flat l).set (k * 2 + 1) (.int .i64 v) = flat (l.set k ⟨l[k].f0, v⟩) := by
  have := flat_set l k ⟨l[k].f0, v⟩ h
  rw [set_same (flat l) (k * 2) (.int .i64 l[k].f0) (flat_0 l k h)] at this
  exact this
end Go.Proofs.Ytbbnbkdglihhhaa.RMark
