/- A map[int]bool that the call makes: the set of the numbers put into it. -/
import Derived.Test.YtncdkfkihfhcgaaKeep
import Derived.Maps.Own
import Derived.Maps.OwnOps
import Derived.Maps.OwnSet
import Derived.Maps.Views
namespace Go.Proofs.Ytncdkfkihfhcgaa.SetMap
open Go.RowKit Go.Maps Go.Proofs.Ytncdkfkihfhcgaa.Mem
set_option linter.unusedVariables false
theorem keyI : Keyed Try.prog 3 := int_keyed Try.underlying3
theorem zeroB (w : World) : (zeroValue 4).run Try.prog w = .ok (.bool false) w := by kernel_rfl
/-- the map at block b, of at most n entries, says true of these numbers alone. -/
def Holds (w : World) (b n : Nat) (ids : List Int) : Prop :=
  ∃ D : DataW Unit, w.ownsMap Try.prog 3 (plainElem Try.prog 4) b n D ∧ ∀ x : Int, D.atKey (.int .i64 x) (.lit (.bool false)) = .lit (.bool (decide (x ∈ ids)))
theorem Holds.made (w : World) : Holds (w.alloc (.map #[] 0)) w.heap.size 0 [] := ⟨.map [], World.ownsMap_made _ _ _ _, fun x => by simp [DataW.atKey]⟩
theorem Holds.put {w : World} {b n : Nat} {D : DataW Unit} {ids : List Int} (h : w.ownsMap Try.prog 3 (plainElem Try.prog 4) b n D) (hD : ∀ x : Int, D.atKey (.int .i64 x) (.lit (.bool false)) = .lit (.bool (decide (x ∈ ids)))) (y : Int) :
    ∀ x : Int, (D.put (.int .i64 y) (.lit (.bool true))).atKey (.int .i64 x) (.lit (.bool false)) = .lit (.bool (decide (x ∈ ids ++ [y]))) := by
  intro x
  by_cases e : x = y
  · subst e
    rw [atKey_put_same (k := .int .i64 x) h.isMap (show WideAt.IsKeyLit (.int .i64 x) from trivial)]
    simp
  · rw [atKey_put_other (by intro h; injection h with h1 h2; exact e h2), hD]
    simp [e]
theorem wpList_look (w : World) {ops : Array Oper} {rest : List Oper} {o : Oper} {a : Act} {Q : Exit → Act → World → Prop}
    (hg : o.guard = none) (m x : Operand) (hop : o.op = Op.lookup 48 m x false) (b n : Nat) (ids : List Int) (hm : a.eval m = .map (some b)) (hh : Holds w b n ids) (y : Int) (hx : a.eval x = .int .i64 y) (hw : (Lit.int .i64 y).wf = true)
    (hK : wpList Try.prog ops Q rest (a.put o.dst (.bool (decide (y ∈ ids)))) w) : wpList Try.prog ops Q (o :: rest) a w := by
  refine wpList_plain hg fun K' hK' => ?_
  obtain ⟨D, hown, hD⟩ := hh
  obtain ⟨v, ps, hrun, hv⟩ := hown.lookup keyI Try.underlying48 (zeroB w) (plainElem_bool Try.underlying4 false) (keyOf_int_mk Try.underlying3 hw)
  rw [hD] at hv
  have hv' : v = .bool (decide (y ∈ ids)) := by
    unfold plainElem at hv
    rw [Try.underlying4] at hv
    cases v <;> simp at hv
    rw [hv.1]
  subst hv'
  unfold Oper.wp
  simp [execOp, hop, hm, hx, hrun, Result.andThen]
  exact hK' _ _ hK
theorem wpList_store (w : World) {ops : Array Oper} {rest : List Oper} {o : Oper} {a : Act} {Q : Exit → Act → World → Prop}
    (hg : o.guard = none) (m x v : Operand) (hop : o.op = Op.mapUpdate 48 m x v ∨ o.op = Op.insert 48 m x v) (b n : Nat) (ids : List Int) (hm : a.eval m = .map (some b)) (hh : Holds w b n ids) (hn : n < maxLen) (y : Int) (hx : a.eval x = .int .i64 y) (hv : a.eval v = .bool true) (hw : (Lit.int .i64 y).wf = true)
    (hK : ∀ w', Holds w' b (n + 1) (ids ++ [y]) → w.grownBy w' (some b) → wpList Try.prog ops Q rest (a.put o.dst undef) w') : wpList Try.prog ops Q (o :: rest) a w := by
  refine wpList_plain hg fun K' hK' => ?_
  obtain ⟨D, hown, hD⟩ := hh
  obtain ⟨w', hrun, h1, h2⟩ := hown.update keyI Try.underlying48 hn (keyOf_int_mk Try.underlying3 hw) (plainElem_bool Try.underlying4 true)
  have hH : Holds w' b (n + 1) (ids ++ [y]) := ⟨_, h1, Holds.put hown hD y⟩
  rcases hop with hop | hop <;>
  · unfold Oper.wp
    simp [execOp, hop, hm, hx, hv, hrun, Result.andThen]
    exact hK' _ _ (hK w' hH h2)
theorem Holds.keep {w w' : World} {b n : Nat} {ids : List Int} (hh : Holds w b n ids) (hb : Below w.heap.size w w') : Holds w' b n ids := by
  obtain ⟨D, hown, hD⟩ := hh
  have hlt := hown.lt
  obtain ⟨es, clock, hbk, F, hs, hE⟩ := hown
  exact ⟨D, ⟨es, clock, (hb.block b hlt).trans hbk, F, hs, hE⟩, hD⟩
theorem Holds.grown {w w' : World} {b n : Nat} {ids : List Int} {row : Option Nat} (hh : Holds w b n ids) (hg : w.grownBy w' row) (hne : some b ≠ row) : Holds w' b n ids := by
  obtain ⟨D, hown, hD⟩ := hh
  exact ⟨D, hown.kept hg hne, hD⟩
end Go.Proofs.Ytncdkfkihfhcgaa.SetMap
