/- The laws' helpers over []int. -/
import Derived.Test.YtknlgdahcfgbeaaBase
import Derived.Deep.QuietTactic
import Derived.BigQuiet
import Derived.WalkLawsBesides
import Derived.WalkSpells
import Derived.StillTailTactics
namespace Go.Proofs.Ytknlgdahcfgbeaa.SInt
open Go.RowKit Go.Proofs.Ytknlgdahcfgbeaa.Mem Go.Proofs.Ytknlgdahcfgbeaa.Base
set_option linter.unusedVariables false
def iv (l : List Int) : List Value := l.map (Value.int .i64)
theorem iv_len (l : List Int) : (iv l).length = l.length := by simp [iv]
theorem iv_get (l : List Int) (k : Nat) (h : k < l.length) : (iv l)[k]? = some (.int .i64 l[k]) := by simp [iv, h]
/-- what marking from k on leaves. -/
def marks (k : Int) (m : Nat) : List Int := (List.range m).map fun i : Nat => k + (i : Int)
theorem marks_len (k : Int) (m : Nat) : (marks k m).length = m := by simp [marks]
theorem marks_get (k : Int) (m i : Nat) (h : i < (marks k m).length) : (marks k m)[i] = k + i := by simp [marks]
def part (l : List Int) (k : Int) (i : Nat) : List Int := marks k i ++ l.drop i
theorem part_zero (l : List Int) (k : Int) : part l k 0 = l := by simp [part, marks]
theorem part_full (l : List Int) (k : Int) : part l k l.length = marks k l.length := by simp [part]
theorem part_len (l : List Int) (k : Int) (i : Nat) (h : i ≤ l.length) : (part l k i).length = l.length := by simp [part, marks]; omega
theorem part_set (l : List Int) (k : Int) (i : Nat) (h : i < l.length) : (part l k i).set i (k + i) = part l k (i + 1) := by
  unfold part
  rw [List.set_append_right _ _ (by rw [marks_len]; exact Nat.le_refl _), marks_len, Nat.sub_self, List.drop_eq_getElem_cons h, List.set_cons_zero]
  simp [marks, List.range_succ]
end Go.Proofs.Ytknlgdahcfgbeaa.SInt
