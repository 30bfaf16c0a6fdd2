/- Contracts of the laws' helpers over slices of strings. -/
import Derived.Test.YtngominkeammiaaMem
import Derived.Deep.QuietTactic
import Derived.BigQuiet
import Derived.WalkLawsBesides
import Derived.WalkSpells
namespace Go.Proofs.Ytngominkeammiaa.Strs
open Go.RowKit Go.Proofs.Ytngominkeammiaa.Mem
set_option linter.unusedVariables false

def tot (ss : List ByteArray) : Int := ((ss.map ByteArray.size).sum : Nat)
theorem tot_nonneg (ss : List ByteArray) : 0 ≤ tot ss := by unfold tot; omega
theorem tot_snoc (ss : List ByteArray) (k : Nat) (h : k < ss.length) : tot (ss.take (k + 1)) = tot (ss.take k) + ss[k].size := by
  unfold tot
  rw [List.take_succ_eq_append_getElem h, List.map_append, List.sum_append]; simp
theorem tot_le (ss : List ByteArray) (k : Nat) (h : k < ss.length) : (ss[k].size : Int) ≤ tot ss := by
  have h1 := tot_snoc ss k h
  have h2 : tot ss = tot (ss.take (k+1)) + tot (ss.drop (k+1)) := by
    unfold tot
    conv => lhs; rw [← List.take_append_drop (k+1) ss]
    rw [List.map_append, List.sum_append]; omega
  have := tot_nonneg (ss.take k); have := tot_nonneg (ss.drop (k+1)); omega

def strv (ss : List ByteArray) : List Value := ss.map Value.string
theorem strv_len (ss : List ByteArray) : (strv ss).length = ss.length := by simp [strv]
theorem strv_get (ss : List ByteArray) (k : Nat) (h : k < ss.length) : (strv ss)[k]? = some (.string ss[k]) := by simp [strv, h]

theorem rd_strs {w : World} {a : Addr} {ss : List ByteArray} {len : Nat} (hl : len ≤ ss.length) (hcell : ∀ i, i < ss.length → w.cell? (a.add i) = some (.string (ss.getD i ByteArray.empty))) :
    Rd w w.heap.size (some a) (strv (ss.take len)) := by
  apply Rd.of_cells
  intro j v hv
  have hj : j < (strv (ss.take len)).length := by
    rcases Nat.lt_or_ge j (strv (ss.take len)).length with h | h
    · exact h
    · rw [List.getElem?_eq_none h] at hv; cases hv
  have hj' : j < ss.length := by rw [strv_len, List.length_take] at hj; omega
  have := hcell j hj'
  rw [this]
  rw [← hv]
  simp only [strv, List.getElem?_map]
  rw [List.getElem?_take, if_pos (by rw [strv_len, List.length_take] at hj; omega), List.getElem?_eq_getElem hj']
  simp [List.getD, List.getElem?_eq_getElem hj']

def SzPost (ss : List ByteArray) (left : Int) (w : World) (e : Ending) (w' : World) : Prop :=
  ∃ r : Int, e = .returned (.int .i64 r) ∧ (r = -1 ∨ (0 ≤ r ∧ r + ss.length + tot ss = left)) ∧ w = w'




end Go.Proofs.Ytngominkeammiaa.Strs
