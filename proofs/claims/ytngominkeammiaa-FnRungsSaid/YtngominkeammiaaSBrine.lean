/- The laws' helpers over Brine: a struct of 2 ints, by value and in slices. Made by tools/gen_struct.py. -/
import Derived.Test.YtngominkeammiaaBase
import Derived.Deep.QuietTactic
import Derived.BigQuiet
import Derived.WalkLawsBesides
import Derived.WalkSpells
import Derived.StillTailTactics
namespace Go.Proofs.Ytngominkeammiaa.SBrine
open Go.RowKit Go.Proofs.Ytngominkeammiaa.Mem Go.Proofs.Ytngominkeammiaa.Base
set_option linter.unusedVariables false

structure R where
  f0 : Int
  f1 : Int
  deriving DecidableEq
def R.cells (x : R) : List Value := [.int .i64 x.f0, .int .i64 x.f1]
def R.val (x : R) : Value := .agg #[.int .i64 x.f0, .int .i64 x.f1]
def flat (l : List R) : List Value := l.flatMap R.cells
theorem flat_n (l : List R) : (flat l).length = l.length * 2 := flat_len R.cells 2 (fun _ => rfl) l
theorem flat_0 (l : List R) (i : Nat) (h : i < l.length) : (flat l)[i * 2]? = some (.int .i64 l[i].f0) := flat_get R.cells 2 (fun _ => rfl) l i 0 h (by omega)
theorem flat_1 (l : List R) (i : Nat) (h : i < l.length) : (flat l)[i * 2 + 1]? = some (.int .i64 l[i].f1) := flat_get R.cells 2 (fun _ => rfl) l i 1 h (by omega)
def zero : R := ⟨0, 0⟩
theorem flat_set (l : List R) (k : Nat) (x : R) (h : k < l.length) : (((flat l).set (k * 2) (.int .i64 x.f0)).set (k * 2 + 1) (.int .i64 x.f1)) = flat (l.set k x) := by
  refine flat_ext R.cells 2 (fun _ => rfl) _ _ (by simp [flat_n]) fun i j hi hj => ?_
  have hi' : i < l.length := by simpa using hi
  have hb := flat_get R.cells 2 (fun _ => rfl) l i j hi' hj
  by_cases hik : i = k
  · subst hik
    have hlen := flat_n l
    have hi2 : i * 2 + 2 ≤ l.length * 2 := by have := Nat.mul_le_mul_right 2 (show i + 1 ≤ l.length by omega); rw [Nat.succ_mul] at this; exact this
    rw [List.getElem_set_self]
    match j, hj with
    | 0, _ => simp [List.getElem?_set, R.cells, hlen]; omega
    | 1, _ => simp [List.getElem?_set, R.cells, hlen]; omega
  · rw [List.getElem_set_ne (fun e => hik e.symm), ← hb]
    have hne : ∀ q, q < 2 → ¬ (k * 2 + q = i * 2 + j) := fun q hq e => hik (idx_inj hq hj e)
    rw [List.getElem?_set_ne (by have := hne 1 (by omega); omega), List.getElem?_set_ne (by have := hne 0 (by omega); omega)]
    rfl
theorem made (m : Nat) : (madeCells (R.val zero).cells (m * 2)).toList = flat (List.replicate m zero) := by
  refine flat_ext R.cells 2 (fun _ => rfl) _ _ (by simp [size_madeCells]) fun i j hi hj => ?_
  have hi' : i < m := by simpa using hi
  have hlt : i * 2 + j < m * 2 := by have := Nat.mul_le_mul_right 2 (show i + 1 ≤ m by omega); rw [Nat.succ_mul] at this; omega
  rw [List.getElem_replicate, made_get (R.val zero).cells 2 (m * 2) i j rfl hj hlt]
  simp [R.val, R.cells, Value.cells]
def R.wf (x : R) : Prop := (Lit.int .i64 x.f0).wf = true ∧ (Lit.int .i64 x.f1).wf = true
theorem of_cells {w : World} {a : Addr} {len : Nat} (h : ∀ i, i < len → ∀ j, j < 2 → ∃ q : Int, w.cell? (a.add (i * 2 + j)) = some (.int .i64 q) ∧ (Lit.int .i64 q).wf = true) :
    ∃ l : List R, l.length = len ∧ Rd w w.heap.size (some a) (flat l) ∧ ∀ x ∈ l, x.wf := by
  have h' : ∀ i, ∃ x : R, i < len → (∀ j v, x.cells[j]? = some v → w.cell? (a.add (i * 2 + j)) = some v) ∧ x.wf := by
    intro i
    by_cases hi : i < len
    · obtain ⟨q0, c0, v0⟩ := h i hi 0 (by omega)
      obtain ⟨q1, c1, v1⟩ := h i hi 1 (by omega)
      refine ⟨⟨q0, q1⟩, fun _ => ⟨fun j v hv => ?_, v0, v1⟩⟩
      have hj : j < 2 := by
        rcases Nat.lt_or_ge j 2 with h1 | h1
        · exact h1
        · rw [List.getElem?_eq_none (by exact h1)] at hv; cases hv
      match j, hj, hv with
      | 0, _, hv => injection hv with hv; subst hv; exact c0
      | 1, _, hv => injection hv with hv; subst hv; exact c1
    · exact ⟨zero, fun h1 => absurd h1 hi⟩
  obtain ⟨f, hf⟩ := Classical.axiomOfChoice h'
  refine ⟨(List.range len).map f, by simp, Rd.of_cells fun j v hv => ?_, fun x hx => ?_⟩
  · have hjl : j < ((List.range len).map f).length * 2 := by
      rcases Nat.lt_or_ge j (((List.range len).map f).length * 2) with h1 | h1
      · exact h1
      · rw [List.getElem?_eq_none (by rw [flat_n]; exact h1)] at hv; cases hv
    have e : j / 2 * 2 + j % 2 = j := Nat.div_add_mod' j 2
    have hi : j / 2 < ((List.range len).map f).length := by omega
    have h2 := flat_get R.cells 2 (fun _ => rfl) ((List.range len).map f) (j / 2) (j % 2) hi (Nat.mod_lt _ (by omega))
    rw [e] at h2
    have h3 : (flat ((List.range len).map f))[j]? = _ := h2
    rw [h3] at hv
    have h4 := (hf (j / 2) (by simpa using hi)).1 (j % 2) v (by simpa using hv)
    rwa [e] at h4
  · obtain ⟨i, hi, rfl⟩ := List.mem_map.1 hx
    exact (hf i (List.mem_range.1 hi)).2

/-- returned with this value, only new memory. -/
def RPost (v : Value) (w : World) (e : Ending) (w' : World) : Prop := e = .returned v ∧ Below w.heap.size w w'
def same (x y : R) : Bool := decide (x = y)
theorem same_self (x : R) : same x x = true := decide_eq_true rfl
theorem same_ne {x y : R} (h : x ≠ y) : same x y = false := decide_eq_false h
theorem rpost {v u : Value} {w w' : World} (h : u = v) (hw : Below w.heap.size w w') : RPost v w (.returned u) w' := ⟨by rw [h], hw⟩
theorem to_any (x : R) (w : World) : Calls Try.prog 53 #[.agg #[.int .i64 x.f0, .int .i64 x.f1]] w (RPost x.val w) := by
  go_enter Try.func53, Try.ntmps53
  go_wp2
  exact bodyPost_ret (v := .agg #[.int .i64 x.f0, .int .i64 x.f1]) (by simp [results, Try.results53, go_sem]) rfl (rpost rfl (al (al (al (Below.refl _ _)))))
set_option maxHeartbeats 400000 in
theorem eq_any (x y : R) (w : World) : Calls Try.prog 92 #[.agg #[.int .i64 x.f0, .int .i64 x.f1], .agg #[.int .i64 y.f0, .int .i64 y.f1]] w (RPost (.bool (same x y)) w) := by
  obtain ⟨a0, a1⟩ := x
  obtain ⟨b0, b1⟩ := y
  by_cases h0 : a0 = b0
  · subst h0
    by_cases h1 : a1 = b1
    · subst h1
      have HD := Lib.hid (same_self ⟨a0, a1⟩)
      dsimp only
      go_enter Try.func92, Try.ntmps92
      go_wp2
      go_ret
      exact rpost (by rw [HD.out]; rfl) (al (al (Below.refl _ _)))
    · have HD := Lib.hid (same_ne (x := ⟨a0, a1⟩) (y := ⟨a0, b1⟩) (fun e => by injection e; contradiction))
      have hne : (a1 != b1) = true := by rw [bne_iff_ne]; exact h1
      dsimp only
      go_enter Try.func92, Try.ntmps92
      go_wp2
      go_ret
      exact rpost (by rw [HD.out]; rfl) (al (al (Below.refl _ _)))
  · have HD := Lib.hid (same_ne (x := ⟨a0, a1⟩) (y := ⟨b0, b1⟩) (fun e => by injection e; contradiction))
    have hne : (a0 != b0) = true := by rw [bne_iff_ne]; exact h0
    dsimp only
    go_enter Try.func92, Try.ntmps92
    go_wp2
    go_ret
    exact rpost (by rw [HD.out]; rfl) (al (al (Below.refl _ _)))
/-- what marking from k on leaves. -/
def mk (k : Int) (i : Nat) : R := ⟨k + i * 2, k + i * 2 + 1⟩
def marks (k : Int) (m : Nat) : List R := (List.range m).map (mk k)
theorem marks_len (k : Int) (m : Nat) : (marks k m).length = m := by simp [marks]
theorem marks_get (k : Int) (m i : Nat) (h : i < (marks k m).length) : (marks k m)[i] = mk k i := by simp [marks]
def part (l : List R) (k : Int) (i : Nat) : List R := marks k i ++ l.drop i
theorem part_zero (l : List R) (k : Int) : part l k 0 = l := by simp [part, marks]
theorem part_full (l : List R) (k : Int) : part l k l.length = marks k l.length := by simp [part]
theorem part_len (l : List R) (k : Int) (i : Nat) (h : i ≤ l.length) : (part l k i).length = l.length := by simp [part, marks]; omega
theorem part_set (l : List R) (k : Int) (i : Nat) (h : i < l.length) : (part l k i).set i (mk k i) = part l k (i + 1) := by
  unfold part
  rw [List.set_append_right _ _ (by rw [marks_len]; exact Nat.le_refl _), marks_len, Nat.sub_self, List.drop_eq_getElem_cons h, List.set_cons_zero]
  simp [marks, List.range_succ]
end Go.Proofs.Ytngominkeammiaa.SBrine
