/- MixBrines: the model's and the program's. -/
import Derived.Test.YtbbnbkdglihhhaaIBrine3
namespace Go.Proofs.Ytbbnbkdglihhhaa.Mix
open Go.RowKit Go.Proofs.Ytbbnbkdglihhhaa.Mem Go.Proofs.Ytbbnbkdglihhhaa.Base Go.Proofs.Ytbbnbkdglihhhaa.Brine Go.Proofs.Ytbbnbkdglihhhaa.Brine2 Go.Proofs.Ytbbnbkdglihhhaa.Regn Go.Proofs.Ytbbnbkdglihhhaa.Boxes Go.Proofs.Ytbbnbkdglihhhaa.IBrine
set_option linter.unusedVariables false
set_option maxRecDepth 100000
def okr (x : R) : Bool := okB x.f0 x.f1
def sw (l : List R) : Int := (l.map (·.f0)).sum
def ss (l : List R) : Int := (l.map (·.f1)).sum
def mixOk (l : List R) : Bool := decide (l.length ≤ 20) && (l.all okr && okB (sw l) (ss l))
def mixV (l : List R) : Value := if mixOk l = true then .tuple #[br (sw l) (ss l), .bool true] else .tuple #[br 0 0, .bool false]
theorem mix_no {l : List R} (h : mixOk l = false) : mixV l = .tuple #[br 0 0, .bool false] := by unfold mixV; rw [h]; rfl
theorem mix_yes {l : List R} (h : mixOk l = true) : mixV l = .tuple #[br (sw l) (ss l), .bool true] := by unfold mixV; rw [if_pos h]
theorem sw_snoc (l : List R) (k : Nat) (h : k < l.length) : sw (l.take (k + 1)) = sw (l.take k) + l[k].f0 := by
  unfold sw; rw [List.take_succ_eq_append_getElem h, List.map_append, List.sum_append]; simp
theorem ss_snoc (l : List R) (k : Nat) (h : k < l.length) : ss (l.take (k + 1)) = ss (l.take k) + l[k].f1 := by
  unfold ss; rw [List.take_succ_eq_append_getElem h, List.map_append, List.sum_append]; simp
theorem bound (l : List R) (h : l.all okr = true) : 0 ≤ sw l ∧ sw l ≤ 1000000 * l.length ∧ 0 ≤ ss l ∧ ss l ≤ 1000000 * l.length := by
  induction l with
  | nil => simp [sw, ss]
  | cons x l ih =>
    rw [List.all_cons, Bool.and_eq_true] at h
    have h1 := okB_true h.1
    have h2 := ih h.2
    simp only [sw, ss, List.map_cons, List.sum_cons, List.length_cons] at *
    omega
/-- what is known behind k rounds. -/
structure Upto (l : List R) (k : Nat) (x y : Int) : Prop where
  all : (l.take k).all okr = true
  w : x = sw (l.take k)
  s : y = ss (l.take k)
theorem Upto.bd {l : List R} {k : Nat} {x y : Int} (h : Upto l k x y) (hk : k ≤ 20) : 0 ≤ x ∧ x ≤ 20000000 ∧ 0 ≤ y ∧ y ≤ 20000000 := by
  have := bound _ h.all
  have hl : (l.take k).length ≤ k := List.length_take_le _ _
  rw [h.w, h.s]; omega
theorem Upto.next {l : List R} {k : Nat} {x y : Int} (h : Upto l k x y) (hk : k < l.length) (ho : okr l[k] = true) : Upto l (k + 1) (x + l[k].f0) (y + l[k].f1) :=
  ⟨by rw [all_snoc l k hk okr h.all]; exact ho, by rw [sw_snoc l k hk, h.w], by rw [ss_snoc l k hk, h.s]⟩
theorem Upto.end {l : List R} {k : Nat} {x y : Int} (h : Upto l k x y) (hk : l.length ≤ k) : l.all okr = true ∧ x = sw l ∧ y = ss l := by
  have := h.all; have h1 := h.w; have h2 := h.s
  rw [List.take_of_length_le hk] at this h1 h2
  exact ⟨this, h1, h2⟩
theorem bad {l : List R} {k : Nat} (hk : k < l.length) (ho : okr l[k] = false) : mixOk l = false := by
  unfold mixOk; rw [not_all l k hk okr ho]; simp
theorem big {l : List R} (h : 20 < l.length) : mixOk l = false := by
  unfold mixOk; rw [decide_eq_false (by omega)]; rfl
theorem last {l : List R} {k : Nat} {x y : Int} (h : Upto l k x y) (hk : l.length ≤ k) (hl : l.length ≤ 20) : mixOk l = okB x y := by
  obtain ⟨h1, rfl, rfl⟩ := h.end hk
  unfold mixOk; rw [h1, decide_eq_true hl]; rfl

end Go.Proofs.Ytbbnbkdglihhhaa.Mix
