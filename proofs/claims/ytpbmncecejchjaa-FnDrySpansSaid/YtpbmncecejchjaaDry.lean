/- Dry spans, as plain functions. -/
import Derived.Test.YtpbmncecejchjaaShw
import Derived.Test.YtpbmncecejchjaaSPair
import Derived.Test.YtpbmncecejchjaaSunA
namespace Go.Proofs.Ytpbmncecejchjaa.Dry
open Go.RowKit Go.Proofs.Ytpbmncecejchjaa.Mem Go.Proofs.Ytpbmncecejchjaa.Base Go.Proofs.Ytpbmncecejchjaa.Shw
set_option linter.unusedVariables false
abbrev R := SShower.R
abbrev Q := SPair.R
def spans : List R → Int → Int → List Q
  | [], f, t => if f ≤ t then [⟨f, t⟩] else []
  | x :: l, f, t => if inB x.f0 f t = true then (if f < x.f0 then [⟨f, x.f0 - 1⟩] else []) ++ spans l (x.f0 + 1) t else spans l f t
theorem spans_end {l : List R} {k : Nat} {f t : Int} (h : l.length ≤ k) : spans (l.drop k) f t = if f ≤ t then [⟨f, t⟩] else [] := by rw [List.drop_eq_nil_of_le h]; rfl
theorem spans_drop {l : List R} {k : Nat} {x : R} {f t : Int} (h : k < l.length) (hx : l[k] = x) : spans (l.drop k) f t = if inB x.f0 f t = true then (if f < x.f0 then [⟨f, x.f0 - 1⟩] else []) ++ spans (l.drop (k + 1)) (x.f0 + 1) t else spans (l.drop (k + 1)) f t := by
  rw [List.drop_eq_getElem_cons h, hx]; rfl
theorem spans_skip {l : List R} {k : Nat} {x : R} {f t : Int} (h : k < l.length) (hx : l[k] = x) (hi : inB x.f0 f t = false) : spans (l.drop (k + 1)) f t = spans (l.drop k) f t := by
  rw [spans_drop h hx, hi]; simp
theorem spans_gap {l : List R} {k : Nat} {x : R} {f t : Int} (h : k < l.length) (hx : l[k] = x) (hi : inB x.f0 f t = true) (hg : f < x.f0) : spans (l.drop k) f t = ⟨f, x.f0 - 1⟩ :: spans (l.drop (k + 1)) (x.f0 + 1) t := by
  rw [spans_drop h hx, if_pos hi, if_pos hg]; rfl
theorem spans_no {l : List R} {k : Nat} {x : R} {f t : Int} (h : k < l.length) (hx : l[k] = x) (hi : inB x.f0 f t = true) (hg : ¬ f < x.f0) : spans (l.drop k) f t = spans (l.drop (k + 1)) (x.f0 + 1) t := by
  rw [spans_drop h hx, if_pos hi, if_neg hg]; rfl
theorem spans_len : ∀ (l : List R) (f t : Int), (spans l f t).length ≤ l.length + 1 := by
  intro l
  induction l with
  | nil => intro f t; unfold spans; split <;> simp
  | cons x l ih =>
    intro f t
    unfold spans
    split
    · have := ih (x.f0 + 1) t
      split <;> simp <;> omega
    · have := ih f t
      simp; omega
theorem spans_bd : ∀ (l : List R) (f t : Int), ∀ q ∈ spans l f t, f ≤ q.f0 ∧ q.f0 ≤ q.f1 ∧ q.f1 ≤ t := by
  intro l
  induction l with
  | nil =>
    intro f t q hq
    unfold spans at hq
    split at hq
    · rw [List.mem_singleton] at hq; subst hq; simp; assumption
    · simp at hq
  | cons x l ih =>
    intro f t q hq
    unfold spans at hq
    split at hq
    · rename_i hi
      have hi := of_inB hi
      rw [List.mem_append] at hq
      rcases hq with hq | hq
      · split at hq
        · rw [List.mem_singleton] at hq; subst hq; simp; omega
        · simp at hq
      · have := ih (x.f0 + 1) t q hq; omega
    · exact ih f t q hq
/-- no shower lies in a dry span. -/
theorem spans_dry : ∀ (l : List R) (f t : Int), l.Pairwise (fun x y => x.f0 < y.f0) → ∀ q ∈ spans l f t, ∀ x ∈ l, inB x.f0 q.f0 q.f1 = false := by
  intro l
  induction l with
  | nil => intro f t _ q _ x hx; cases hx
  | cons y l ih =>
    intro f t hp q hq x hx
    rw [List.pairwise_cons] at hp
    have hb := spans_bd _ _ _ q hq
    unfold spans at hq
    split at hq
    · rename_i hi
      have hi := of_inB hi
      rw [List.mem_append] at hq
      rcases hq with hq | hq
      · split at hq
        · rw [List.mem_singleton] at hq; subst hq
          refine inB_false (fun h => ?_)
          rcases List.mem_cons.1 hx with rfl | hx
          · simp at h; omega
          · have := hp.1 x hx; simp at h; omega
        · simp at hq
      · have h2 := spans_bd _ _ _ q hq
        rcases List.mem_cons.1 hx with rfl | hx
        · exact inB_false (fun h => by omega)
        · exact ih _ _ hp.2 q hq x hx
    · rename_i hi
      rcases List.mem_cons.1 hx with rfl | hx
      · have hi : inB x.f0 f t = false := by simpa using hi
        have hi := of_not_inB hi
        exact inB_false (fun h => hi ⟨by omega, by omega⟩)
      · exact ih _ _ hp.2 q hq x hx
def dryOk (l : List R) (f t : Int) : Bool := good l && SunA.spanOk f t
theorem dry1 {l : List R} {f t : Int} (h : good l = false) : dryOk l f t = false := by unfold dryOk; rw [h]; rfl
theorem dry2 {l : List R} {f t : Int} (h : SunA.spanOk f t = false) : dryOk l f t = false := by unfold dryOk; rw [h, Bool.and_false]
theorem dry3 {l : List R} {f t : Int} (h : good l = true) (h1 : SunA.spanOk f t = true) : dryOk l f t = true := by unfold dryOk; rw [h, h1]; rfl
theorem span_true {f t : Int} (h : SunA.spanOk f t = true) : 0 ≤ f ∧ f ≤ t ∧ t ≤ 4000 := by
  unfold SunA.spanOk at h; simp only [Bool.and_eq_true, decide_eq_true_eq] at h
  have := of_inB h.1.1; have := of_inB h.1.2; omega
theorem dry_true {l : List R} {f t : Int} (h : dryOk l f t = true) : good l = true ∧ 0 ≤ f ∧ f ≤ t ∧ t ≤ 4000 := by
  unfold dryOk at h; rw [Bool.and_eq_true] at h; exact ⟨h.1, span_true h.2⟩
def dryL (l : List R) (f t : Int) : List Q := if dryOk l f t = true then spans l f t else []
theorem dryL_no {l : List R} {f t : Int} (h : dryOk l f t = false) : dryL l f t = [] := by unfold dryL; rw [h]; rfl
theorem dryL_yes {l : List R} {f t : Int} (h : dryOk l f t = true) : dryL l f t = spans l f t := by unfold dryL; rw [if_pos h]
theorem dry_len (l : List R) (f t : Int) : (dryL l f t).length ≤ 100 := by
  unfold dryL; split
  · rename_i h
    have h1 := (good_all (dry_true h).1).1
    have h2 := spans_len l f t
    omega
  · simp
/-- the longest one, the first one of several. -/
def lng : List Q → Q → Q
  | [], b => b
  | x :: l, b => lng l (if b.f1 - b.f0 < x.f1 - x.f0 then x else b)
theorem lng_drop {l : List Q} {k : Nat} {x b : Q} (hk : k < l.length) (hx : l[k] = x) : lng (l.drop k) b = lng (l.drop (k + 1)) (if b.f1 - b.f0 < x.f1 - x.f0 then x else b) := by
  rw [List.drop_eq_getElem_cons hk, hx]; rfl
theorem lng_new {l : List Q} {k : Nat} {x b : Q} (hk : k < l.length) (hx : l[k] = x) (h : b.f1 - b.f0 < x.f1 - x.f0) : lng (l.drop (k + 1)) x = lng (l.drop k) b := by rw [lng_drop hk hx, if_pos h]
theorem lng_old {l : List Q} {k : Nat} {x b : Q} (hk : k < l.length) (hx : l[k] = x) (h : ¬ b.f1 - b.f0 < x.f1 - x.f0) : lng (l.drop (k + 1)) b = lng (l.drop k) b := by rw [lng_drop hk hx, if_neg h]
theorem lng_end {l : List Q} {k : Nat} {b : Q} (hk : l.length ≤ k) : lng (l.drop k) b = b := by rw [List.drop_eq_nil_of_le hk]; rfl
theorem lng_max : ∀ (l : List Q) (b : Q), b.f1 - b.f0 ≤ (lng l b).f1 - (lng l b).f0 ∧ ∀ x ∈ l, x.f1 - x.f0 ≤ (lng l b).f1 - (lng l b).f0 := by
  intro l
  induction l with
  | nil => intro b; exact ⟨Int.le_refl _, by simp⟩
  | cons y l ih =>
    intro b
    unfold lng
    by_cases h : b.f1 - b.f0 < y.f1 - y.f0
    · rw [if_pos h]
      obtain ⟨h1, h2⟩ := ih y
      refine ⟨by omega, fun x hx => ?_⟩
      rcases List.mem_cons.1 hx with rfl | hx
      · exact h1
      · exact h2 x hx
    · rw [if_neg h]
      obtain ⟨h1, h2⟩ := ih b
      refine ⟨h1, fun x hx => ?_⟩
      rcases List.mem_cons.1 hx with rfl | hx
      · omega
      · exact h2 x hx
/-- the longest of a list, or what stands for none. -/
def top (l : List Q) : Q := match l with | [] => ⟨0, 0⟩ | x :: r => lng r x
theorem top_at {l : List Q} {x : Q} (h : 0 < l.length) (hx : l[0] = x) : lng (l.drop 1) x = top l := by
  cases l with
  | nil => simp at h
  | cons y r => simp at hx; subst hx; rfl
theorem top_max {l : List Q} : ∀ x ∈ l, x.f1 - x.f0 ≤ (top l).f1 - (top l).f0 := by
  cases l with
  | nil => intro x hx; cases hx
  | cons y r =>
    intro x hx
    obtain ⟨h1, h2⟩ := lng_max r y
    rcases List.mem_cons.1 hx with rfl | hx
    · exact h1
    · exact h2 x hx
def lonV (l : List Q) : Value := .tuple #[.int .i64 (top l).f0, .int .i64 (top l).f1, .bool (decide (0 < l.length))]
theorem lonV_nil : lonV [] = .tuple #[.int .i64 0, .int .i64 0, .bool false] := rfl
theorem lonV_yes {l : List Q} {x : Q} (h : 0 < l.length) (hx : top l = x) : lonV l = .tuple #[.int .i64 x.f0, .int .i64 x.f1, .bool true] := by unfold lonV; rw [hx, decide_eq_true h]
theorem lon_form (l : List Q) : ∃ x y q, lonV l = .tuple #[.int .i64 x, .int .i64 y, .bool q] := ⟨_, _, _, rfl⟩
end Go.Proofs.Ytpbmncecejchjaa.Dry
