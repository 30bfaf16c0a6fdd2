/- What is so of ponds: banks from both sides, ids ascend, banks are no longer than the circumference. -/
import Derived.Test.YtncdkfkihfhcgaaPond9
namespace Go.Proofs.Ytncdkfkihfhcgaa.MPond
open Go.RowKit Go.Proofs.Ytncdkfkihfhcgaa.Mem Go.Proofs.Ytncdkfkihfhcgaa.Base Go.Proofs.Ytncdkfkihfhcgaa.SPond Go.Proofs.Ytncdkfkihfhcgaa.Pond Go.Proofs.Ytncdkfkihfhcgaa.Pond2 Go.Proofs.Ytncdkfkihfhcgaa.Pond3 Go.Proofs.Ytncdkfkihfhcgaa.Pond4 Go.Proofs.Ytncdkfkihfhcgaa.Pond8 Go.Proofs.Ytncdkfkihfhcgaa.Pond9
set_option linter.unusedVariables false
theorem common_comm (a n b m : Int) : common a n b m = common b m a n := by unfold common most least; split <;> split <;> split <;> split <;> split <;> omega
theorem bank_comm (x y : R) : bank x y = bank y x := by
  unfold bank
  rw [common_comm x.f2, common_comm x.f1]
  by_cases h1 : x.f1 + x.f3 = y.f1 ∨ y.f1 + y.f3 = x.f1
  · rw [if_pos h1, if_pos (show y.f1 + y.f3 = x.f1 ∨ x.f1 + x.f3 = y.f1 from h1.symm)]
  · rw [if_neg h1, if_neg (show ¬ (y.f1 + y.f3 = x.f1 ∨ x.f1 + x.f3 = y.f1) from fun h => h1 h.symm)]
    by_cases h2 : x.f2 + x.f4 = y.f2 ∨ y.f2 + y.f4 = x.f2
    · rw [if_pos h2, if_pos (show y.f2 + y.f4 = x.f2 ∨ x.f2 + x.f4 = y.f2 from h2.symm)]
    · rw [if_neg h2, if_neg (show ¬ (y.f2 + y.f4 = x.f2 ∨ x.f2 + x.f4 = y.f2) from fun h => h2 h.symm)]
theorem good_at {l : List R} (h : good l = true) {k : Nat} (hk : k < l.length) : okAt l k = true := by
  unfold good at h
  rw [Bool.and_eq_true, decide_eq_true_eq] at h
  exact List.all_eq_true.1 h.1 k (List.mem_range.2 (by omega))
theorem step_id {l : List R} (h : good l = true) {k : Nat} (hk : k + 1 < l.length) : l[k].f0 < l[k + 1].f0 := by
  have := good_at h hk
  unfold okAt at this
  simp only [Bool.and_eq_true, Bool.or_eq_true, beq_iff_eq, decide_eq_true_eq] at this
  have h2 := this.1.2
  rw [getD_at hk, show k + 1 - 1 = k from rfl, getD_at (by omega)] at h2
  omega
theorem ids_lt {l : List R} (h : good l = true) {j k : Nat} (hjk : j < k) (hk : k < l.length) : l[j].f0 < l[k].f0 := by
  induction k with
  | zero => omega
  | succ k ih =>
    have h1 := step_id h hk
    rcases Nat.lt_or_ge j k with h2 | h2
    · have := ih h2 (by omega); omega
    · have : j = k := by omega
      subst this; exact h1
theorem apart {l : List R} (h : good l = true) {j k : Nat} (hjk : j < k) (hk : k < l.length) : clash l[j] l[k] = false := by
  have := good_at h hk
  unfold okAt at this
  simp only [Bool.and_eq_true] at this
  have h2 := List.all_eq_true.1 this.2 j (List.mem_range.2 hjk)
  rw [getD_at (by omega), getD_at hk] at h2
  simpa using h2
/-- how many of a, a + 1, .. (n of them) lie in b .. b + m - 1. -/
def cnt (a b m : Int) : Nat → Int
  | 0 => 0
  | n + 1 => cnt a b m n + (if b ≤ a + n ∧ a + n < b + m then 1 else 0)
theorem cnt_common (a b m : Int) (hm : 0 ≤ m) (n : Nat) : cnt a b m n = common a n b m := by
  induction n with
  | zero => unfold cnt common most least; split <;> split <;> split <;> omega
  | succ n ih =>
    rw [cnt, ih]
    unfold common most least
    repeat' split
    all_goals omega
def Far (u v : Int × Int) : Prop := u.1 + u.2 ≤ v.1 ∨ v.1 + v.2 ≤ u.1
def ind (t : Int) (u : Int × Int) : Int := if u.1 ≤ t ∧ t < u.1 + u.2 then 1 else 0
theorem ind_zero {t : Int} (F : List (Int × Int)) (h : ∀ v ∈ F, ind t v = 0) : (F.map (ind t)).sum = 0 := by
  induction F with
  | nil => rfl
  | cons v F ih => rw [List.map_cons, List.sum_cons, h v (by simp), ih (fun w hw => h w (by simp [hw]))]; rfl
theorem ind_one {t : Int} (F : List (Int × Int)) (h : F.Pairwise Far) : (F.map (ind t)).sum ≤ 1 := by
  induction F with
  | nil => simp
  | cons u F ih =>
    rw [List.pairwise_cons] at h
    rw [List.map_cons, List.sum_cons]
    have hi := ih h.2
    by_cases hu : u.1 ≤ t ∧ t < u.1 + u.2
    · have h0 : (F.map (ind t)).sum = 0 := ind_zero F fun v hv => by
        have := h.1 v hv
        unfold Far at this
        unfold ind; rw [if_neg (by omega)]
      have : ind t u = 1 := by unfold ind; rw [if_pos hu]
      omega
    · have : ind t u = 0 := by unfold ind; rw [if_neg hu]
      omega
theorem sum_add (F : List (Int × Int)) (f g : Int × Int → Int) : (F.map fun u => f u + g u).sum = (F.map f).sum + (F.map g).sum := by
  induction F with
  | nil => rfl
  | cons u F ih => simp only [List.map_cons, List.sum_cons, ih]; omega
theorem pack (F : List (Int × Int)) (h : F.Pairwise Far) (a : Int) (n : Nat) : (F.map fun u => cnt a u.1 u.2 n).sum ≤ n := by
  induction n with
  | zero =>
    have : (F.map fun u => cnt a u.1 u.2 0).sum = 0 := by
      clear h
      induction F with
      | nil => rfl
      | cons u F ih => rw [List.map_cons, List.sum_cons, ih]; rfl
    omega
  | succ n ih =>
    have e : (fun u : Int × Int => cnt a u.1 u.2 (n + 1)) = fun u => cnt a u.1 u.2 n + ind (a + n) u := by funext u; rfl
    rw [e, sum_add]
    have := ind_one (t := a + n) F h
    omega
/-- what lies at one side, as spans. -/
def side (p : R → Bool) (f : R → Int × Int) (l : List R) : List (Int × Int) := (l.filter p).map f
theorem side_far {l : List R} (hok : ∀ y ∈ l, okP y = true) (hc : l.Pairwise fun y z => clash y z = false) (p : R → Bool) (f : R → Int × Int) (h : ∀ y z, p y = true → p z = true → okP y = true → okP z = true → clash y z = false → Far (f y) (f z)) : (side p f l).Pairwise Far := by
  unfold side
  rw [List.pairwise_map, List.pairwise_filter]
  refine (List.Pairwise.imp_of_mem ?_ hc)
  intro y z hy hz hcl hpy hpz
  exact h y z hpy hpz (hok y hy) (hok z hz) hcl
theorem rows_far {y z : R} (hy : okP y = true) (hz : okP z = true) (h : y.f1 = z.f1 ∨ y.f1 + y.f3 = z.f1 + z.f3) (hc : clash y z = false) : Far (y.f2, y.f4) (z.f2, z.f4) := by
  obtain ⟨_, _, a1, a2, a3, a4, a5, a6, a7, a8, _, _, _, _⟩ := okP_true hy
  obtain ⟨_, _, b1, b2, b3, b4, b5, b6, b7, b8, _, _, _, _⟩ := okP_true hz
  unfold clash at hc
  rw [Bool.and_eq_false_iff] at hc
  unfold Far
  simp only
  rcases hc with hc | hc
  · exfalso
    have := of_decide_eq_false hc
    unfold common most least at this
    repeat' split at this
    all_goals omega
  · have := of_decide_eq_false hc
    unfold common most least at this
    repeat' split at this
    all_goals omega
theorem cols_far {y z : R} (hy : okP y = true) (hz : okP z = true) (h : y.f2 = z.f2 ∨ y.f2 + y.f4 = z.f2 + z.f4) (hc : clash y z = false) : Far (y.f1, y.f3) (z.f1, z.f3) := by
  obtain ⟨_, _, a1, a2, a3, a4, a5, a6, a7, a8, _, _, _, _⟩ := okP_true hy
  obtain ⟨_, _, b1, b2, b3, b4, b5, b6, b7, b8, _, _, _, _⟩ := okP_true hz
  unfold clash at hc
  rw [Bool.and_eq_false_iff] at hc
  unfold Far
  simp only
  rcases hc with hc | hc
  · have := of_decide_eq_false hc
    unfold common most least at this
    repeat' split at this
    all_goals omega
  · exfalso
    have := of_decide_eq_false hc
    unfold common most least at this
    repeat' split at this
    all_goals omega
theorem side_sum (p : R → Bool) (f : R → Int × Int) (l : List R) (a : Int) (n : Nat) (hok : ∀ y ∈ l, 0 ≤ (f y).2) : (l.map fun y => if p y = true then common a n (f y).1 (f y).2 else 0).sum = ((side p f l).map fun u => cnt a u.1 u.2 n).sum := by
  unfold side
  induction l with
  | nil => rfl
  | cons y l ih =>
    rw [List.map_cons, List.sum_cons, ih (fun z hz => hok z (by simp [hz]))]
    by_cases h : p y = true
    · rw [if_pos h, List.filter_cons_of_pos h, List.map_cons, List.map_cons, List.sum_cons, cnt_common _ _ _ (hok y (by simp))]
    · rw [if_neg h, List.filter_cons_of_neg h]; omega
theorem sum_le {l : List R} {f g : R → Int} (h : ∀ y ∈ l, f y ≤ g y) : (l.map f).sum ≤ (l.map g).sum := by
  induction l with
  | nil => simp
  | cons y l ih =>
    rw [List.map_cons, List.map_cons, List.sum_cons, List.sum_cons]
    have := h y (by simp)
    have := ih (fun z hz => h z (by simp [hz]))
    omega
theorem sum_add' (l : List R) (f g : R → Int) : (l.map fun u => f u + g u).sum = (l.map f).sum + (l.map g).sum := by
  induction l with
  | nil => rfl
  | cons u F ih => simp only [List.map_cons, List.sum_cons, ih]; omega
theorem good_pair {l : List R} (h : good l = true) : l.Pairwise fun y z => clash y z = false := by
  rw [List.pairwise_iff_getElem]
  intro i j hi hj hij
  exact apart h hij hj
theorem good_ok {l : List R} (h : good l = true) : ∀ y ∈ l, okP y = true := by
  intro y hy
  obtain ⟨j, hj, rfl⟩ := List.getElem_of_mem hy
  exact (good_all h).2 j hj
/-- The banks of a pond are no longer than its circumference. -/
theorem banks_le {l : List R} (h : good l = true) {x : R} (hx : okP x = true) : banks x l ≤ 2 * (x.f3 + x.f4) := by
  obtain ⟨_, _, a1, a2, a3, a4, a5, a6, a7, a8, _, _, _, _⟩ := okP_true hx
  have hok := good_ok h
  have hc := good_pair h
  obtain ⟨n4, hn4⟩ : ∃ n : Nat, x.f4 = n := ⟨x.f4.toNat, by omega⟩
  obtain ⟨n3, hn3⟩ : ∃ n : Nat, x.f3 = n := ⟨x.f3.toNat, by omega⟩
  have h4 : ∀ y ∈ l, 0 ≤ ((fun y : R => (y.f2, y.f4)) y).2 := fun y hy => by have := okP_true (hok y hy); simp only; omega
  have h3 : ∀ y ∈ l, 0 ≤ ((fun y : R => (y.f1, y.f3)) y).2 := fun y hy => by have := okP_true (hok y hy); simp only; omega
  have s1 := pack _ (side_far hok hc (fun y => decide (x.f1 + x.f3 = y.f1)) (fun y => (y.f2, y.f4)) (fun y z py pz oy oz c => rows_far oy oz (.inl (by have := of_decide_eq_true py; have := of_decide_eq_true pz; omega)) c)) x.f2 n4
  have s2 := pack _ (side_far hok hc (fun y => decide (y.f1 + y.f3 = x.f1)) (fun y => (y.f2, y.f4)) (fun y z py pz oy oz c => rows_far oy oz (.inr (by have := of_decide_eq_true py; have := of_decide_eq_true pz; omega)) c)) x.f2 n4
  have s3 := pack _ (side_far hok hc (fun y => decide (x.f2 + x.f4 = y.f2)) (fun y => (y.f1, y.f3)) (fun y z py pz oy oz c => cols_far oy oz (.inl (by have := of_decide_eq_true py; have := of_decide_eq_true pz; omega)) c)) x.f1 n3
  have s4 := pack _ (side_far hok hc (fun y => decide (y.f2 + y.f4 = x.f2)) (fun y => (y.f1, y.f3)) (fun y z py pz oy oz c => cols_far oy oz (.inr (by have := of_decide_eq_true py; have := of_decide_eq_true pz; omega)) c)) x.f1 n3
  rw [← side_sum _ _ l _ _ h4] at s1 s2
  rw [← side_sum _ _ l _ _ h3] at s3 s4
  have hle : banks x l ≤ (l.map fun y => ((if decide (x.f1 + x.f3 = y.f1) = true then common x.f2 n4 y.f2 y.f4 else 0) + (if decide (y.f1 + y.f3 = x.f1) = true then common x.f2 n4 y.f2 y.f4 else 0)) + ((if decide (x.f2 + x.f4 = y.f2) = true then common x.f1 n3 y.f1 y.f3 else 0) + (if decide (y.f2 + y.f4 = x.f2) = true then common x.f1 n3 y.f1 y.f3 else 0))).sum := by
    unfold banks
    refine sum_le fun y hy => ?_
    have c1 := (common_bd (a := x.f2) (n := n4) (b := y.f2) (m := y.f4) (by omega)).1
    have c2 := (common_bd (a := x.f1) (n := n3) (b := y.f1) (m := y.f3) (by omega)).1
    unfold bank
    rw [hn4, hn3] at *
    simp only [decide_eq_true_eq]
    generalize common x.f2 n4 y.f2 y.f4 = q1 at *
    generalize common x.f1 n3 y.f1 y.f3 = q2 at *
    repeat' split
    all_goals omega
  rw [sum_add', sum_add', sum_add'] at hle
  simp only at s1 s2 s3 s4
  omega
theorem banks_bd {x : R} (hx : okP x = true) : ∀ {l : List R}, (∀ y ∈ l, okP y = true) → 0 ≤ banks x l ∧ banks x l ≤ 20 * l.length
  | [], _ => by simp [banks]
  | y :: l, h => by
    have hb := IPond.bank_bd hx (h y (by simp))
    have ih := banks_bd hx (l := l) fun z hz => h z (by simp [hz])
    have e : banks x (y :: l) = bank x y + banks x l := by simp [banks]
    rw [e, List.length_cons]; omega
theorem banks_nonneg {l : List R} (h : good l = true) {x : R} (hx : okP x = true) : 0 ≤ banks x l := (banks_bd hx (good_ok h)).1
theorem banks_take {l : List R} (h : good l = true) {x : R} (hx : okP x = true) {k : Nat} (hk : k ≤ l.length) : 0 ≤ banks x (l.take k) ∧ banks x (l.take k) ≤ 20 * k := by
  have := banks_bd hx (l := l.take k) fun y hy => good_ok h y (List.mem_of_mem_take hy)
  rw [List.length_take, Nat.min_eq_left hk] at this
  exact this
end Go.Proofs.Ytncdkfkihfhcgaa.MPond
