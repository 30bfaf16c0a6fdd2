/- The facts of FnBasins: what a told strongest basin means; what the sun takes. -/
import Derived.Test.YtciohcipmkhneaaSerN
namespace Go.Proofs.Ytciohcipmkhneaa.BasFacts
open Go.RowKit Go.Proofs.Ytciohcipmkhneaa.Mem Go.Proofs.Ytciohcipmkhneaa.Base Go.Proofs.Ytciohcipmkhneaa.Brine Go.Proofs.Ytciohcipmkhneaa.Brine5 Go.Proofs.Ytciohcipmkhneaa.Ser Go.Proofs.Ytciohcipmkhneaa.SerN
open Go.Proofs.Ytciohcipmkhneaa.SBasin hiding RPost rpost
set_option linter.unusedVariables false
def up (x y : R) : Prop := x.f2 * y.f1 > y.f2 * x.f1
theorem best_none {l : List R} {k : Nat} (h : bestK l k = none) : ∀ i, i < k → ¬ 0 < (l.getD i zero).f1 + (l.getD i zero).f2 := by
  induction k with
  | zero => intro i hi; omega
  | succ k ih =>
    unfold bestK at h
    split at h
    · cases h
    · rename_i hc
      intro i hi hm
      by_cases hik : i < k
      · exact ih h i hik hm
      · have : i = k := by omega
        subst this
        exact hc ⟨hm, fun b hb => by rw [h] at hb; cases hb⟩
theorem up_trans {x y z : R} (hx1 : 0 ≤ x.f1) (hz1 : 0 ≤ z.f1) (hy1 : 0 ≤ y.f1) (hy2 : 0 ≤ y.f2) (h1 : ¬ up x y) (h2 : up z y) : ¬ up x z := by
  unfold up at *
  intro h3
  have a1 : x.f2 * y.f1 ≤ y.f2 * x.f1 := by omega
  have p : 0 ≤ y.f2 * z.f1 := Int.mul_nonneg hy2 hz1
  have hy : 0 < y.f1 := by
    rcases Int.lt_or_le 0 y.f1 with h | h
    · exact h
    · have : y.f1 = 0 := by omega
      rw [this, Int.mul_zero] at h2
      omega
  have b1 : x.f2 * y.f1 * z.f1 ≤ y.f2 * x.f1 * z.f1 := Int.mul_le_mul_of_nonneg_right a1 hz1
  have b2 : y.f2 * z.f1 * x.f1 ≤ z.f2 * y.f1 * x.f1 := Int.mul_le_mul_of_nonneg_right (by omega) hx1
  have b3 : z.f2 * x.f1 * y.f1 < x.f2 * z.f1 * y.f1 := Int.mul_lt_mul_of_pos_right h3 hy
  have e1 : x.f2 * y.f1 * z.f1 = x.f2 * z.f1 * y.f1 := by rw [Int.mul_assoc, Int.mul_comm y.f1, ← Int.mul_assoc]
  have e2 : y.f2 * x.f1 * z.f1 = y.f2 * z.f1 * x.f1 := by rw [Int.mul_assoc, Int.mul_comm x.f1, ← Int.mul_assoc]
  have e3 : z.f2 * y.f1 * x.f1 = z.f2 * x.f1 * y.f1 := by rw [Int.mul_assoc, Int.mul_comm y.f1, ← Int.mul_assoc]
  omega
theorem best_top {l : List R} (hp : ∀ i, 0 ≤ (l.getD i zero).f1 ∧ 0 ≤ (l.getD i zero).f2) : ∀ (k b : Nat), bestK l k = some b → ∀ i, i < k → 0 < (l.getD i zero).f1 + (l.getD i zero).f2 → ¬ up (l.getD i zero) (l.getD b zero)
  | 0, b, h, i, hi, _ => by omega
  | k + 1, b, h, i, hi, hm => by
    have ih := best_top hp k
    unfold bestK at h
    split at h
    · rename_i hc
      injection h with h; subst h
      by_cases hik : i < k
      · cases hb : bestK l k with
        | none => exact absurd hm (best_none hb i hik)
        | some d => exact up_trans (hp i).1 (hp k).1 (hp d).1 (hp d).2 (ih d hb i hik hm) (hc.2 d hb)
      · have : i = k := by omega
        subst this
        unfold up; omega
    · rename_i hc
      by_cases hik : i < k
      · exact ih b h i hik hm
      · have : i = k := by omega
        subst this
        intro hu
        exact hc ⟨hm, fun c hcc => by rw [h] at hcc; injection hcc with hcc; subst hcc; exact hu⟩
theorem best_told {l : List R} {x : Int} (hv : bestV l = .tuple #[.int .i64 x, .bool true]) : ∃ b : Nat, x = b ∧ b < l.length ∧ ∀ (i : Nat) (hi : i < l.length) (hb : b < l.length), ∃ q qq, strongV l[i].f1 l[i].f2 l[b].f1 l[b].f2 = .tuple #[.bool q, .bool qq] ∧ (qq && q) = false := by
  unfold bestV at hv
  split at hv
  · rename_i hg
    split at hv
    · rename_i b hb
      simp at hv
      have hlt := best_lt hb
      refine ⟨b, hv.symm, hlt, fun i hi hb' => ?_⟩
      have hp : ∀ i, 0 ≤ (l.getD i zero).f1 ∧ 0 ≤ (l.getD i zero).f2 := by
        intro j
        by_cases hj : j < l.length
        · have := okA_true (good_get hg hj (rfl : l[j] = l[j]))
          rw [getD_at hj]; omega
        · rw [List.getD_eq_getElem?_getD, List.getElem?_eq_none (by omega)]; simp [zero]
      have ht := best_top hp _ _ hb i hi
      rw [getD_at hi, getD_at hb'] at ht
      unfold strongV
      split
      · rename_i hok
        refine ⟨_, _, rfl, ?_⟩
        rw [Bool.true_and, decide_eq_false_iff_not]
        have h0 := hp i
        rw [getD_at hi] at h0
        refine ht ?_
        unfold strongOk at hok
        simp at hok
        omega
      · exact ⟨_, _, rfl, rfl⟩
    · simp at hv
  · simp at hv
theorem sun_told {l : List R} {r : Int} (h : sunOk l r = true) : (sunL l r).length = l.length ∧ (1 ≤ l.length ∧ l.length ≤ 8) ∧ sunN l r = sumK l r l.length ∧
    ∀ (k : Nat) (hk : k < l.length) (hk' : k < (sunL l r).length), (sunL l r)[k].f1 = l[k].f1 - dry l[k] r ∧ (sunL l r)[k].f2 = l[k].f2 ∧ 0 ≤ dry l[k] r ∧ dry l[k] r ≤ l[k].f1 ∧ l[k].f1 ≤ 1000000 := by
  obtain ⟨e1, e2⟩ := sunL_yes h
  have h2 := h
  unfold sunOk at h2
  rw [Bool.and_eq_true] at h2
  have hb := of_inB h2.2
  refine ⟨by rw [e1, sunK_len], ⟨(good_all h2.1).1, (good_all h2.1).2.1⟩, e2, fun k hk hk' => ?_⟩
  have hoa := good_get h2.1 hk (rfl : l[k] = l[k])
  have hd := dry_bd hoa hb.1 hb.2
  have ho := okA_true hoa
  have e3 : (sunL l r)[k] = sunAt l[k] r := by
    simp only [e1]
    rw [sunK_get, if_pos hk, getD_at hk]
  rw [e3]
  exact ⟨rfl, rfl, hd.1, hd.2, by omega⟩
theorem sumK_bd {l : List R} {r : Int} (h : sunOk l r = true) : ∀ k, k ≤ l.length → 0 ≤ sumK l r k ∧ sumK l r k ≤ 1000000 * k
  | 0, _ => by simp [sumK]
  | k + 1, hk => by
    have ih := sumK_bd h k (by omega)
    have ht := sun_told h
    have hkl : k < l.length := by omega
    have := ht.2.2.2 k hkl (by rw [ht.1]; exact hkl)
    rw [sumK_next hkl (rfl : l[k] = l[k])]
    omega
end Go.Proofs.Ytciohcipmkhneaa.BasFacts
