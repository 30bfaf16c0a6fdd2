/- The facts of FnSeries: a pass keeps the sums; one pass more is one pass behind. -/
import Derived.Test.YtciohcipmkhneaaSer
namespace Go.Proofs.Ytciohcipmkhneaa.SeriesFacts
open Go.RowKit Go.Proofs.Ytciohcipmkhneaa.Mem Go.Proofs.Ytciohcipmkhneaa.Base Go.Proofs.Ytciohcipmkhneaa.Brine Go.Proofs.Ytciohcipmkhneaa.Ser
open Go.Proofs.Ytciohcipmkhneaa.SBasin hiding RPost rpost
set_option linter.unusedVariables false
theorem pass_pre (l : List R) (n : Int) : ∀ k, k ≤ l.length → tw ((passL l n).take k) = tw (l.take k) - inW l n k ∧ ts ((passL l n).take k) = ts (l.take k) - inS l n k
  | 0, _ => by simp [tw, ts, inW, inS]
  | k + 1, hk => by
    have ih := pass_pre l n k (by omega)
    have hl : k < l.length := by omega
    have hp : k < (passL l n).length := by rw [pass_len]; exact hl
    have hn := in_next (n := n) hl (rfl : l[k] = l[k])
    rw [tw_snoc _ k hp, ts_snoc _ k hp, tw_snoc l k hl, ts_snoc l k hl, pass_get, hn.1, hn.2, ih.1, ih.2]
    unfold passAt
    rw [getD_at hl]
    dsimp only
    omega
theorem pass_sum (l : List R) (n : Int) : tw (passL l n) + outW l n = tw l ∧ ts (passL l n) + outS l n = ts l := by
  have h := pass_pre l n l.length (Nat.le_refl _)
  rw [List.take_of_length_le (by rw [pass_len]; exact Nat.le_refl _), List.take_of_length_le (Nat.le_refl _)] at h
  unfold outW outS
  omega
theorem run_told {l : List R} {p q n t : Int} (h : runOk l p q n t = true) : good l = true ∧ okB p q = true ∧ 1 ≤ n ∧ (0 ≤ t ∧ t ≤ 100) ∧ ∃ s, iter n t.toNat ⟨l, p, q⟩ = some s ∧ runS l p q n t = s := by
  have h0 := h
  unfold runOk at h
  simp only [Bool.and_eq_true, decide_eq_true_eq] at h
  obtain ⟨⟨h1, h2, h3, h4⟩, h5⟩ := h
  have h6 := of_inB h4
  refine ⟨h1, h2, h3, h6, ?_⟩
  obtain ⟨s, hs⟩ := Option.isSome_iff_exists.1 h5
  exact ⟨s, hs, (run6 h1 h2 h3 h4 hs).2⟩
theorem iter_good {n : Int} : ∀ (k : Nat) (s s' : Ser.St), iter n k s = some s' → good s.l = true → okB s.p s.q = true → good s'.l = true ∧ okB s'.p s'.q = true
  | 0, s, s', h, h1, h2 => by rw [iter_zero] at h; injection h with h; subst h; exact ⟨h1, h2⟩
  | k + 1, s, s', h, h1, h2 => by
    cases hs : Ser.step n s with
    | none => rw [iter_fail hs] at h; cases h
    | some t =>
      rw [iter_next hs] at h
      unfold Ser.step at hs
      split at hs
      · rename_i ho
        injection hs with hs
        subst hs
        have := stepOk_good ho
        exact iter_good k _ s' h this.1 this.2
      · cases hs
theorem iter_snoc {n : Int} : ∀ (k : Nat) (s : Ser.St), iter n (k + 1) s = (iter n k s).bind (Ser.step n)
  | 0, s => by
    cases hs : Ser.step n s with
    | none => rw [iter_fail hs, iter_zero, Option.bind_some, hs]
    | some t => rw [iter_next hs, iter_zero, iter_zero, Option.bind_some, hs]
  | k + 1, s => by
    cases hs : Ser.step n s with
    | none => rw [iter_fail hs, iter_fail hs]; rfl
    | some t => rw [iter_next hs, iter_next hs]; exact iter_snoc k t
theorem one_more {l : List R} {p q n t : Int} (h : runOk l p q n t = true) (ht : t < 100) :
    runOk (runS l p q n t).l (runS l p q n t).p (runS l p q n t).q n 1 = runOk l p q n (t + 1) ∧ runS (runS l p q n t).l (runS l p q n t).p (runS l p q n t).q n 1 = runS l p q n (t + 1) := by
  obtain ⟨h1, h2, h3, h4, s, hs, he⟩ := run_told h
  have hg := iter_good _ _ _ hs h1 h2
  rw [he]
  have e1 : iter n (1 : Int).toNat ⟨s.l, s.p, s.q⟩ = Ser.step n s := by
    show iter n (0 + 1) s = _
    rw [iter_snoc]; rfl
  have e2 : iter n (t + 1).toNat ⟨l, p, q⟩ = Ser.step n s := by
    rw [show (t + 1).toNat = t.toNat + 1 by omega, iter_snoc, hs]; rfl
  cases hc : Ser.step n s with
  | none =>
    have a1 := run5 (l := s.l) (p := s.p) (q := s.q) (n := n) (t := 1) (by rw [e1, hc])
    have a2 := run5 (l := l) (p := p) (q := q) (n := n) (t := t + 1) (by rw [e2, hc])
    exact ⟨by rw [a1, a2], by rw [runS_no a1, runS_no a2]⟩
  | some u =>
    have a1 := run6 (t := 1) hg.1 hg.2 h3 (inB_true (by omega)) (by rw [e1, hc])
    have a2 := run6 (t := t + 1) h1 h2 h3 (inB_true (by omega)) (by rw [e2, hc])
    exact ⟨by rw [a1.1, a2.1], by rw [a1.2, a2.2]⟩
theorem one_sum {l : List R} {p q n : Int} (h : runOk l p q n 1 = true) :
    tw l + p = tw (runS l p q n 1).l + (runS l p q n 1).p ∧ ts l + q = ts (runS l p q n 1).l + (runS l p q n 1).q ∧ okB p q = true ∧ okB (runS l p q n 1).p (runS l p q n 1).q = true := by
  obtain ⟨h1, h2, h3, h4, s, hs, he⟩ := run_told h
  have hg := iter_good _ _ _ hs h1 h2
  have e1 : iter n (1 : Int).toNat ⟨l, p, q⟩ = Ser.step n ⟨l, p, q⟩ := by
    show iter n (0 + 1) _ = _
    rw [iter_snoc]; rfl
  rw [he]
  rw [e1] at hs
  unfold Ser.step at hs
  split at hs
  · injection hs with hs
    have := pass_sum l n
    refine ⟨?_, ?_, h2, hg.2⟩
    · rw [← hs]; dsimp only; omega
    · rw [← hs]; dsimp only; omega
  · cases hs
theorem sum_told (l : List R) : ∃ a b q, sumV l = .tuple #[br a b, .bool q] ∧ (q = true → a = tw l ∧ b = ts l ∧ 0 ≤ a ∧ a ≤ 1000000 ∧ 0 ≤ b ∧ b ≤ 1000000) := by
  unfold sumV
  split
  · rename_i h
    refine ⟨_, _, _, rfl, fun _ => ?_⟩
    unfold sumOk at h
    rw [Bool.and_eq_true] at h
    have := okB_true h.2
    exact ⟨rfl, rfl, by omega⟩
  · exact ⟨_, _, _, rfl, fun h => by cases h⟩
end Go.Proofs.Ytciohcipmkhneaa.SeriesFacts
