/- FnSuns: what it turns on. -/
import Derived.Test.YtcmomccdnkligaaSunB
namespace Go.Proofs.Ytcmomccdnkligaa.SunsFacts
open Go.RowKit Go.Proofs.Ytcmomccdnkligaa.Mem Go.Proofs.Ytcmomccdnkligaa.Base Go.Proofs.Ytcmomccdnkligaa.Brine Go.Proofs.Ytcmomccdnkligaa.SSun Go.Proofs.Ytcmomccdnkligaa.Sun Go.Proofs.Ytcmomccdnkligaa.SunA Go.Proofs.Ytcmomccdnkligaa.SunB
set_option linter.unusedVariables false
theorem loss_none {p q a : Int} (hp : 0 ≤ p) : loss p q 0 a = 0 := by
  unfold loss lossF fresh
  rw [Int.zero_mul, Int.zero_ediv, Int.zero_mul, Int.zero_ediv]
  split
  · rfl
  · unfold least; split <;> omega
theorem aft_one' {l : List R} (h : l.Pairwise (fun x y => x.f0 < y.f0)) {p q a : Int} (d : Int) (hp : 0 ≤ p) : aft l p q a d d = p - loss p q (on l d) a := by
  induction l with
  | nil =>
    have : loss p q (on [] d) a = 0 := loss_none hp
    rw [this]; simp [aft]
  | cons x l ih =>
    rw [List.pairwise_cons] at h
    by_cases he : x.f0 = d
    · have e1 : on (x :: l) d = x.f1 := by unfold on; rw [List.find?_cons_of_pos (by simp [he])]
      have e2 : aft (x :: l) p q a d d = aft l (p - loss p q x.f1 a) q a d d := by
        unfold aft
        rw [List.foldl_cons, if_pos (show inS d d x = true from inB_true (by omega))]
      rw [e1, e2]
      exact aft_none (fun y hy => inB_false (by have := h.1 y hy; omega)) _
    · have e1 : on (x :: l) d = on l d := by unfold on; rw [List.find?_cons_of_neg (by simp [he])]
      have e2 : aft (x :: l) p q a d d = aft l p q a d d := by
        unfold aft
        rw [List.foldl_cons, if_neg (show ¬ inS d d x = true by unfold inS; rw [inB_false (by omega)]; simp)]
      rw [e1, e2]
      exact ih h.2
/-- what FnSuns asks of a loss that is told. -/
theorem loss_told {l : List R} {p q a d n : Int} (h : lossV l p q a d = .tuple #[.int .i64 n, .bool true]) :
    0 ≤ n ∧ n ≤ p ∧ p ≤ 1000000 ∧ a ≤ 100000 ∧ 1 ≤ a ∧ afterV l p q a d d = .tuple #[.agg #[.int .i64 (p - n), .int .i64 q], .bool true] ∧ (a < 100000 → ∃ m, lossV l p q (a + 1) d = .tuple #[.int .i64 m, .bool true] ∧ n ≤ m) := by
  cases hk : askOk l p q a
  · rw [ls1 hk] at h; cases h
  cases hd : inB d 0 4000
  · rw [ls2 hd] at h; cases h
  rw [ls3 hk hd] at h
  have hn : loss p q (on l d) a = n := by injection h with h; simpa using h
  obtain ⟨hg, hp, hp1, hq, hq1, h0, ha, ha1⟩ := ask_true hk
  have ho := Sane.on hg d
  have hb := loss_bd (p := p) (q := q) (r := on l d) (a := a) hp hq ho.1 ho.2 (by omega) ha1
  have hdb := of_inB hd
  refine ⟨by omega, by omega, hp1, ha1, ha, ?_, fun hlt => ?_⟩
  · have hs : spanOk d d = true := by unfold spanOk; rw [hd, decide_eq_true (Int.le_refl d)]; rfl
    rw [after_yes (af3 hk hs), aft_one' (good_pair hg) d hp, hn]; rfl
  · have hk2 : askOk l p q (a + 1) = true := by
      unfold askOk at hk ⊢
      simp only [Bool.and_eq_true] at hk ⊢
      exact ⟨hk.1, inB_true (by omega)⟩
    refine ⟨_, ls3 hk2 hd, ?_⟩
    have hm := lossF_mono (p := p) (p' := p) (q := q) (f := fresh (on l d) a) (f' := fresh (on l d) (a + 1)) hp (Int.le_refl p) hq (fresh_bd ho.1 ho.2 (by omega) (by omega)).2.2.1 (fresh_mono ho.1 (by omega))
    rw [← hn]
    unfold loss
    omega
/-- what it asks of a smallest area that is told. -/
theorem area_told {l : List R} {p q f t g x : Int} {n : Nat} (he : areaOk l p q f t g = true → SunB.Edge l p q f t g n) (h : areaV (areaOk l p q f t g) n = .tuple #[.int .i64 x, .bool true]) :
    1 ≤ x ∧ x ≤ 100000 ∧ (∃ u, afterV l p q x f t = .tuple #[.agg #[.int .i64 u, .int .i64 q], .bool true] ∧ u ≤ g) ∧ (1 < x → ∃ u, afterV l p q (x - 1) f t = .tuple #[.agg #[.int .i64 u, .int .i64 q], .bool true] ∧ g < u) := by
  cases ho : areaOk l p q f t g
  · rw [ho, area_no rfl] at h; cases h
  by_cases hn : n < 100000
  case neg => rw [area_none hn] at h; cases h
  rw [area_yes ho hn] at h
  have hx : (n : Int) + 1 = x := by injection h with h; simpa using h
  have hE := he ho
  unfold areaOk at ho
  simp only [Bool.and_eq_true] at ho
  have aok : ∀ a : Int, 1 ≤ a → a ≤ 100000 → afterOk l p q a f t = true := fun a h1 h2 => af3 (by rw [ask_area l p q a (inB_true ⟨h1, h2⟩)]; exact ho.1.1) ho.1.2
  refine ⟨by omega, by omega, ⟨_, after_yes (aok x (by omega) (by omega)), ?_⟩, fun h1 => ⟨_, after_yes (aok (x - 1) (by omega) (by omega)), ?_⟩⟩
  · have := hE.2 x (by omega) (by omega)
    rcases Int.lt_or_le g (aft l p q x f t) with h2 | h2
    · have := this.1 h2; omega
    · exact h2
  · exact (hE.2 (x - 1) (by omega) (by omega)).2 (by omega)
end Go.Proofs.Ytcmomccdnkligaa.SunsFacts
