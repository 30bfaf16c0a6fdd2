/- The facts of FnSunSums: what a told best start means; the sums; SunOn of what PutSun returns. -/
import Derived.Test.YtcmomccdnkligaaSunB
namespace Go.Proofs.Ytcmomccdnkligaa.SumFacts
open Go.RowKit Go.Proofs.Ytcmomccdnkligaa.Mem Go.Proofs.Ytcmomccdnkligaa.Base Go.Proofs.Ytcmomccdnkligaa.SSun Go.Proofs.Ytcmomccdnkligaa.Sun Go.Proofs.Ytcmomccdnkligaa.SunA Go.Proofs.Ytcmomccdnkligaa.SunB
set_option linter.unusedVariables false
theorem best_told {l : List R} {d c x : Int} (hb : bestOk l d = true → Best l d c) (hv : bestV (bestOk l d) c = .tuple #[.int .i64 x, .bool true]) : good l = true ∧ 1 ≤ d ∧ d ≤ 100 ∧ Best l d x := by
  cases hq : bestOk l d
  · rw [hq] at hv; simp [bestV] at hv
  · have hbb := hb hq
    rw [hq] at hv
    simp [bestV] at hv
    subst hv
    unfold bestOk at hq
    rw [Bool.and_eq_true] at hq
    have h := of_inB hq.2
    exact ⟨hq.1, h.1, h.2, hbb⟩
theorem sum_is {l : List R} {d s : Int} (hg : good l = true) (h0 : 0 ≤ s) (h1 : s + d - 1 ≤ 4000) (hd : 1 ≤ d) : sumV l s (s + d - 1) = .tuple #[.int .i64 (S l d s), .bool true] := by
  have h : sumOk l s (s + d - 1) = true := by
    unfold sumOk
    rw [hg, inB_true ⟨by omega, by omega⟩, inB_true ⟨by omega, by omega⟩]
    rfl
  unfold sumV
  rw [if_pos h]; rfl
theorem idx_low (d : Int) : ∀ (l : List R), ∀ y ∈ l.take (idx l d), y.f0 < d
  | [], y, hy => by simp at hy
  | a :: l, y, hy => by
    by_cases h : a.f0 < d
    · have e : idx (a :: l) d = idx l d + 1 := by simp [idx, h]
      rw [e, List.take_succ_cons] at hy
      rcases List.mem_cons.1 hy with h1 | h1
      · rw [h1]; exact h
      · exact idx_low d l y h1
    · have e : idx (a :: l) d = 0 := by simp [idx, h]
      rw [e] at hy; simp at hy
theorem on_put (l : List R) (x : R) : on (putAt l x) x.f0 = x.f1 := by
  have h : (l.take (idx l x.f0)).find? (fun y => y.f0 == x.f0) = none := by
    rw [List.find?_eq_none]
    intro y hy
    have := idx_low x.f0 l y hy
    simp; omega
  unfold on putAt
  rw [List.find?_append, h, Option.none_or, List.find?_cons_of_pos (by simp)]
theorem put_told {l : List R} {x : R} (h : putOk l x = true) : onV (putL l x) x.f0 = .tuple #[.int .i64 x.f1, .bool true] := by
  have e : putL l x = putAt l x := by unfold putL; rw [if_pos h]
  unfold putOk at h
  rw [Bool.and_eq_true] at h
  have hm : x ∈ putAt l x := by unfold putAt; simp
  have hx := okS_true (good_mem h.2 x hm)
  have ho : onOk (putAt l x) x.f0 = true := on3 h.2 (inB_true ⟨by omega, by omega⟩)
  rw [e]
  unfold onV
  rw [if_pos ho, on_put]
end Go.Proofs.Ytcmomccdnkligaa.SumFacts
