/- FnCrystals' arithmetic: what stays, what falls out and the water with it are together what was there. My own. -/
import Derived.Test.YthilbpklmjpmcaaFallU
namespace Go.Proofs.Ythilbpklmjpmcaa.CrysFacts2
open Go.RowKit Go.Proofs.Ythilbpklmjpmcaa.Mem Go.Proofs.Ythilbpklmjpmcaa.Base Go.Proofs.Ythilbpklmjpmcaa.LiqP Go.Proofs.Ythilbpklmjpmcaa.KindP Go.Proofs.Ythilbpklmjpmcaa.FallP Go.Proofs.Ythilbpklmjpmcaa.FallU
set_option linter.unusedVariables false
variable {l : List SKind.R} {wt : Int} {s : List Int}
theorem out_yes (h : liqB l wt s = true) : aftW l wt s 0 = fw l s wt l.length ∧ aftS l wt s 0 = stayL l s wt l.length ∧ aftG l wt s 0 = goneL l s wt l.length := by
  have e : dryOk l wt s 0 = true := by rw [dry0, h]
  unfold aftW aftS aftG
  rw [if_pos e, if_pos e, if_pos e, Int.sub_zero]
  exact ⟨rfl, rfl, rfl⟩
theorem fw_le (V : VldS l s) (h0 : 0 ≤ wt) (h1 : wt ≤ 1000000) (k : Nat) (hk : k ≤ l.length) : fw l s wt k ≤ wt := by
  induction k with
  | zero => exact Int.le_refl _
  | succ k ih =>
    have h := ih (by omega)
    obtain ⟨a, b⟩ := fw_range V h0 h1 k (by omega)
    obtain ⟨_, _, c, d⟩ := fn_range (w0 := wt) V (show k < l.length by omega) a b
    rw [fw_succ]
    unfold fn
    omega
theorem at0_range (V : VldS l s) {k : Nat} (hk : k < l.length) : 0 ≤ at0 s k ∧ at0 s k ≤ 1000000 := by
  have hs : k < s.length := by rw [V.len]; exact hk
  rw [at0_eq hs]
  exact V.salt k hs
theorem fn_at (V : VldS l s) (h0 : 0 ≤ wt) (h1 : wt ≤ 1000000) {k : Nat} (hk : k < l.length) : 0 ≤ fn l s wt k ∧ fn l s wt k ≤ at0 s k ∧ fn l s wt k * (atK l k).f1 / 10 ≤ fw l s wt k ∧ 0 ≤ fn l s wt k * (atK l k).f1 := by
  obtain ⟨a, b⟩ := fw_range V h0 h1 k (by omega)
  exact fn_range (w0 := wt) V hk a b
theorem sum_le (f g : Nat → Int) (n : Nat) (h : ∀ k, k < n → f k ≤ g k) : ((List.range n).map f).sum ≤ ((List.range n).map g).sum := by
  induction n with
  | zero => exact Int.le_refl _
  | succ n ih =>
    rw [List.range_succ, List.map_append, List.map_append, List.sum_append, List.sum_append]
    have a := ih (fun k hk => h k (by omega))
    have b := h n (by omega)
    simp only [List.map_cons, List.map_nil, List.sum_cons, List.sum_nil]
    omega
theorem at0_list (s : List Int) : (List.range s.length).map (at0 s) = s := by
  apply List.ext_getElem
  · simp
  · intro i h1 h2
    rw [List.getElem_map, List.getElem_range]
    exact at0_eq h2
theorem out_good (h : liqB l wt s = true) : liqB l (fw l s wt l.length) (stayL l s wt l.length) = true ∧ fw l s wt l.length + (stayL l s wt l.length).sum ≤ wt + s.sum := by
  have V := vld h
  have VS := vlds V
  have hr := fw_range VS V.w0 V.w1 l.length (Nat.le_refl _)
  have hl := fw_le VS V.w0 V.w1 l.length (Nat.le_refl _)
  refine ⟨?_, ?_⟩
  · unfold liqB
    simp only [Bool.and_eq_true]
    refine ⟨V.good, inB_true hr, ?_, decide_eq_true (stay_len _ _ _ _)⟩
    unfold saltOk
    rw [List.all_eq_true]
    intro q hq
    unfold stayL at hq
    obtain ⟨k, hk, rfl⟩ := List.mem_map.1 hq
    have hk2 := List.mem_range.1 hk
    have a := fn_at VS V.w0 V.w1 hk2
    have b := at0_range VS hk2
    exact inB_true (by omega)
  · have e : (stayL l s wt l.length).sum ≤ ((List.range l.length).map (at0 s)).sum := by
      unfold stayL
      exact sum_le _ _ _ (fun k hk => by have a := fn_at VS V.w0 V.w1 hk; omega)
    rw [← V.len, at0_list] at e
    rw [← V.len] at hl ⊢
    omega
/-- round k of the law's loop: W is the water there. -/
theorem round_facts (h : liqB l wt s = true) {k : Nat} (hk : k < l.length) :
    0 ≤ fn l s wt k ∧ (0 ≤ fn l s wt k * (atK l k).f1 ∧ fn l s wt k * (atK l k).f1 ≤ 10000009) ∧ (0 ≤ at0 s k - fn l s wt k ∧ at0 s k ≤ 1000000) ∧
    (0 ≤ fw l s wt l.length + wt - fw l s wt k ∧ fw l s wt l.length + wt - fw l s wt k ≤ 2000000) ∧
    fw l s wt l.length + wt - fw l s wt k + fn l s wt k * (atK l k).f1 / 10 = fw l s wt l.length + wt - fw l s wt (k + 1) := by
  have V := vld h
  have VS := vlds V
  obtain ⟨a0, a1, a2, a3⟩ := fn_at VS V.w0 V.w1 hk
  have b := at0_range VS hk
  have hr := fw_range VS V.w0 V.w1 l.length (Nat.le_refl _)
  have hrk := fw_range VS V.w0 V.w1 k (by omega)
  have hlk := fw_le VS V.w0 V.w1 k (by omega)
  have w0 := V.w0
  have w1 := V.w1
  rw [fw_succ]
  refine ⟨a0, ⟨a3, by omega⟩, by omega, by omega, by omega⟩
end Go.Proofs.Ythilbpklmjpmcaa.CrysFacts2
