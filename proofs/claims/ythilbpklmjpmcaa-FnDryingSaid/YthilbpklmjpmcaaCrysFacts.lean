/- FnDrying's arithmetic: too much of a kind at some water left, by the kilograms after which there is. My own. -/
import Derived.Test.YthilbpklmjpmcaaStartP
namespace Go.Proofs.Ythilbpklmjpmcaa.CrysFacts
open Go.RowKit Go.Proofs.Ythilbpklmjpmcaa.Mem Go.Proofs.Ythilbpklmjpmcaa.Base Go.Proofs.Ythilbpklmjpmcaa.LiqP Go.Proofs.Ythilbpklmjpmcaa.StartP Go.Proofs.Ythilbpklmjpmcaa.KindP
set_option linter.unusedVariables false
theorem full_iff {g sl wt x : Int} (hg : 1 ≤ g) (hs : 0 ≤ sl) (hx0 : 0 ≤ x) (hx1 : x ≤ wt) : keepI g (wt - x) < sl ↔ 0 ≤ dryI g sl wt ∧ dryI g sl wt ≤ x := by
  by_cases h0 : sl = 0
  · subst h0
    rw [dry_zero]
    have e1 := Int.mul_nonneg (show 0 ≤ g by omega) (show 0 ≤ wt - x by omega)
    have e2 := Int.ediv_nonneg e1 (show (0 : Int) ≤ 1000 by omega)
    unfold keepI
    omega
  · have hd : dryI g sl wt = max 0 (wt - (1000 * sl - 1) / g) := by
      unfold dryI; rw [if_neg h0, most_max]
    rw [hd]
    unfold keepI
    have e1 : g * (wt - x) / 1000 < sl ↔ g * (wt - x) < sl * 1000 := Int.ediv_lt_iff_lt_mul (by omega)
    have e2 : wt - x ≤ (1000 * sl - 1) / g ↔ (wt - x) * g ≤ 1000 * sl - 1 := Int.le_ediv_iff_mul_le (by omega)
    rw [Int.mul_comm (wt - x) g] at e2
    rw [e1]
    have e3 : g * (wt - x) < sl * 1000 ↔ g * (wt - x) ≤ 1000 * sl - 1 := by omega
    rw [e3, ← e2]
    omega
theorem dry_le {g sl wt : Int} (hg : 1 ≤ g) (hs : 0 ≤ sl) (h0 : 0 ≤ wt) : dryI g sl wt ≤ wt := by
  unfold dryI
  split
  · omega
  · rw [most_max]
    have := Int.ediv_nonneg (show 0 ≤ 1000 * sl - 1 by omega) (show 0 ≤ g by omega)
    omega
variable {l : List SKind.R} {wt : Int} {s : List Int}
theorem ask_at (h : liqB l wt s = true) {x : Int} (hx0 : 0 ≤ x) (hx1 : x ≤ wt) {k : Nat} (hk : k < l.length) : askB l (wt - x) s k = true := by
  have V := vld h
  have h0 := V.w0
  have h1 := V.w1
  unfold askB liqB at *
  simp only [Bool.and_eq_true] at h ⊢
  refine ⟨⟨h.1, ?_, h.2.2.1, h.2.2.2⟩, ?_⟩
  · unfold inB; simp; omega
  · unfold inB; simp; omega
theorem ask_liq {i : Int} (h : askB l wt s i = true) : liqB l wt s = true := by
  unfold askB at h
  rw [Bool.and_eq_true] at h
  exact h.1
theorem dry_at_le (h : liqB l wt s = true) {k : Nat} (hk : k < l.length) : dryAt l s wt k ≤ wt := by
  have V := vld h
  have hs : k < s.length := by rw [V.len]; exact hk
  unfold dryAt
  rw [atK_eq hk, at0_eq hs]
  exact dry_le (V.kind hk).2.1 (V.salt k hs).1 V.w0
theorem full_at (h : liqB l wt s = true) {x : Int} (hx0 : 0 ≤ x) (hx1 : x ≤ wt) {k : Nat} (hk : k < l.length) :
    fullV l (wt - x) s k = .tuple #[.bool (decide (0 ≤ dryAt l s wt k ∧ dryAt l s wt k ≤ x)), .bool true] := by
  have V := vld h
  have hs : k < s.length := by rw [V.len]; exact hk
  rw [full_yes (ask_at h hx0 hx1 hk) hk hs]
  have e : decide (keepI l[k].f2 (wt - x) < s[k]) = decide (0 ≤ dryAt l s wt k ∧ dryAt l s wt k ≤ x) := by
    apply decide_eq_decide.2
    unfold dryAt
    rw [atK_eq hk, at0_eq hs]
    exact full_iff (V.kind hk).2.1 (V.salt k hs).1 hx0 hx1
  rw [e]
theorem ff_min (d : Nat → Int) (n : Nat) : ∀ j : Nat, ∀ v : Int, ffS d n = ((j : Int), v) → (j < n ∧ v = d j ∧ 0 ≤ v) ∧ ∀ k, k < n → 0 ≤ d k → v ≤ d k := by
  induction n with
  | zero => intro j v h; exact absurd (congrArg Prod.fst h) (by show (-1 : Int) ≠ j; omega)
  | succ n ih =>
    intro j v h
    unfold ffS at h
    split at h
    · rename_i h1
      injection h with e1 e2
      have e3 : n = j := by omega
      subst e3
      subst e2
      refine ⟨⟨by omega, rfl, h1.1⟩, fun k hk h0 => ?_⟩
      by_cases e : k = n
      · subst e; omega
      · rcases ff_spec d n with ⟨a1, a2⟩ | ⟨m, hm, a1, a2⟩
        · have := a2 k (by omega); omega
        · have b := (ih m (d m) a1).2 k (by omega) h0
          rcases h1.2 with c | c
          · rw [a1] at c
            have c' : (m : Int) < 0 := c
            omega
          · rw [a1] at c
            have c' : d n < d m := c
            omega
    · rename_i h1
      obtain ⟨⟨b1, b2, b3⟩, b4⟩ := ih j v h
      refine ⟨⟨by omega, b2, b3⟩, fun k hk h0 => ?_⟩
      by_cases e : k = n
      · subst e
        rw [h] at h1
        have h2 : ¬ (0 ≤ d k ∧ ((j : Int) < 0 ∨ d k < v)) := h1
        omega
      · exact b4 k (by omega) h0
theorem first_facts {x y : Int} (h : firstV l wt s = .tuple #[.int .i64 x, .int .i64 y, .bool true]) :
    (0 ≤ y ∧ y ≤ wt ∧ wt ≤ 1000000 ∧ l.length ≤ 6) ∧ fullV l (wt - y) s x = .tuple #[.bool true, .bool true] ∧ (0 < y → ∀ k : Nat, k < l.length → fullV l (wt - y + 1) s k = .tuple #[.bool false, .bool true]) := by
  by_cases hl : liqB l wt s = true
  · have V := vld hl
    have w0 := V.w0
    have w1 := V.w1
    rcases ff_spec (dryAt l s wt) l.length with ⟨a1, a2⟩ | ⟨m, hm, a1, a2⟩
    · rw [first_no a1] at h; simp at h
    · rw [first_yes hl a1] at h
      have hm2 := (ff_min _ _ _ _ a1).2
      obtain ⟨e1, e2⟩ : (m : Int) = x ∧ dryAt l s wt m = y := by simpa using h
      subst e1
      subst e2
      have h3 := dry_at_le hl hm
      refine ⟨⟨a2, h3, w1, V.n.2⟩, ?_, fun hy k hk => ?_⟩
      · rw [full_at hl a2 h3 hm, decide_eq_true ⟨a2, Int.le_refl _⟩]
      · rw [show wt - dryAt l s wt m + 1 = wt - (dryAt l s wt m - 1) by omega, full_at hl (by omega) (by omega) hk, decide_eq_false (fun hc => by have := hm2 k hk hc.1; omega)]
  · rw [first_bad (by simpa using hl)] at h; simp at h
theorem kept_facts {x i : Int} (h : keptV l wt s i = .tuple #[.int .i64 x, .bool true]) :
    (0 ≤ x ∧ x ≤ wt ∧ wt ≤ 1000000) ∧ fullV l (wt - x) s i = .tuple #[.bool false, .bool true] ∧ (x < wt → fullV l (wt - x - 1) s i = .tuple #[.bool true, .bool true]) := by
  by_cases ha : askB l wt s i = true
  · obtain ⟨V, k, rfl, hk, hs⟩ := ask_split ha
    have hl := ask_liq ha
    have w0 := V.w0
    have w1 := V.w1
    have hd := dry_at_le hl hk
    unfold keptV at h
    rw [if_pos ha, Int.toNat_natCast] at h
    generalize hD : dryAt l s wt k = d at h hd
    split at h
    · rename_i hn
      obtain rfl : wt = x := by simpa using h
      refine ⟨⟨w0, Int.le_refl _, w1⟩, ?_, fun hc => by omega⟩
      rw [full_at hl w0 (Int.le_refl _) hk, hD, decide_eq_false (fun hc => by omega)]
    · split at h
      · simp at h
      · rename_i h1 h2
        obtain rfl : d - 1 = x := by simpa using h
        refine ⟨⟨by omega, by omega, w1⟩, ?_, fun hc => ?_⟩
        · rw [full_at hl (by omega) (by omega) hk, hD, decide_eq_false (fun hc => by omega)]
        · rw [show wt - (d - 1) - 1 = wt - d by omega, full_at hl (by omega) hd hk, hD, decide_eq_true (⟨by omega, Int.le_refl _⟩)]
  · rw [kept_no (by simpa using ha)] at h; simp at h
theorem pure_facts {x y i : Int} (h : pureV l wt s i = .tuple #[.int .i64 x, .int .i64 y, .bool true]) :
    (0 ≤ x ∧ x ≤ wt ∧ 0 ≤ y ∧ y ≤ wt ∧ wt ≤ 1000000) ∧ ∀ k : Nat, k < l.length → fullV l (wt - x) s k = .tuple #[.bool (decide ((k : Int) = i)), .bool true] ∧ fullV l (wt - y) s k = .tuple #[.bool (decide ((k : Int) = i)), .bool true] := by
  by_cases ha : askB l wt s i = true
  · obtain ⟨V, m, rfl, hm, hs⟩ := ask_split ha
    have hl := ask_liq ha
    have w0 := V.w0
    have w1 := V.w1
    have hd := dry_at_le hl hm
    obtain ⟨b1, b2, _⟩ := hi_spec (dryAt l s wt) m wt l.length
    unfold pureV at h
    rw [if_pos ha, Int.toNat_natCast] at h
    split at h
    · simp at h
    · rename_i hc
      obtain ⟨e1, e2⟩ : dryAt l s wt m = x ∧ hiS (dryAt l s wt) m wt l.length = y := by simpa using h
      rw [e1, e2] at hc
      rw [e1] at hd
      rw [e2] at b1 b2
      refine ⟨⟨by omega, hd, by omega, b1, w1⟩, fun k hk => ?_⟩
      rw [full_at hl (by omega) hd hk, full_at hl (by omega) b1 hk]
      by_cases e : k = m
      · subst e
        rw [e1, decide_eq_true (show 0 ≤ x ∧ x ≤ x by omega), decide_eq_true (show 0 ≤ x ∧ x ≤ y by omega), decide_eq_true rfl]
        exact ⟨rfl, rfl⟩
      · have h2 := b2 k hk e
        rw [decide_eq_false (show ¬ (0 ≤ dryAt l s wt k ∧ dryAt l s wt k ≤ x) by omega), decide_eq_false (show ¬ (0 ≤ dryAt l s wt k ∧ dryAt l s wt k ≤ y) by omega), decide_eq_false (show ¬ ((k : Int) = m) by omega)]
        exact ⟨rfl, rfl⟩
  · rw [pure_bad (by simpa using ha)] at h; simp at h
end Go.Proofs.Ythilbpklmjpmcaa.CrysFacts
