/- What FnTides and FnHeights say, on the pure functions. -/
import Derived.Test.YtbbnbkdglihhhaaSpan
import Derived.Test.YtbbnbkdglihhhaaTurn
import Derived.Test.YtbbnbkdglihhhaaShift
namespace Go.Proofs.Ytbbnbkdglihhhaa.MTide
open Go.RowKit Go.Proofs.Ytbbnbkdglihhhaa.Mem Go.Proofs.Ytbbnbkdglihhhaa.Base Go.Proofs.Ytbbnbkdglihhhaa.SMark Go.Proofs.Ytbbnbkdglihhhaa.Tide Go.Proofs.Ytbbnbkdglihhhaa.Tide3 Go.Proofs.Ytbbnbkdglihhhaa.Flow Go.Proofs.Ytbbnbkdglihhhaa.Span Go.Proofs.Ytbbnbkdglihhhaa.Turn Go.Proofs.Ytbbnbkdglihhhaa.Shift
set_option linter.unusedVariables false
/-- pairs of a first and a last minute, in each minute between them c. -/
def Pairs (c : Nat → Bool) (L : List Int) : Prop := (∃ m, L.length = 2 * m) ∧ ∀ j, 2 * j + 1 < L.length → ∃ a b : Nat, L[2 * j]? = some (a : Int) ∧ L[2 * j + 1]? = some (b : Int) ∧ a ≤ b ∧ ∀ t, a ≤ t → t ≤ b → c t = true
theorem Pairs.nil (c : Nat → Bool) : Pairs c [] := ⟨⟨0, rfl⟩, fun j hj => by simp at hj⟩
theorem pairs_mo (c : Nat → Bool) : ∀ n, n ≤ 1441 → Pairs c (mo c n) ∧ (0 < n → c (n - 1) = true → n ≤ 1440 → c n = true → ∃ M, mo c n = M ++ [(n : Int) - 1]) := by
  intro n
  induction n with
  | zero => intro _; rw [mo_zero]; exact ⟨Pairs.nil c, fun h => by omega⟩
  | succ n ih =>
    intro hn
    obtain ⟨hp, _⟩ := ih (by omega)
    have h2 : 0 < n + 1 → c (n + 1 - 1) = true → n + 1 ≤ 1440 → c (n + 1) = true → ∃ M, mo c (n + 1) = M ++ [((n + 1 : Nat) : Int) - 1] := fun h0 h1 h2 h3 => ⟨_, (mo_set h2 h3 h0 h1).1⟩
    refine ⟨?_, h2⟩
    cases hc : c n
    · rw [mo_skip hc]; exact hp
    · by_cases h0 : 0 < n ∧ c (n - 1) = true
      · obtain ⟨e1, e2⟩ := mo_set (by omega) hc h0.1 h0.2
        rw [e1] at hp
        rw [e2]
        obtain ⟨⟨m, hm⟩, hj⟩ := hp
        rw [List.length_append, List.length_singleton] at hm
        refine ⟨⟨m, by rw [List.length_append, List.length_singleton]; exact hm⟩, fun j h => ?_⟩
        rw [List.length_append, List.length_singleton] at h
        obtain ⟨a, b, ha, hb, hab, ht⟩ := hj j (by rw [List.length_append, List.length_singleton]; omega)
        by_cases hl : 2 * j + 1 < (sp c n).length
        · refine ⟨a, b, ?_, ?_, hab, ht⟩
          · rw [List.getElem?_append_left (by omega)] at ha ⊢; exact ha
          · rw [List.getElem?_append_left (by omega)] at hb ⊢; exact hb
        · have hlen : 2 * j + 1 = (sp c n).length := by omega
          rw [List.getElem?_append_left (by omega)] at ha
          rw [List.getElem?_append_right (by omega), hlen, Nat.sub_self] at hb
          have hbn : (n : Int) - 1 = b := by simpa using hb
          refine ⟨a, n, ?_, ?_, by omega, fun t h1 h3 => ?_⟩
          · rw [List.getElem?_append_left (by omega)]; exact ha
          · rw [List.getElem?_append_right (by omega), hlen, Nat.sub_self]; rfl
          · rcases Nat.lt_or_ge t n with h4 | h4
            · exact ht t h1 (by omega)
            · have : t = n := by omega
              subst this; exact hc
      · have h0' : n = 0 ∨ c (n - 1) = false := by
          rcases Nat.eq_zero_or_pos n with h | h
          · exact .inl h
          · right; cases h1 : c (n - 1)
            · rfl
            · exact absurd ⟨h, h1⟩ h0
        obtain ⟨e1, e2⟩ := mo_app (by omega) hc h0'
        rw [e1] at hp
        rw [e2]
        obtain ⟨⟨m, hm⟩, hj⟩ := hp
        refine ⟨⟨m + 1, by rw [List.length_append, hm]; simp; omega⟩, fun j h => ?_⟩
        rw [List.length_append] at h
        simp only [List.length_cons, List.length_nil] at h
        by_cases hl : 2 * j + 1 < (sp c n).length
        · obtain ⟨a, b, ha, hb, hab, ht⟩ := hj j hl
          exact ⟨a, b, by rw [List.getElem?_append_left (by omega)]; exact ha, by rw [List.getElem?_append_left (by omega)]; exact hb, hab, ht⟩
        · have hlen : 2 * j = (sp c n).length := by omega
          refine ⟨n, n, ?_, ?_, Nat.le_refl _, fun t h1 h3 => ?_⟩
          · rw [List.getElem?_append_right (by omega), hlen, Nat.sub_self]; rfl
          · rw [List.getElem?_append_right (by omega), hlen, show (sp c n).length + 1 - (sp c n).length = 1 by omega]; rfl
          · have : t = n := by omega
            subst this; exact hc
theorem pairs_sp (c : Nat → Bool) : Pairs c (sp c 1441) := by have := (pairs_mo c 1441 (Nat.le_refl _)).1; rwa [mo_end] at this
theorem pairs_in (l : List R) (s p : Int) : Pairs (cin l s p) (inL l s p) := by
  unfold inL; split
  · exact pairs_sp _
  · exact Pairs.nil _
theorem pairs_out (l : List R) (s p : Int) : Pairs (cout l s p) (outL l s p) := by
  unfold outL; split
  · exact pairs_sp _
  · exact Pairs.nil _
/-- in no minute a sluice lets water in and out. -/
theorem in_not_out {l : List R} {s p : Int} {t : Nat} (h : cin l s p t = true) : cout l s p t = false := by
  unfold cin inAt at h
  have h := of_decide_eq_true h
  cases ho : cout l s p t
  · rfl
  · unfold cout outAt at ho
    simp only [Bool.and_eq_true, decide_eq_true_eq] at ho
    exfalso
    by_cases hd : 0 ≤ den l t
    · have hm : p ≤ most s p := by unfold most; split <;> omega
      have := Int.mul_le_mul_of_nonneg_left hm hd
      omega
    · unfold most at h
      rw [if_neg (by omega)] at h
      omega
theorem apart {l : List R} {s p : Int} {a b c d : Nat} (h1 : ∀ t, a ≤ t → t ≤ b → cin l s p t = true) (h2 : ∀ t, c ≤ t → t ≤ d → cout l s p t = true) (hab : a ≤ b) (hcd : c ≤ d) (h : (a : Int) ≤ d) : ¬ (c : Int) ≤ b := by
  intro h3
  by_cases hac : a ≤ c
  · have e1 := in_not_out (h1 c hac (by omega)); rw [h2 c (Nat.le_refl _) hcd] at e1; cases e1
  · have e1 := in_not_out (h1 a (Nat.le_refl _) hab); rw [h2 a (by omega) (by omega)] at e1; cases e1
theorem best_max (l : List R) : ∀ k j, j < k → (at_ l j).f1 ≤ (at_ l (best l k)).f1 := by
  intro k
  induction k with
  | zero => intro j h; omega
  | succ k ih =>
    intro j hj
    unfold best
    split
    · rename_i hb
      rcases Nat.lt_or_ge j k with h | h
      · have := ih j h; omega
      · have : j = k := by omega
        subst this; exact Int.le_refl _
    · rename_i hb
      rcases Nat.lt_or_ge j k with h | h
      · exact ih j h
      · have : j = k := by omega
        subst this; omega
theorem num_top {l : List R} (hg : good l = true) {m : Int} (h0 : 0 ≤ m) (h1 : m ≤ 1440) : low (num l m) (den l m) ≤ (at_ l (best l l.length)).f1 * low' (num l m) (den l m) := by
  obtain ⟨k, hk⟩ := seg_ok hg h0 h1
  have hd := den_bd hg h0 h1
  have b1 := best_max l l.length k hk.lt
  have b2 := best_max l l.length (k - 1) (by have := hk.lt; omega)
  generalize (at_ l (best l l.length)).f1 = top at *
  have hn : num l m ≤ top * den l m := by
    rw [num_is hk, den_is hk]
    unfold numA
    have p1 := Int.mul_le_mul_of_nonneg_right b2 (show 0 ≤ (at_ l k).f0 - m by have := hk.hi; omega)
    have p2 := Int.mul_le_mul_of_nonneg_right b1 (show 0 ≤ m - (at_ l (k - 1)).f0 by have := hk.lo; omega)
    have e : top * ((at_ l k).f0 - (at_ l (k - 1)).f0) = top * ((at_ l k).f0 - m) + top * (m - (at_ l (k - 1)).f0) := by rw [← Int.mul_add]; congr 1; omega
    omega
  have h2 : ¬ den l m * top < num l m := by rw [Int.mul_comm]; omega
  have h3 : ¬ low' (num l m) (den l m) * top < low (num l m) (den l m) := fun h => h2 ((low_lt (show 0 < den l m by omega)).1 h)
  rw [Int.mul_comm]; omega
theorem top_bd {l : List R} (hg : good l = true) : -500 ≤ (at_ l (best l l.length)).f1 ∧ (at_ l (best l l.length)).f1 ≤ 500 := by
  obtain ⟨h2, _, _, _, hm⟩ := good_true hg
  have := hm _ (best_lt l l.length (by omega))
  exact ⟨this.1, this.2.1⟩
theorem first_len {l : List R} {s p : Int} {x : Int} {f : Bool} (h : firstV (inL l s p) = .tuple #[.int .i64 x, .bool f]) : f = decide (0 < ((inL l s p).length : Int)) := by
  cases hL : inL l s p with
  | nil => rw [hL] at h; injection h with h; injection h with h; injection h with h1 h2; injection h2 with h2; injection h2 with h2; rw [← h2]; rfl
  | cons y r => rw [hL] at h; injection h with h; injection h with h; injection h with h1 h2; injection h2 with h2; injection h2 with h2; rw [← h2]; simp
theorem sh_at {l : List R} {d : Int} {k : Nat} (hk : k < l.length) : at_ (sh l d) k = ⟨(at_ l k).f0, (at_ l k).f1 + d⟩ := by
  rw [at_get (by rw [sh_len]; exact hk), at_get hk]; simp [sh]
theorem turns_sh (l : List R) (d : Int) : ∀ k, k + 1 ≤ l.length → turns (sh l d) k = turns l k := by
  intro k
  induction k with
  | zero => intro _; rfl
  | succ k ih =>
    intro hk
    have e := ih (by omega)
    unfold turns
    rw [e]
    have hiff : (1 ≤ k ∧ Peak (at_ (sh l d) (k - 1)).f1 (at_ (sh l d) k).f1 (at_ (sh l d) (k + 1)).f1) ↔ (1 ≤ k ∧ Peak (at_ l (k - 1)).f1 (at_ l k).f1 (at_ l (k + 1)).f1) := by
      rw [sh_at (show k - 1 < l.length by omega), sh_at (show k < l.length by omega), sh_at (show k + 1 < l.length by omega)]
      simp only [Peak]; omega
    by_cases hc : 1 ≤ k ∧ Peak (at_ l (k - 1)).f1 (at_ l k).f1 (at_ l (k + 1)).f1
    · rw [if_pos (hiff.2 hc), if_pos hc, sh_at (show k < l.length by omega)]
    · rw [if_neg (fun h => hc (hiff.1 h)), if_neg hc]
theorem best_sh (l : List R) (d : Int) : ∀ k, k ≤ l.length → best (sh l d) k = best l k := by
  intro k
  induction k with
  | zero => intro _; rfl
  | succ k ih =>
    intro hk
    have e := ih (by omega)
    unfold best
    rw [e]
    by_cases hz : k = 0
    · subst hz; simp [best]
    · have hb := best_lt l k (by omega)
      have hiff : (at_ (sh l d) (best l k)).f1 < (at_ (sh l d) k).f1 ↔ (at_ l (best l k)).f1 < (at_ l k).f1 := by
        rw [sh_at (show k < l.length by omega), sh_at (show best l k < l.length by omega)]; simp only; omega
      by_cases hc : (at_ l (best l k)).f1 < (at_ l k).f1
      · rw [if_pos (hiff.2 hc), if_pos hc]
      · rw [if_neg (fun h => hc (hiff.1 h)), if_neg hc]
theorem turnsL_sh {l : List R} {d : Int} (h : good l = true) (h2 : good (sh l d) = true) : turnsL (sh l d) = turnsL l := by
  have hl := (good_true h).1
  rw [turnsL_yes h, turnsL_yes h2, sh_len, turns_sh l d _ (by omega)]
theorem highV_sh {l : List R} {d : Int} (h : good l = true) (h2 : good (sh l d) = true) : highV (sh l d) = .tuple #[.int .i64 (at_ l (best l l.length)).f0, .int .i64 ((at_ l (best l l.length)).f1 + d), .bool true] := by
  have hl := (good_true h).1
  rw [highV_yes h2, sh_len, best_sh l d _ (Nat.le_refl _), sh_at (best_lt l l.length (by omega))]
theorem cell_mono {l : List R} (hg : good l = true) {h m : Int} (h0 : 0 ≤ m) (h1 : m ≤ 1440) : cell l (h + 1) m ≤ cell l h m := by
  have hd := den_bd hg h0 h1
  unfold cell
  apply Int.ediv_le_ediv (by omega)
  have e : (h + 1) * den l m = h * den l m + den l m := by rw [Int.add_mul, Int.one_mul]
  rw [e]
  unfold most; split <;> split <;> omega
theorem area_mono {l : List R} (hg : good l = true) (h : Int) : ∀ n : Nat, n ≤ 1441 → area l (h + 1) n ≤ area l h n := by
  intro n
  induction n with
  | zero => intro _; exact Int.le_refl _
  | succ n ih =>
    intro hn
    have := ih (by omega)
    have := cell_mono hg (h := h) (m := n) (by omega) (by omega)
    unfold area; omega
end Go.Proofs.Ytbbnbkdglihhhaa.MTide
