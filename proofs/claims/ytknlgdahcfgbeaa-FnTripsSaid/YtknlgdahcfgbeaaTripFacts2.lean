/- What FnTrips asks of the plain functions: the first start is one at which the trip can be added; the times of sections join. -/
import Derived.Test.YtknlgdahcfgbeaaTripF
import Derived.Test.YtknlgdahcfgbeaaTripA
import Derived.Test.YtknlgdahcfgbeaaTripT
import Derived.Test.YtknlgdahcfgbeaaTripL
namespace Go.Proofs.Ytknlgdahcfgbeaa.TripFacts2
open Go.RowKit Go.Proofs.Ytknlgdahcfgbeaa.Mem Go.Proofs.Ytknlgdahcfgbeaa.Base Go.Proofs.Ytknlgdahcfgbeaa.Within Go.Proofs.Ytknlgdahcfgbeaa.STrip Go.Proofs.Ytknlgdahcfgbeaa.TripP Go.Proofs.Ytknlgdahcfgbeaa.TripL Go.Proofs.Ytknlgdahcfgbeaa.TripF Go.Proofs.Ytknlgdahcfgbeaa.TripA Go.Proofs.Ytknlgdahcfgbeaa.TripT
set_option linter.unusedVariables false
set_option linter.unusedSimpArgs false
theorem fsF_told {l : List R} {t : R} {r : Int} : ∀ (k : Nat) (s : Int), fsF l t s k = some r → s ≤ r ∧ okT (later t r) = true ∧ freeB l (later t r) = true
  | 0, s, h => by simp [fsF] at h
  | k + 1, s, h => by
    rw [fsF] at h
    split at h
    · rename_i h1
      split at h
      · rename_i h2
        have e : s = r := by simpa using h
        subst e
        exact ⟨Int.le_refl _, h1, h2⟩
      · have := fsF_told k (s + 1) h
        exact ⟨by omega, this.2⟩
    · cases h
theorem pair_ins (d : Int) (t : R) (ht : t.f0 = d) : ∀ l : List R, l.Pairwise (fun x y => x.f0 < y.f0) → (∀ x ∈ l, x.f0 ≠ d) → (l.takeWhile (fun x => decide (x.f0 < d)) ++ t :: l.dropWhile (fun x => decide (x.f0 < d))).Pairwise (fun x y => x.f0 < y.f0)
  | [], _, _ => by simp
  | a :: l, hp, hn => by
    rw [List.pairwise_cons] at hp
    by_cases h : a.f0 < d
    · rw [List.takeWhile_cons, if_pos (by simpa using h), List.dropWhile_cons, if_pos (by simpa using h), List.cons_append, List.pairwise_cons]
      refine ⟨fun x hx => ?_, pair_ins d t ht l hp.2 (fun x hx => hn x (by simp [hx]))⟩
      rcases List.mem_append.1 hx with h1 | h1
      · exact hp.1 x ((List.takeWhile_sublist _).subset h1)
      · rcases List.mem_cons.1 h1 with h2 | h2
        · rw [h2, ht]; exact h
        · exact hp.1 x ((List.dropWhile_sublist _).subset h2)
    · have hne := hn a (by simp)
      rw [List.takeWhile_cons, if_neg (by simpa using h), List.dropWhile_cons, if_neg (by simpa using h), List.nil_append, List.pairwise_cons]
      refine ⟨fun x hx => ?_, List.pairwise_cons.2 hp⟩
      rcases List.mem_cons.1 hx with h1 | h1
      · rw [h1, ht]; omega
      · have := hp.1 x h1; rw [ht]; omega
theorem raw_form (l : List R) (t : R) : raw l t = l.takeWhile (fun x => decide (x.f0 < t.f0)) ++ t :: l.dropWhile (fun x => decide (x.f0 < t.f0)) := by
  have e := List.takeWhile_append_dropWhile (p := fun x : R => decide (x.f0 < t.f0)) (l := l)
  have h1 := List.take_left (l₁ := l.takeWhile (fun x => decide (x.f0 < t.f0))) (l₂ := l.dropWhile (fun x => decide (x.f0 < t.f0)))
  have h2 := List.drop_left (l₁ := l.takeWhile (fun x => decide (x.f0 < t.f0))) (l₂ := l.dropWhile (fun x => decide (x.f0 < t.f0)))
  rw [e] at h1 h2
  unfold raw TripI.ins low
  rw [h1, h2]
theorem raw_good {l : List R} {t : R} (hg : good l = true) (ht : okT t = true) (hn : fnd l t.f0 = none) (h : l.length < 10) : good (raw l t) = true := by
  have hne : ∀ x ∈ l, x.f0 ≠ t.f0 := by
    intro x hx hq
    obtain ⟨j, hj, rfl⟩ := List.getElem_of_mem hx
    unfold fnd at hn
    rw [List.find?_eq_none] at hn
    have := hn j (List.mem_range.2 hj)
    rw [getD_at hj] at this
    simp [hq] at this
  refine good_mk (by rw [raw_len]; omega) ?_ (by rw [raw_form]; exact pair_ins t.f0 t rfl l (good_pair hg) hne)
  intro x hx
  rw [raw_form] at hx
  rcases List.mem_append.1 hx with h1 | h1
  · exact good_mem hg x ((List.takeWhile_sublist _).subset h1)
  · rcases List.mem_cons.1 h1 with h2 | h2
    · rw [h2]; exact ht
    · exact good_mem hg x ((List.dropWhile_sublist _).subset h2)
theorem fs_told (l : List R) (t : R) : ∃ n q, fsV l t = .tuple #[.int .i64 n, .bool q] ∧ (q = true → t.f3 ≤ n ∧ addOk l (later t n) = decide (l.length < 10)) := by
  by_cases h : (good l && (fnd l t.f0).isNone) = true
  · cases e : fs l t t.f3 with
    | none => exact ⟨_, _, fsV_none e, fun h => by cases h⟩
    | some s =>
      rw [Bool.and_eq_true] at h
      have hn : fnd l t.f0 = none := by simpa using h.2
      refine ⟨_, _, fsV_some h.1 hn e, fun _ => ?_⟩
      obtain ⟨h1, h2, h3⟩ := fsF_told _ _ e
      refine ⟨h1, ?_⟩
      by_cases hl : l.length < 10
      · rw [decide_eq_true hl]
        exact add4 h.1 (raw_good h.1 h2 hn hl) h3
      · rw [decide_eq_false hl]
        exact add2 (good_long (by rw [raw_len]; omega))
  · have h0 : fsV l t = .tuple #[.int .i64 0, .bool false] := by unfold fsV; rw [if_neg h]
    exact ⟨_, _, h0, fun h => by cases h⟩
/-- the times of a trip join: each section is left when the next one is entered, the last one at the arrival. -/
theorem rows_join {x : R} (h : okT x = true) {m : List Nest.Row} (hm : TabS.tp m = secF x) : m.length = num x ∧ ∀ i (hi : i < m.length), m[i].ls = [sec x i, x.f3 + 4 * i, x.f3 + 4 * i + 4] := by
  have hl : m.length = num x := by rw [← TabS.tp_len, hm, secF_yes h, rowsT_len]
  refine ⟨hl, fun i hi => ?_⟩
  have e := TabS.tp_get m i hi
  rw [← e]
  have e2 : ∀ (F : List (List Int)) (hF : TabS.tp m = F) (h9 : i < F.length), (TabS.tp m)[i]'(by rw [TabS.tp_len]; exact hi) = F[i] := fun F hF h9 => by subst hF; rfl
  rw [e2 _ (hm.trans (secF_yes h)) (by rw [rowsT_len]; omega)]
  simp [rowsT, rowT]
theorem arr_num {x : R} (h : okT x = true) : arr x = x.f3 + 4 * (num x : Int) := by
  have := (num_is h).1
  unfold arr; omega
end Go.Proofs.Ytknlgdahcfgbeaa.TripFacts2
