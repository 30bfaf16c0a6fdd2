/- Chain, plain: there are numbers of steps; the neighbors as places. -/
import Derived.Test.YtncdkfkihfhcgaaChainS
import Derived.Test.YtncdkfkihfhcgaaMPond
namespace Go.Proofs.Ytncdkfkihfhcgaa.ChainP
open Go.Proofs.Ytncdkfkihfhcgaa.SPond Go.Proofs.Ytncdkfkihfhcgaa.Pond Go.Proofs.Ytncdkfkihfhcgaa.Pond2 Go.Proofs.Ytncdkfkihfhcgaa.Pond3 Go.Proofs.Ytncdkfkihfhcgaa.Pond4 Go.Proofs.Ytncdkfkihfhcgaa.Pond9 Go.Proofs.Ytncdkfkihfhcgaa.Steps Go.Proofs.Ytncdkfkihfhcgaa.Bfs Go.Proofs.Ytncdkfkihfhcgaa.Chain
set_option linter.unusedVariables false
variable {adj : Nat → Nat → Bool} {N to : Nat}
theorem K.inner (hsym : ∀ x y, adj x y = adj y x) {m i : Nat} {S : List Int} (k : K adj N to m i ((m : Int) + 1) S) (hi : i < N) : ∀ q, q ≤ N → ∃ S', K adj N to m i ((m : Int) + 1) S' ∧ (sAt S' i = m → ∀ y, y < q → adj i y = true → 0 ≤ sAt S' y) := by
  intro q
  induction q with
  | zero => exact fun _ => ⟨S, k, fun _ y hy => by omega⟩
  | succ q ih =>
    intro hq
    obtain ⟨S1, k1, h1⟩ := ih (by omega)
    by_cases hs : sAt S1 i = m
    · by_cases hn : sAt S1 q < 0 ∧ adj i q = true
      · refine ⟨_, k1.set (by omega) hn.1 hi hs (by rw [hsym]; exact hn.2), fun _ y hy ha => ?_⟩
        by_cases e : y = q
        · rw [e, sAt_self (by rw [k1.len]; omega)]; omega
        · rw [sAt_ne (fun h => e h.symm)]; exact h1 hs y (by omega) ha
      · refine ⟨S1, k1, fun _ y hy ha => ?_⟩
        by_cases e : y = q
        · subst e
          rcases Int.lt_or_le (sAt S1 y) 0 with h2 | h2
          · exact absurd ⟨h2, ha⟩ hn
          · exact h2
        · exact h1 hs y (by omega) ha
    · exact ⟨S1, k1, fun e => absurd e hs⟩
theorem K.middle (hsym : ∀ x y, adj x y = adj y x) {m : Nat} {S : List Int} (k : K adj N to m 0 ((m : Int) + 1) S) : ∀ i, i ≤ N → ∃ S', K adj N to m i ((m : Int) + 1) S' := by
  intro i
  induction i with
  | zero => exact fun _ => ⟨S, k⟩
  | succ i ih =>
    intro hi
    obtain ⟨S1, k1⟩ := ih (by omega)
    obtain ⟨S2, k2, h2⟩ := K.inner hsym k1 (by omega) N (Nat.le_refl _)
    exact ⟨S2, k2.nextI h2⟩
theorem K.ex (hsym : ∀ x y, adj x y = adj y x) (hto : to < N) : ∀ m : Nat, ∃ S, K adj N to m 0 m S := by
  intro m
  induction m with
  | zero => exact ⟨_, K.init hto⟩
  | succ m ih =>
    obtain ⟨S1, k1⟩ := ih
    obtain ⟨S2, k2⟩ := K.middle hsym (k1.wide (show (m : Int) ≤ m + 1 by omega)) N (Nat.le_refl _)
    exact ⟨S2, k2.nextM⟩
/-- the places of the neighbors. -/
def nbP (l : List R) (v : Nat) : List Nat := (List.range l.length).filter fun u => ad l v u
theorem map_range (l : List R) : (List.range l.length).map (fun j => l.getD j zero) = l := by
  apply List.ext_getElem
  · simp
  · intro i h1 h2
    simp [List.getD, h2]
theorem nb_places {l : List R} {v : Nat} (hv : v < l.length) : nb l[v] l = (nbP l v).map (idOf l) := by
  have key : ∀ (x : R) (m : List Nat), nb x (m.map fun j => l.getD j zero) = (m.filter fun u => decide (0 < bank x (l.getD u zero))).map (idOf l) := by
    intro x m
    unfold nb
    rw [List.filter_map, List.map_map]
    rfl
  have h := key l[v] (List.range l.length)
  rw [map_range] at h
  rw [h]
  unfold nbP
  have e : (fun u => ad l v u) = (fun u => decide (0 < bank l[v] (l.getD u zero))) := by
    funext u; unfold ad; rw [getD_at hv]
  rw [e]
theorem kids_places (l : List R) (D : List Nat) (v : Nat) : kids l.length (ad l) D v = (nbP l v).filter fun u => decide (u ∉ D) := by
  unfold kids nbP; rw [List.filter_filter]; congr 1; funext u; rw [Bool.and_comm]
/-- a place is told by its Id. -/
theorem id_inj {l : List R} (hg : good l = true) {i j : Nat} (hi : i < l.length) (hj : j < l.length) (h : idOf l i = idOf l j) : i = j := by
  rw [idOf_at hi rfl, idOf_at hj rfl] at h
  rcases Nat.lt_trichotomy i j with h1 | h1 | h1
  · have := MPond.ids_lt hg h1 hj; omega
  · exact h1
  · have := MPond.ids_lt hg h1 hi; omega
theorem find_id {l : List R} (hg : good l = true) {j : Nat} (hj : j < l.length) : find l (idOf l j) = j := by
  rw [idOf_at hj rfl]
  exact find_at hg hj (fun i hi hij e => by have := MPond.ids_lt hg hij hj; omega) rfl
theorem nbs_id {l : List R} (hg : good l = true) {j : Nat} (hj : j < l.length) : nbs l (idOf l j) = (nbP l j).map (idOf l) := by
  rw [nbs_yes (find_id hg hj) hj rfl, nb_places hj]
theorem id_mem {l : List R} (hg : good l = true) {D : List Nat} (hD : ∀ u ∈ D, u < l.length) {j : Nat} (hj : j < l.length) : idOf l j ∈ D.map (idOf l) ↔ j ∈ D := by
  constructor
  · intro h
    obtain ⟨u, hu, e⟩ := List.mem_map.1 h
    rw [← id_inj hg (hD u hu) hj e]; exact hu
  · exact fun h => List.mem_map.2 ⟨j, h, rfl⟩
/-- the kids among the first t + 1 neighbors. -/
theorem kid_yes {D : List Nat} {nbl : List Nat} {t : Nat} (ht : t < nbl.length) (h : nbl[t] ∉ D) : (nbl.take (t + 1)).filter (fun u => decide (u ∉ D)) = (nbl.take t).filter (fun u => decide (u ∉ D)) ++ [nbl[t]] := by
  rw [List.take_succ_eq_append_getElem ht, List.filter_append]; simp [h]
theorem kid_no {D : List Nat} {nbl : List Nat} {t : Nat} (ht : t < nbl.length) (h : nbl[t] ∈ D) : (nbl.take (t + 1)).filter (fun u => decide (u ∉ D)) = (nbl.take t).filter (fun u => decide (u ∉ D)) := by
  rw [List.take_succ_eq_append_getElem ht, List.filter_append]; simp [h]
theorem nbP_nd (l : List R) (v : Nat) : (nbP l v).Nodup := (List.filter_sublist).nodup List.nodup_range
theorem nbP_lt {l : List R} {v u : Nat} (h : u ∈ nbP l v) : u < l.length := List.mem_range.1 (List.mem_filter.1 h).1
/-- one that is not among the seen nor among the first t is not seen while they are put. -/
theorem seen_now {D : List Nat} {nbl : List Nat} (hnd : nbl.Nodup) {t : Nat} (ht : t < nbl.length) : nbl[t] ∈ D ++ (nbl.take t).filter (fun u => decide (u ∉ D)) ↔ nbl[t] ∈ D := by
  rw [List.mem_append]
  constructor
  · rintro (h | h)
    · exact h
    · exfalso
      have h1 := (List.mem_filter.1 h).1
      obtain ⟨i, hi, e⟩ := List.getElem_of_mem h1
      have hi' : i < t := by simp at hi; omega
      rw [List.getElem_take] at e
      have := (List.getElem_inj hnd).1 e
      omega
  · exact .inl
end Go.Proofs.Ytncdkfkihfhcgaa.ChainP
