/- slices.Delete over ponds: one element. -/
import Derived.Test.YtncdkfkihfhcgaaPClone
import Derived.Laws.IdiomCopy
import Derived.Deep.RegionLaw
namespace Go.Proofs.Ytncdkfkihfhcgaa.PDel
open Go.RowKit Go.Proofs.Ytncdkfkihfhcgaa.Mem Go.Proofs.Ytncdkfkihfhcgaa.Base Go.Proofs.Ytncdkfkihfhcgaa.SPond Go.Proofs.Ytncdkfkihfhcgaa.Boxes Go.Proofs.Ytncdkfkihfhcgaa.Keep Go.Proofs.Ytncdkfkihfhcgaa.PClone
set_option linter.unusedVariables false
set_option maxRecDepth 100000
def putL : List Value → Nat → List Value → List Value
  | xs, _, [] => xs
  | xs, o, v :: r => putL (xs.set o v) (o + 1) r
theorem putL_eq (vs : List Value) : ∀ (xs : List Value) (o : Nat), o + vs.length ≤ xs.length → putL xs o vs = xs.take o ++ vs ++ xs.drop (o + vs.length) := by
  induction vs with
  | nil => intro xs o _; simp [putL]
  | cons v r ih =>
    intro xs o h
    simp only [List.length_cons] at h
    rw [putL, ih _ _ (by rw [List.length_set]; omega), List.take_succ_eq_append_getElem (by rw [List.length_set]; omega), List.getElem_set_self, List.take_set_of_le (by omega), List.drop_set_of_lt (by omega)]
    simp [List.append_assoc, Nat.add_assoc, Nat.add_comm 1]
theorem own_cells {base : Nat} {e : TypeId} {size n c g : Nat} (vs : List Value) : ∀ (o : Nat) (w : World) (xs : List Value), w.ownsRow base e size (.slice (some ⟨g, 0, none⟩) n c) n xs → (w.setCells g o vs).ownsRow base e size (.slice (some ⟨g, 0, none⟩) n c) n (putL xs o vs) := by
  induction vs with
  | nil => intro o w xs h; exact h
  | cons v r ih => intro o w xs h; exact ih (o + 1) _ _ (h.stored o v).1
theorem grown_cells {w : World} {g : Nat} (vs : List Value) : ∀ (o : Nat) (w' : World), w.grownBy w' (some g) → w.grownBy (w'.setCells g o vs) (some g) := by
  induction vs with
  | nil => intro o w' h; exact h
  | cons v r ih =>
    intro o w' h
    refine ih (o + 1) _ ?_
    exact ⟨h.os, h.tape, h.output, by have := h.size; simp [World.setCell]; exact this, fun k hk hne => by
      rw [Below.heap_setCell w' ⟨g, o, none⟩ v k (fun e => hne (by rw [e]))]
      exact h.block k hk hne⟩
theorem own_shrink {w : World} {base : Nat} {e : TypeId} {size n m c g : Nat} {xs : List Value} (h : w.ownsRow base e size (.slice (some ⟨g, 0, none⟩) n c) n xs) (hm : m ≤ n) : w.ownsRow base e size (.slice (some ⟨g, 0, none⟩) m c) m (xs.take (m * size)) := by
  have hms : m * size ≤ n * size := Nat.mul_le_mul_right _ hm
  refine ⟨by rw [List.length_take, h.1]; omega, ?_⟩
  rcases h.2 with ⟨hv, _⟩ | ⟨g', cap, cur, hv, hgb, hh, hc, hcm, hcs, ht⟩
  · cases hv
  · injection hv with e1 e2 e3
    subst e3
    refine .inr ⟨g', c, cur, ?_, hgb, hh, by omega, hcm, hcs, ?_⟩
    · rw [e1]
    · rw [← ht, List.take_take, Nat.min_eq_left hms]
theorem zero_one : ∀ u ∈ zero.cells, u.oneCell' = true := by
  intro u hu; simp [R.cells, zero] at hu; subst hu; rfl
theorem clear_one (w : World) (ty : TypeId) (b o c : Nat) (hc : ∀ j, j < 6 → (w.cell? ⟨b, o + j, none⟩).isSome = true) (hf : ∀ j, j < 6 → w.frozen? ⟨b, o + j, none⟩ = false) :
    (Builtin.clear_ #[24] ty #[.slice (some ⟨b, o, none⟩) 1 c]).run Try.prog w = .ok (.tuple #[]) (w.setCells b o zero.cells) := by
  have hzc : (Builtin.zeroCells zero.val.cells 1).toList = zero.cells := by
    simp [Builtin.zeroCells, R.val, R.cells, Value.cells, zero]
    rfl
  have hzd : (Builtin.zeroCells (Value.agg #[.int .i64 0, .int .i64 0, .int .i64 0, .int .i64 0, .int .i64 0, .int .i64 0]).cells 1).toList = zero.cells := hzc
  have hst := run_storeCells_cells (P := Try.prog) b o zero.cells 0 w (by simpa [R.cells] using hc) (by simpa [R.cells] using hf) zero_one
  simp only [Nat.add_zero] at hst
  simp only [Builtin.clear_]
  simp [run_underlying Try.underlying24]
  rw [hzd, hst]
  rfl
theorem flat_app (a b : List R) : flat (a ++ b) = flat a ++ flat b := by unfold flat; rw [List.flatMap_append]
theorem erase_flat {l : List R} {i : Nat} (hi : i < l.length) : ((flat l).take (i * 6) ++ flat (l.drop (i + 1))) = flat (l.eraseIdx i) := by
  have e : flat l = flat (l.take i) ++ flat (l.drop i) := by rw [← flat_app, List.take_append_drop]
  have h1 : (flat (l.take i)).length = i * 6 := by rw [flat_n, List.length_take]; omega
  rw [e, List.take_append_of_le_length (by omega), List.take_of_length_le (by omega), ← flat_app, List.eraseIdx_eq_take_drop_succ]
set_option maxHeartbeats 1000000 in
theorem delete_any (g c base : Nat) (l : List R) (i j : Nat) (hj : Hid (j = i + 1)) (hi : i < l.length) (hl : l.length ≤ 1000) (w : World) (ho : w.ownsRow base 54 6 (.slice (some ⟨g, 0, none⟩) l.length c) l.length (flat l)) :
    Calls Try.prog 43 #[.slice (some ⟨g, 0, none⟩) l.length c, .int .i64 i, .int .i64 j] w fun e w' => e = .returned (.slice (some ⟨g, 0, none⟩) (l.length - 1) c) ∧ w'.ownsRow base 54 6 (.slice (some ⟨g, 0, none⟩) (l.length - 1) c) (l.length - 1) (flat (l.eraseIdx i)) ∧ w.grownBy w' (some g) := by
  obtain ⟨i0, hi0, hz0, hz1, hz2⟩ := info_parts info_T
  have HI1 := Lib.hid hz1; clear hz1 hz2
  have hcap := own_cap ho
  have hne : ((i : Int) == (j : Int)) = false := by have := hj.out; simp; omega
  have hcm : c ≤ maxLen := by
    rcases ho.2 with ⟨hv, _⟩ | ⟨g', cap, cur, hv, hgb, hh, hc, hcm, _⟩
    · cases hv
    · injection hv with _ _ e3; omega
  unfold maxLen at hcm
  have hjl : j ≤ l.length := by have := hj.out; omega
  have hij : i ≤ j := by have := hj.out; omega
  obtain ⟨m, hm⟩ : ∃ m, m = l.length - j := ⟨_, rfl⟩
  obtain ⟨news, hnews⟩ : ∃ news, news = flat (l.drop j) := ⟨_, rfl⟩
  have hlen : news.length = m * 6 := by rw [hnews, flat_n, List.length_drop, hm]
  have hr0 : ∀ q v, (flat l)[q]? = some v → w.drew.cell? ⟨g, q, none⟩ = some v := by
    intro q v hv
    have hq : q < (flat l).length := by
      rcases Nat.lt_or_ge q (flat l).length with h | h
      · exact h
      · rw [List.getElem?_eq_none h] at hv; cases hv
    exact (ho.cellAt q (by rw [flat_n] at hq; exact hq)).trans hv
  have hsplit : flat l = flat (l.take j) ++ news := by rw [hnews, ← flat_app, List.take_append_drop]
  have htl : (flat (l.take j)).length = j * 6 := by rw [flat_n, List.length_take]; omega
  obtain ⟨A, hA, hsrc⟩ : ∃ A : Addr, (if c = j then some (⟨g, 0, none⟩ : Addr) else some ⟨g, j * 6, none⟩) = some A ∧ Hid (∀ t u, news[t]? = some u → w.drew.cell? (A.add t) = some u) := by
    by_cases h : c = j
    · refine ⟨⟨g, 0, none⟩, by simp [h], fun t u hu => ?_⟩
      have h0 : news.length = 0 := by rw [hlen]; omega
      rw [List.length_eq_zero_iff.1 h0] at hu
      simp at hu
    · refine ⟨⟨g, j * 6, none⟩, by simp [h], fun t u hu => ?_⟩
      rw [cell_add]
      refine hr0 _ _ ?_
      rw [hsplit, List.getElem?_append_right (by omega), htl, Nat.add_sub_cancel_left]; exact hu
  have s1 : Hid (news.length = m * 6) := hlen
  have s2 : Hid (∀ u ∈ news, u.oneCell' = true) := by rw [hnews]; exact flat_one _
  have s3 : Hid (∀ t, t < news.length → (w.drew.cell? ⟨g, 0 + i * 6 + t, none⟩).isSome = true ∧ w.drew.frozen? ⟨g, 0 + i * 6 + t, none⟩ = false) := by
    intro t ht
    have hq : i * 6 + t < (flat l).length := by rw [flat_n]; omega
    rw [Nat.zero_add]
    exact ⟨by rw [hr0 _ _ (List.getElem?_eq_getElem hq)]; rfl, ho.frozenAt _⟩
  obtain ⟨W1, hW1⟩ : ∃ W1, W1 = w.drew.setCells g (0 + i * 6) news := ⟨_, rfl⟩
  have O0 : w.drew.ownsRow base 54 6 (.slice (some ⟨g, 0, none⟩) l.length c) l.length (flat l) := own_keep ho (Below.refl _ w).drew
  have O1 := own_cells news (0 + i * 6) _ _ O0
  rw [← hW1] at O1
  have hput := putL_eq news (flat l) (0 + i * 6) (by rw [flat_n, hlen]; omega)
  rw [hput] at O1
  have hn1 : i + m = l.length - 1 := by have := hj.out; omega
  have hcl : ∀ ty q, (Builtin.clear_ #[24] ty #[.slice (some ⟨g, (i + m) * 6, none⟩) (l.length - (i + m)) q]).run Try.prog W1 = .ok (.tuple #[]) (W1.setCells g ((i + m) * 6) zero.cells) := by
    intro ty q
    rw [show l.length - (i + m) = 1 by omega]
    refine clear_one W1 ty g _ q (fun t ht => ?_) (fun t ht => O1.frozenAt _)
    have hx := O1.1
    rw [O1.cellAt ((i + m) * 6 + t) (by omega), List.getElem?_eq_getElem (by omega)]; rfl
  have HO1 := Lib.hid O1; have HH := Lib.hid hnews
  have hW : Hid (W1 = w.drew.setCells g (0 + i * 6) news) := hW1
  have HN1 := Lib.hid hn1
  have hic : i ≤ c := by omega
  have hjc : j ≤ c := by omega
  have hne2 : ¬ (c = i + m) := by omega
  have HM := Lib.hid hm
  have HL := Lib.hid (And.intro hi hl)
  have e1 : l.length - j = m := hm.symm
  clear O1 O0 hW1 hnews hsplit htl hput hlen hr0 hm hn1
  go_enter Try.func43, Try.ntmps43
  go_wp2_with fail
  go_region_law (refine step_append_room rfl (.tmp 22) (.tmp 25) 24 rfl 54 i0 6 Try.underlying24 hi0 HI1.out g 0 i c (by simp [Act.eval, Act.put]) A m (c - j) news (by simp [Act.eval, Act.put]) s1.out hsrc.out s2.out (by have := HM.out; omega) s3.out ?_; rw [← hW.out])
  go_wp2
  go_ret
  have hnm := HN1.out; have hL := HL.out
  have hx := HO1.out.1
  have O2 := own_cells zero.cells ((i + m) * 6) _ _ HO1.out
  have O3 := own_shrink O2 (m := l.length - 1) (by omega)
  refine ⟨by rw [show l.length - 1 = i + m by omega] <;> rfl, ?_, ?_⟩
  · have hzl : zero.cells.length = 6 := rfl
    rw [putL_eq _ _ _ (by rw [hx, hzl]; omega), show (l.length - 1) * 6 = (i + m) * 6 by omega, List.append_assoc, List.take_append_of_le_length (by rw [List.length_take, hx]; omega), List.take_take, Nat.min_self, Nat.zero_add] at O3
    have e2 : (List.take (i * 6) (flat l) ++ news ++ List.drop (i * 6 + news.length) (flat l)).take ((i + m) * 6) = flat (l.eraseIdx i) := by
      have hl1 : (List.take (i * 6) (flat l)).length = i * 6 := by rw [List.length_take, flat_n]; omega
      rw [List.take_append_of_le_length (by rw [List.length_append, hl1, s1.out]; omega), List.take_of_length_le (by rw [List.length_append, hl1, s1.out]; omega), HH.out, hj.out]
      exact erase_flat hL.1
    rw [e2] at O3
    rw [show l.length - 1 = i + m by omega] at O3 ⊢
    exact O3
  · rw [hW.out]
    exact grown_cells _ _ _ (grown_cells _ _ _ ⟨rfl, rfl, rfl, Nat.le_refl _, fun _ _ _ => rfl⟩)
end Go.Proofs.Ytncdkfkihfhcgaa.PDel
