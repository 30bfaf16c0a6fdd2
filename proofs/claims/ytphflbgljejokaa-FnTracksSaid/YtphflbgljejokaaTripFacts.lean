/- What FnTracks asks of the plain functions: reversing twice, loads that only grow, quiet times. -/
import Derived.Test.YtphflbgljejokaaTripR
import Derived.Test.YtphflbgljejokaaTripK
namespace Go.Proofs.Ytphflbgljejokaa.TripFacts
open Go.RowKit Go.Proofs.Ytphflbgljejokaa.Mem Go.Proofs.Ytphflbgljejokaa.Base Go.Proofs.Ytphflbgljejokaa.Within Go.Proofs.Ytphflbgljejokaa.STrip Go.Proofs.Ytphflbgljejokaa.TripP Go.Proofs.Ytphflbgljejokaa.TripL Go.Proofs.Ytphflbgljejokaa.TripR Go.Proofs.Ytphflbgljejokaa.TripJ
set_option linter.unusedVariables false
set_option linter.unusedSimpArgs false
theorem rev_rev (x : R) : rev (rev x) = x := rfl
theorem rev_back {l : List R} {d : Int} (hok : revOk l d = true) (hm : TripU.mtF l = []) : revOk (revF l d) d = true ∧ revF (revF l d) d = l := by
  have hg : good l = true := by
    cases h : good l
    · unfold revOk at hok; rw [rev_bad h] at hok; cases hok
    · rfl
  obtain ⟨i, hf⟩ : ∃ i, fnd l d = some i := by
    cases h : fnd l d with
    | none => unfold revOk at hok; rw [rev_none h] at hok; cases hok
    | some i => exact ⟨i, rfl⟩
  obtain ⟨hi, hd⟩ := fnd_some hf
  have hfr : freeB l (rev l[i]) = true := by
    cases h : freeB l (rev l[i])
    · unfold revOk at hok; rw [rev_meet hf hi rfl h] at hok; cases hok
    · rfl
  have e := rev_yes hg hf hi rfl hfr
  have eF : revF l d = l.set i (rev l[i]) := by unfold revF; rw [e]; rfl
  rw [eF]
  have hid : ∀ a (h : a < (l.set i (rev l[i])).length), (l.set i (rev l[i]))[a].f0 = (l[a]'(by simpa using h)).f0 := by
    intro a h
    rw [List.getElem_set]
    split
    · rename_i h1; subst h1; rfl
    · rfl
  have hp := good_pair hg
  have hlen := (good_all hg).1
  have hgm : good (l.set i (rev l[i])) = true := by
    refine good_mk (by rw [List.length_set]; exact hlen) (set_mem_ok (good_mem hg) (rev_ok ((good_all hg).2 i hi))) ?_
    rw [List.pairwise_iff_getElem]
    intro a b ha hb hab
    rw [hid a ha, hid b hb]
    exact List.pairwise_iff_getElem.1 hp a b (by simpa using ha) (by simpa using hb) hab
  have hi2 : i < (l.set i (rev l[i])).length := by rw [List.length_set]; exact hi
  have hx2 : (l.set i (rev l[i]))[i] = rev l[i] := by simp
  have hf2 : fnd (l.set i (rev l[i])) d = some i := by
    refine fnd_at hi2 (fun j hj hji => ?_) hx2 hd
    rw [hid j hj]
    have := List.pairwise_iff_getElem.1 hp j i (by simpa using hj) hi hji
    omega
  have hfr2 : freeB (l.set i (rev l[i])) (rev (rev l[i])) = true := by
    refine free_yes (k := (l.set i (rev l[i])).length) (fun j hj => ?_) (Nat.le_refl _)
    have hj' : j < l.length := by simpa using hj
    by_cases hji : j = i
    · subst hji
      exact freeAt_same hj hx2 rfl
    · have hne : l[j].f0 ≠ l[i].f0 := by
        rcases Nat.lt_or_ge j i with h | h
        · have := List.pairwise_iff_getElem.1 hp j i hj' hi h; omega
        · have := List.pairwise_iff_getElem.1 hp i j hi hj' (by omega); omega
      rw [rev_rev, freeAt_meet (x := l[j]) hj (by rw [List.getElem_set_ne (fun h => hji h.symm)]) hne]
      have : meetB l[j] l[i] = false := by
        rcases Nat.lt_or_ge j i with h | h
        · exact plan_apart hg hm h hi
        · rw [meet_comm]; exact plan_apart hg hm (by omega) hj'
      rw [this]; rfl
  have e2 := rev_yes hgm hf2 hi2 hx2 hfr2
  refine ⟨by unfold revOk; rw [e2]; rfl, ?_⟩
  unfold revF; rw [e2, rev_rev]
  simp
theorem sum_mono {l : List R} {f g : R → Int} (h : ∀ y ∈ l, f y ≤ g y) : (l.map f).sum ≤ (l.map g).sum := by
  induction l with
  | nil => simp
  | cons a l ih =>
    have h1 := h a (by simp)
    have h2 := ih (fun y hy => h y (by simp [hy]))
    simp only [List.map_cons, List.sum_cons]; omega
theorem ld_mono {l : List R} {s m n k : Int} (h : ldV l s m = .tuple #[.int .i64 n, .bool true]) (h1 : ldV l s (m + 1) = .tuple #[.int .i64 k, .bool true]) : n ≤ k := by
  have a : ldOk l s m = true := by
    cases e : ldOk l s m
    · rw [ldV_no e] at h; simp at h
    · rfl
  have b : ldOk l s (m + 1) = true := by
    cases e : ldOk l s (m + 1)
    · rw [ldV_no e] at h1; simp at h1
    · rfl
  rw [ldV_yes a] at h
  rw [ldV_yes b] at h1
  have e1 : sumT l s m l.length = n := by simpa using h
  have e2 : sumT l s (m + 1) l.length = k := by simpa using h1
  rw [← e1, ← e2]
  have hg : good l = true := by
    unfold ldOk at a; simp only [Bool.and_eq_true] at a; exact a.1.1
  unfold sumT
  rw [List.take_length]
  refine sum_mono fun y hy => ?_
  have h4 := (okT_true (good_mem hg y hy)).2.2.2.2.2.2.2.2.2.2.2.1
  unfold has
  by_cases q : (y.f2 == s) = true
  · rw [q]
    by_cases q1 : arr y ≤ m
    · rw [decide_eq_true q1, decide_eq_true (by omega : arr y ≤ m + 1)]; simp
    · rw [decide_eq_false q1]
      simp only [Bool.and_false, Bool.false_eq_true, if_false]
      split <;> omega
  · have q : (y.f2 == s) = false := by simpa using q
    rw [q]; simp
theorem lq_told {l : List R} {s : Int} : ∃ n q, lqV l s = .tuple #[.int .i64 n, .bool q] ∧ 0 ≤ n ∧ (q = true → good l = true ∧ TripU.mtF l = []) := by
  cases e : lqOk l s
  · exact ⟨_, _, lqV_no e, Int.le_refl _, fun h => by cases h⟩
  · refine ⟨_, _, lqV_yes e, ?_, fun _ => ?_⟩
    · have e' := e
      unfold lqOk at e'
      simp only [Bool.and_eq_true] at e'
      have hg := e'.1.1
      have hm : TripU.mtF l = [] := by simpa using e'.1.2
      have hi := of_inB e'.2
      obtain ⟨q, hq⟩ := TripK.srt_all hg hm hi.1 hi.2 l.length (Nat.le_refl _)
      have hs : ∀ x ∈ TripQ.sortI (entL l s l.length), 0 ≤ x ∧ x ≤ 1440 := fun x hx => TripK.entL_bd hg s l.length x ((hq.mem x).1 (by rw [← hq.srt]; exact hx))
      have hl : (TripQ.sortI (entL l s l.length)).length = (entL l s l.length).length := TripQ.sortI_len _
      exact (lq_bd hs _ (by rw [hl]; exact Nat.le_refl _)).1
    · unfold lqOk at e
      simp only [Bool.and_eq_true] at e
      exact ⟨e.1.1, by simpa using e.1.2⟩
theorem ld_form2 (l : List R) (s m : Int) : ∃ n q, ldV l s m = .tuple #[.int .i64 n, .bool q] := ld_form l s m
end Go.Proofs.Ytphflbgljejokaa.TripFacts
