/- CoverHeaps: the heaps that the greedy choice covers are the first ones of the stable sort. -/
import Derived.Test.YtpbmncecejchjaaCover
namespace Go.Proofs.Ytpbmncecejchjaa.Cover2
open Go.Proofs.Ytpbmncecejchjaa.HeapS Go.Proofs.Ytpbmncecejchjaa.Heap Go.Proofs.Ytpbmncecejchjaa.Heap3 Go.Proofs.Ytpbmncecejchjaa.Cover
set_option linter.unusedVariables false
/-- where x goes among the first j of p: ahead of all that it must be ahead of. -/
def posI (lt : Nat → Nat → Bool) (p : List Nat) (x : Nat) : Nat → Nat
  | 0 => 0
  | j + 1 => if lt x (p.getD j 0) = true then posI lt p x j else j + 1
def insI (lt : Nat → Nat → Bool) (p : List Nat) (x : Nat) : List Nat := p.take (posI lt p x p.length) ++ x :: p.drop (posI lt p x p.length)
def sortI (lt : Nat → Nat → Bool) (l : List Nat) : List Nat := l.foldl (insI lt) []
theorem posI_le (lt : Nat → Nat → Bool) (p : List Nat) (x : Nat) : ∀ j, posI lt p x j ≤ j
  | 0 => Nat.le_refl _
  | j + 1 => by
    unfold posI
    split
    · exact Nat.le_succ_of_le (posI_le lt p x j)
    · exact Nat.le_refl _
theorem posI_up (lt : Nat → Nat → Bool) (p : List Nat) (x : Nat) : ∀ j m, posI lt p x j ≤ m → m < j → lt x (p.getD m 0) = true := by
  intro j
  induction j with
  | zero => intro m _ h; omega
  | succ j ih =>
    intro m h1 h2
    rw [posI] at h1
    split at h1
    · rename_i h3
      rcases Nat.lt_or_ge m j with h4 | h4
      · exact ih m h1 h4
      · have : m = j := by omega
        subst this; exact h3
    · omega
theorem posI_at (lt : Nat → Nat → Bool) (p : List Nat) (x : Nat) : ∀ j, 0 < posI lt p x j → lt x (p.getD (posI lt p x j - 1) 0) = false := by
  intro j
  induction j with
  | zero => intro h; exact absurd h (Nat.lt_irrefl 0)
  | succ j ih =>
    intro h
    rw [posI] at h ⊢
    split
    · rename_i h3
      rw [if_pos h3] at h
      exact ih h
    · rename_i h3
      simpa using h3
theorem insI_len (lt : Nat → Nat → Bool) (p : List Nat) (x : Nat) : (insI lt p x).length = p.length + 1 := by
  have := posI_le lt p x p.length
  unfold insI; simp; omega
theorem mem_insI (lt : Nat → Nat → Bool) (p : List Nat) (x y : Nat) : y ∈ insI lt p x ↔ y = x ∨ y ∈ p := by
  unfold insI
  rw [List.mem_append, List.mem_cons]
  constructor
  · rintro (h | h | h)
    · exact .inr (List.mem_of_mem_take h)
    · exact .inl h
    · exact .inr (List.mem_of_mem_drop h)
  · rintro (h | h)
    · exact .inr (.inl h)
    · rw [← List.take_append_drop (posI lt p x p.length) p, List.mem_append] at h
      rcases h with h | h
      · exact .inl h
      · exact .inr (.inr h)
theorem sortI_snoc (lt : Nat → Nat → Bool) (l : List Nat) (x : Nat) : sortI lt (l ++ [x]) = insI lt (sortI lt l) x := by unfold sortI; rw [List.foldl_append]; rfl
def sumAt (l : List H) (i : Nat) : Int := (l.getD i hz).ls.sum
/-- i is to be covered ahead of j. -/
def lx (l : List H) (i j : Nat) : Prop := sumAt l j < sumAt l i ∨ (sumAt l i = sumAt l j ∧ i < j)
def ltK (l : List H) (i j : Nat) : Bool := decide (sumAt l j < sumAt l i)
theorem ins_pair (l : List H) (p : List Nat) (x : Nat) (hp : p.Pairwise (lx l)) (hx : ∀ y ∈ p, y < x) : (insI (ltK l) p x).Pairwise (lx l) := by
  obtain ⟨k, hk⟩ : ∃ k, posI (ltK l) p x p.length = k := ⟨_, rfl⟩
  have hle : k ≤ p.length := by rw [← hk]; exact posI_le _ _ _ _
  have hsp := hp
  rw [← List.take_append_drop k p, List.pairwise_append] at hsp
  have hup : ∀ y ∈ p.drop k, lx l x y := by
    intro y hy
    obtain ⟨m, hm, rfl⟩ := List.mem_iff_getElem.1 hy
    rw [List.length_drop] at hm
    have h1 := posI_up (ltK l) p x p.length (k + m) (by omega) (by omega)
    have e : p.getD (k + m) 0 = p[k + m] := by simp [List.getD, show k + m < p.length by omega]
    rw [e] at h1
    rw [List.getElem_drop]
    exact .inl (of_decide_eq_true h1)
  have hdn : ∀ y ∈ p.take k, lx l y x := by
    intro y hy
    have hyx := hx y (List.mem_of_mem_take hy)
    obtain ⟨m, hm, rfl⟩ := List.mem_iff_getElem.1 hy
    rw [List.length_take] at hm
    rw [List.getElem_take] at hyx ⊢
    have h1 := posI_at (ltK l) p x p.length (by omega)
    rw [hk] at h1
    have e : p.getD (k - 1) 0 = p[k - 1]'(by omega) := by simp [List.getD, show k - 1 < p.length by omega]
    rw [e] at h1
    have h2 : sumAt l x ≤ sumAt l (p[k - 1]'(by omega)) := by have := of_decide_eq_false h1; omega
    have h3 : sumAt l (p[k - 1]'(by omega)) ≤ sumAt l (p[m]'(by omega)) := by
      rcases Nat.lt_or_ge m (k - 1) with h4 | h4
      · rcases List.pairwise_iff_getElem.1 hp m (k - 1) (by omega) (by omega) h4 with h5 | ⟨h5, _⟩ <;> omega
      · have : m = k - 1 := by omega
        subst this; exact Int.le_refl _
    rcases Int.lt_or_le (sumAt l x) (sumAt l (p[m]'(by omega))) with h4 | h4
    · exact .inl h4
    · exact .inr ⟨by omega, hyx⟩
  unfold insI
  rw [hk, List.pairwise_append, List.pairwise_cons]
  refine ⟨hsp.1, ⟨hup, hsp.2.1⟩, ?_⟩
  intro a ha b hb
  rcases List.mem_cons.1 hb with h | h
  · subst h; exact hdn a ha
  · exact hsp.2.2 a ha b h
/-- the open ones among the first n. -/
def openI (l : List H) : Nat → List Nat
  | 0 => []
  | n + 1 => if openH (l.getD n hz) = true then openI l n ++ [n] else openI l n
theorem mem_openI (l : List H) : ∀ n i, i ∈ openI l n ↔ i < n ∧ openH (l.getD i hz) = true := by
  intro n
  induction n with
  | zero => intro i; simp [openI]
  | succ n ih =>
    intro i
    unfold openI
    split
    · rename_i h
      rw [List.mem_append, ih, List.mem_singleton]
      constructor
      · rintro (⟨h1, h2⟩ | h1)
        · exact ⟨by omega, h2⟩
        · subst h1; exact ⟨by omega, h⟩
      · rintro ⟨h1, h2⟩
        rcases Nat.lt_or_ge i n with h3 | h3
        · exact .inl ⟨h3, h2⟩
        · exact .inr (by omega)
    · rename_i h
      rw [ih]
      constructor
      · rintro ⟨h1, h2⟩; exact ⟨by omega, h2⟩
      · rintro ⟨h1, h2⟩
        refine ⟨?_, h2⟩
        rcases Nat.lt_or_ge i n with h3 | h3
        · exact h3
        · have : i = n := by omega
          subst this; exact absurd h2 h
theorem sort_open (l : List H) : ∀ n, (sortI (ltK l) (openI l n)).Pairwise (lx l) ∧ ∀ i, i ∈ sortI (ltK l) (openI l n) ↔ i < n ∧ openH (l.getD i hz) = true := by
  intro n
  have hm : ∀ n i, i ∈ sortI (ltK l) (openI l n) ↔ i ∈ openI l n := by
    intro n
    induction n with
    | zero => intro i; rfl
    | succ n ih =>
      intro i
      unfold openI
      split
      · rw [sortI_snoc, mem_insI, ih, List.mem_append, List.mem_singleton]
        exact ⟨fun h => h.symm, fun h => h.symm⟩
      · exact ih i
  refine ⟨?_, fun i => (hm n i).trans (mem_openI l n i)⟩
  induction n with
  | zero => exact List.Pairwise.nil
  | succ n ih =>
    unfold openI
    split
    · rw [sortI_snoc]
      exact ins_pair l _ _ ih (fun y hy => ((mem_openI l n y).1 ((hm n y).1 hy)).1)
    · exact ih
/-- what the greedy choice finds. -/
theorem hiC_spec (l : List H) : ∀ n, n ≤ l.length → match hiC l n with
    | none => ∀ i, i < n → openH (l.getD i hz) = false
    | some b => b < n ∧ openH (l.getD b hz) = true ∧ ∀ i, i < n → openH (l.getD i hz) = true → i = b ∨ lx l b i := by
  intro n
  induction n with
  | zero => intro _ i h; omega
  | succ n ih =>
    intro hn
    have ih := ih (by omega)
    show (match (match hiC l n with | none => if openH (l.getD n hz) = true then some n else none | some b => if openH (l.getD n hz) = true ∧ (l.getD b hz).ls.sum < (l.getD n hz).ls.sum then some n else some b) with | none => _ | some b => _)
    cases hp : hiC l n with
    | none =>
      rw [hp] at ih
      dsimp only at ih ⊢
      by_cases ho : openH (l.getD n hz) = true
      · rw [if_pos ho]
        refine ⟨by omega, ho, fun i hi h2 => ?_⟩
        rcases Nat.lt_or_ge i n with h3 | h3
        · rw [ih i h3] at h2; cases h2
        · exact .inl (by omega)
      · rw [if_neg ho]
        intro i hi
        rcases Nat.lt_or_ge i n with h3 | h3
        · exact ih i h3
        · have : i = n := by omega
          subst this; simpa using ho
    | some b =>
      rw [hp] at ih
      dsimp only at ih ⊢
      obtain ⟨h1, h2, h3⟩ := ih
      by_cases ho : openH (l.getD n hz) = true ∧ (l.getD b hz).ls.sum < (l.getD n hz).ls.sum
      · rw [if_pos ho]
        refine ⟨by omega, ho.1, fun i hi h4 => ?_⟩
        rcases Nat.lt_or_ge i n with h5 | h5
        · right
          have hb : sumAt l b < sumAt l n := ho.2
          rcases h3 i h5 h4 with h6 | h6 | ⟨h6, _⟩
          · subst h6; exact .inl hb
          · exact .inl (by omega)
          · exact .inl (by omega)
        · exact .inl (by omega)
      · rw [if_neg ho]
        refine ⟨by omega, h2, fun i hi h4 => ?_⟩
        rcases Nat.lt_or_ge i n with h5 | h5
        · exact h3 i h5 h4
        · have : i = n := by omega
          subst this
          right
          have hb : ¬ sumAt l b < sumAt l i := fun e => ho ⟨h4, e⟩
          rcases Int.lt_or_le (sumAt l i) (sumAt l b) with h6 | h6
          · exact .inl h6
          · exact .inr ⟨by omega, h1⟩
/-- these covered, one after another. -/
def coverAll (l : List H) (q : List Nat) : List H := q.foldl (fun m b => m.set b (withCov (m.getD b hz))) l
theorem set_sum (l : List H) (b i : Nat) : sumAt (l.set b (withCov (l.getD b hz))) i = sumAt l i := by
  unfold sumAt
  simp only [List.getD, List.getElem?_set]
  split
  · rename_i h
    subst h
    split
    · rename_i h2
      simp [withCov, h2]
    · rename_i h2
      simp [List.getElem?_eq_none (Nat.le_of_not_lt h2)]
  · rfl
theorem set_open (l : List H) (b i : Nat) (hb : b < l.length) : openH ((l.set b (withCov (l.getD b hz))).getD i hz) = true ↔ i ≠ b ∧ openH (l.getD i hz) = true := by
  simp only [List.getD, List.getElem?_set]
  by_cases h : b = i
  · subst h
    rw [if_pos rfl, if_pos hb]
    simp [withCov, openH]
  · rw [if_neg h]
    exact ⟨fun h2 => ⟨fun e => h e.symm, h2⟩, fun h2 => h2.2⟩
theorem lx_irr {l : List H} {i : Nat} (h : lx l i i) : False := by rcases h with h | ⟨_, h⟩ <;> omega
theorem lx_asym {l : List H} {i j : Nat} (h : lx l i j) (k : lx l j i) : False := by
  rcases h with h | ⟨h, h'⟩ <;> rcases k with k | ⟨k, k'⟩ <;> omega
/-- the greedy choice takes the sorted ones from in front. -/
theorem covN_sorted : ∀ (n : Nat) (l : List H) (q : List Nat), q.Pairwise (lx l) → (∀ i, i ∈ q ↔ i < l.length ∧ openH (l.getD i hz) = true) → covN l n = coverAll l (q.take n) := by
  have hshift : ∀ n (l : List H), covN l (n + 1) = covN (covStep l) n := by
    intro n
    induction n with
    | zero => intro l; rfl
    | succ n ih => intro l; show covStep (covN l (n + 1)) = covStep (covN (covStep l) n); rw [ih]
  intro n
  induction n with
  | zero => intro l q _ _; rw [List.take_zero]; rfl
  | succ n ih =>
    intro l q hq hm
    rw [hshift]
    have hs := hiC_spec l l.length (Nat.le_refl _)
    cases hp : hiC l l.length with
    | none =>
      rw [hp] at hs
      dsimp only at hs
      have hnil : q = [] := by
        cases q with
        | nil => rfl
        | cons a q =>
          have := (hm a).1 (List.mem_cons_self ..)
          rw [hs a this.1] at this
          exact absurd this.2 (by simp)
      subst hnil
      rw [covStep_none hp, ih l [] hq hm]
      simp
    | some b =>
      rw [hp] at hs
      dsimp only at hs
      obtain ⟨h1, h2, h3⟩ := hs
      cases q with
      | nil => exact absurd ((hm b).2 ⟨h1, h2⟩) (by simp)
      | cons a q =>
        rw [List.pairwise_cons] at hq
        have ha := (hm a).1 (List.mem_cons_self ..)
        have hab : a = b := by
          rcases h3 a ha.1 ha.2 with h | h
          · exact h
          · rcases List.mem_cons.1 ((hm b).2 ⟨h1, h2⟩) with h4 | h4
            · exact h4.symm
            · exact (lx_asym h (hq.1 b h4)).elim
        subst hab
        have e : covStep l = l.set a (withCov (l.getD a hz)) := by rw [covStep_some hp h1 rfl, h_at h1]
        have hsum : lx (covStep l) = lx l := by
          funext i j; unfold lx; rw [e, set_sum, set_sum]
        rw [List.take_succ_cons, ih (covStep l) q (by rw [hsum]; exact hq.2) (fun i => by
          rw [e, List.length_set, set_open l a i h1]
          constructor
          · intro h
            have := (hm i).1 (List.mem_cons_of_mem _ h)
            exact ⟨this.1, fun e2 => by subst e2; exact lx_irr (hq.1 _ h), this.2⟩
          · rintro ⟨h4, h5, h6⟩
            rcases List.mem_cons.1 ((hm i).2 ⟨h4, h6⟩) with h7 | h7
            · exact absurd h7 h5
            · exact h7)]
        unfold coverAll
        rw [List.foldl_cons, e]
theorem cov_sorted (l : List H) (n : Nat) : covN l n = coverAll l ((sortI (ltK l) (openI l l.length)).take n) :=
  covN_sorted n l _ (sort_open l l.length).1 (sort_open l l.length).2
end Go.Proofs.Ytpbmncecejchjaa.Cover2
