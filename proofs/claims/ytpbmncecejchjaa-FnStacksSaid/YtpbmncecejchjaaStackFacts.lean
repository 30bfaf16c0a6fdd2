/- What FnStacks says, as plain arithmetic: rain loses what it takes, 20 sheets cover all, stacks have all tons. -/
import Derived.Test.YtpbmncecejchjaaHeapN
import Derived.Test.YtpbmncecejchjaaCover2
import Derived.Test.YtpbmncecejchjaaStack
import Derived.Test.YtpbmncecejchjaaRLaw
namespace Go.Proofs.Ytpbmncecejchjaa.StackFacts
open Go.RowKit Go.Proofs.Ytpbmncecejchjaa.Mem Go.Proofs.Ytpbmncecejchjaa.Base Go.Proofs.Ytpbmncecejchjaa.HeapS Go.Proofs.Ytpbmncecejchjaa.Heap Go.Proofs.Ytpbmncecejchjaa.Heap2 Go.Proofs.Ytpbmncecejchjaa.Heap3 Go.Proofs.Ytpbmncecejchjaa.HeapN Go.Proofs.Ytpbmncecejchjaa.Cover Go.Proofs.Ytpbmncecejchjaa.Cover2 Go.Proofs.Ytpbmncecejchjaa.Stack
set_option linter.unusedVariables false
theorem good_like {l m : List H} (hl : m.length = l.length) (h : ∀ k (hk : k < l.length) (hm : k < m.length), m[k].id = l[k].id ∧ okH m[k] = true) (hg : good l = true) : good m = true := by
  have h10 := good_len hg
  rw [good_end (k := m.length) (fun j hj => ?_) (Nat.le_refl _)]
  · exact decide_eq_true (by omega)
  · have hjl : j < l.length := by omega
    cases j with
    | zero => exact at_zero hj rfl (h 0 hjl hj).2
    | succ j =>
      have := good_asc hg j hjl
      have h1 := (h j (by omega) (by omega)).1
      have h2 := (h (j + 1) hjl hj).1
      exact at_yes hj rfl (h (j + 1) hjl hj).2 (by omega)
theorem one_of {x : H} (r : Int) (h : okH x = true) : (rainOne r x).id = x.id ∧ (rainOne r x).gr = x.gr ∧ okH (rainOne r x) = true := by
  unfold rainOne
  split
  · refine ⟨rfl, rfl, ?_⟩
    obtain ⟨h1, h2, h3, h4, h5⟩ := okH_true h
    unfold okH
    show (inB x.id 1 99 && inB x.gr 1 4 && okLs (takeL x.ls (washed r x))) = true
    rw [takeL_ok _ _ _ rfl h5, inB_true ⟨h1, h2⟩, inB_true ⟨h3, h4⟩]; rfl
  · exact ⟨rfl, rfl, h⟩
theorem rain_good {l : List H} {r : Int} (h : rainOk l r = true) : good (rainH l r) = true ∧ good l = true := by
  have hg : good l = true := by unfold rainOk at h; rw [Bool.and_eq_true] at h; exact h.1
  rw [(rain_yes h).1]
  refine ⟨good_like (by simp) (fun k hk hm => ?_) hg, hg⟩
  rw [List.getElem_map]
  have := one_of r (good_get hg k hk)
  exact ⟨this.1, this.2.2⟩
theorem top_sum {ls : List Int} (h : okLs ls = true) (hn : ls ≠ []) : topE 501 ls ≤ ls.sum := by
  obtain ⟨p, x, rfl⟩ : ∃ p x, ls = p ++ [x] := ⟨ls.dropLast, ls.getLast hn, (List.dropLast_concat_getLast hn).symm⟩
  have hp : 0 ≤ p.sum := by
    have hm : ∀ y ∈ p, 0 ≤ y := fun y hy => by have := okLs_mem h y (by simp [hy]); omega
    clear h hn
    induction p with
    | nil => simp
    | cons a p ih =>
      have := ih (fun y hy => hm y (List.mem_cons_of_mem _ hy))
      have := hm a (by simp)
      simp only [List.sum_cons]; omega
  unfold topE
  simp
  omega
theorem one_sum {x : H} {r : Int} (h : okH x = true) (h0 : 0 ≤ r) (h1 : r ≤ 300) : (rainOne r x).ls.sum = x.ls.sum - washed r x := by
  have h5 := (okH_true h).2.2.2.2
  have hw := washed_bd (x := x) h5 h0 h1
  unfold rainOne
  by_cases ho : openH x = true
  · rw [if_pos ho]
    show (takeL x.ls (washed r x)).sum = _
    have hne : x.ls ≠ [] := by
      unfold openH at ho
      rw [Bool.and_eq_true, decide_eq_true_eq] at ho
      intro e; rw [e] at ho; simp at ho
    have h6 := top_sum h5 hne
    have h7 : washed r x ≤ topE 501 x.ls := by rw [washed_yes r ho]; omega
    exact takeL_sum (fun y hy => (okLs_mem h5 y hy).1) hw.1 (by omega)
  · rw [if_neg ho, washed_no r (by simpa using ho)]; omega
theorem tons_cons (x : H) (l : List H) (g : Int) : tonsL (x :: l) g = (if x.gr = g then x.ls.sum else 0) + tonsL l g := by
  unfold tonsL
  by_cases h : x.gr = g
  · rw [List.filter_cons_of_pos (by simp [h]), if_pos h]; simp
  · rw [List.filter_cons_of_neg (by simp [h]), if_neg h]; omega
def all4 (l : List H) : Int := tonsL l 1 + tonsL l 2 + tonsL l 3 + tonsL l 4
theorem all4_cons {x : H} (l : List H) (h : 1 ≤ x.gr ∧ x.gr ≤ 4) : all4 (x :: l) = x.ls.sum + all4 l := by
  unfold all4
  rw [tons_cons, tons_cons, tons_cons, tons_cons]
  split <;> split <;> split <;> split <;> omega
theorem rain_sum {l : List H} {r : Int} (h : ∀ x ∈ l, okH x = true) (h0 : 0 ≤ r) (h1 : r ≤ 300) : all4 l - all4 (l.map (rainOne r)) = lostI l r := by
  induction l with
  | nil => rfl
  | cons x l ih =>
    have hx := h x (by simp)
    have ho := okH_true hx
    have h2 := one_of r hx
    have h3 := one_sum (r := r) hx h0 h1
    have h4 := ih (fun y hy => h y (List.mem_cons_of_mem _ hy))
    rw [List.map_cons, all4_cons _ ⟨ho.2.2.1, ho.2.2.2.1⟩, all4_cons _ (by rw [h2.2.1]; exact ⟨ho.2.2.1, ho.2.2.2.1⟩)]
    have h5 : lostI (x :: l) r = washed r x + lostI l r := by unfold lostI; simp
    omega
theorem rain_lost {l : List H} {r : Int} (h : rainOk l r = true) : all4 l - all4 (rainH l r) = rainI l r := by
  have hg : good l = true ∧ inB r 0 300 = true := by unfold rainOk at h; rw [Bool.and_eq_true] at h; exact h
  rw [(rain_yes h).1, (rain_yes h).2]
  have := of_inB hg.2
  exact rain_sum (good_mem hg.1) this.1 this.2
theorem ls_bd {l : List H} (hg : good l = true) : ∀ x ∈ l, 0 ≤ x.ls.sum ∧ x.ls.sum ≤ 6000 := by
  intro x hx
  have h5 := (okH_true (good_mem hg x hx)).2.2.2.2
  have h12 := okLs_len h5
  have hm := okLs_mem h5
  have key : ∀ (ls : List Int), (∀ y ∈ ls, 1 ≤ y ∧ y ≤ 500) → 0 ≤ ls.sum ∧ ls.sum ≤ 500 * ls.length := by
    intro ls
    induction ls with
    | nil => intro _; simp
    | cons a p ih =>
      intro h
      have h1 := ih (fun y hy => h y (List.mem_cons_of_mem _ hy))
      have h2 := h a (by simp)
      simp only [List.sum_cons, List.length_cons]
      omega
  have := key _ hm
  omega
theorem tons_bd {l : List H} (g : Int) (hg : good l = true) : 0 ≤ tonsL l g ∧ tonsL l g ≤ 60000 := by
  have h10 := good_len hg
  have hb := ls_bd hg
  have key : ∀ (m : List H), (∀ x ∈ m, 0 ≤ x.ls.sum ∧ x.ls.sum ≤ 6000) → 0 ≤ tonsL m g ∧ tonsL m g ≤ 6000 * m.length := by
    intro m
    induction m with
    | nil => intro _; simp [tonsL]
    | cons a p ih =>
      intro h
      have h1 := ih (fun y hy => h y (List.mem_cons_of_mem _ hy))
      have h2 := h a (by simp)
      rw [tons_cons]
      simp only [List.length_cons]
      split <;> omega
  have := key l hb
  omega
/-- the tons of the grades below k. -/
def accT (l m : List H) : Nat → Int
  | 0 => 0
  | k + 1 => accT l m k + tonsL l (k + 1) - tonsL m (k + 1)
theorem acc_four (l m : List H) : accT l m 4 = all4 l - all4 m := by
  unfold all4
  simp [accT]
  omega
theorem acc_bd {l m : List H} (hl : good l = true) (hm : good m = true) : ∀ k : Nat, -60000 * (k : Int) ≤ accT l m k ∧ accT l m k ≤ 60000 * k
  | 0 => by simp [accT]
  | k + 1 => by
    have := acc_bd hl hm k
    have h1 := tons_bd (k + 1) hl
    have h2 := tons_bd (k + 1) hm
    unfold accT
    omega
-- 20 sheets
theorem covStep_at (l : List H) (k : Nat) (hk : k < l.length) (h : k < (covStep l).length) : (covStep l)[k].id = l[k].id ∧ (covStep l)[k].gr = l[k].gr ∧ (covStep l)[k].ls = l[k].ls := by
  cases hp : hiC l l.length with
  | none => simp [covStep_none hp]
  | some b =>
    have hb := hiC_lt l _ _ hp
    simp only [covStep_some hp hb rfl, List.getElem_set]
    split
    · rename_i e; subst e; exact ⟨rfl, rfl, rfl⟩
    · exact ⟨rfl, rfl, rfl⟩
theorem covN_at (l : List H) : ∀ (n k : Nat) (hk : k < l.length) (h : k < (covN l n).length), (covN l n)[k].id = l[k].id ∧ (covN l n)[k].gr = l[k].gr ∧ (covN l n)[k].ls = l[k].ls
  | 0, k, hk, h => ⟨rfl, rfl, rfl⟩
  | n + 1, k, hk, h => by
    have hk2 : k < (covN l n).length := by rw [covN_len]; exact hk
    have h1 := covN_at l n k hk hk2
    have h2 := covStep_at (covN l n) k hk2 h
    exact ⟨h2.1.trans h1.1, h2.2.1.trans h1.2.1, h2.2.2.trans h1.2.2⟩
theorem cov_good {l : List H} (hg : good l = true) (n : Nat) : good (covN l n) = true := by
  refine good_like (covN_len l n) (fun k hk hm => ?_) hg
  have h := covN_at l n k hk hm
  refine ⟨h.1, ?_⟩
  have := good_get hg k hk
  unfold okH at this ⊢
  rw [h.1, h.2.1, h.2.2]
  exact this
theorem openI_len (l : List H) : ∀ n, (openI l n).length ≤ n
  | 0 => by simp [openI]
  | n + 1 => by
    have := openI_len l n
    unfold openI
    split
    · rw [List.length_append]; simp; omega
    · omega
theorem sortI_len (lt : Nat → Nat → Bool) (l : List Nat) : (sortI lt l).length = l.length := by
  unfold sortI
  have key : ∀ (l p : List Nat), (l.foldl (insI lt) p).length = p.length + l.length := by
    intro l
    induction l with
    | nil => intro p; simp
    | cons a l ih => intro p; rw [List.foldl_cons, ih, insI_len, List.length_cons]; omega
  simpa using key l []
theorem all_open (q : List Nat) : ∀ (l : List H), (∀ i ∈ q, i < l.length) → ∀ i, openH ((coverAll l q).getD i hz) = true ↔ i ∉ q ∧ openH (l.getD i hz) = true := by
  induction q with
  | nil => intro l _ i; simp [coverAll]
  | cons b q ih =>
    intro l hq i
    have hb := hq b (by simp)
    have h1 := ih (l.set b (withCov (l.getD b hz))) (fun j hj => by rw [List.length_set]; exact hq j (List.mem_cons_of_mem _ hj)) i
    show openH ((coverAll (l.set b (withCov (l.getD b hz))) q).getD i hz) = true ↔ _
    rw [h1, set_open l b i hb, List.mem_cons, not_or]
    exact ⟨fun h => ⟨⟨h.2.1, h.1⟩, h.2.2⟩, fun h => ⟨h.1.2, h.1.1, h.2⟩⟩
theorem cov_shut {l : List H} (hg : good l = true) : ∀ x ∈ covN l 20, openH x = false := by
  intro x hx
  obtain ⟨k, hk, rfl⟩ := List.getElem_of_mem hx
  have h10 := good_len hg
  have hs := sort_open l l.length
  have hn : (sortI (ltK l) (openI l l.length)).length ≤ 10 := by rw [sortI_len]; have := openI_len l l.length; omega
  cases ho : openH (covN l 20)[k] with
  | false => rfl
  | true =>
    exfalso
    rw [← h_at hk, cov_sorted, List.take_of_length_le (by omega)] at ho
    have h2 := (all_open _ l (fun i hi => ((hs.2 i).1 hi).1) k).1 ho
    rw [covN_len] at hk
    exact h2.1 ((hs.2 k).2 ⟨hk, h2.2⟩)
theorem rain_none {m : List H} (hg : good m = true) (h : ∀ x ∈ m, openH x = false) : rainOk m 300 = true ∧ rainH m 300 = m ∧ rainI m 300 = 0 := by
  have hok : rainOk m 300 = true := by unfold rainOk; rw [hg]; rfl
  refine ⟨hok, ?_, ?_⟩
  · rw [(rain_yes hok).1]
    have : m.map (rainOne 300) = m.map id := List.map_congr_left fun x hx => by unfold rainOne; rw [h x hx]; rfl
    rw [this, List.map_id]
  · rw [(rain_yes hok).2]
    unfold lostI
    have : m.map (washed 300) = m.map (fun _ => (0 : Int)) := List.map_congr_left fun x hx => washed_no 300 (h x hx)
    rw [this]
    clear this h hg hok
    induction m with
    | nil => rfl
    | cons a m ih => simpa using ih
theorem cov_20 {l : List H} (hg : good l = true) : covOk l 20 = true ∧ rainOk (covH l 20) 300 = true ∧ rainH (covH l 20) 300 = covH l 20 ∧ rainI (covH l 20) 300 = 0 := by
  have hok : covOk l 20 = true := by unfold covOk; rw [hg]; rfl
  refine ⟨hok, ?_⟩
  rw [cov_yes hok]
  exact rain_none (cov_good hg _) (cov_shut hg)
-- stacks
theorem set_tot (rows : List (List Int)) (i : Nat) (t : Int) (hi : i < rows.length) : ((rows.set i (rows.getD i [] ++ [t])).map List.sum).sum = (rows.map List.sum).sum + t := by
  induction rows generalizing i with
  | nil => simp at hi
  | cons a rows ih =>
    cases i with
    | zero => simp; omega
    | succ i =>
      have := ih i (by simpa using hi)
      simp only [List.set_cons_succ, List.map_cons, List.sum_cons, List.getD_cons_succ]
      omega
theorem step_tot (rows : List (List Int)) (t : Int) : ((Stack.step rows t).map List.sum).sum = (rows.map List.sum).sum + t := by
  unfold Stack.step
  cases hp : pick 501 (rows.map hOf) 0 t rows.length with
  | none => simp
  | some i =>
    have := (pick_ok (by simp) hp).1
    exact set_tot rows i t this
theorem stk_tot (l : List Int) : ∀ n, n ≤ l.length → ((stk l n).map List.sum).sum = (l.take n).sum
  | 0, _ => rfl
  | n + 1, h => by
    have ih := stk_tot l n (by omega)
    show ((Stack.step (stk l n) (l.getD n 0)).map List.sum).sum = _
    rw [step_tot, ih, int_at (by omega), RLaw.sum_next (by omega)]
theorem stack_tot {l : List Int} (h : stkOk l = true) : ((stkF l).map List.sum).sum = l.sum := by
  rw [stk_yes h, stk_tot l _ (Nat.le_refl _), List.take_of_length_le (Nat.le_refl _)]
theorem stack_gd (l : List Int) : Gd (stkF l) ∧ (stkF l).length ≤ 20 := by
  cases h : stkOk l with
  | false => rw [stk_no h]; exact ⟨fun r hr => (by cases hr), by simp⟩
  | true =>
    rw [stk_yes h]
    unfold stkOk at h
    rw [Bool.and_eq_true, decide_eq_true_eq] at h
    have := stk_gd (l := l) (upTo_all h.2) (Nat.le_refl _)
    exact ⟨this.1, by omega⟩
theorem stack_is {l : List Int} : ∀ r ∈ stkF l, okH ⟨1, 1, r, false⟩ = true := by
  intro r hr
  have := ((stack_gd l).1 r hr).2
  unfold okH
  show (inB 1 1 99 && inB 1 1 4 && okLs r) = true
  rw [this]; rfl
end Go.Proofs.Ytpbmncecejchjaa.StackFacts
