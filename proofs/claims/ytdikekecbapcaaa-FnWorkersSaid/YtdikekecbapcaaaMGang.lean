/- Workers: what the laws on gangs and workers turn on. -/
import Derived.Test.YtdikekecbapcaaaWorkM
import Derived.Test.YtdikekecbapcaaaWorkN
import Derived.Test.YtdikekecbapcaaaWorkT
import Derived.Test.YtdikekecbapcaaaWorkW
namespace Go.Proofs.Ytdikekecbapcaaa.MGang
open Go.RowKit Go.Proofs.Ytdikekecbapcaaa.Mem Go.Proofs.Ytdikekecbapcaaa.Base Go.Proofs.Ytdikekecbapcaaa.SWorker Go.Proofs.Ytdikekecbapcaaa.Work Go.Proofs.Ytdikekecbapcaaa.Work2 Go.Proofs.Ytdikekecbapcaaa.WorkL Go.Proofs.Ytdikekecbapcaaa.WorkN
set_option linter.unusedVariables false
theorem rakes_pos {p : List R} (h : ∀ x ∈ p, 1 ≤ x.f2) : (p.length : Int) ≤ rakes p := by
  induction p with
  | nil => simp [rakes]
  | cons x p ih =>
    have h1 := ih (fun y hy => h y (by simp [hy]))
    have h2 := h x (by simp)
    unfold rakes at *
    simp only [List.map_cons, List.sum_cons, List.length_cons]
    omega
theorem good_rakes {l : List R} (h : good l = true) {p : List R} (hs : p.Sublist l) : ∀ x ∈ p, 1 ≤ x.f2 := fun x hx => by
  have := okW_true (good_mem h x (hs.subset hx)); omega
theorem raked_pos {l : List R} (h : good l = true) {p : List R} (hs : p.Sublist l) (hw : works p = true) : 1 ≤ raked p := by
  have h1 := rakes_pos (good_rakes h hs)
  have h2 : 2 ≤ p.length := by unfold works at hw; simp only [Bool.and_eq_true, decide_eq_true_eq] at hw; exact hw.1
  unfold raked; rw [if_pos hw]; omega
theorem raked_zero {l : List R} (h : good l = true) (g d : Int) : (rakedOn l g d == 0) = !works (pres l g d) := by
  cases hw : works (pres l g d)
  · unfold rakedOn raked; rw [hw]; rfl
  · have := raked_pos h (WorkK.pres_sub l g d) hw
    unfold rakedOn
    rw [beq_eq_false_iff_ne.2 (by omega)]; rfl
theorem works_of {l : List R} {g d : Int} (h : 1 ≤ rakedOn l g d) : works (pres l g d) = true := by
  cases hw : works (pres l g d)
  · unfold rakedOn raked at h; rw [hw] at h; simp at h
  · rfl
theorem idle_any (l : List R) (g : Int) (k : Nat) (hk : k < 7) : (idleN l g 7).any (fun x => x == (k : Int)) = !works (pres l g (k : Int)) := by
  rw [Bool.eq_iff_iff, List.any_eq_true]
  constructor
  · rintro ⟨x, hx, he⟩
    unfold idleN at hx
    obtain ⟨d, hd, rfl⟩ := List.mem_map.1 hx
    have e : d = k := by have := eq_of_beq he; omega
    subst e
    exact (List.mem_filter.1 hd).2
  · intro h
    exact ⟨k, List.mem_map.2 ⟨k, List.mem_filter.2 ⟨List.mem_range.2 hk, h⟩, rfl⟩, by simp⟩
theorem day7_small (k : Nat) (h : k < 7) : day7 (k : Int) = k := by
  unfold day7; rw [Int.tmod_eq_emod_of_nonneg (by omega)]; omega
theorem on_k {l : List R} {g : Int} (h : allOk l g = true) (k : Nat) (hk : k < 7) : onV l g k = .tuple #[.int .i64 (rakedOn l g k), .bool true] := by
  have h1 : onOk l g (k : Int) = true := by unfold onOk; rw [h, inB_true (by omega)]; rfl
  rw [onV_yes h1, day7_small k hk]
theorem idle_k {l : List R} {g : Int} (h : allOk l g = true) (k : Nat) (hk : k < 7) : (idleN l g 7).any (fun x => x == (k : Int)) = (rakedOn l g k == 0) := by
  have hg : good l = true := by unfold allOk at h; rw [Bool.and_eq_true] at h; exact h.1
  rw [idle_any l g k hk, raked_zero hg]
theorem week_k (l : List R) (g : Int) (k : Nat) (hk : k < 7) : (week l g)[k]? = some (rakedOn l g k) := by
  unfold week
  rw [List.getElem?_eq_getElem (by rw [weekN_len]; exact hk), weekN_get]

theorem best_ge {l : List R} {i : Nat} {s : Int} : ∀ n f, f < n → allOf (chg l i (f : Nat)) ≤ (bestN l i s n).2 := by
  intro n
  induction n with
  | zero => intro f hf; omega
  | succ n ih =>
    intro f hf
    have hs : (bestN l i s n).2 ≤ (bestN l i s (n + 1)).2 ∧ allOf (chg l i n) ≤ (bestN l i s (n + 1)).2 := by
      by_cases h : (bestN l i s n).2 < allOf (chg l i n)
      · rw [bestN_more h]; exact ⟨by dsimp only; omega, by dsimp only; omega⟩
      · rw [bestN_less h]; exact ⟨Int.le_refl _, by omega⟩
    rcases Nat.lt_or_ge f n with h1 | h1
    · exact Int.le_trans (ih f h1) hs.1
    · have : f = n := by omega
      subst this; exact hs.2
theorem chg_own {l : List R} {i : Nat} (hi : i < l.length) : chg l i l[i].f4 = l := by
  unfold chg
  rw [getD_at hi]
  exact List.set_getElem_self hi
theorem chg_told {l : List R} {id x y : Int} {q : Bool} (h : chgV l id = .tuple #[.int .i64 x, .int .i64 y, .bool q]) :
    (q = false → y = 0) ∧ (q = true → good l = true ∧ allOf l ≤ y ∧ y ≤ 21000) := by
  unfold chgV at h
  split at h
  · rename_i hf
    obtain ⟨k, hk, hlt, _, hg⟩ := find_ok hf
    injection h with h; injection h with h; injection h with h1 h2; injection h2 with h2 h3; injection h3 with h3 h4
    injection h1 with _ h1; injection h2 with _ h2; injection h3 with h3
    subst h3
    refine ⟨fun e => (by cases e), fun _ => ⟨hg, ?_, ?_⟩⟩
    · rw [← h2, hk, Int.toNat_natCast]
      have hx := okW_true ((good_all hg).2 k hlt)
      have := best_ge (l := l) (i := k) (s := 0) 7 l[k].f4.toNat (by omega)
      rw [show ((l[k].f4.toNat : Nat) : Int) = l[k].f4 by omega, chg_own hlt] at this
      exact this
    · rw [← h2, hk, Int.toNat_natCast]
      exact (bestN_bd (good_sane hg) hlt (s := 0) (by omega) 7).2.2.2
  · injection h with h; injection h with h; injection h with h1 h2; injection h2 with h2 h3; injection h3 with h3 h4
    injection h2 with _ h2; injection h3 with h3
    subst h3
    exact ⟨fun _ => h2.symm, fun e => by cases e⟩
theorem all_good {l : List R} (h : good l = true) (k : Nat) (hk : k < 5) : allOk l ((k : Int) + 1) = true := all3 h (inB_true (by omega))

theorem find_range_some {l : List R} {g d m : Int} {n : Nat} (h : rakeN l g d m = some n) : m ≤ cum l g d (n + 1) ∧ d + n ≤ 4000 ∧ ∀ j, j < n → cum l g d (j + 1) < m := by
  unfold rakeN at h
  rw [List.find?_range_eq_some] at h
  obtain ⟨h1, h2, h3⟩ := h
  have := List.mem_range.1 h2
  refine ⟨by simpa using h1, by omega, fun j hj => ?_⟩
  have := h3 j hj
  simpa using this
theorem days_told {l : List R} {g d m x : Int} {q : Bool} (h : daysV l g d m = .tuple #[.int .i64 x, .bool q]) (hq : q = true) :
    ∃ r, onV l g x = .tuple #[.int .i64 r, .bool true] ∧ 1 ≤ r ∧ d ≤ x := by
  unfold daysV at h
  split at h
  · rename_i hok
    split at h
    · rename_i n hn
      injection h with h; injection h with h; injection h with h1 h2
      injection h1 with _ h1
      obtain ⟨h3, h4, h5⟩ := find_range_some hn
      have hk : allOk l g = true ∧ inB d 0 4000 = true ∧ inB m 1 10000 = true := by unfold daysOk at hok; simp only [Bool.and_eq_true] at hok; exact ⟨hok.1.1, hok.1.2, hok.2⟩
      have hd := of_inB hk.2.1
      have hm := of_inB hk.2.2
      have hon : onOk l g x = true := by unfold onOk; rw [hk.1, inB_true (by omega)]; rfl
      refine ⟨_, onV_yes hon, ?_, by omega⟩
      rw [cum_snoc, h1] at h3
      rcases Nat.eq_zero_or_pos n with h0 | h0
      · subst h0
        have : cum l g d 0 = 0 := rfl
        omega
      · have := h5 (n - 1) (by omega)
        rw [show n - 1 + 1 = n by omega] at this
        omega
    · injection h with h; injection h with h; injection h with h1 h2; injection h2 with h2 h3; injection h2 with h2
      rw [hq] at h2; cases h2
  · injection h with h; injection h with h; injection h with h1 h2; injection h2 with h2 h3; injection h2 with h2
    rw [hq] at h2; cases h2

/-- one worker in another gang: the list stays sound, and the numbers find the same. -/
theorem good_set {l : List R} {k : Nat} {x : R} (hg : good l = true) (hk : k < l.length) (h0 : x.f0 = l[k].f0) (hx : okW x = true) : good (l.set k x) = true := by
  unfold good
  rw [Bool.and_eq_true, List.all_eq_true]
  have h12 := (good_all hg).1
  refine ⟨fun j hj => ?_, by rw [List.length_set]; exact decide_eq_true h12⟩
  have hj2 : j < l.length := by have := List.mem_range.1 hj; rwa [List.length_set] at this
  have hf : ∀ i (h : i < l.length), ((l.set k x).getD i zero).f0 = l[i].f0 := fun i hi => by
    rw [getD_at (by rw [List.length_set]; exact hi), List.getElem_set]
    split
    · rename_i e; subst e; exact h0
    · rfl
  have hok : okW ((l.set k x).getD j zero) = true := by
    rw [getD_at (by rw [List.length_set]; exact hj2), List.getElem_set]
    split
    · exact hx
    · exact (good_all hg).2 j hj2
  unfold okAt
  rw [hok, Bool.true_and, Bool.or_eq_true]
  rcases Nat.eq_zero_or_pos j with hz | hz
  · left; subst hz; rfl
  · right
    rw [hf (j - 1) (by omega), hf j hj2]
    have := good_asc hg (j - 1) (by omega)
    have e : j - 1 + 1 = j := by omega
    simp only [e] at this
    exact decide_eq_true this
theorem find_uniq {l : List R} {id : Int} {i k : Nat} (hg : good l = true) (hk : k < l.length) (hi : i < l.length) (h1 : l[k].f0 = l[i].f0) : i = k := by
  have hp := List.pairwise_iff_getElem.1 (good_pair hg)
  rcases Nat.lt_trichotomy i k with h | h | h
  · have := hp i k hi hk h; omega
  · exact h
  · have := hp k i hk hi h; omega
theorem find_is {l : List R} {id : Int} {k : Nat} (hg : good l = true) (hk : k < l.length) (he : l[k].f0 = id) : find l id = k :=
  find_at hg hk (fun j hj hjk e => by have := find_uniq (id := id) hg hk hj (by rw [he, e]); omega) he
theorem put_back {l : List R} {id g : Int} {i : Nat} (h : putOk l id g = true) (hi : i < l.length) (he : l[i].f0 = id) :
    putOk (putL l id g) id l[i].f1 = true ∧ putL (putL l id g) id l[i].f1 = l := by
  have hf : 0 ≤ find l id ∧ inB g 0 5 = true ∧ ((at_ l (find l id)).f1 != g) = true := by unfold putOk at h; simp only [Bool.and_eq_true, decide_eq_true_eq] at h; exact ⟨h.1.1, h.1.2, h.2⟩
  obtain ⟨k, hk, hlt, hid, hgood⟩ := find_ok hf.1
  have hik : i = k := find_uniq (id := id) hgood hlt hi (by rw [hid, he])
  subst hik
  obtain ⟨x, hx⟩ : ∃ x, l[i] = x := ⟨_, rfl⟩
  have hne : x.f1 ≠ g := by have := hf.2.2; rw [at_k hk hi hx] at this; exact bne_iff_ne.1 this
  have hxo : okW x = true := by rw [← hx]; exact (good_all hgood).2 i hi
  have hxb := okW_true hxo
  have hgb := of_inB hf.2.1
  have hP := (put_yes hk hi hx hf.2.1 hne).2
  have hng : good (l.set i (inG x g)) = true := good_set hgood hi (by rw [hx]; rfl) (okW_mk (by unfold inG; dsimp only; omega))
  have hlen : i < (l.set i (inG x g)).length := by rw [List.length_set]; exact hi
  have hnf : find (l.set i (inG x g)) id = i := find_is hng hlen (by rw [List.getElem_set_self]; show x.f0 = id; rw [← hx]; exact he)
  rw [hP, hx]
  have hp := put_yes (g := x.f1) hnf hlen (List.getElem_set_self ..) (inB_true (by omega)) (by show g ≠ x.f1; exact fun e => hne e.symm)
  refine ⟨hp.1, ?_⟩
  rw [hp.2, List.set_set]
  show l.set i x = l
  rw [← hx]
  exact List.set_getElem_self hi
theorem pres_put {l : List R} {g e : Int} {k : Nat} {x : R} (hg : good l = true) (hk : k < l.length) (hx : l[k] = x) (hg1 : 1 ≤ g) : pres (l.set k (inG x 0)) g e = (pres l g e).filter fun y => y.f0 != x.f0 := by
  unfold pres
  rw [List.filter_filter]
  have e1 : l.set k (inG x 0) = l.take k ++ inG x 0 :: l.drop (k + 1) := List.set_eq_take_append_cons_drop.trans (if_pos hk)
  have e2 : l = l.take k ++ l[k] :: l.drop (k + 1) := by rw [← List.drop_eq_getElem_cons hk, List.take_append_drop]
  have hp := List.pairwise_iff_getElem.1 (good_pair hg)
  have hout : here g e (inG x 0) = false := by unfold here inG; rw [beq_eq_false_iff_ne.2 (by dsimp only; omega)]; rfl
  rw [e1, List.filter_append, List.filter_cons_of_neg (by rw [hout]; simp)]
  conv => rhs; rw [e2]
  rw [List.filter_append, List.filter_cons_of_neg (by rw [hx]; simp)]
  congr 1
  · apply List.filter_congr
    intro y hy
    obtain ⟨j, hj, rfl⟩ := List.getElem_of_mem hy
    rw [List.length_take] at hj
    rw [List.getElem_take]
    have := hp j k (by omega) hk (by omega)
    rw [hx] at this
    rw [bne_iff_ne.2 (by omega), Bool.true_and]
  · apply List.filter_congr
    intro y hy
    obtain ⟨j, hj, rfl⟩ := List.getElem_of_mem hy
    rw [List.length_drop] at hj
    rw [List.getElem_drop]
    have := hp k (k + 1 + j) hk (by omega) (by omega)
    rw [hx] at this
    rw [bne_iff_ne.2 (by omega), Bool.true_and]
theorem spare_told {l : List R} {g d s : Int} (h : s ∈ spareL l g d) :
    putOk l s 0 = true ∧ ∃ r, onV (putL l s 0) g d = .tuple #[.int .i64 r, .bool true] ∧ 1 ≤ r := by
  unfold spareL at h
  split at h
  · rename_i hok
    have hall : good l = true ∧ inB g 1 5 = true ∧ inB d 0 4000 = true := by unfold onOk allOk at hok; simp only [Bool.and_eq_true] at hok; exact ⟨hok.1.1, hok.1.2, hok.2⟩
    have hgb := of_inB hall.2.1
    unfold spares at h
    obtain ⟨x, hx, rfl⟩ := List.mem_map.1 h
    obtain ⟨hxm, hw⟩ := List.mem_filter.1 hx
    have hxh := List.mem_filter.1 hxm
    obtain ⟨k, hk, hxk⟩ := List.getElem_of_mem hxh.1
    have hf : find l x.f0 = k := find_is hall.1 hk (by rw [hxk])
    have hxg : x.f1 = g := by have := hxh.2; unfold here at this; rw [Bool.and_eq_true] at this; exact eq_of_beq this.1
    have hp := put_yes (g := 0) hf hk hxk (inB_true (by omega)) (by omega)
    have hxb := okW_true (good_mem hall.1 x hxh.1)
    have hng : good (l.set k (inG x 0)) = true := good_set hall.1 hk (by rw [hxk]; rfl) (okW_mk (by unfold inG; dsimp only; omega))
    refine ⟨hp.1, _, by rw [hp.2]; exact onV_yes (on4 hng hall.2.1 hall.2.2), ?_⟩
    unfold rakedOn
    rw [pres_put hall.1 hk hxk (by omega)]
    exact raked_pos hall.1 (List.filter_sublist.trans (WorkK.pres_sub l g (day7 d))) hw
  · cases h
theorem sizes_sum {l : List R} (h : good l = true) : (sizes l).sum = l.length := by
  have : ∀ m : List R, (∀ x ∈ m, 0 ≤ x.f1 ∧ x.f1 ≤ 5) → (sizes m).sum = m.length := by
    intro m
    induction m with
    | nil => intro _; rfl
    | cons x m ih =>
      intro hx
      have h1 := ih (fun y hy => hx y (by simp [hy]))
      have h2 := hx x (by simp)
      have e : ∀ g : Nat, size (x :: m) g = size m g + (if x.f1 == (g : Int) then 1 else 0) := fun g => by unfold size; rw [List.countP_cons]
      simp only [sizes, List.range_succ, List.range_zero, List.nil_append, List.cons_append, List.map_cons, List.map_nil, List.sum_cons, List.sum_nil, e] at h1 ⊢
      have h3 : x.f1 = 0 ∨ x.f1 = 1 ∨ x.f1 = 2 ∨ x.f1 = 3 ∨ x.f1 = 4 ∨ x.f1 = 5 := by omega
      rcases h3 with h3 | h3 | h3 | h3 | h3 | h3 <;> rw [h3] <;> simp <;> omega
  exact this l (fun x hx => by have := okW_true (good_mem h x hx); omega)
theorem sizes_bd {l : List R} (h : good l = true) : ∀ x ∈ sizes l, 0 ≤ x ∧ x ≤ 10000 := by
  intro x hx
  unfold sizes at hx
  obtain ⟨g, _, rfl⟩ := List.mem_map.1 hx
  have h1 : size l g ≤ l.length := List.countP_le_length
  have := (good_all h).1
  omega
theorem even_told {l : List R} {x : Int} {q : Bool} (h : evenV l = .tuple #[.int .i64 x, .bool q]) : q = good l ∧ 0 ≤ x := by
  unfold evenV at h
  split at h
  · rename_i hg
    injection h with h; injection h with h; injection h with h1 h2; injection h2 with h2 h3; injection h2 with h2
    injection h1 with _ h1
    have := lo_bd (weeksN_bd (good_sane hg) 5).2
    exact ⟨by rw [hg, h2], by omega⟩
  · rename_i hg
    injection h with h; injection h with h; injection h with h1 h2; injection h2 with h2 h3; injection h2 with h2
    injection h1 with _ h1
    exact ⟨by rw [← h2]; simpa using hg, by omega⟩
end Go.Proofs.Ytdikekecbapcaaa.MGang
