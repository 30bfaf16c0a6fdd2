/- Trips: the minutes at which a section is entered; how they are sorted; the longest quiet. -/
import Derived.Test.YtphflbgljejokaaTripQ
import Derived.Test.YtphflbgljejokaaTripU
namespace Go.Proofs.Ytphflbgljejokaa.TripJ
open Go.RowKit Go.Proofs.Ytphflbgljejokaa.Mem Go.Proofs.Ytphflbgljejokaa.Base Go.Proofs.Ytphflbgljejokaa.STrip Go.Proofs.Ytphflbgljejokaa.TripP Go.Proofs.Ytphflbgljejokaa.TripQ
set_option linter.unusedVariables false
def entL (l : List R) (s : Int) (k : Nat) : List Int := ((l.take k).filter fun x => decide (0 ≤ ent x s)).map fun x => ent x s
theorem entL_yes {l : List R} {s : Int} {k : Nat} {x : R} (h : k < l.length) (hx : l[k] = x) (hq : 0 ≤ ent x s) : entL l s (k + 1) = entL l s k ++ [ent x s] := by
  unfold entL; rw [List.take_succ_eq_append_getElem h, List.filter_append, hx, List.map_append]; simp [hq]
theorem entL_no {l : List R} {s : Int} {k : Nat} {x : R} (h : k < l.length) (hx : l[k] = x) (hq : ¬ 0 ≤ ent x s) : entL l s (k + 1) = entL l s k := by
  unfold entL; rw [List.take_succ_eq_append_getElem h, List.filter_append, hx]; simp [hq]
theorem entL_len (l : List R) (s : Int) (k : Nat) : (entL l s k).length ≤ k := by
  unfold entL
  rw [List.length_map]
  have := List.length_filter_le (fun x => decide (0 ≤ ent x s)) (l.take k)
  rw [List.length_take] at this
  omega
/-- the crossings of one trip on the section. -/
def inL (x : R) (s : Int) (m : Nat) : List Int := ((List.range m).filter fun i => sec x i == s).map fun i : Nat => x.f3 + 4 * (i : Int)
theorem inL_yes {x : R} {s : Int} {m : Nat} (h : sec x m = s) : inL x s (m + 1) = inL x s m ++ [x.f3 + 4 * (m : Int)] := by
  unfold inL; rw [List.range_succ, List.filter_append, List.map_append]; simp [h]
theorem inL_no {x : R} {s : Int} {m : Nat} (h : sec x m ≠ s) : inL x s (m + 1) = inL x s m := by
  unfold inL; rw [List.range_succ, List.filter_append, List.map_append]; simp [h]
theorem inL_none {x : R} {s : Int} : ∀ m, (∀ i, i < m → sec x i ≠ s) → inL x s m = [] := by
  intro m
  induction m with
  | zero => intro _; rfl
  | succ m ih => intro h; rw [inL_no (h m (by omega)), ih (fun i hi => h i (by omega))]
theorem inL_one {x : R} {s : Int} {i0 : Nat} (h0 : sec x i0 = s) : ∀ m, i0 < m → inL x s m = [x.f3 + 4 * (i0 : Int)] := by
  intro m
  induction m with
  | zero => intro h; omega
  | succ m ih =>
    intro h
    by_cases e : m = i0
    · subst e
      rw [inL_yes h0, inL_none m (fun i hi e2 => by have := sec_inj (e2.trans h0.symm); omega)]; rfl
    · rw [inL_no (fun e2 => e (sec_inj (e2.trans h0.symm))), ih (by omega)]
theorem inL_all {x : R} (hx : okT x = true) (s : Int) : inL x s (num x) = if 0 ≤ ent x s then [ent x s] else [] := by
  by_cases h : 0 ≤ ent x s
  · rw [if_pos h]
    obtain ⟨i, hi, h1, h2⟩ := ent_sec hx h
    rw [inL_one h1 _ hi, h2]
  · rw [if_neg h]
    refine inL_none _ (fun i hi e => h ?_)
    obtain ⟨_, _, h2⟩ := sec_ent hx hi
    rw [e] at h2
    have := (okT_true hx).2.2.2.2.2.2.2.1
    omega
theorem inL_len (x : R) (s : Int) (m : Nat) : (inL x s m).length ≤ m := by
  unfold inL
  rw [List.length_map]
  have := List.length_filter_le (fun i => sec x i == s) (List.range m)
  rw [List.length_range] at this
  exact this
/-- the model's l1Put of a number that is not there. -/
def lowI (p : List Int) (x : Int) : Nat := (p.takeWhile fun y => decide (y < x)).length
def putI (p : List Int) (x : Int) : List Int := p.take (lowI p x) ++ x :: p.drop (lowI p x)
theorem lowI_is {p : List Int} {x : Int} {k : Nat} (hk : k ≤ p.length) (h1 : ∀ j (h : j < p.length), j < k → p[j] < x) (h2 : ∀ h : k < p.length, ¬ p[k] < x) : lowI p x = k := by
  unfold lowI
  have e : p.takeWhile (fun y => decide (y < x)) = p.take k := by
    have h3 : ∀ a ∈ p.take k, decide (a < x) = true := by
      intro a ha
      obtain ⟨j, hj, rfl⟩ := List.getElem_of_mem ha
      rw [List.length_take] at hj
      rw [List.getElem_take]
      exact decide_eq_true (h1 j (by omega) (by omega))
    have h4 : (p.drop k).takeWhile (fun y => decide (y < x)) = [] := by
      by_cases hlt : k < p.length
      · rw [List.drop_eq_getElem_cons hlt, List.takeWhile_cons, decide_eq_false (h2 hlt)]; rfl
      · rw [List.drop_eq_nil_of_le (by omega)]; rfl
    conv => lhs; rw [← List.take_append_drop k p]
    rw [List.takeWhile_append_of_pos h3, h4, List.append_nil]
  rw [e, List.length_take]; omega
theorem posI_low {p : List Int} {x : Int} (hp : p.Pairwise (· < ·)) : ∀ j, j ≤ p.length → (∀ m (h : m < p.length), m < posI p x j → p[m] ≤ x) ∧ (∀ m (h : m < p.length), posI p x j ≤ m → m < j → x < p[m]) := by
  intro j
  induction j with
  | zero => intro _; exact ⟨fun m h hm => by unfold posI at hm; omega, fun m h _ hm => by omega⟩
  | succ j ih =>
    intro hj
    obtain ⟨i1, i2⟩ := ih (by omega)
    have e : p.getD j 0 = p[j] := by simp [List.getD, show j < p.length by omega]
    by_cases h : x < p[j]
    · have e2 : posI p x (j + 1) = posI p x j := posI_yes (by omega) h
      rw [e2]
      refine ⟨i1, fun m hm h1 h2 => ?_⟩
      rcases Nat.lt_or_ge m j with h3 | h3
      · exact i2 m hm h1 h3
      · have : m = j := by omega
        subst this; exact h
    · have e2 : posI p x (j + 1) = j + 1 := posI_no (by omega) h
      rw [e2]
      refine ⟨fun m hm h1 => ?_, fun m hm h1 h2 => by omega⟩
      rcases Nat.lt_or_ge m j with h3 | h3
      · have := List.pairwise_iff_getElem.1 hp m j hm (by omega) h3
        omega
      · have : m = j := by omega
        subst this; omega
theorem ins_put {p : List Int} {x : Int} (hp : p.Pairwise (· < ·)) (hx : x ∉ p) : insI p x = putI p x := by
  obtain ⟨h1, h2⟩ := posI_low (x := x) hp p.length (Nat.le_refl _)
  have e : lowI p x = posI p x p.length := by
    refine lowI_is (posI_le p x p.length) (fun j h hj => ?_) (fun h => ?_)
    · have h3 := h1 j h hj
      have h4 : p[j] ≠ x := fun e => hx (by rw [← e]; exact List.getElem_mem h)
      omega
    · have := h2 _ h (Nat.le_refl _) h
      omega
  unfold insI putI; rw [e]
theorem put_mem (p : List Int) (x y : Int) : y ∈ putI p x ↔ y = x ∨ y ∈ p := by
  unfold putI
  rw [List.mem_append, List.mem_cons]
  constructor
  · rintro (h | h | h)
    · exact .inr (List.mem_of_mem_take h)
    · exact .inl h
    · exact .inr (List.mem_of_mem_drop h)
  · rintro (h | h)
    · exact .inr (.inl h)
    · rw [← List.take_append_drop (lowI p x) p, List.mem_append] at h
      rcases h with h | h
      · exact .inl h
      · exact .inr (.inr h)
theorem put_pair {p : List Int} {x : Int} (hp : p.Pairwise (· < ·)) (hx : x ∉ p) : (putI p x).Pairwise (· < ·) := by
  obtain ⟨h1, h2⟩ := posI_low (x := x) hp p.length (Nat.le_refl _)
  rw [← ins_put hp hx]
  unfold insI
  obtain ⟨k, hk⟩ : ∃ k, posI p x p.length = k := ⟨_, rfl⟩
  have hkl : k ≤ p.length := by rw [← hk]; exact posI_le _ _ _
  rw [hk] at h1 h2 ⊢
  have hsp := hp
  rw [← List.take_append_drop k p, List.pairwise_append] at hsp
  have hup : ∀ y ∈ p.drop k, x < y := by
    intro y hy
    obtain ⟨m, hm, rfl⟩ := List.getElem_of_mem hy
    rw [List.length_drop] at hm
    rw [List.getElem_drop]
    exact h2 (k + m) (by omega) (by omega) (by omega)
  have hdn : ∀ y ∈ p.take k, y < x := by
    intro y hy
    obtain ⟨m, hm, rfl⟩ := List.getElem_of_mem hy
    rw [List.length_take] at hm
    rw [List.getElem_take]
    have h3 := h1 m (by omega) (by omega)
    have h4 : p[m]'(by omega) ≠ x := fun e => hx (by rw [← e]; exact List.getElem_mem _)
    omega
  rw [List.pairwise_append, List.pairwise_cons]
  refine ⟨hsp.1, ⟨hup, hsp.2.1⟩, fun a ha b hb => ?_⟩
  rcases List.mem_cons.1 hb with hb | hb
  · rw [hb]; exact hdn a ha
  · have := hdn a ha; have := hup b hb; omega
/-- sorted, ascending, and the same numbers. -/
structure Srt (q E : List Int) : Prop where
  srt : sortI E = q
  asc : q.Pairwise (· < ·)
  mem : ∀ y, y ∈ q ↔ y ∈ E
theorem Srt.nil : Srt [] [] := ⟨rfl, List.Pairwise.nil, fun y => Iff.rfl⟩
theorem Srt.next {q E : List Int} {x : Int} (h : Srt q E) (hx : x ∉ E) : Srt (putI q x) (E ++ [x]) := by
  have hq : x ∉ q := fun e => hx ((h.mem x).1 e)
  refine ⟨by rw [sortI_snoc, h.srt, ins_put h.asc hq], put_pair h.asc hq, fun y => ?_⟩
  rw [put_mem, h.mem y, List.mem_append, List.mem_singleton]
  exact ⟨fun h1 => h1.symm, fun h1 => h1.symm⟩
/-- in a plan no two trips enter a section in one minute. -/
theorem plan_apart {l : List R} (hg : good l = true) (h : TripU.mtF l = []) {i k : Nat} (hik : i < k) (hk : k < l.length) : meetB (l[i]'(by omega)) l[k] = false := by
  rw [TripU.mtF_yes hg] at h
  cases hm : meetB (l[i]'(by omega)) l[k]
  · rfl
  · exfalso
    have e := TripU.pair_yes (i := i) (k := k) (by omega) hk hik rfl rfl hm
    have h1 : TripU.pairT l i (k + 1) ≠ [] := by rw [e]; simp
    have mono : ∀ d a b, TripU.pairT l a b ≠ [] → TripU.pairT l a (b + d) ≠ [] := by
      intro d
      induction d with
      | zero => intro a b h; exact h
      | succ d ih =>
        intro a b h
        have h2 := ih a b h
        rw [show b + (d + 1) = b + d + 1 by omega, TripU.pair_next]
        intro e2
        exact h2 (List.append_eq_nil_iff.1 e2).1
    have h2 : TripU.pairT l (i + 1) 0 ≠ [] := by
      rw [← TripU.pair_end]
      have := mono (l.length - (k + 1)) i (k + 1) h1
      rwa [show k + 1 + (l.length - (k + 1)) = l.length by omega] at this
    have up : ∀ d a, TripU.pairT l a 0 ≠ [] → TripU.pairT l (a + d) 0 ≠ [] := by
      intro d
      induction d with
      | zero => intro a h; exact h
      | succ d ih =>
        intro a h
        have h3 := ih a h
        rw [show a + (d + 1) = a + d + 1 by omega, ← TripU.pair_end]
        have := mono l.length (a + d) 0 h3
        rwa [Nat.zero_add] at this
    have h4 := up (l.length - (i + 1)) (i + 1) h2
    rw [show i + 1 + (l.length - (i + 1)) = l.length by omega] at h4
    exact h4 h
theorem plan_new {l : List R} (hg : good l = true) (h : TripU.mtF l = []) {s : Int} (hs0 : 0 ≤ s) (hs1 : s ≤ 8) {k : Nat} {x : R} (hk : k < l.length) (hx : l[k] = x) (hq : 0 ≤ ent x s) : ent x s ∉ entL l s k := by
  intro hm
  unfold entL at hm
  obtain ⟨y, hy, e⟩ := List.mem_map.1 hm
  obtain ⟨hy1, hy2⟩ := List.mem_filter.1 hy
  obtain ⟨i, hi, rfl⟩ := List.getElem_of_mem hy1
  rw [List.length_take] at hi
  rw [List.getElem_take] at e hy2
  have ha := plan_apart hg h (i := i) (k := k) (by omega) hk
  rw [hx] at ha
  have hon : onS (l[i]'(by omega)) x s = true := by
    unfold onS
    rw [e, decide_eq_true hq, decide_eq_true (show ent x s < ent x s + 4 by omega)]; rfl
  have := meet_on (x := l[i]'(by omega)) (y := x) (s := s.toNat) (by omega) (by rw [Int.toNat_of_nonneg hs0]; exact hon)
  rw [this] at ha; cases ha
/-- the longest quiet of the sorted minutes. -/
def lq (E : List Int) : Nat → Int
  | 0 => 0
  | 1 => 0
  | k + 2 => most (lq E (k + 1)) (E.getD (k + 1) 0 - E.getD k 0 - 4)
theorem lq_next {E : List Int} {j : Nat} {a b : Int} (h : j + 1 < E.length) (ha : E[j] = a) (hb : E[j + 1] = b) : lq E (j + 2) = most (lq E (j + 1)) (b - a - 4) := by
  have e1 : E.getD (j + 1) 0 = b := by simp [List.getD, h, hb]
  have e2 : E.getD j 0 = a := by simp [List.getD, show j < E.length by omega, ha]
  rw [lq, e1, e2]
theorem lq_bd {E : List Int} (h : ∀ e ∈ E, 0 ≤ e ∧ e ≤ 1440) : ∀ k, k ≤ E.length → 0 ≤ lq E k ∧ lq E k ≤ 1440
  | 0, _ => by simp [lq]
  | 1, _ => by simp [lq]
  | k + 2, hk => by
    have ih := lq_bd h (k + 1) (by omega)
    have h1 := h E[k] (List.getElem_mem (by omega))
    have h2 := h E[k + 1] (List.getElem_mem (by omega))
    rw [lq_next (by omega) rfl rfl]
    unfold most; split <;> omega
def lqOk (l : List R) (s : Int) : Bool := good l && (TripU.mtF l).isEmpty && inB s 0 8
def lqV (l : List R) (s : Int) : Value := if lqOk l s = true then .tuple #[.int .i64 (lq (sortI (entL l s l.length)) (entL l s l.length).length), .bool true] else .tuple #[.int .i64 0, .bool false]
theorem lqV_no {l : List R} {s : Int} (h : lqOk l s = false) : lqV l s = .tuple #[.int .i64 0, .bool false] := by unfold lqV; rw [h]; rfl
theorem lqV_yes {l : List R} {s : Int} (h : lqOk l s = true) : lqV l s = .tuple #[.int .i64 (lq (sortI (entL l s l.length)) (entL l s l.length).length), .bool true] := by unfold lqV; rw [if_pos h]
theorem lq_form (l : List R) (s : Int) : ∃ n q, lqV l s = .tuple #[.int .i64 n, .bool q] := by
  unfold lqV
  split
  · exact ⟨_, _, rfl⟩
  · exact ⟨_, _, rfl⟩
theorem lq1 {l : List R} {s : Int} (h : good l = false) : lqOk l s = false := by unfold lqOk; rw [h]; rfl
theorem lq2 {l : List R} {s : Int} (h : TripU.mtF l ≠ []) : lqOk l s = false := by
  unfold lqOk
  have : (TripU.mtF l).isEmpty = false := by cases e : TripU.mtF l with | nil => exact absurd e h | cons a b => rfl
  rw [this, Bool.and_false]; rfl
theorem lq3 {l : List R} {s : Int} (h : inB s 0 8 = false) : lqOk l s = false := by unfold lqOk; rw [h, Bool.and_false]
theorem lq4 {l : List R} {s : Int} (h : good l = true) (h1 : TripU.mtF l = []) (h2 : inB s 0 8 = true) : lqOk l s = true := by unfold lqOk; rw [h, h1, h2]; rfl
end Go.Proofs.Ytphflbgljejokaa.TripJ
