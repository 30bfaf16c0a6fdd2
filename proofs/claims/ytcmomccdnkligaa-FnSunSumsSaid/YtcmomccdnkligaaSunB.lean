/- Suns: the best start, the smallest area, a sun that is put: as plain functions. -/
import Derived.Test.YtcmomccdnkligaaSunA
namespace Go.Proofs.Ytcmomccdnkligaa.SunB
open Go.RowKit Go.Proofs.Ytcmomccdnkligaa.Mem Go.Proofs.Ytcmomccdnkligaa.Base Go.Proofs.Ytcmomccdnkligaa.Brine Go.Proofs.Ytcmomccdnkligaa.SSun Go.Proofs.Ytcmomccdnkligaa.Sun Go.Proofs.Ytcmomccdnkligaa.SunA
set_option linter.unusedVariables false
/-- how many areas are too small. -/
theorem edge_of (T : Nat → Prop) : ∀ N : Nat, (∀ a b, 1 ≤ b → b ≤ a → a ≤ N → T a → T b) → ∃ n, n ≤ N ∧ ∀ a, 1 ≤ a → a ≤ N → (T a ↔ a ≤ n) := by
  intro N
  induction N with
  | zero => intro _; exact ⟨0, Nat.le_refl _, fun a h1 h2 => by omega⟩
  | succ N ih =>
    intro hT
    by_cases h : T (N + 1)
    · exact ⟨N + 1, Nat.le_refl _, fun a h1 h2 => ⟨fun _ => h2, fun _ => hT (N + 1) a h1 h2 (Nat.le_refl _) h⟩⟩
    · obtain ⟨n, hn, hs⟩ := ih (fun a b h1 h2 h3 => hT a b h1 h2 (by omega))
      refine ⟨n, by omega, fun a h1 h2 => ?_⟩
      rcases Nat.lt_or_ge N a with h3 | h3
      · have : a = N + 1 := by omega
        subst this
        exact ⟨fun k => absurd k h, fun k => by omega⟩
      · exact hs a h1 h3
/-- the areas up to n are too small. -/
def Edge (l : List R) (p q f t g : Int) (n : Nat) : Prop := n ≤ 100000 ∧ ∀ a : Int, 1 ≤ a → a ≤ 100000 → (g < aft l p q a f t ↔ a ≤ n)
theorem edge_some {l : List R} (h : Rates l) {p q : Int} (f t g : Int) (hp : 0 ≤ p) (hq : 0 ≤ q) : ∃ n, Edge l p q f t g n := by
  obtain ⟨n, hn, hs⟩ := edge_of (fun a : Nat => g < aft l p q (a : Int) f t) 100000 (fun a b h1 h2 h3 h4 => by
    have := aft_mono h (q := q) (a := (b : Int)) (a' := (a : Int)) (f := f) (t := t) hq (by omega) (by omega) (by omega) p p hp (Int.le_refl _)
    omega)
  refine ⟨n, hn, fun a h1 h2 => ?_⟩
  have := hs a.toNat (by omega) (by omega)
  rw [show ((a.toNat : Nat) : Int) = a by omega] at this
  rw [this]; omega
def areaOk (l : List R) (p q f t g : Int) : Bool := askOk l p q 1 && spanOk f t && decide (0 ≤ g)
def areaV (ok : Bool) (n : Nat) : Value := if ok = true ∧ n < 100000 then .tuple #[.int .i64 ((n : Int) + 1), .bool true] else .tuple #[.int .i64 0, .bool false]
theorem area_form (ok : Bool) (n : Nat) : ∃ x b, areaV ok n = .tuple #[.int .i64 x, .bool b] := by
  unfold areaV
  split
  · exact ⟨_, _, rfl⟩
  · exact ⟨_, _, rfl⟩
theorem ar1 {l : List R} {p q f t g : Int} (h : askOk l p q 1 = false) : areaOk l p q f t g = false := by unfold areaOk; rw [h]; rfl
theorem ar2 {l : List R} {p q f t g : Int} (h : spanOk f t = false) : areaOk l p q f t g = false := by unfold areaOk; rw [h, Bool.and_false]; rfl
theorem ar3 {l : List R} {p q f t g : Int} (h : decide (0 ≤ g) = false) : areaOk l p q f t g = false := by unfold areaOk; rw [h, Bool.and_false]
theorem ar4 {l : List R} {p q f t g : Int} (h : askOk l p q 1 = true) (h1 : spanOk f t = true) (h2 : decide (0 ≤ g) = true) : areaOk l p q f t g = true := by unfold areaOk; rw [h, h1, h2]; rfl
theorem area_no {ok : Bool} {n : Nat} (h : ok = false) : areaV ok n = .tuple #[.int .i64 0, .bool false] := by unfold areaV; rw [h]; rfl
theorem area_none {ok : Bool} {n : Nat} (h : ¬ n < 100000) : areaV ok n = .tuple #[.int .i64 0, .bool false] := by unfold areaV; rw [if_neg (by omega)]
theorem area_yes {ok : Bool} {n : Nat} (h : ok = true) (h1 : n < 100000) : areaV ok n = .tuple #[.int .i64 ((n : Int) + 1), .bool true] := by unfold areaV; rw [if_pos ⟨h, h1⟩]
theorem ask_area (l : List R) (p q a : Int) (h : inB a 1 100000 = true) : askOk l p q a = askOk l p q 1 := by
  unfold askOk; rw [h, inB_true (show (1 : Int) ≤ 1 ∧ (1 : Int) ≤ 100000 by omega)]

/-- the sum of so many days from a start on. -/
def S (l : List R) (d s : Int) : Int := sumF l s (s + d - 1)
structure Best (l : List R) (d b : Int) : Prop where
  lo : 0 ≤ b
  hi : b + d - 1 ≤ 4000
  all : ∀ s, 0 ≤ s → s + d - 1 ≤ 4000 → S l d s ≤ S l d b
  first : ∀ s, 0 ≤ s → s < b → S l d s < S l d b
theorem Best.one {l : List R} {d b c : Int} (h : Best l d b) (k : Best l d c) : b = c := by
  rcases Int.lt_trichotomy b c with h1 | h1 | h1
  · have := k.first b h.lo h1
    have := h.all c k.lo k.hi
    omega
  · exact h1
  · have := h.first c k.lo h1
    have := k.all b h.lo h.hi
    omega
/-- the program's way: the first n starts. -/
structure Tried (l : List R) (d : Int) (n : Nat) (b m : Int) : Prop where
  lo : 0 ≤ b
  hi : b ≤ 0 ∨ b < n
  m0 : 0 ≤ m
  is : S l d b = m ∨ (n = 0 ∧ b = 0 ∧ m = 0)
  all : ∀ s : Int, 0 ≤ s → s < n → S l d s ≤ m
  first : ∀ s : Int, 0 ≤ s → s < b → S l d s < m
theorem S_bd {l : List R} (h : Sane l) (d s : Int) : 0 ≤ S l d s ∧ S l d s ≤ 400000 := h.sum _ _
theorem Tried.start (l : List R) (d : Int) : Tried l d 0 0 0 := ⟨by omega, .inl (by omega), by omega, .inr ⟨rfl, rfl, rfl⟩, fun s h1 h2 => by omega, fun s h1 h2 => by omega⟩
theorem Tried.more {l : List R} {d : Int} {n : Nat} {b m : Int} (h : Tried l d n b m) (hm : m < S l d n) : Tried l d (n + 1) n (S l d n) := by
  have := h.m0
  refine ⟨by omega, .inr (by omega), by omega, .inl rfl, fun s h1 h2 => ?_, fun s h1 h2 => ?_⟩
  · by_cases e : s = n
    · subst e; omega
    · have := h.all s h1 (by omega); omega
  · have := h.all s h1 (by omega); omega
theorem Tried.less {l : List R} (hs : Sane l) {d : Int} {n : Nat} {b m : Int} (h : Tried l d n b m) (hm : ¬ m < S l d n) : Tried l d (n + 1) b m := by
  refine ⟨h.lo, ?_, h.m0, ?_, fun s h1 h2 => ?_, h.first⟩
  · have := h.hi; omega
  · rcases h.is with h1 | ⟨h1, h2, h3⟩
    · exact .inl h1
    · left
      subst h1 h2 h3
      have := S_bd hs d 0
      have e : S l d ((0 : Nat) : Int) = S l d 0 := rfl
      omega
  · by_cases e : s = n
    · subst e; omega
    · exact h.all s h1 (by omega)
theorem Tried.done {l : List R} {d : Int} {n : Nat} {b m : Int} (h : Tried l d n b m) (hd : 1 ≤ d) (hd1 : d ≤ 100) (hn : (n : Int) + d - 1 = 4001) : Best l d b := by
  have e : S l d b = m := by
    rcases h.is with h1 | ⟨h1, _, _⟩
    · exact h1
    · omega
  refine ⟨h.lo, ?_, fun s h1 h2 => ?_, fun s h1 h2 => ?_⟩
  · have := h.hi; omega
  · have := h.all s h1 (by omega); omega
  · have := h.first s h1 h2; omega
theorem best_some {l : List R} (hs : Sane l) {d : Int} (hd : 1 ≤ d) (hd1 : d ≤ 100) : ∃ b, Best l d b := by
  have : ∀ n : Nat, ∃ b m, Tried l d n b m := by
    intro n
    induction n with
    | zero => exact ⟨0, 0, Tried.start l d⟩
    | succ n ih =>
      obtain ⟨b, m, h⟩ := ih
      by_cases hm : m < S l d n
      · exact ⟨_, _, h.more hm⟩
      · exact ⟨_, _, h.less hs hm⟩
  obtain ⟨b, m, h⟩ := this (4002 - d).toNat
  exact ⟨b, h.done hd hd1 (by omega)⟩
/-- the model's way: the starts that end on a sun. -/
def cand (l : List R) (d : Int) (j : Nat) : Int := most 0 ((l.getD j zero).f0 - d + 1)
theorem most_bd (a b : Int) : a ≤ most a b ∧ b ≤ most a b ∧ (most a b = a ∨ most a b = b) := by unfold most; split <;> omega
theorem cand_mono {l : List R} (hg : good l = true) (d : Int) {i j : Nat} (hi : i ≤ j) (hj : j < l.length) : cand l d i ≤ cand l d j := by
  have hp := List.pairwise_iff_getElem.1 (good_pair hg)
  unfold cand
  rw [getD_at hj, getD_at (show i < l.length by omega)]
  have h1 := most_bd 0 (l[i].f0 - d + 1)
  have h2 := most_bd 0 (l[j].f0 - d + 1)
  rcases Nat.lt_or_ge i j with h3 | h3
  · have := hp i j (by omega) hj h3; omega
  · have : i = j := by omega
    subst this; omega
theorem sum_sub {l : List R} (h : ∀ x ∈ l, 0 ≤ x.f1) {a b c e : Int} (hs : ∀ x ∈ l, inB x.f0 a b = true → inB x.f0 c e = true) : sumF l a b ≤ sumF l c e := by
  induction l with
  | nil => simp [sumF]
  | cons x l ih =>
    have h1 := ih (fun y hy => h y (by simp [hy])) (fun y hy => hs y (by simp [hy]))
    have h2 := h x (by simp)
    have h3 := hs x (by simp)
    unfold sumF at h1 ⊢
    by_cases c1 : inB x.f0 a b = true
    · rw [List.filter_cons_of_pos (show inS a b x = true from c1), List.filter_cons_of_pos (show inS c e x = true from h3 c1)]
      simp only [List.map_cons, List.sum_cons]; omega
    · rw [List.filter_cons_of_neg (show ¬ inS a b x = true from c1)]
      by_cases c2 : inB x.f0 c e = true
      · rw [List.filter_cons_of_pos (show inS c e x = true from c2)]
        simp only [List.map_cons, List.sum_cons]; omega
      · rw [List.filter_cons_of_neg (show ¬ inS c e x = true from c2)]; exact h1
/-- for every start a candidate not behind it, with not less sun. -/
theorem cand_for {l : List R} (hg : good l = true) {d s : Int} (hd : 1 ≤ d) (h0 : 0 ≤ s) : (S l d s = 0) ∨ ∃ j, j < l.length ∧ cand l d j ≤ s ∧ S l d s ≤ S l d (cand l d j) := by
  have hs := good_sane hg
  have hp := List.pairwise_iff_getElem.1 (good_pair hg)
  -- the last sun within
  have key : ∀ k, k ≤ l.length → (∀ j (h : j < l.length), k ≤ j → inB l[j].f0 s (s + d - 1) = false) → (S l d s = 0) ∨ ∃ j, j < l.length ∧ cand l d j ≤ s ∧ S l d s ≤ S l d (cand l d j) := by
    intro k
    induction k with
    | zero =>
      intro _ hn
      left
      have : l.filter (inS s (s + d - 1)) = [] := by
        rw [List.filter_eq_nil_iff]
        intro x hx
        obtain ⟨j, hj, rfl⟩ := List.getElem_of_mem hx
        unfold inS; rw [hn j hj (Nat.zero_le _)]; simp
      unfold S sumF; rw [this]; rfl
    | succ k ih =>
      intro hk hn
      by_cases h1 : inB (l[k]'(by omega)).f0 s (s + d - 1) = true
      · right
        have hkl : k < l.length := by omega
        have i1 := of_inB h1
        have c1 := most_bd 0 (l[k].f0 - d + 1)
        have e : cand l d k = most 0 (l[k].f0 - d + 1) := by unfold cand; rw [getD_at hkl]
        refine ⟨k, hkl, by rw [e]; omega, ?_⟩
        refine sum_sub (fun x hx => (hs.2 x hx).2.2.1) (fun x hx hin => ?_)
        obtain ⟨j, hj, rfl⟩ := List.getElem_of_mem hx
        have i2 := of_inB hin
        have hjk : j ≤ k := by
          rcases Nat.lt_or_ge k j with h2 | h2
          · rw [hn j hj h2] at hin; cases hin
          · exact h2
        have : l[j].f0 ≤ l[k].f0 := by
          rcases Nat.lt_or_ge j k with h2 | h2
          · have := hp j k hj hkl h2; omega
          · have : j = k := by omega
            subst this; omega
        exact inB_true (by rw [e]; omega)
      · exact ih (by omega) (fun j hj h2 => by
          rcases Nat.lt_or_ge k j with h3 | h3
          · exact hn j hj h3
          · have : j = k := by omega
            subst this; simpa using h1)
  exact key l.length (Nat.le_refl _) (fun j hj h => by omega)
structure Seen (l : List R) (d : Int) (k : Nat) (b : Int) : Prop where
  lo : 0 ≤ b
  of : b = 0 ∨ ∃ j, j < k ∧ b = cand l d j
  zero : S l d 0 ≤ S l d b
  all : ∀ j, j < k → S l d (cand l d j) ≤ S l d b
  first : ∀ j, j < k → cand l d j < b → S l d (cand l d j) < S l d b
  first0 : 0 < b → S l d 0 < S l d b
theorem Seen.start (l : List R) (d : Int) : Seen l d 0 0 := ⟨by omega, .inl rfl, by omega, fun j h => by omega, fun j h => by omega, fun h => by omega⟩
theorem Seen.more {l : List R} {d : Int} {k : Nat} {b : Int} (h : Seen l d k b) (hm : S l d b < S l d (cand l d k)) : Seen l d (k + 1) (cand l d k) := by
  have c0 : 0 ≤ cand l d k := (most_bd 0 _).1
  refine ⟨c0, .inr ⟨k, by omega, rfl⟩, by have := h.zero; omega, fun j hj => ?_, fun j hj hlt => ?_, fun _ => by have := h.zero; omega⟩
  · by_cases e : j = k
    · subst e; omega
    · have := h.all j (by omega); omega
  · by_cases e : j = k
    · subst e; omega
    · have := h.all j (by omega); omega
theorem Seen.less {l : List R} (hg : good l = true) {d : Int} {k : Nat} {b : Int} (hk : k < l.length) (h : Seen l d k b) (hm : ¬ S l d b < S l d (cand l d k)) : Seen l d (k + 1) b := by
  have c0 : 0 ≤ cand l d k := (most_bd 0 _).1
  refine ⟨h.lo, ?_, h.zero, fun j hj => ?_, fun j hj hlt => ?_, h.first0⟩
  · rcases h.of with h1 | ⟨j, hj, h1⟩
    · exact .inl h1
    · exact .inr ⟨j, by omega, h1⟩
  · by_cases e : j = k
    · subst e; omega
    · exact h.all j (by omega)
  · by_cases e : j = k
    · subst e
      exfalso
      rcases h.of with h1 | ⟨i, hi, h1⟩
      · omega
      · have := cand_mono hg d (show i ≤ j by omega) hk
        omega
    · exact h.first j (by omega) hlt
theorem Seen.hi {l : List R} (hg : good l = true) {d : Int} {k : Nat} {b : Int} (h : Seen l d k b) (hk : k ≤ l.length) (hd : 1 ≤ d) (hd1 : d ≤ 100) : 0 ≤ b ∧ b + d - 1 ≤ 4000 := by
  refine ⟨h.lo, ?_⟩
  rcases h.of with h1 | ⟨j, hj, h1⟩
  · omega
  · have hjl : j < l.length := by omega
    have := (good_sane hg).2 l[j] (List.getElem_mem hjl)
    have c1 := most_bd 0 (l[j].f0 - d + 1)
    unfold cand at h1
    rw [getD_at hjl] at h1
    omega
theorem Seen.done {l : List R} (hg : good l = true) {d : Int} {b : Int} (h : Seen l d l.length b) (hd : 1 ≤ d) (hd1 : d ≤ 100) : Best l d b := by
  have h1 := h.hi hg (Nat.le_refl _) hd hd1
  refine ⟨h1.1, h1.2, fun s h2 h3 => ?_, fun s h2 h3 => ?_⟩
  · rcases cand_for hg hd h2 with h4 | ⟨j, hj, h4, h5⟩
    · have := (S_bd (good_sane hg) d b).1; omega
    · have := h.all j hj; omega
  · rcases cand_for hg hd h2 with h4 | ⟨j, hj, h4, h5⟩
    · have := h.first0 (by omega)
      have := (S_bd (good_sane hg) d 0).1; omega
    · have := h.first j hj (by omega); omega
def bestOk (l : List R) (d : Int) : Bool := good l && inB d 1 100
def bestV (ok : Bool) (b : Int) : Value := if ok = true then .tuple #[.int .i64 b, .bool true] else .tuple #[.int .i64 0, .bool false]
theorem bs1 {l : List R} {d : Int} (h : good l = false) : bestOk l d = false := by unfold bestOk; rw [h]; rfl
theorem bs2 {l : List R} {d : Int} (h : inB d 1 100 = false) : bestOk l d = false := by unfold bestOk; rw [h, Bool.and_false]
theorem bs3 {l : List R} {d : Int} (h : good l = true) (h1 : inB d 1 100 = true) : bestOk l d = true := by unfold bestOk; rw [h, h1]; rfl
theorem best_no {ok : Bool} {b : Int} (h : ok = false) : bestV ok b = .tuple #[.int .i64 0, .bool false] := by unfold bestV; rw [h]; rfl
theorem best_yes {ok : Bool} {b : Int} (h : ok = true) : bestV ok b = .tuple #[.int .i64 b, .bool true] := by unfold bestV; rw [if_pos h]
theorem best_form (ok : Bool) (b : Int) : ∃ x q, bestV ok b = .tuple #[.int .i64 x, .bool q] := by
  unfold bestV
  split
  · exact ⟨_, _, rfl⟩
  · exact ⟨_, _, rfl⟩
/-- the best start of a sound list, if so many days may be asked for. -/
theorem best_of (l : List R) (d : Int) : ∃ b, bestOk l d = true → Best l d b := by
  by_cases h : bestOk l d = true
  · unfold bestOk at h
    rw [Bool.and_eq_true] at h
    have := of_inB h.2
    obtain ⟨b, hb⟩ := best_some (good_sane h.1) (d := d) (by omega) (by omega)
    exact ⟨b, fun _ => hb⟩
  · exact ⟨0, fun k => absurd k h⟩
theorem area_of (l : List R) (p q f t g : Int) : ∃ n, areaOk l p q f t g = true → Edge l p q f t g n := by
  by_cases h : areaOk l p q f t g = true
  · have h2 := h
    unfold areaOk at h2
    simp only [Bool.and_eq_true] at h2
    have h3 := ask_true h2.1.1
    obtain ⟨n, hn⟩ := edge_some (Sane.rates (good_sane h3.1)) (p := p) (q := q) f t g h3.2.1 h3.2.2.2.1
    exact ⟨n, fun _ => hn⟩
  · exact ⟨0, fun k => absurd k h⟩
/-- a sun that is put. -/
def Low (l : List R) (d : Int) (k : Nat) : Prop := ∀ j (h : j < l.length), j < k → l[j].f0 < d
theorem Low.next {l : List R} {d : Int} {k : Nat} (h : Low l d k) (hk : k < l.length) (he : l[k].f0 < d) : Low l d (k + 1) := fun j hj hj2 => by
  rcases Nat.lt_or_ge j k with h1 | h1
  · exact h j hj h1
  · have : j = k := by omega
    subst this; exact he
def idx (l : List R) (d : Int) : Nat := (l.takeWhile fun x => decide (x.f0 < d)).length
theorem idx_at {d : Int} : ∀ {l : List R} {k : Nat}, k ≤ l.length → Low l d k → (∀ h : k < l.length, ¬ l[k].f0 < d) → idx l d = k := by
  intro l
  induction l with
  | nil => intro k hk _ _; simp at hk; subst hk; rfl
  | cons x l ih =>
    intro k hk hl hn
    cases k with
    | zero =>
      have := hn (by simp)
      unfold idx
      rw [List.takeWhile_cons_of_neg (by simpa using this)]; rfl
    | succ k =>
      have h0 := hl 0 (by simp) (by omega)
      unfold idx
      rw [List.takeWhile_cons_of_pos (by simpa using h0), List.length_cons]
      have := ih (k := k) (by simpa using hk) (fun j hj hj2 => hl (j + 1) (by simpa using hj) (by omega)) (fun h => hn (by simpa using h))
      unfold idx at this
      rw [this]
def putAt (l : List R) (x : R) : List R := l.take (idx l x.f0) ++ x :: l.drop (if (l.getD (idx l x.f0) zero).f0 = x.f0 ∧ idx l x.f0 < l.length then idx l x.f0 + 1 else idx l x.f0)
theorem put_same {l : List R} {x : R} {k : Nat} (hk : k < l.length) (hl : Low l x.f0 k) (he : l[k].f0 = x.f0) : putAt l x = l.set k x ∧ putAt l x = l.take k ++ x :: l.drop (k + 1) := by
  have h := idx_at (d := x.f0) (Nat.le_of_lt hk) hl (fun _ => by omega)
  have : putAt l x = l.take k ++ x :: l.drop (k + 1) := by
    unfold putAt; rw [h, getD_at hk, if_pos ⟨he, hk⟩]
  refine ⟨?_, this⟩
  rw [this, List.set_eq_take_append_cons_drop, if_pos hk]
theorem put_new {l : List R} {x : R} {k : Nat} (hk : k ≤ l.length) (hl : Low l x.f0 k) (he : ∀ h : k < l.length, x.f0 < l[k].f0) : putAt l x = l.take k ++ x :: l.drop k := by
  have h := idx_at (d := x.f0) hk hl (fun h => by have := he h; omega)
  unfold putAt
  rw [h, if_neg]
  intro ⟨h1, h2⟩
  rw [getD_at h2] at h1
  have := he h2
  omega
def putOk (l : List R) (x : R) : Bool := good l && good (putAt l x)
def putL (l : List R) (x : R) : List R := if putOk l x = true then putAt l x else []
theorem pt1 {l : List R} {x : R} (h : good l = false) : putOk l x = false := by unfold putOk; rw [h]; rfl
theorem pt2 {l m : List R} {x : R} (e : putAt l x = m) (h : good m = false) : putOk l x = false := by unfold putOk; rw [e, h, Bool.and_false]
theorem pt3 {l m : List R} {x : R} (h : good l = true) (e : putAt l x = m) (h1 : good m = true) : putOk l x = true ∧ putL l x = m := by
  have : putOk l x = true := by unfold putOk; rw [h, e, h1]; rfl
  exact ⟨this, by unfold putL; rw [if_pos this, e]⟩
theorem put_no {l : List R} {x : R} (h : putOk l x = false) : putL l x = [] := by unfold putL; rw [h]; rfl
theorem put_len (l : List R) (x : R) : (putAt l x).length ≤ l.length + 1 := by
  unfold putAt
  rw [List.length_append, List.length_cons, List.length_take, List.length_drop]
  split <;> omega
theorem putL_len (l : List R) (x : R) : (putL l x).length ≤ 20 := by
  unfold putL
  split
  · rename_i h
    unfold putOk at h
    rw [Bool.and_eq_true] at h
    exact (good_all h.2).1
  · simp
end Go.Proofs.Ytcmomccdnkligaa.SunB
