/- Trips: what the functions of chapter 11 say, as plain functions. -/
import Derived.Test.YtknlgdahcfgbeaaSTrip
namespace Go.Proofs.Ytknlgdahcfgbeaa.TripP
open Go.RowKit Go.Proofs.Ytknlgdahcfgbeaa.Mem Go.Proofs.Ytknlgdahcfgbeaa.Base Go.Proofs.Ytknlgdahcfgbeaa.STrip
set_option linter.unusedVariables false
/-- the minutes on the way; the arrival. -/
def dur (x : R) : Int := 4 * most (x.f1 - x.f2) (x.f2 - x.f1)
def arr (x : R) : Int := x.f3 + dur x
theorem dur_bd {x : R} (h1 : 0 ≤ x.f1) (h2 : x.f1 ≤ 9) (h3 : 0 ≤ x.f2) (h4 : x.f2 ≤ 9) : 0 ≤ dur x ∧ dur x ≤ 36 := by
  unfold dur most; split <;> omega
def lo (a b : Int) : Int := if a < b then a else b
theorem dur_max {x : R} : dur x = (most x.f1 x.f2 - lo x.f1 x.f2) * 4 := by
  unfold dur most lo; split <;> split <;> split <;> omega
def okT (x : R) : Bool := inB x.f0 1 99 && inB x.f1 0 9 && inB x.f2 0 9 && (x.f1 != x.f2) && inB x.f3 0 1440 && inB (arr x) 0 1440 && inB x.f4 0 8
theorem okT_true {x : R} (h : okT x = true) : 1 ≤ x.f0 ∧ x.f0 ≤ 99 ∧ 0 ≤ x.f1 ∧ x.f1 ≤ 9 ∧ 0 ≤ x.f2 ∧ x.f2 ≤ 9 ∧ x.f1 ≠ x.f2 ∧ 0 ≤ x.f3 ∧ x.f3 ≤ 1440 ∧ 0 ≤ arr x ∧ arr x ≤ 1440 ∧ 0 ≤ x.f4 ∧ x.f4 ≤ 8 := by
  unfold okT at h
  simp only [Bool.and_eq_true, bne_iff_ne] at h
  obtain ⟨⟨⟨⟨⟨⟨h0, h1⟩, h2⟩, h3⟩, h4⟩, h5⟩, h6⟩ := h
  have i0 := of_inB h0; have i1 := of_inB h1; have i2 := of_inB h2; have i4 := of_inB h4; have i5 := of_inB h5; have i6 := of_inB h6
  exact ⟨i0.1, i0.2, i1.1, i1.2, i2.1, i2.2, h3, i4.1, i4.2, i5.1, i5.2, i6.1, i6.2⟩
theorem okT_mk {x : R} (h : 1 ≤ x.f0 ∧ x.f0 ≤ 99 ∧ 0 ≤ x.f1 ∧ x.f1 ≤ 9 ∧ 0 ≤ x.f2 ∧ x.f2 ≤ 9 ∧ x.f1 ≠ x.f2 ∧ 0 ≤ x.f3 ∧ x.f3 ≤ 1440 ∧ 0 ≤ arr x ∧ arr x ≤ 1440 ∧ 0 ≤ x.f4 ∧ x.f4 ≤ 8) : okT x = true := by
  obtain ⟨a0, a1, a2, a3, a4, a5, a6, a7, a8, a9, a10, a11, a12⟩ := h
  unfold okT
  rw [inB_true ⟨a0, a1⟩, inB_true ⟨a2, a3⟩, inB_true ⟨a4, a5⟩, bne_iff_ne.2 a6, inB_true ⟨a7, a8⟩, inB_true ⟨a9, a10⟩, inB_true ⟨a11, a12⟩]; rfl
/-- the program's test. -/
theorem okT_impl {x : R} (h1 : inB x.f1 0 9 = true) (h2 : inB x.f2 0 9 = true) : okT x = (inB x.f0 1 99 && (x.f1 != x.f2) && inB x.f4 0 8 && inB x.f3 0 (1440 - dur x)) := by
  have i1 := of_inB h1; have i2 := of_inB h2
  have hd := dur_bd i1.1 i1.2 i2.1 i2.2
  have e : inB x.f3 0 (1440 - dur x) = (inB x.f3 0 1440 && inB (arr x) 0 1440) := by
    unfold arr
    by_cases h : 0 ≤ x.f3 ∧ x.f3 ≤ 1440 - dur x
    · rw [inB_true h, inB_true (by omega), inB_true (by omega)]; rfl
    · rw [inB_false h]
      by_cases h5 : 0 ≤ x.f3 ∧ x.f3 ≤ 1440
      · rw [inB_true h5, inB_false (x := x.f3 + dur x) (by omega)]; rfl
      · rw [inB_false h5]; rfl
  unfold okT
  rw [h1, h2, e]
  cases inB x.f0 1 99 <;> cases (x.f1 != x.f2) <;> cases inB x.f3 0 1440 <;> cases inB (arr x) 0 1440 <;> cases inB x.f4 0 8 <;> rfl
def okAt (l : List R) (k : Nat) : Bool := okT (l.getD k zero) && (k == 0 || decide ((l.getD (k - 1) zero).f0 < (l.getD k zero).f0))
def good (l : List R) : Bool := (List.range l.length).all (okAt l) && decide (l.length ≤ 10)
def Ok (l : List R) (k : Nat) : Prop := ∀ j, j < k → okAt l j = true
theorem getD_at {l : List R} {k : Nat} (h : k < l.length) : l.getD k zero = l[k] := by simp [List.getD, h]
theorem good_no {l : List R} {k : Nat} (hk : k < l.length) (h : okAt l k = false) : good l = false := by
  unfold good
  rw [Bool.and_eq_false_iff]; left
  rw [List.all_eq_false]
  exact ⟨k, List.mem_range.2 hk, by simp [h]⟩
theorem good_end {l : List R} {k : Nat} (h : Ok l k) (hk : l.length ≤ k) : good l = decide (l.length ≤ 10) := by
  unfold good
  rw [List.all_eq_true.2 (fun j hj => h j (by have := List.mem_range.1 hj; omega)), Bool.true_and]
theorem good_long {l : List R} (h : 10 < l.length) : good l = false := by
  unfold good
  rw [decide_eq_false (by omega), Bool.and_false]
theorem Ok.next {l : List R} {k : Nat} (h : Ok l k) (hk : okAt l k = true) : Ok l (k + 1) := fun j hj => by
  rcases Nat.lt_or_ge j k with h1 | h1
  · exact h j h1
  · have : j = k := by omega
    subst this; exact hk
theorem at_zero {l : List R} {x : R} (hk : 0 < l.length) (hx : l[0] = x) (h1 : okT x = true) : okAt l 0 = true := by
  unfold okAt; rw [getD_at hk, hx, h1]; rfl
theorem at_bad {l : List R} {k : Nat} {x : R} (hk : k < l.length) (hx : l[k] = x) (h : okT x = false) : okAt l k = false := by
  unfold okAt; rw [getD_at hk, hx, h]; rfl
theorem at_low {l : List R} {k : Nat} {x : R} (hk : k + 1 < l.length) (hx : l[k + 1] = x) (h : ¬ l[k].f0 < x.f0) : okAt l (k + 1) = false := by
  unfold okAt; rw [getD_at hk, hx]
  have e : l.getD (k + 1 - 1) zero = l[k] := getD_at (by omega)
  rw [e, decide_eq_false h]; simp
theorem at_yes {l : List R} {k : Nat} {x : R} (hk : k + 1 < l.length) (hx : l[k + 1] = x) (h1 : okT x = true) (h : l[k].f0 < x.f0) : okAt l (k + 1) = true := by
  unfold okAt; rw [getD_at hk, hx, h1]
  have e : l.getD (k + 1 - 1) zero = l[k] := getD_at (by omega)
  rw [e, decide_eq_true h]; simp
theorem good_all {l : List R} (h : good l = true) : l.length ≤ 10 ∧ ∀ i (h : i < l.length), okT l[i] = true := by
  unfold good at h
  rw [Bool.and_eq_true, decide_eq_true_eq] at h
  refine ⟨h.2, fun i hi => ?_⟩
  have := List.all_eq_true.1 h.1 i (List.mem_range.2 hi)
  unfold okAt at this
  rw [getD_at hi] at this
  simp only [Bool.and_eq_true] at this
  exact this.1
theorem good_mem {l : List R} (h : good l = true) : ∀ x ∈ l, okT x = true := by
  intro x hx
  obtain ⟨i, hi, rfl⟩ := List.getElem_of_mem hx
  exact (good_all h).2 i hi
theorem good_asc {l : List R} (h : good l = true) : ∀ i (h : i + 1 < l.length), l[i].f0 < l[i + 1].f0 := by
  intro i hi
  unfold good at h
  rw [Bool.and_eq_true] at h
  have := List.all_eq_true.1 h.1 (i + 1) (List.mem_range.2 hi)
  unfold okAt at this
  rw [getD_at hi] at this
  simp only [Bool.and_eq_true, Nat.add_sub_cancel, Bool.or_eq_true, decide_eq_true_eq] at this
  rw [getD_at (by omega)] at this
  rcases this.2 with h1 | h1
  · simp at h1
  · exact h1
theorem good_lt {l : List R} (h : good l = true) : ∀ d i (h : i + d + 1 < l.length), l[i].f0 < l[i + d + 1].f0 := by
  intro d
  induction d with
  | zero => intro i hi; exact good_asc h i hi
  | succ d ih =>
    intro i hi
    have h1 := ih i (by omega)
    have h2 := good_asc h (i + d + 1) (by omega)
    have e : l[i + (d + 1) + 1] = l[i + d + 1 + 1] := rfl
    rw [e]; omega
theorem good_pair {l : List R} (h : good l = true) : l.Pairwise (fun x y => x.f0 < y.f0) := by
  rw [List.pairwise_iff_getElem]
  intro i j hi hj hij
  have := good_lt h (j - i - 1) i (by omega)
  have e : i + (j - i - 1) + 1 = j := by omega
  simp only [e] at this
  exact this
/-- a list is valid when its members are, their ids rise, and there are not too many. -/
theorem good_mk {l : List R} (h : l.length ≤ 10) (h1 : ∀ x ∈ l, okT x = true) (h2 : l.Pairwise (fun x y => x.f0 < y.f0)) : good l = true := by
  have H : Ok l l.length := by
    intro j hj
    rcases Nat.eq_zero_or_pos j with hz | hz
    · subst hz; exact at_zero hj rfl (h1 _ (List.getElem_mem hj))
    · obtain ⟨i, rfl⟩ : ∃ i, j = i + 1 := ⟨j - 1, by omega⟩
      exact at_yes hj rfl (h1 _ (List.getElem_mem hj)) (List.pairwise_iff_getElem.1 h2 i (i + 1) (by omega) hj (by omega))
  rw [good_end H (Nat.le_refl _)]; exact decide_eq_true h
/-- when a section is entered. -/
def ent (x : R) (s : Int) : Int := if x.f1 ≤ s ∧ s < x.f2 then x.f3 + 4 * (s - x.f1) else if x.f2 ≤ s ∧ s < x.f1 then x.f3 + 4 * (x.f1 - 1 - s) else -1
theorem ent_bd {x : R} {s : Int} (h : okT x = true) : -1 ≤ ent x s ∧ ent x s ≤ 1440 := by
  obtain ⟨a0, a1, a2, a3, a4, a5, a6, a7, a8, a9, a10, a11, a12⟩ := okT_true h
  unfold arr dur most at a9 a10
  unfold ent
  split
  · split at a9 <;> omega
  · split
    · split at a9 <;> omega
    · omega
/-- the sections on the way, in the order of travel. -/
def num (x : R) : Nat := (most (x.f1 - x.f2) (x.f2 - x.f1)).toNat
def sec (x : R) (i : Nat) : Int := if x.f1 < x.f2 then x.f1 + i else x.f1 - 1 - i
theorem num_is {x : R} (h : okT x = true) : 4 * (num x : Int) = dur x ∧ 1 ≤ num x ∧ num x ≤ 9 := by
  obtain ⟨a0, a1, a2, a3, a4, a5, a6, a7, a8, a9, a10, a11, a12⟩ := okT_true h
  unfold num dur most
  split <;> omega
theorem sec_ent {x : R} (h : okT x = true) {i : Nat} (hi : i < num x) : 0 ≤ sec x i ∧ sec x i ≤ 8 ∧ ent x (sec x i) = x.f3 + 4 * i := by
  obtain ⟨a0, a1, a2, a3, a4, a5, a6, a7, a8, a9, a10, a11, a12⟩ := okT_true h
  unfold num most at hi
  unfold sec ent
  split at hi <;> split <;> (refine ⟨by omega, by omega, ?_⟩) <;> (repeat' split) <;> omega
theorem ent_sec {x : R} (h : okT x = true) {s : Int} (hs : 0 ≤ ent x s) : ∃ i : Nat, i < num x ∧ sec x i = s ∧ ent x s = x.f3 + 4 * i := by
  obtain ⟨a0, a1, a2, a3, a4, a5, a6, a7, a8, a9, a10, a11, a12⟩ := okT_true h
  unfold ent at hs ⊢
  unfold num most sec
  split at hs
  · rename_i h1
    rw [if_pos h1]
    refine ⟨(s - x.f1).toNat, ?_, ?_, by omega⟩
    · split <;> omega
    · rw [if_pos (by omega)]; omega
  · rename_i h1
    split at hs
    · rename_i h2
      rw [if_neg h1, if_pos h2]
      refine ⟨(x.f1 - 1 - s).toNat, ?_, ?_, by omega⟩
      · split <;> omega
      · rw [if_neg (by omega)]; omega
    · omega
theorem sec_inj {x : R} {i j : Nat} (h : sec x i = sec x j) : i = j := by
  unfold sec at h; split at h <;> omega
/-- who meets. -/
def onS (x y : R) (s : Int) : Bool := decide (0 ≤ ent x s) && decide (0 ≤ ent y s) && decide (ent x s < ent y s + 4) && decide (ent y s < ent x s + 4)
def ends (x y : R) : Bool := (x.f1 == y.f1 && x.f3 == y.f3) || (x.f2 == y.f2 && arr x == arr y)
def meetB (x y : R) : Bool := (List.range 9).any (fun s => onS x y s) || ends x y
theorem onS_comm (x y : R) (s : Int) : onS x y s = onS y x s := by
  unfold onS
  cases decide (0 ≤ ent x s) <;> cases decide (0 ≤ ent y s) <;> cases decide (ent x s < ent y s + 4) <;> cases decide (ent y s < ent x s + 4) <;> rfl
theorem beq_comm' (a b : Int) : (a == b) = (b == a) := by
  by_cases h : a = b
  · subst h; rfl
  · rw [beq_eq_false_iff_ne.2 h, beq_eq_false_iff_ne.2 (fun e => h e.symm)]
theorem ends_comm (x y : R) : ends x y = ends y x := by
  unfold ends
  rw [beq_comm' x.f1, beq_comm' x.f3, beq_comm' x.f2, beq_comm' (arr x)]
theorem meet_comm (x y : R) : meetB x y = meetB y x := by
  unfold meetB
  rw [ends_comm x y]
  congr 2
  funext s; exact onS_comm x y s
def Apart (x y : R) (k : Nat) : Prop := ∀ s : Nat, s < k → onS x y s = false
theorem meet_on {x y : R} {s : Nat} (hs : s < 9) (h : onS x y s = true) : meetB x y = true := by
  unfold meetB
  rw [List.any_eq_true.2 ⟨s, List.mem_range.2 hs, h⟩, Bool.true_or]
theorem meet_end {x y : R} (h : Apart x y 9) : meetB x y = ends x y := by
  unfold meetB
  have : (List.range 9).any (fun s => onS x y s) = false := by
    rw [List.any_eq_false]
    intro s hs
    have := h s (List.mem_range.1 hs)
    simp [this]
  rw [this, Bool.false_or]
theorem Apart.next {x y : R} {k : Nat} (h : Apart x y k) (hk : onS x y k = false) : Apart x y (k + 1) := fun s hs => by
  rcases Nat.lt_or_ge s k with h1 | h1
  · exact h s h1
  · have : s = k := by omega
    subst this; exact hk
/-- what the program compares: a crossing of the one with a crossing of the other. -/
def crs (x y : R) (i j : Nat) : Bool := (sec x i == sec y j) && decide (x.f3 + 4 * (i : Int) < y.f3 + 4 * (j : Int) + 4) && decide (y.f3 + 4 * (j : Int) < x.f3 + 4 * (i : Int) + 4)
theorem crs_meet {x y : R} (hx : okT x = true) (hy : okT y = true) {i j : Nat} (hi : i < num x) (hj : j < num y) (h : crs x y i j = true) : meetB x y = true := by
  unfold crs at h
  simp only [Bool.and_eq_true, beq_iff_eq, decide_eq_true_eq] at h
  obtain ⟨⟨h1, h2⟩, h3⟩ := h
  obtain ⟨b0, b1, e1⟩ := sec_ent hx hi
  obtain ⟨_, _, e2⟩ := sec_ent hy hj
  rw [← h1] at e2
  have hxs := (okT_true hx).2.2.2.2.2.2.2.1
  have hys := (okT_true hy).2.2.2.2.2.2.2.1
  refine meet_on (s := (sec x i).toNat) (by omega) ?_
  rw [Int.toNat_of_nonneg b0]
  unfold onS
  rw [e1, e2, decide_eq_true (by omega), decide_eq_true (by omega), decide_eq_true h2, decide_eq_true h3]; rfl
theorem crs_apart {x y : R} (hx : okT x = true) (hy : okT y = true) (h : ∀ i j, i < num x → j < num y → crs x y i j = false) : Apart x y 9 := by
  intro s hs
  by_cases h0 : onS x y s = true
  · exfalso
    unfold onS at h0
    simp only [Bool.and_eq_true, decide_eq_true_eq] at h0
    obtain ⟨⟨⟨h1, h2⟩, h3⟩, h4⟩ := h0
    obtain ⟨i, hi, e1, e2⟩ := ent_sec hx h1
    obtain ⟨j, hj, e3, e4⟩ := ent_sec hy h2
    have := h i j hi hj
    unfold crs at this
    rw [e1, e3, ← e2, ← e4, decide_eq_true h3, decide_eq_true h4] at this
    simp at this
  · simpa using h0
/-- nobody of the list with another id meets it. -/
def freeAt (l : List R) (t : R) (i : Nat) : Bool := !((l.getD i zero).f0 != t.f0 && meetB (l.getD i zero) t)
def freeB (l : List R) (t : R) : Bool := (List.range l.length).all (freeAt l t)
def Free (l : List R) (t : R) (k : Nat) : Prop := ∀ j, j < k → freeAt l t j = true
theorem Free.next {l : List R} {t : R} {k : Nat} (h : Free l t k) (hk : freeAt l t k = true) : Free l t (k + 1) := fun s hs => by
  rcases Nat.lt_or_ge s k with h1 | h1
  · exact h s h1
  · have : s = k := by omega
    subst this; exact hk
theorem free_no {l : List R} {t : R} {k : Nat} (hk : k < l.length) (h : freeAt l t k = false) : freeB l t = false := by
  unfold freeB
  rw [List.all_eq_false]
  exact ⟨k, List.mem_range.2 hk, by simp [h]⟩
theorem free_yes {l : List R} {t : R} {k : Nat} (h : Free l t k) (hk : l.length ≤ k) : freeB l t = true := by
  unfold freeB
  exact List.all_eq_true.2 (fun j hj => h j (by have := List.mem_range.1 hj; omega))
theorem freeAt_same {l : List R} {t : R} {k : Nat} {x : R} (hk : k < l.length) (hx : l[k] = x) (h : x.f0 = t.f0) : freeAt l t k = true := by
  unfold freeAt; rw [getD_at hk, hx, h]; simp
theorem freeAt_meet {l : List R} {t : R} {k : Nat} {x : R} (hk : k < l.length) (hx : l[k] = x) (h : x.f0 ≠ t.f0) : freeAt l t k = !(meetB x t) := by
  unfold freeAt; rw [getD_at hk, hx, bne_iff_ne.2 h, Bool.true_and]
/-- the place of an id. -/
def Not (l : List R) (d : Int) (k : Nat) : Prop := ∀ j (h : j < l.length), j < k → l[j].f0 ≠ d
theorem Not.next {l : List R} {d : Int} {k : Nat} (h : Not l d k) (hk : k < l.length) (he : l[k].f0 ≠ d) : Not l d (k + 1) := fun j hj hj2 => by
  rcases Nat.lt_or_ge j k with h1 | h1
  · exact h j hj h1
  · have : j = k := by omega
    subst this; exact he
def fnd (l : List R) (d : Int) : Option Nat := (List.range l.length).find? (fun j => (l.getD j zero).f0 == d)
theorem fnd_at {l : List R} {d : Int} {k : Nat} {x : R} (hk : k < l.length) (hn : Not l d k) (hx : l[k] = x) (he : x.f0 = d) : fnd l d = some k := by
  unfold fnd
  rw [List.find?_eq_some_iff_getElem]
  refine ⟨by rw [getD_at hk, hx]; simp [he], k, by simpa using hk, by simp, fun j hj => ?_⟩
  have := hn j (by omega) hj
  simp only [List.getElem_range]
  rw [getD_at (by omega)]; simpa using this
theorem fnd_none {l : List R} {d : Int} (hn : Not l d l.length) : fnd l d = none := by
  unfold fnd
  rw [List.find?_eq_none]
  intro j hj
  have hj := List.mem_range.1 hj
  rw [getD_at hj]; simpa using hn j hj hj
theorem fnd_some {l : List R} {d : Int} {k : Nat} (h : fnd l d = some k) : ∃ h : k < l.length, l[k].f0 = d := by
  unfold fnd at h
  have h1 := List.find?_some h
  have h2 := List.mem_range.1 (List.mem_of_find?_eq_some h)
  rw [getD_at h2] at h1
  exact ⟨h2, by simpa using h1⟩
end Go.Proofs.Ytknlgdahcfgbeaa.TripP
