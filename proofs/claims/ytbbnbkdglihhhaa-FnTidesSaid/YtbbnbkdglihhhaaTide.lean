/- Tides: the pure functions, of which both the model's and the program's contracts speak. -/
import Derived.Test.YtbbnbkdglihhhaaSMark
namespace Go.Proofs.Ytbbnbkdglihhhaa.Tide
open Go.RowKit Go.Proofs.Ytbbnbkdglihhhaa.Mem Go.Proofs.Ytbbnbkdglihhhaa.Base Go.Proofs.Ytbbnbkdglihhhaa.SMark
set_option linter.unusedVariables false
def at_ (l : List R) (k : Nat) : R := l.getD k zero
theorem at_get {l : List R} {k : Nat} (h : k < l.length) : at_ l k = l[k] := by simp [at_, List.getD, h]
/-- mark k: a height, later than the one before. -/
def markOk (l : List R) (k : Nat) : Bool := inB (at_ l k).f1 (-500) 500 && (k == 0 || decide ((at_ l (k - 1)).f0 < (at_ l k).f0))
def ends (l : List R) : Bool := inB (l.length : Int) 2 12 && decide ((at_ l 0).f0 = 0) && decide ((at_ l (l.length - 1)).f0 = 1440)
def good (l : List R) : Bool := ends l && (List.range l.length).all (markOk l)
def Ok (l : List R) (k : Nat) : Prop := ∀ j, j < k → markOk l j = true
theorem Ok.next {l : List R} {k : Nat} (h : Ok l k) (hk : markOk l k = true) : Ok l (k + 1) := fun j hj => by
  rcases Nat.lt_or_ge j k with h1 | h1
  · exact h j h1
  · have : j = k := by omega
    subst this; exact hk
theorem good_no {l : List R} {k : Nat} (hk : k < l.length) (h : markOk l k = false) : good l = false := by
  unfold good
  rw [Bool.and_eq_false_iff]; right
  rw [List.all_eq_false]
  exact ⟨k, List.mem_range.2 hk, by simp [h]⟩
theorem good_ends {l : List R} (h : ends l = false) : good l = false := by unfold good; rw [h]; rfl
theorem good_end {l : List R} (h : Ok l l.length) : good l = ends l := by
  unfold good
  rw [List.all_eq_true.2 (fun j hj => h j (List.mem_range.1 hj)), Bool.and_true]
theorem ends_true {l : List R} (h : ends l = true) : 2 ≤ l.length ∧ l.length ≤ 12 ∧ (at_ l 0).f0 = 0 ∧ (at_ l (l.length - 1)).f0 = 1440 := by
  unfold ends at h
  simp only [Bool.and_eq_true, decide_eq_true_eq] at h
  have := of_inB h.1.1
  exact ⟨by omega, by omega, h.1.2, h.2⟩
theorem markOk_true {l : List R} {k : Nat} (h : markOk l k = true) : -500 ≤ (at_ l k).f1 ∧ (at_ l k).f1 ≤ 500 ∧ (0 < k → (at_ l (k - 1)).f0 < (at_ l k).f0) := by
  unfold markOk at h
  simp only [Bool.and_eq_true, Bool.or_eq_true, beq_iff_eq, decide_eq_true_eq] at h
  have := of_inB h.1
  exact ⟨this.1, this.2, fun hk => h.2.resolve_left (by omega)⟩
theorem good_true {l : List R} (h : good l = true) : 2 ≤ l.length ∧ l.length ≤ 12 ∧ (at_ l 0).f0 = 0 ∧ (at_ l (l.length - 1)).f0 = 1440 ∧ ∀ k, k < l.length → -500 ≤ (at_ l k).f1 ∧ (at_ l k).f1 ≤ 500 ∧ (0 < k → (at_ l (k - 1)).f0 < (at_ l k).f0) := by
  unfold good at h
  rw [Bool.and_eq_true, List.all_eq_true] at h
  obtain ⟨a, b, c, d⟩ := ends_true h.1
  exact ⟨a, b, c, d, fun k hk => markOk_true (h.2 k (List.mem_range.2 hk))⟩
theorem good_asc {l : List R} (h : good l = true) (i : Nat) : ∀ n, i + n < l.length → (at_ l i).f0 + n ≤ (at_ l (i + n)).f0 := by
  obtain ⟨_, _, _, _, hm⟩ := good_true h
  intro n
  induction n with
  | zero => intro _; simp
  | succ n ih =>
    intro hn
    have h1 := ih (by omega)
    have h2 := (hm (i + (n + 1)) hn).2.2 (by omega)
    rw [show i + (n + 1) - 1 = i + n by omega] at h2
    omega
theorem good_minute {l : List R} (h : good l = true) {k : Nat} (hk : k < l.length) : 0 ≤ (at_ l k).f0 ∧ (at_ l k).f0 ≤ 1440 := by
  obtain ⟨_, _, h0, h9, _⟩ := good_true h
  have a := good_asc h 0 k (by omega)
  have b := good_asc h k (l.length - 1 - k) (by omega)
  rw [show k + (l.length - 1 - k) = l.length - 1 by omega] at b
  rw [Nat.zero_add] at a
  omega
theorem minute_no {l : List R} {k : Nat} (hk : k < l.length) (h : inB (at_ l k).f0 0 1440 = false) : good l = false := by
  cases hg : good l
  · rfl
  · exact absurd (good_minute hg hk) (of_not_inB h)
/-- the first mark behind the first one that is not before a minute. -/
def segF (l : List R) (m : Int) : Nat → Nat → Nat
  | 0, k => k
  | f + 1, k => if m ≤ (at_ l k).f0 then k else segF l m f (k + 1)
def seg (l : List R) (m : Int) : Nat := segF l m l.length 1
def Late (l : List R) (m : Int) (k : Nat) : Prop := ∀ j, 1 ≤ j → j < k → (at_ l j).f0 < m
theorem Late.one (l : List R) (m : Int) : Late l m 1 := fun j h1 h2 => by omega
theorem Late.next {l : List R} {m : Int} {k : Nat} (h : Late l m k) (hk : (at_ l k).f0 < m) : Late l m (k + 1) := fun j h1 hj => by
  rcases Nat.lt_or_ge j k with h2 | h2
  · exact h j h1 h2
  · have : j = k := by omega
    subst this; exact hk
theorem segF_at {l : List R} {m : Int} {k : Nat} (hm : m ≤ (at_ l k).f0) : ∀ f q, q ≤ k → k < q + f → (∀ j, q ≤ j → j < k → (at_ l j).f0 < m) → segF l m f q = k := by
  intro f
  induction f with
  | zero => intro q h1 h2; omega
  | succ f ih =>
    intro q h1 h2 h3
    unfold segF
    by_cases hq : m ≤ (at_ l q).f0
    · rw [if_pos hq]
      rcases Nat.lt_or_ge q k with h4 | h4
      · exact absurd (h3 q (Nat.le_refl _) h4) (by omega)
      · omega
    · rw [if_neg hq]
      have hne : q ≠ k := by rintro rfl; exact hq hm
      exact ih (q + 1) (by omega) (by omega) (fun j a b => h3 j (by omega) b)
theorem seg_at {l : List R} {m : Int} {k : Nat} (h : Late l m k) (h1 : 1 ≤ k) (hk : k < l.length) (hm : m ≤ (at_ l k).f0) : seg l m = k :=
  segF_at hm _ _ h1 (by omega) (fun j a b => h j a b)
theorem seg_some {l : List R} (hg : good l = true) {m : Int} (hm : m ≤ 1440) : ∀ f q, 1 ≤ q → Late l m q → q + f = l.length → ∃ k, q ≤ k ∧ k < l.length ∧ m ≤ (at_ l k).f0 ∧ Late l m k := by
  obtain ⟨h2, _, _, h9, _⟩ := good_true hg
  intro f
  induction f with
  | zero => intro q h1 hl hq; exact absurd (hl (l.length - 1) (by omega) (by omega)) (by omega)
  | succ f ih =>
    intro q h1 hl hq
    by_cases h : m ≤ (at_ l q).f0
    · exact ⟨q, Nat.le_refl _, by omega, h, hl⟩
    · obtain ⟨k, a, b, c, d⟩ := ih (q + 1) (by omega) (hl.next (by omega)) (by omega)
      exact ⟨k, by omega, b, c, d⟩
/-- a minute lies on a line. -/
structure Seg (l : List R) (m : Int) (k : Nat) : Prop where
  is : seg l m = k
  one : 1 ≤ k
  lt : k < l.length
  lo : (at_ l (k - 1)).f0 ≤ m
  hi : m ≤ (at_ l k).f0
  asc : (at_ l (k - 1)).f0 < (at_ l k).f0
  late : Late l m k
theorem seg_ok {l : List R} (hg : good l = true) {m : Int} (h0 : 0 ≤ m) (h1 : m ≤ 1440) : ∃ k, Seg l m k := by
  obtain ⟨h2, _, hz, h9, hm⟩ := good_true hg
  obtain ⟨k, a, b, c, d⟩ := seg_some hg h1 (l.length - 1) 1 (Nat.le_refl _) (Late.one l m) (by omega)
  refine ⟨k, seg_at d a b c, a, b, ?_, c, (hm k b).2.2 (by omega), d⟩
  rcases Nat.lt_or_ge 1 k with h3 | h3
  · have := d (k - 1) (by omega) (by omega); omega
  · have : k - 1 = 0 := by omega
    rw [this, hz]; exact h0
/-- the height in a minute: above, below. -/
def numA (a b : R) (m : Int) : Int := a.f1 * (b.f0 - m) + b.f1 * (m - a.f0)
def num (l : List R) (m : Int) : Int := numA (at_ l (seg l m - 1)) (at_ l (seg l m)) m
def den (l : List R) (m : Int) : Int := (at_ l (seg l m)).f0 - (at_ l (seg l m - 1)).f0
theorem num_line (a b : R) (m : Int) : a.f1 * (b.f0 - a.f0) + (b.f1 - a.f1) * (m - a.f0) = numA a b m := by
  unfold numA
  simp only [Int.mul_sub, Int.sub_mul]
  omega
theorem numA_bd {a b : R} {m : Int} (h0 : a.f0 ≤ m) (h1 : m ≤ b.f0) (ha : -500 ≤ a.f1) (ha' : a.f1 ≤ 500) (hb : -500 ≤ b.f1) (hb' : b.f1 ≤ 500) : -(500 * (b.f0 - a.f0)) ≤ numA a b m ∧ numA a b m ≤ 500 * (b.f0 - a.f0) := by
  unfold numA
  have p1 := Int.mul_le_mul_of_nonneg_right ha' (show 0 ≤ b.f0 - m by omega)
  have p2 := Int.mul_le_mul_of_nonneg_right ha (show 0 ≤ b.f0 - m by omega)
  have p3 := Int.mul_le_mul_of_nonneg_right hb' (show 0 ≤ m - a.f0 by omega)
  have p4 := Int.mul_le_mul_of_nonneg_right hb (show 0 ≤ m - a.f0 by omega)
  omega
theorem mul_bd {x y a b : Int} (h1 : -a ≤ x) (h2 : x ≤ a) (h3 : 0 ≤ y) (h4 : y ≤ b) (h0 : 0 ≤ a) : -(a * b) ≤ x * y ∧ x * y ≤ a * b := by
  have p1 := Int.mul_le_mul_of_nonneg_right h1 h3
  have p2 := Int.mul_le_mul_of_nonneg_right h2 h3
  have p3 := Int.mul_le_mul_of_nonneg_left h4 h0
  rw [Int.neg_mul] at p1
  omega
theorem num_is {l : List R} {m : Int} {k : Nat} (h : Seg l m k) : num l m = numA (at_ l (k - 1)) (at_ l k) m := by unfold num; rw [h.is]
theorem den_is {l : List R} {m : Int} {k : Nat} (h : Seg l m k) : den l m = (at_ l k).f0 - (at_ l (k - 1)).f0 := by unfold den; rw [h.is]
theorem den_bd {l : List R} (hg : good l = true) {m : Int} (h0 : 0 ≤ m) (h1 : m ≤ 1440) : 1 ≤ den l m ∧ den l m ≤ 1440 := by
  obtain ⟨k, hk⟩ := seg_ok hg h0 h1
  have a := good_minute hg hk.lt
  have b := good_minute hg (show k - 1 < l.length by have := hk.lt; omega)
  have := hk.asc
  rw [den_is hk]; omega
theorem num_bd {l : List R} (hg : good l = true) {m : Int} (h0 : 0 ≤ m) (h1 : m ≤ 1440) : -(500 * den l m) ≤ num l m ∧ num l m ≤ 500 * den l m := by
  obtain ⟨k, hk⟩ := seg_ok hg h0 h1
  obtain ⟨_, _, _, _, hm⟩ := good_true hg
  have a := hm k hk.lt
  have b := hm (k - 1) (by have := hk.lt; omega)
  rw [num_is hk, den_is hk]
  exact numA_bd hk.lo hk.hi b.1 b.2.1 a.1 a.2.1
/-- in lowest terms. -/
def gcd (n d : Int) : Int := (Nat.gcd n.natAbs d.toNat : Nat)
def low (n d : Int) : Int := n.tdiv (gcd n d)
def low' (n d : Int) : Int := d.tdiv (gcd n d)
theorem gcd_pos {n d : Int} (h : 0 < d) : 0 < gcd n d := by
  have := Nat.gcd_pos_of_pos_right n.natAbs (show 0 < d.toNat by omega)
  unfold gcd; omega
theorem low_mul {n d : Int} (h : 0 < d) : n = gcd n d * low n d := by
  have h1 : gcd n d ∣ n := by
    unfold gcd
    have := Int.natAbs_dvd_natAbs (a := (Nat.gcd n.natAbs d.toNat : Int)) (b := n)
    exact this.1 (by simpa using Nat.gcd_dvd_left n.natAbs d.toNat)
  unfold low
  exact (Int.mul_tdiv_cancel' h1).symm
theorem low'_mul {n d : Int} (h : 0 < d) : d = gcd n d * low' n d := by
  have h1 : gcd n d ∣ d := by
    unfold gcd
    have e : d = (d.toNat : Int) := by omega
    conv => rhs; rw [e]
    exact Int.ofNat_dvd.2 (Nat.gcd_dvd_right n.natAbs d.toNat)
  unfold low'
  exact (Int.mul_tdiv_cancel' h1).symm
theorem low'_pos {n d : Int} (h : 0 < d) : 0 < low' n d := by
  have h1 := low'_mul (n := n) h
  have h2 := gcd_pos (n := n) h
  rcases Int.lt_or_le 0 (low' n d) with h3 | h3
  · exact h3
  · have := Int.mul_nonpos_of_nonneg_of_nonpos (Int.le_of_lt h2) h3
    omega
theorem low_lt {n d x : Int} (h : 0 < d) : low' n d * x < low n d ↔ d * x < n := by
  have h2 := gcd_pos (n := n) h
  conv => rhs; rw [low_mul (n := n) h]; lhs; rw [low'_mul (n := n) h, Int.mul_assoc]
  exact (Int.mul_lt_mul_left h2).symm
theorem low_gt {n d x : Int} (h : 0 < d) : low n d < low' n d * x ↔ n < d * x := by
  have h2 := gcd_pos (n := n) h
  conv => rhs; lhs; rw [low_mul (n := n) h]
  conv => rhs; rhs; rw [low'_mul (n := n) h, Int.mul_assoc]
  exact (Int.mul_lt_mul_left h2).symm
end Go.Proofs.Ytbbnbkdglihhhaa.Tide
