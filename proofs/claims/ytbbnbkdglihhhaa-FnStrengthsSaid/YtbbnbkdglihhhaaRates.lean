/- What the laws on strengths ask, reckoned: no walk. -/
import Derived.Test.YtbbnbkdglihhhaaLaws2
namespace Go.Proofs.Ytbbnbkdglihhhaa.Rates
open Go.RowKit Go.Proofs.Ytbbnbkdglihhhaa.Mem Go.Proofs.Ytbbnbkdglihhhaa.Base Go.Proofs.Ytbbnbkdglihhhaa.Brine Go.Proofs.Ytbbnbkdglihhhaa.Brine3 Go.Proofs.Ytbbnbkdglihhhaa.Brine4 Go.Proofs.Ytbbnbkdglihhhaa.Brine5
set_option linter.unusedVariables false
theorem frac (b m : Int) (hb : 0 ≤ b) (hm : 0 < m) : 0 ≤ low b m ∧ low b m ≤ b ∧ 0 ≤ low' b m ∧ low' b m ≤ m ∧ ∃ g : Int, 0 < g ∧ low b m * g = b ∧ low' b m * g = m := by
  obtain ⟨x, rfl⟩ : ∃ x : Nat, b = x := ⟨b.toNat, by omega⟩
  obtain ⟨y, rfl⟩ : ∃ y : Nat, m = y := ⟨m.toNat, by omega⟩
  unfold low low'
  simp only [Int.toNat_natCast]
  have hy : 0 < y := by omega
  have hg : 0 < Nat.gcd x y := Nat.gcd_pos_of_pos_right x hy
  have h1 : x / Nat.gcd x y * Nat.gcd x y = x := Nat.div_mul_cancel (Nat.gcd_dvd_left x y)
  have h2 : y / Nat.gcd x y * Nat.gcd x y = y := Nat.div_mul_cancel (Nat.gcd_dvd_right x y)
  have h3 := Nat.div_le_self x (Nat.gcd x y)
  have h4 := Nat.div_le_self y (Nat.gcd x y)
  exact ⟨Int.natCast_nonneg _, by omega, Int.natCast_nonneg _, by omega, (Nat.gcd x y : Int), by omega, by exact_mod_cast h1, by exact_mod_cast h2⟩
theorem cmp {p q g b m n d : Int} (hg : 0 < g) (hp : p * g = b) (hq : q * g = m) : (p * d < n * q) ↔ (b * d < n * m) := by
  have e1 : b * d = p * d * g := by rw [← hp, Int.mul_right_comm]
  have e2 : n * m = n * q * g := by rw [← hq, Int.mul_assoc]
  rw [e1, e2]
  exact ⟨fun h => Int.mul_lt_mul_of_pos_right h hg, fun h => Int.lt_of_mul_lt_mul_right h (Int.le_of_lt hg)⟩
theorem cmp' {p q g b m n d : Int} (hg : 0 < g) (hp : p * g = b) (hq : q * g = m) : (n * q < p * d) ↔ (n * m < b * d) := by
  have e1 : b * d = p * d * g := by rw [← hp, Int.mul_right_comm]
  have e2 : n * m = n * q * g := by rw [← hq, Int.mul_assoc]
  rw [e1, e2]
  exact ⟨fun h => Int.mul_lt_mul_of_pos_right h hg, fun h => Int.lt_of_mul_lt_mul_right h (Int.le_of_lt hg)⟩
/-- The strength of a brine with a mass. -/
def Str (a b n d : Int) (P : Int → Int → Prop) : Prop := ∃ p q : Int, strV a b = .tuple #[.int .i64 p, .int .i64 q, .bool true] ∧ 0 ≤ p ∧ p ≤ 1000000 ∧ 0 ≤ q ∧ q ≤ 2000000 ∧ P (p * d) (n * q)
theorem str_of {a b n d : Int} {P : Int → Int → Prop} (ha : 0 ≤ a) (ha1 : a ≤ 1000000) (hb : 0 ≤ b) (hb1 : b ≤ 1000000) (hm : 0 < a + b)
    (h : ∀ p q g, 0 < g → p * g = b → q * g = a + b → P (p * d) (n * q)) : Str a b n d P := by
  obtain ⟨h1, h2, h3, h4, g, hg, h5, h6⟩ := frac b (a + b) hb hm
  refine ⟨low b (a + b), low' b (a + b), ?_, h1, by omega, h3, by omega, h _ _ g hg h5 h6⟩
  have hok : okB a b = true := by unfold okB; rw [inB_true ⟨ha, ha1⟩, inB_true ⟨hb, hb1⟩]; rfl
  unfold strV
  rw [if_pos hok, if_neg (by omega)]
theorem lose_facts {a b n d : Int} (h : loseOk a b n d = true) :
    0 ≤ loseI a b n d ∧ loseI a b n d ≤ a ∧ a ≤ 1000000 ∧ 0 ≤ b ∧ b ≤ 1000000 ∧ Str (a - loseI a b n d) b n d (fun x y => ¬ x < y) ∧ (0 < loseI a b n d → Str (a - loseI a b n d + 1) b n d (fun x y => ¬ y ≤ x)) := by
  unfold loseOk at h
  simp only [Bool.and_eq_true, Bool.not_eq_true', beq_eq_false_iff_ne, ne_eq] at h
  obtain ⟨hok, h0, hr⟩ := h
  obtain ⟨ha, ha1, hb, hb1⟩ := okB_true hok
  obtain ⟨hn, hnd, hd⟩ := okR_true hr
  have m1 : n * (b * d / n) ≤ b * d := Int.mul_ediv_self_le (by omega)
  have m2 : b * d < n * (b * d / n + 1) := by
    have := Int.lt_mul_ediv_self_add (x := b * d) (k := n) (by omega)
    rw [Int.mul_add, Int.mul_one]; exact this
  have m3 : b ≤ b * d / n := by
    refine (Int.le_ediv_iff_mul_le (by omega)).2 ?_
    exact Int.mul_le_mul_of_nonneg_left hnd hb
  have hI : loseI a b n d = most 0 (a + b - b * d / n) := rfl
  unfold most at hI
  generalize loseI a b n d = N at *
  generalize hq : b * d / n = Q at *
  split at hI
  · subst hI
    refine ⟨by omega, by omega, ha1, hb, hb1, str_of (by omega) (by omega) hb hb1 (by omega) fun p q g hg hp hq' => ?_, fun h => absurd h (by omega)⟩
    intro hlt
    have := (cmp hg hp hq').1 hlt
    have h7 : n * (a - 0 + b) ≤ n * Q := Int.mul_le_mul_of_nonneg_left (by omega) (by omega)
    omega
  · subst hI
    refine ⟨by omega, by omega, ha1, hb, hb1, str_of (by omega) (by omega) hb hb1 (by omega) fun p q g hg hp hq' => ?_, fun h => str_of (by omega) (by omega) hb hb1 (by omega) fun p q g hg hp hq' => ?_⟩
    · intro hlt
      have := (cmp hg hp hq').1 hlt
      have h7 : a - (a + b - Q) + b = Q := by omega
      rw [h7] at this
      omega
    · have h7 : a - (a + b - Q) + 1 + b = Q + 1 := by omega
      rw [h7] at hq'
      have := (cmp (n := n) (d := d) hg hp hq').2 m2
      omega
theorem add_facts {a b n d : Int} (h : addOk a b n d = true) :
    0 ≤ addI a b n d ∧ addI a b n d ≤ 1000000 ∧ 0 ≤ a ∧ a ≤ 1000000 ∧ 0 ≤ b ∧ b ≤ 1000000 ∧ Str (a + addI a b n d) b n d (fun x y => ¬ y < x) ∧ (0 < addI a b n d → Str (a + addI a b n d - 1) b n d (fun x y => ¬ x ≤ y)) := by
  unfold addOk at h
  simp only [Bool.and_eq_true, Bool.not_eq_true', beq_eq_false_iff_ne, ne_eq, decide_eq_false_iff_not] at h
  obtain ⟨hok, h0, hr, hM⟩ := h
  obtain ⟨ha, ha1, hb, hb1⟩ := okB_true hok
  obtain ⟨hn, hnd, hd⟩ := okR_true hr
  have m1 : n * ((b * d + n - 1) / n) ≤ b * d + n - 1 := Int.mul_ediv_self_le (by omega)
  have m2 : b * d + n - 1 < n * ((b * d + n - 1) / n) + n := Int.lt_mul_ediv_self_add (by omega)
  have hI : addI a b n d = most 0 ((b * d + n - 1) / n - (a + b)) := rfl
  unfold most at hI
  generalize addI a b n d = M at *
  generalize hq : (b * d + n - 1) / n = Q at *
  split at hI
  · subst hI
    refine ⟨by omega, by omega, ha, ha1, hb, hb1, str_of (by omega) (by omega) hb hb1 (by omega) fun p q g hg hp hq' => ?_, fun h => absurd h (by omega)⟩
    intro hlt
    have := (cmp' hg hp hq').1 hlt
    have h7 : n * Q ≤ n * (a + 0 + b) := Int.mul_le_mul_of_nonneg_left (by omega) (by omega)
    omega
  · subst hI
    refine ⟨by omega, by omega, ha, ha1, hb, hb1, str_of (by omega) (by omega) hb hb1 (by omega) fun p q g hg hp hq' => ?_, fun h => str_of (by omega) (by omega) hb hb1 (by omega) fun p q g hg hp hq' => ?_⟩
    · intro hlt
      have := (cmp' hg hp hq').1 hlt
      have h7 : a + (Q - (a + b)) + b = Q := by omega
      rw [h7] at this
      omega
    · have h7 : a + (Q - (a + b)) - 1 + b = Q - 1 := by omega
      rw [h7] at hq'
      have h8 : n * (Q - 1) < b * d := by rw [Int.mul_sub, Int.mul_one]; omega
      have := (cmp' (n := n) (d := d) hg hp hq').2 h8
      omega
theorem lose_inv {a b n d N : Int} (h : loseV a b n d = .tuple #[.int .i64 N, .bool true]) : loseOk a b n d = true ∧ loseI a b n d = N := by
  unfold loseV at h
  split at h
  · rename_i hk; exact ⟨hk, by simpa using h⟩
  · simp at h
theorem add_inv {a b n d N : Int} (h : addV a b n d = .tuple #[.int .i64 N, .bool true]) : addOk a b n d = true ∧ addI a b n d = N := by
  unfold addV at h
  split at h
  · rename_i hk; exact ⟨hk, by simpa using h⟩
  · simp at h
/-- products of what the laws multiply. -/
theorem prod {p d : Int} (hp : 0 ≤ p) (hp1 : p ≤ 2000000) (hd : 0 ≤ d) (hd1 : d ≤ 1002) : IntKind.i64.wrap (p * d) = p * d := by
  have m1 := Int.mul_nonneg hp hd
  have m2 : p * d ≤ 2000000 * 1002 := Int.mul_le_mul hp1 hd1 hd (by omega)
  exact IntWalk.i64_in _ (by omega)
theorem strong_both (x y u v : Int) : ∃ f g q : Bool, strongV x y u v = .tuple #[.bool f, .bool q] ∧ strongV u v x y = .tuple #[.bool g, .bool q] ∧ (f && g) = false := by
  have e : strongOk u v x y = strongOk x y u v := by
    unfold strongOk
    cases okB x y <;> cases okB u v <;> simp [Bool.and_comm]
  unfold strongV
  rw [e]
  cases strongOk x y u v
  · exact ⟨false, false, false, rfl, rfl, rfl⟩
  · refine ⟨_, _, true, rfl, rfl, ?_⟩
    rw [← Bool.decide_and, decide_eq_false_iff_not]
    omega
end Go.Proofs.Ytbbnbkdglihhhaa.Rates
