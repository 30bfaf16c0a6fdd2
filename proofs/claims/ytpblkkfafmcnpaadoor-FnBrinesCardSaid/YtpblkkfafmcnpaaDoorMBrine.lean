/- What FnBrines says, on the pure functions. -/
import Derived.Test.YtpblkkfafmcnpaaDoorMix
import Derived.Test.YtpblkkfafmcnpaaDoorHalve
import Derived.Test.YtpblkkfafmcnpaaDoorBrine6
namespace Go.Proofs.YtpblkkfafmcnpaaDoor.MBrine
open Go.RowKit Go.Proofs.YtpblkkfafmcnpaaDoor.Mem Go.Proofs.YtpblkkfafmcnpaaDoor.Base Go.Proofs.YtpblkkfafmcnpaaDoor.Brine Go.Proofs.YtpblkkfafmcnpaaDoor.Brine6 Go.Proofs.YtpblkkfafmcnpaaDoor.SBrine Go.Proofs.YtpblkkfafmcnpaaDoor.Mix Go.Proofs.YtpblkkfafmcnpaaDoor.Halve
set_option linter.unusedVariables false
theorem shr_in {a n i : Int} (h0 : 0 ≤ a) (hn : 1 ≤ n) (hi : 0 ≤ i) : 0 ≤ shr a n i ∧ shr a n i ≤ a := by
  have h1 := Int.emod_nonneg a (show n ≠ 0 by omega)
  have h2 := Int.mul_ediv_add_emod a n
  have h3 := Int.ediv_nonneg h0 (show 0 ≤ n by omega)
  have h4 := Int.mul_le_mul_of_nonneg_right hn h3
  unfold shr
  split <;> omega
theorem sum_shr {a n : Int} (hn : 1 ≤ n) (h0 : 0 ≤ a) : ∀ k : Nat, (k : Int) ≤ n → ((List.range k).map fun i : Nat => shr a n (i : Int)).sum = k * (a / n) + (if (k : Int) ≤ a % n then (k : Int) else a % n) := by
  have h1 := Int.emod_nonneg a (show n ≠ 0 by omega)
  intro k
  induction k with
  | zero => intro _; simp [h1]
  | succ k ih =>
    intro hk
    have e := ih (by omega)
    rw [List.range_succ, List.map_append, List.sum_append, e]
    have e2 : ((k + 1 : Nat) : Int) * (a / n) = k * (a / n) + a / n := by push_cast; rw [Int.add_mul, Int.one_mul]
    rw [e2]
    simp only [List.map_cons, List.map_nil, List.sum_cons, List.sum_nil]
    unfold shr
    split <;> split <;> split <;> omega
theorem sum_all {a n : Int} (hn : 1 ≤ n) (h0 : 0 ≤ a) : ((List.range n.toNat).map fun i : Nat => shr a n (i : Int)).sum = a := by
  rw [sum_shr hn h0 n.toNat (by omega)]
  have e : (n.toNat : Int) = n := by omega
  have h2 := Int.emod_lt_of_pos a (show 0 < n by omega)
  rw [e, if_neg (by omega)]
  exact Int.mul_ediv_add_emod a n
theorem okB_of {a b : Int} (h0 : 0 ≤ a) (h1 : a ≤ 1000000) (h2 : 0 ≤ b) (h3 : b ≤ 1000000) : okB a b = true := by
  unfold okB; simp only [Bool.and_eq_true]; exact ⟨inB_true ⟨h0, h1⟩, inB_true ⟨h2, h3⟩⟩
theorem half_true {a b n : Int} (h : halfOk a b n = true) : okB a b = true ∧ 1 ≤ n ∧ n ≤ 20 := by
  unfold halfOk at h; rw [Bool.and_eq_true] at h
  have := of_inB h.2; exact ⟨h.1, this.1, this.2⟩
theorem half_len {a b n : Int} (h : halfOk a b n = true) : ((halfL a b n).length : Int) = n := by
  have := half_true h
  rw [half_yes h, parts_len]; omega
theorem mix_half {a b n : Int} (h : halfOk a b n = true) : mixV (halfL a b n) = .tuple #[br a b, .bool true] := by
  obtain ⟨hk, h1, h2⟩ := half_true h
  obtain ⟨a0, a1, b0, b1⟩ := okB_true hk
  have es : sw (halfL a b n) = a ∧ ss (halfL a b n) = b := by
    rw [half_yes h]
    unfold sw ss parts
    rw [List.map_map, List.map_map]
    exact ⟨sum_all h1 a0, sum_all h1 b0⟩
  have hm : mixOk (halfL a b n) = true := by
    unfold mixOk
    rw [es.1, es.2, hk]
    have hlen := half_len h
    rw [decide_eq_true (show (halfL a b n).length ≤ 20 by omega)]
    have : (halfL a b n).all okr = true := by
      rw [half_yes h, List.all_eq_true]
      intro x hx
      unfold parts at hx
      obtain ⟨i, _, rfl⟩ := List.mem_map.1 hx
      have p1 := shr_in (n := n) (i := (i : Int)) a0 h1 (by omega)
      have p2 := shr_in (n := n) (i := (i : Int)) b0 h1 (by omega)
      exact okB_of (a := shr a n (i : Int)) (b := shr b n (i : Int)) (by omega) (by omega) (by omega) (by omega)
    rw [this]; rfl
  rw [mix_yes hm, es.1, es.2]
theorem take_true {a b n : Int} (h : takeOk a b n = true) : okB a b = true ∧ 0 ≤ n ∧ n ≤ a + b := by
  unfold takeOk at h; simp only [Bool.and_eq_true] at h
  have := of_inB h.2.1; exact ⟨h.1, this.1, this.2⟩
theorem take_sum (a b n : Int) : pw a b n + ps a b n = n := by
  unfold pw ps; split <;> omega
theorem take_bd {a b n : Int} (h : takeOk a b n = true) : 0 ≤ pw a b n ∧ pw a b n ≤ a ∧ 0 ≤ ps a b n ∧ ps a b n ≤ b := by
  obtain ⟨hk, h1, h2⟩ := take_true h
  obtain ⟨a0, a1, b0, b1⟩ := okB_true hk
  have p := part_in a0 b0 h1 h2
  have q := part_room a0 b0 h1 h2
  omega
theorem mix_take {a b n : Int} (h : takeOk a b n = true) : mixV [⟨pw a b n, ps a b n⟩, ⟨a - pw a b n, b - ps a b n⟩] = .tuple #[br a b, .bool true] := by
  obtain ⟨hk, _, _⟩ := take_true h
  obtain ⟨a0, a1, b0, b1⟩ := okB_true hk
  obtain ⟨p0, p1, p2, p3⟩ := take_bd h
  have e1 : sw [⟨pw a b n, ps a b n⟩, ⟨a - pw a b n, b - ps a b n⟩] = a := by simp [sw]; omega
  have e2 : ss [⟨pw a b n, ps a b n⟩, ⟨a - pw a b n, b - ps a b n⟩] = b := by simp [ss]; omega
  have hm : mixOk [⟨pw a b n, ps a b n⟩, ⟨a - pw a b n, b - ps a b n⟩] = true := by
    unfold mixOk
    rw [e1, e2, hk]
    simp only [List.all_cons, List.all_nil, okr, okB_of p0 (show pw a b n ≤ 1000000 by omega) p2 (show ps a b n ≤ 1000000 by omega), okB_of (show 0 ≤ a - pw a b n by omega) (show a - pw a b n ≤ 1000000 by omega) (show 0 ≤ b - ps a b n by omega) (show b - ps a b n ≤ 1000000 by omega)]
    rfl
  rw [mix_yes hm, e1, e2]
end Go.Proofs.YtpblkkfafmcnpaaDoor.MBrine
