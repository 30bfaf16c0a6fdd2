/- Fractions in lowest terms: the model's and the program's. Made by tools/mk_batv.py out of Brine, IBrine. -/
import Derived.Test.YtpokgnkcnibapaaBatS
namespace Go.Proofs.Ytpokgnkcnibapaa.BatR
open Go.RowKit Go.Proofs.Ytpokgnkcnibapaa.Mem Go.Proofs.Ytpokgnkcnibapaa.Base Go.Proofs.Ytpokgnkcnibapaa.Within Go.Proofs.Ytpokgnkcnibapaa.SBatch Go.Proofs.Ytpokgnkcnibapaa.Regn Go.Proofs.Ytpokgnkcnibapaa.Boxes Go.Proofs.Ytpokgnkcnibapaa.Keep Go.Proofs.Ytpokgnkcnibapaa.BatP Go.Proofs.Ytpokgnkcnibapaa.BatQ Go.Proofs.Ytpokgnkcnibapaa.BatS
set_option linter.unusedVariables false
set_option linter.unusedSimpArgs false
set_option maxRecDepth 100000
theorem gcd_step (x y : Nat) : Nat.gcd y (x % y) = Nat.gcd x y := by rw [Nat.gcd_comm y (x % y), ← Nat.gcd_rec y x, Nat.gcd_comm]
set_option maxHeartbeats 400000 in
theorem reduce_spec (m n : Nat) (hm : m ≤ 1000000000) (hn0 : 0 < n) (hn : n ≤ 1000000000) (w : World) :
    Calls Try.prog 67 #[.int .i64 (m : Int), .int .i64 (n : Int)] w (RPost (.tuple #[.int .i64 ((m / Nat.gcd m n : Nat) : Int), .int .i64 ((n / Nat.gcd m n : Nat) : Int)]) w) := by
  have hmo : most (m : Int) (-(m : Int)) = m := by unfold most; split <;> omega
  have HM := Lib.hid hmo; clear hmo
  have hg := Nat.gcd_pos_of_pos_right m hn0
  go_enter Try.func67, Try.ntmps67
  go_wp2_with fail
  refine (most_any _ _ w).mono ?_
  rintro e w' ⟨rfl, rfl⟩
  rw [HM.out]
  go_wp2
  go_loopw [6, 7] (fun a b wr => ∃ x y : Nat, a = .int .i64 x ∧ b = .int .i64 y ∧ x ≤ 1000000000 ∧ y ≤ 1000000000 ∧ 0 < Nat.gcd x y ∧ Nat.gcd x y = Nat.gcd m n ∧ ∃ k, wr = w.drewN k) (fun _ b _ => (intOf b).toNat)
  case atStart => exact ⟨m, n, rfl, rfl, hm, hn, hg, rfl, 0, rfl⟩
  case round =>
    obtain ⟨x, y, rfl, rfl, hx, hy, hxy, hE, k, rfl⟩ := hrel
    have HE := Lib.hid hE; clear hE
    by_cases hy0 : y = 0
    · subst hy0
      have hx0 : 0 < x := by rwa [Nat.gcd_zero_right] at hxy
      have e1 : (m : Int).tdiv x = (m : Int) / x := Int.tdiv_eq_ediv_of_nonneg (by omega)
      have e2 : (n : Int).tdiv x = (n : Int) / x := Int.tdiv_eq_ediv_of_nonneg (by omega)
      have hz : ((x : Int) == 0) = false := by rw [beq_eq_false_iff_ne]; omega
      have l1 : (m : Int) / x ≤ m := Int.ediv_le_self _ (by omega)
      have l2 : (n : Int) / x ≤ n := Int.ediv_le_self _ (by omega)
      have l3 : 0 ≤ (m : Int) / x := Int.ediv_nonneg (by omega) (by omega)
      have l4 : 0 ≤ (n : Int) / x := Int.ediv_nonneg (by omega) (by omega)
      have w1 : IntKind.i64.wrap ((m : Int) / x) = (m : Int) / x := IntWalk.i64_in _ (by omega)
      have w2 : IntKind.i64.wrap ((n : Int) / x) = (n : Int) / x := IntWalk.i64_in _ (by omega)
      have HG := Lib.hid (show x = Nat.gcd m n by have := HE.out; rwa [Nat.gcd_zero_right] at this)
      clear HE hxy l1 l2 l3 l4
      go_wp2
      go_quiet (fail)
      go_wp2
      go_ret2
      exact rpost (by rw [← HG.out]; simp) ((Drawn.nn _ _ _).below _)
    · have hy1 : 0 < y := by omega
      have e1 : (x : Int).tmod y = (x : Int) % y := Int.tmod_eq_emod_of_nonneg (by omega)
      have hr : x % y < y := Nat.mod_lt _ hy1
      go_wp2
      exact ⟨⟨y, x % y, rfl, by rw [Int.natCast_emod], hy, by omega, by rw [gcd_step]; exact hxy, by rw [gcd_step]; exact HE.out, _, rfl⟩, by simp only [intOf]; omega⟩
set_option maxHeartbeats 400000 in
theorem reduce_impl (m n : Nat) (hm : m ≤ 1000000000) (hn0 : 0 < n) (hn : n ≤ 1000000000) (w : World) :
    Calls Try.prog 66 #[.int .i64 (m : Int), .int .i64 (n : Int)] w (RPost (.tuple #[.int .i64 ((m / Nat.gcd m n : Nat) : Int), .int .i64 ((n / Nat.gcd m n : Nat) : Int)]) w) := by
  have hg := Nat.gcd_pos_of_pos_right m hn0
  have y0 : IntKind.i64.wrap (-(m : Int)) = -(m : Int) := IntWalk.i64_in _ (by omega)
  have t1 : ¬ ((m : Int) < -(m : Int)) := by omega
  have t2 : -(m : Int) ≤ m := by omega
  go_enter Try.func66, Try.ntmps66
  go_wp2
  clear y0 t1 t2
  go_loopw [6, 7] (fun a b wr => ∃ x y : Nat, a = .int .i64 x ∧ b = .int .i64 y ∧ x ≤ 1000000000 ∧ y ≤ 1000000000 ∧ 0 < Nat.gcd x y ∧ Nat.gcd x y = Nat.gcd m n ∧ Drawn w wr) (fun _ b _ => (intOf b).toNat)
  case atStart => exact ⟨n, m, rfl, rfl, hn, hm, by rw [Nat.gcd_comm]; exact hg, Nat.gcd_comm _ _, Drawn.refl w⟩
  case round =>
    obtain ⟨x, y, rfl, rfl, hx, hy, hxy, hE, hD⟩ := hrel
    have HE := Lib.hid hE; clear hE
    by_cases hy0 : y = 0
    · subst hy0
      have hx0 : 0 < x := by rwa [Nat.gcd_zero_right] at hxy
      have e1 : (m : Int).tdiv x = (m : Int) / x := Int.tdiv_eq_ediv_of_nonneg (by omega)
      have e2 : (n : Int).tdiv x = (n : Int) / x := Int.tdiv_eq_ediv_of_nonneg (by omega)
      have hz : ((x : Int) == 0) = false := by rw [beq_eq_false_iff_ne]; omega
      have l1 : (m : Int) / x ≤ m := Int.ediv_le_self _ (by omega)
      have l2 : (n : Int) / x ≤ n := Int.ediv_le_self _ (by omega)
      have l3 : 0 ≤ (m : Int) / x := Int.ediv_nonneg (by omega) (by omega)
      have l4 : 0 ≤ (n : Int) / x := Int.ediv_nonneg (by omega) (by omega)
      have w1 : IntKind.i64.wrap ((m : Int) / x) = (m : Int) / x := IntWalk.i64_in _ (by omega)
      have w2 : IntKind.i64.wrap ((n : Int) / x) = (n : Int) / x := IntWalk.i64_in _ (by omega)
      have HG := Lib.hid (show x = Nat.gcd m n by have := HE.out; rwa [Nat.gcd_zero_right] at this)
      clear HE hxy l1 l2 l3 l4
      go_wp2
      go_quiet (fail)
      go_wp2
      go_ret2
      exact rpost (by rw [← HG.out]; simp) ((hD.more _).below _)
    · have hy1 : 0 < y := by omega
      have hz : ((y : Int) == 0) = false := by rw [beq_eq_false_iff_ne]; omega
      have e1 : (x : Int).tmod y = (x : Int) % y := Int.tmod_eq_emod_of_nonneg (by omega)
      have hr : x % y < y := Nat.mod_lt _ hy1
      have w1 : IntKind.i64.wrap ((x : Int) % y) = (x : Int) % y := IntWalk.i64_in _ (by have := Int.emod_nonneg (x : Int) (show (y : Int) ≠ 0 by omega); have := Int.emod_lt_of_pos (x : Int) (show (0 : Int) < y by omega); omega)
      go_wp2
      go_quiet (fail)
      go_wp2
      exact ⟨⟨y, x % y, rfl, by rw [Int.natCast_emod], hy, by omega, by rw [gcd_step]; exact hxy, by rw [gcd_step]; exact HE.out, hD.more _⟩, by simp only [intOf]; omega⟩
theorem red_spec (a b : Int) (ha : 0 ≤ a) (ha1 : a ≤ 1000000000) (hb : 1 ≤ b) (hb1 : b ≤ 1000000000) (w : World) :
    Calls Try.prog 67 #[.int .i64 a, .int .i64 b] w (RPost (.tuple #[.int .i64 (low a b), .int .i64 (low' a b)]) w) := by
  have h := reduce_spec a.toNat b.toNat (by omega) (by omega) (by omega) w
  rwa [Int.toNat_of_nonneg ha, Int.toNat_of_nonneg (by omega)] at h
theorem red_impl (a b : Int) (ha : 0 ≤ a) (ha1 : a ≤ 1000000000) (hb : 1 ≤ b) (hb1 : b ≤ 1000000000) (w : World) :
    Calls Try.prog 66 #[.int .i64 a, .int .i64 b] w (RPost (.tuple #[.int .i64 (low a b), .int .i64 (low' a b)]) w) := by
  have h := reduce_impl a.toNat b.toNat (by omega) (by omega) (by omega) w
  rwa [Int.toNat_of_nonneg ha, Int.toNat_of_nonneg (by omega)] at h
end Go.Proofs.Ytpokgnkcnibapaa.BatR
