/- Fractions in lowest terms, of a height below zero too: the model's and the program's. -/
import Derived.Test.YtbbnbkdglihhhaaTide2
namespace Go.Proofs.Ytbbnbkdglihhhaa.Red
open Go.RowKit Go.Proofs.Ytbbnbkdglihhhaa.Mem Go.Proofs.Ytbbnbkdglihhhaa.Base Go.Proofs.Ytbbnbkdglihhhaa.SMark Go.Proofs.Ytbbnbkdglihhhaa.Tide
set_option linter.unusedVariables false
set_option maxRecDepth 100000
theorem gcd_step (x y : Nat) : Nat.gcd y (x % y) = Nat.gcd x y := by rw [Nat.gcd_comm y (x % y), ← Nat.gcd_rec y x, Nat.gcd_comm]
theorem tdiv_bd (n : Int) (x : Nat) : -(n.natAbs : Int) ≤ n.tdiv x ∧ n.tdiv x ≤ n.natAbs := by
  have h1 : (n.tdiv x).natAbs = n.natAbs / x := by rw [Int.natAbs_tdiv]; simp; rfl
  have h2 := Nat.div_le_self n.natAbs x
  omega
theorem low_is {n : Int} {e x : Nat} (h : x = Nat.gcd n.natAbs e) : low n (e : Int) = n.tdiv x ∧ low' n (e : Int) = (e : Int) / x := by
  unfold low low' gcd
  rw [Int.toNat_natCast, h]
  exact ⟨rfl, Int.tdiv_eq_ediv_of_nonneg (by omega)⟩
set_option maxHeartbeats 800000 in
theorem red_spec (n d : Int) (hn : -10000000 ≤ n) (hn' : n ≤ 10000000) (hd : 0 < d) (hd' : d ≤ 10000000) (w : World) :
    Calls Try.prog 79 #[.int .i64 n, .int .i64 d] w (RPost (.tuple #[.int .i64 (low n d), .int .i64 (low' n d)]) w) := by
  have y0 : IntKind.i64.wrap (-n) = -n := IntWalk.i64_in _ (by omega)
  obtain ⟨e, rfl⟩ : ∃ e : Nat, d = e := ⟨d.toNat, by omega⟩
  have hg := Nat.gcd_pos_of_pos_right n.natAbs (show 0 < e by omega)
  have HW : ∀ x : Nat, Hid (IntKind.i64.wrap (n.tdiv x) = n.tdiv x ∧ IntKind.i64.wrap ((e : Int) / x) = (e : Int) / x) := fun x => Lib.hid ⟨IntWalk.i64_in _ (by have := tdiv_bd n x; omega), IntWalk.i64_in _ (by have l2 : (e : Int) / x ≤ e := Int.ediv_le_self _ (by omega); have l4 : 0 ≤ (e : Int) / x := Int.ediv_nonneg (by omega) (by omega); omega)⟩
  have he : e ≤ 10000000 := by omega
  have HNN := Lib.hid (And.intro hn (And.intro hn' hd)); clear hn hn' hd hd'
  go_enter Try.func79, Try.ntmps79
  have HM := Lib.hid (show most n (-n) = (n.natAbs : Int) by unfold most; split <;> omega)
  have hab : n.natAbs ≤ 10000000 := by have := HNN.out; omega
  go_wp2_with fail
  refine (most_any _ _ w).mono ?_
  rintro _ w' ⟨rfl, rfl⟩
  rw [HM.out]
  go_wp2
  go_loopw [6, 7] (fun a b wr => ∃ x y : Nat, a = .int .i64 x ∧ b = .int .i64 y ∧ x ≤ 10000000 ∧ y ≤ 10000000 ∧ 0 < Nat.gcd x y ∧ Nat.gcd x y = Nat.gcd n.natAbs e ∧ Drawn w wr) (fun _ b _ => (intOf b).toNat)
  case atStart => exact ⟨n.natAbs, e, rfl, rfl, hab, he, hg, rfl, Drawn.refl w⟩
  case round =>
    obtain ⟨x, y, rfl, rfl, hx, hy, hxy, hE, hD⟩ := hrel
    have HE := Lib.hid hE; clear hE
    by_cases hy0 : y = 0
    · subst hy0
      have hx0 : 0 < x := by rwa [Nat.gcd_zero_right] at hxy
      have hz : ((x : Int) == 0) = false := by rw [beq_eq_false_iff_ne]; omega
      obtain ⟨w1, w2⟩ := (HW x).out
      have HL := Lib.hid (low_is (n := n) (show x = Nat.gcd n.natAbs e by have := HE.out; rwa [Nat.gcd_zero_right] at this))
      clear HE hxy
      go_wp2
      go_quiet (fail)
      go_wp2
      go_ret2
      exact rpost (by rw [HL.out.1, HL.out.2] <;> rfl) ((hD.more _).below _)
    · have hy1 : 0 < y := by omega
      have hz : ((y : Int) == 0) = false := by rw [beq_eq_false_iff_ne]; omega
      have e1 : (x : Int).tmod y = (x : Int) % y := Int.tmod_eq_emod_of_nonneg (by omega)
      have hr : x % y < y := Nat.mod_lt _ hy1
      have w1 : IntKind.i64.wrap ((x : Int) % y) = (x : Int) % y := IntWalk.i64_in _ (by have := Int.emod_nonneg (x : Int) (show (y : Int) ≠ 0 by omega); have := Int.emod_lt_of_pos (x : Int) (show (0 : Int) < y by omega); omega)
      go_wp2
      exact ⟨⟨y, x % y, rfl, by rw [Int.natCast_emod], hy, by omega, by rw [gcd_step]; exact hxy, by rw [gcd_step]; exact HE.out, hD⟩, by simp only [intOf]; omega⟩
set_option maxHeartbeats 800000 in
theorem red_impl (n d : Int) (hn : -10000000 ≤ n) (hn' : n ≤ 10000000) (hd : 0 < d) (hd' : d ≤ 10000000) (w : World) :
    Calls Try.prog 73 #[.int .i64 n, .int .i64 d] w (RPost (.tuple #[.int .i64 (low n d), .int .i64 (low' n d)]) w) := by
  have y0 : IntKind.i64.wrap (-n) = -n := IntWalk.i64_in _ (by omega)
  obtain ⟨e, rfl⟩ : ∃ e : Nat, d = e := ⟨d.toNat, by omega⟩
  have hg := Nat.gcd_pos_of_pos_right n.natAbs (show 0 < e by omega)
  have HW : ∀ x : Nat, Hid (IntKind.i64.wrap (n.tdiv x) = n.tdiv x ∧ IntKind.i64.wrap ((e : Int) / x) = (e : Int) / x) := fun x => Lib.hid ⟨IntWalk.i64_in _ (by have := tdiv_bd n x; omega), IntWalk.i64_in _ (by have l2 : (e : Int) / x ≤ e := Int.ediv_le_self _ (by omega); have l4 : 0 ≤ (e : Int) / x := Int.ediv_nonneg (by omega) (by omega); omega)⟩
  have he : e ≤ 10000000 := by omega
  have HNN := Lib.hid (And.intro hn (And.intro hn' hd)); clear hn hn' hd hd'
  have hab : n.natAbs ≤ 10000000 := by have := HNN.out; omega
  rcases Int.lt_trichotomy n 0 with t | t | t
  · have t1 : n < -n := by omega
    have t2 : n ≤ -n := by omega
    have t3 : ¬ -n < n := by omega
    have t4 : ¬ -n ≤ n := by omega
    go_enter Try.func73, Try.ntmps73
    go_wp2
    have HA := Lib.hid (show ((n.natAbs : Nat) : Int) = -n by omega); clear t t1 t2 t3 t4
    go_loopw [6, 7] (fun a b wr => ∃ x y : Nat, a = .int .i64 x ∧ b = .int .i64 y ∧ x ≤ 10000000 ∧ y ≤ 10000000 ∧ 0 < Nat.gcd x y ∧ Nat.gcd x y = Nat.gcd n.natAbs e ∧ Drawn w wr) (fun _ b _ => (intOf b).toNat)
    case atStart => exact ⟨e, n.natAbs, rfl, by rw [HA.out], he, hab, by rw [Nat.gcd_comm]; exact hg, Nat.gcd_comm _ _, Drawn.refl w⟩
    case round =>
      obtain ⟨x, y, rfl, rfl, hx, hy, hxy, hE, hD⟩ := hrel
      have HE := Lib.hid hE; clear hE
      by_cases hy0 : y = 0
      · subst hy0
        have hx0 : 0 < x := by rwa [Nat.gcd_zero_right] at hxy
        have hz : ((x : Int) == 0) = false := by rw [beq_eq_false_iff_ne]; omega
        obtain ⟨w1, w2⟩ := (HW x).out
        have HL := Lib.hid (low_is (n := n) (show x = Nat.gcd n.natAbs e by have := HE.out; rwa [Nat.gcd_zero_right] at this))
        clear HE hxy
        go_wp2
        go_quiet (fail)
        go_wp2
        go_ret2
        exact rpost (by rw [HL.out.1, HL.out.2] <;> rfl) ((hD.more _).below _)
      · have hy1 : 0 < y := by omega
        have hz : ((y : Int) == 0) = false := by rw [beq_eq_false_iff_ne]; omega
        have e1 : (x : Int).tmod y = (x : Int) % y := Int.tmod_eq_emod_of_nonneg (by omega)
        have hr : x % y < y := Nat.mod_lt _ hy1
        have w1 : IntKind.i64.wrap ((x : Int) % y) = (x : Int) % y := IntWalk.i64_in _ (by have := Int.emod_nonneg (x : Int) (show (y : Int) ≠ 0 by omega); have := Int.emod_lt_of_pos (x : Int) (show (0 : Int) < y by omega); omega)
        go_wp2
        go_quiet (fail)
        go_wp2
        exact ⟨⟨y, x % y, rfl, by rw [Int.natCast_emod], hy, by omega, by rw [gcd_step]; exact hxy, by rw [gcd_step]; exact HE.out, hD.more _⟩, by simp only [intOf]; omega⟩
  · subst t
    go_enter Try.func73, Try.ntmps73
    go_wp2
    
    go_loopw [6, 7] (fun a b wr => ∃ x y : Nat, a = .int .i64 x ∧ b = .int .i64 y ∧ x ≤ 10000000 ∧ y ≤ 10000000 ∧ 0 < Nat.gcd x y ∧ Nat.gcd x y = Nat.gcd (0 : Int).natAbs e ∧ Drawn w wr) (fun _ b _ => (intOf b).toNat)
    case atStart => exact ⟨e, 0, rfl, rfl, he, hab, by rw [Nat.gcd_comm]; exact hg, Nat.gcd_comm _ _, Drawn.refl w⟩
    case round =>
      obtain ⟨x, y, rfl, rfl, hx, hy, hxy, hE, hD⟩ := hrel
      have HE := Lib.hid hE; clear hE
      by_cases hy0 : y = 0
      · subst hy0
        have hx0 : 0 < x := by rwa [Nat.gcd_zero_right] at hxy
        have hz : ((x : Int) == 0) = false := by rw [beq_eq_false_iff_ne]; omega
        obtain ⟨w1, w2⟩ := (HW x).out
        have HL := Lib.hid (low_is (n := 0) (show x = Nat.gcd (0 : Int).natAbs e by have := HE.out; rwa [Nat.gcd_zero_right] at this))
        clear HE hxy
        go_wp2
        go_quiet (fail)
        go_wp2
        go_ret2
        exact rpost (by rw [HL.out.1, HL.out.2, Int.zero_tdiv] <;> rfl) ((hD.more _).below _)
      · have hy1 : 0 < y := by omega
        have hz : ((y : Int) == 0) = false := by rw [beq_eq_false_iff_ne]; omega
        have e1 : (x : Int).tmod y = (x : Int) % y := Int.tmod_eq_emod_of_nonneg (by omega)
        have hr : x % y < y := Nat.mod_lt _ hy1
        have w1 : IntKind.i64.wrap ((x : Int) % y) = (x : Int) % y := IntWalk.i64_in _ (by have := Int.emod_nonneg (x : Int) (show (y : Int) ≠ 0 by omega); have := Int.emod_lt_of_pos (x : Int) (show (0 : Int) < y by omega); omega)
        go_wp2
        go_quiet (fail)
        go_wp2
        exact ⟨⟨y, x % y, rfl, by rw [Int.natCast_emod], hy, by omega, by rw [gcd_step]; exact hxy, by rw [gcd_step]; exact HE.out, hD.more _⟩, by simp only [intOf]; omega⟩
  · have t1 : -n < n := by omega
    have t2 : -n ≤ n := by omega
    have t3 : ¬ n < -n := by omega
    have t4 : ¬ n ≤ -n := by omega
    go_enter Try.func73, Try.ntmps73
    go_wp2
    have HA := Lib.hid (show ((n.natAbs : Nat) : Int) = n by omega); clear t t1 t2 t3 t4
    go_loopw [6, 7] (fun a b wr => ∃ x y : Nat, a = .int .i64 x ∧ b = .int .i64 y ∧ x ≤ 10000000 ∧ y ≤ 10000000 ∧ 0 < Nat.gcd x y ∧ Nat.gcd x y = Nat.gcd n.natAbs e ∧ Drawn w wr) (fun _ b _ => (intOf b).toNat)
    case atStart => exact ⟨e, n.natAbs, rfl, by rw [HA.out], he, hab, by rw [Nat.gcd_comm]; exact hg, Nat.gcd_comm _ _, Drawn.refl w⟩
    case round =>
      obtain ⟨x, y, rfl, rfl, hx, hy, hxy, hE, hD⟩ := hrel
      have HE := Lib.hid hE; clear hE
      by_cases hy0 : y = 0
      · subst hy0
        have hx0 : 0 < x := by rwa [Nat.gcd_zero_right] at hxy
        have hz : ((x : Int) == 0) = false := by rw [beq_eq_false_iff_ne]; omega
        obtain ⟨w1, w2⟩ := (HW x).out
        have HL := Lib.hid (low_is (n := n) (show x = Nat.gcd n.natAbs e by have := HE.out; rwa [Nat.gcd_zero_right] at this))
        clear HE hxy
        go_wp2
        go_quiet (fail)
        go_wp2
        go_ret2
        exact rpost (by rw [HL.out.1, HL.out.2] <;> rfl) ((hD.more _).below _)
      · have hy1 : 0 < y := by omega
        have hz : ((y : Int) == 0) = false := by rw [beq_eq_false_iff_ne]; omega
        have e1 : (x : Int).tmod y = (x : Int) % y := Int.tmod_eq_emod_of_nonneg (by omega)
        have hr : x % y < y := Nat.mod_lt _ hy1
        have w1 : IntKind.i64.wrap ((x : Int) % y) = (x : Int) % y := IntWalk.i64_in _ (by have := Int.emod_nonneg (x : Int) (show (y : Int) ≠ 0 by omega); have := Int.emod_lt_of_pos (x : Int) (show (0 : Int) < y by omega); omega)
        go_wp2
        go_quiet (fail)
        go_wp2
        exact ⟨⟨y, x % y, rfl, by rw [Int.natCast_emod], hy, by omega, by rw [gcd_step]; exact hxy, by rw [gcd_step]; exact HE.out, hD.more _⟩, by simp only [intOf]; omega⟩
end Go.Proofs.Ytbbnbkdglihhhaa.Red
