/- BankOf, OuterBank, FreeCells: the model's and the program's. -/
import Derived.Test.YtncdkfkihfhcgaaPond6
namespace Go.Proofs.Ytncdkfkihfhcgaa.Pond7
open Go.RowKit Go.Proofs.Ytncdkfkihfhcgaa.Mem Go.Proofs.Ytncdkfkihfhcgaa.Base Go.Proofs.Ytncdkfkihfhcgaa.Within Go.Proofs.Ytncdkfkihfhcgaa.SPond Go.Proofs.Ytncdkfkihfhcgaa.Regn Go.Proofs.Ytncdkfkihfhcgaa.Boxes Go.Proofs.Ytncdkfkihfhcgaa.Pond Go.Proofs.Ytncdkfkihfhcgaa.Pond2 Go.Proofs.Ytncdkfkihfhcgaa.Pond3 Go.Proofs.Ytncdkfkihfhcgaa.Pond4 Go.Proofs.Ytncdkfkihfhcgaa.IPond Go.Proofs.Ytncdkfkihfhcgaa.IPond2 Go.Proofs.Ytncdkfkihfhcgaa.Pond6
set_option linter.unusedVariables false
set_option maxRecDepth 100000
/-- both are there and are two. -/
def Two (l : List R) (a b : Int) : Prop := 0 ≤ find l a ∧ 0 ≤ find l b ∧ a ≠ b
instance (l : List R) (a b : Int) : Decidable (Two l a b) := inferInstanceAs (Decidable (_ ∧ _ ∧ _))
theorem two_ne {l : List R} {a b : Int} {i j : Nat} (ha : find l a = i) (hb : find l b = j) : i = j ↔ a = b := by
  constructor
  · rintro rfl
    obtain ⟨k, hk, hlt, h1, _⟩ := find_ok (l := l) (id := a) (by omega)
    obtain ⟨m, hm, hlm, h2, _⟩ := find_ok (l := l) (id := b) (by omega)
    have e1 : k = i := by omega
    have e2 : m = i := by omega
    subst e1; subst e2
    rw [← h1, ← h2]
  · rintro rfl; omega
def twoV (l : List R) (a b : Int) : Value := if Two l a b then .tuple #[.int .i64 (find l a), .int .i64 (find l b), .bool true] else .tuple #[.int .i64 0, .int .i64 0, .bool false]
theorem twoV_no {l : List R} {a b : Int} (h : ¬ Two l a b) : twoV l a b = .tuple #[.int .i64 0, .int .i64 0, .bool false] := by unfold twoV; rw [if_neg h]
theorem twoV_yes {l : List R} {a b : Int} {i j : Nat} (h : Two l a b) (hi : find l a = i) (hj : find l b = j) : twoV l a b = .tuple #[.int .i64 i, .int .i64 j, .bool true] := by unfold twoV; rw [if_pos h, hi, hj]
def bankV (l : List R) (a b : Int) : Value := if Two l a b then .tuple #[.int .i64 (bank (at_ l (find l a)) (at_ l (find l b))), .bool true] else .tuple #[.int .i64 0, .bool false]
theorem bankV_no {l : List R} {a b : Int} (h : ¬ Two l a b) : bankV l a b = .tuple #[.int .i64 0, .bool false] := by unfold bankV; rw [if_neg h]
theorem bankV_yes {l : List R} {a b : Int} {i j : Nat} {x y : R} (h : Two l a b) (hi : find l a = i) (hj : find l b = j) (hil : i < l.length) (hjl : j < l.length) (hx : l[i] = x) (hy : l[j] = y) : bankV l a b = .tuple #[.int .i64 (bank x y), .bool true] := by
  unfold bankV at_; rw [if_pos h, hi, hj, Int.toNat_natCast, Int.toNat_natCast, getD_at hil, getD_at hjl, hx, hy]
set_option maxHeartbeats 1000000 in
theorem two_impl (P : Option Addr) (cap : Nat) (l : List R) (a b : Int) (w : World) (hr : Rd w w.heap.size P (flat l)) (hcap : l.length ≤ cap) (hn : l.length ≤ 1048576) :
    Calls Try.prog 35 #[.slice P l.length cap, .int .i64 a, .int .i64 b] w (RPost (twoV l a b) w) := by
  have HR := Lib.hid hr; clear hr
  go_enter Try.func35, Try.ntmps35
  go_wp2_with fail
  refine (find_impl P cap l a w HR.out hcap hn).mono ?_
  rintro e w1 ⟨rfl, HB⟩
  have HR1 := Lib.hid (rd_keep HR.out HB)
  by_cases h0 : 0 ≤ find l a
  · obtain ⟨i, hi, hil, hia, _⟩ := find_ok h0
    rw [findV_yes hi]
    go_wp2_with fail
    refine (find_impl P cap l b w1 HR1.out hcap hn).mono ?_
    rintro e w2 ⟨rfl, HB2⟩
    replace HB := be HB HB2; clear HB2
    by_cases h1 : 0 ≤ find l b
    · obtain ⟨j, hj, hjl, hjb, _⟩ := find_ok h1
      rw [findV_yes hj]
      by_cases he : a = b
      · have hq : (a == b) = true := by simp [he]
        have HV := Lib.hid (twoV_no (l := l) (a := a) (b := b) (fun h => h.2.2 he))
        clear he hi hj hia hjb
        go_wp2
        go_ret3
        exact rpost (by rw [HV.out] <;> rfl) HB
      · have hq : (a == b) = false := by simp [he]
        have HV := Lib.hid (twoV_yes ⟨h0, h1, he⟩ hi hj)
        clear he hi hj hia hjb
        go_wp2
        go_ret3
        exact rpost (by rw [HV.out] <;> rfl) HB
    · rw [findV_no (find_neg h1)]
      have HV := Lib.hid (twoV_no (l := l) (a := a) (b := b) (fun h => h1 h.2.1))
      clear h1 hi hia
      go_wp2
      go_ret3
      exact rpost (by rw [HV.out] <;> rfl) HB
  · rw [findV_no (find_neg h0)]
    have HV := Lib.hid (twoV_no (l := l) (a := a) (b := b) (fun h => h0 h.1))
    clear h0
    go_wp2_with fail
    refine (find_impl P cap l b w1 HR1.out hcap hn).mono ?_
    rintro e w2 ⟨rfl, HB2⟩
    replace HB := be HB HB2; clear HB2
    obtain ⟨u, v, hv⟩ : ∃ u v, findV l b = .tuple #[.int .i64 u, .bool v] := by unfold findV; split <;> exact ⟨_, _, rfl⟩
    rw [hv]; clear hv
    go_wp2
    go_ret3
    exact rpost (by rw [HV.out] <;> rfl) HB
set_option maxHeartbeats 1000000 in
theorem bankof_impl (P : Option Addr) (cap : Nat) (l : List R) (a b : Int) (w : World) (hr : Rd w w.heap.size P (flat l)) (hcap : l.length ≤ cap) (hn : l.length ≤ 1048576) :
    Calls Try.prog 10 #[.slice P l.length cap, .int .i64 a, .int .i64 b] w (RPost (bankV l a b) w) := by
  have HR := Lib.hid hr; clear hr
  go_enter Try.func10, Try.ntmps10
  go_wp2_with fail
  refine (two_impl P cap l a b w HR.out hcap hn).mono ?_
  rintro e w1 ⟨rfl, HB⟩
  by_cases h : Two l a b
  · obtain ⟨i, hi, hil, _, hg⟩ := find_ok h.1
    obtain ⟨j, hj, hjl, _, _⟩ := find_ok h.2.1
    rw [twoV_yes h hi hj]
    obtain ⟨x, hx⟩ : ∃ x, l[i] = x := ⟨_, rfl⟩
    obtain ⟨y, hy⟩ : ∃ y, l[j] = y := ⟨_, rfl⟩
    have HV := Lib.hid (bankV_yes h hi hj hil hjl hx hy)
    have hox := (good_all hg).2 i hil; rw [hx] at hox
    have hoy := (good_all hg).2 j hjl; rw [hy] at hoy
    have HC := Lib.hid (fun u => between_any x y hox hoy u)
    obtain ⟨o1, o, rfl, hb, hc⟩ := HR.out.at (k := i * 6) (by rw [flat_n]; omega)
    obtain ⟨x0, x1, x2, x3, x4, x5⟩ := cells6 (Below.refl _ w) hb hc hil hx
    obtain ⟨y0, y1, y2, y3, y4, y5⟩ := cells6 (Below.refl _ w) hb hc hjl hy
    clear hx hy hox hoy hc h hi hj hg
    have x0_c := ((bcell HB).1 _ _ hb).trans x0
    have x1_c := ((bcell HB).1 _ _ hb).trans x1
    have x2_c := ((bcell HB).1 _ _ hb).trans x2
    have x3_c := ((bcell HB).1 _ _ hb).trans x3
    have x4_c := ((bcell HB).1 _ _ hb).trans x4
    have x5_c := ((bcell HB).1 _ _ hb).trans x5
    have y0_c := ((bcell HB).1 _ _ hb).trans y0
    have y1_c := ((bcell HB).1 _ _ hb).trans y1
    have y2_c := ((bcell HB).1 _ _ hb).trans y2
    have y3_c := ((bcell HB).1 _ _ hb).trans y3
    have y4_c := ((bcell HB).1 _ _ hb).trans y4
    have y5_c := ((bcell HB).1 _ _ hb).trans y5
    go_wp2_with fail
    refine wp_region_last 9 (fun w' => Below w.heap.size w w') (by kernel_rfl) (by kernel_rfl) (by kernel_rfl) (be HB (Below.refl _ _).drew) ?_
    clear x0_c
    clear x1_c
    clear x2_c
    clear x3_c
    clear x4_c
    clear x5_c
    clear y0_c
    clear y1_c
    clear y2_c
    clear y3_c
    clear y4_c
    clear y5_c
    simp only [List.take_succ_cons, List.take_zero]
    iterate 9 (
      apply SeqH.one
      · intro uw K hS hK
        have qHB := hS
        have qx0_c := ((bcell qHB).1 _ _ hb).trans x0
        have qx1_c := ((bcell qHB).1 _ _ hb).trans x1
        have qx2_c := ((bcell qHB).1 _ _ hb).trans x2
        have qx3_c := ((bcell qHB).1 _ _ hb).trans x3
        have qx4_c := ((bcell qHB).1 _ _ hb).trans x4
        have qx5_c := ((bcell qHB).1 _ _ hb).trans x5
        have qy0_c := ((bcell qHB).1 _ _ hb).trans y0
        have qy1_c := ((bcell qHB).1 _ _ hb).trans y1
        have qy2_c := ((bcell qHB).1 _ _ hb).trans y2
        have qy3_c := ((bcell qHB).1 _ _ hb).trans y3
        have qy4_c := ((bcell qHB).1 _ _ hb).trans y4
        have qy5_c := ((bcell qHB).1 _ _ hb).trans y5
        first
          | (go_simp; exact hK.out _ qHB)
          | (go_simp; go_at_call 36; (with_reducible refine (HC.out _).mono ?_); rintro e uw1 ⟨rfl, hv⟩; go_wp2_with fail; exact hK.out _ (be qHB hv))
      try simp only [Act.put, List.setIfInBounds_toArray, List.set_cons_zero, List.set_cons_succ])
    refine SeqH.rest rfl ?_
    intro v1 hS
    clear HB
    have HB := hS; clear hS
    simp only [List.drop_succ_cons, List.drop_zero]
    have x0_c := ((bcell HB).1 _ _ hb).trans x0
    have x1_c := ((bcell HB).1 _ _ hb).trans x1
    have x2_c := ((bcell HB).1 _ _ hb).trans x2
    have x3_c := ((bcell HB).1 _ _ hb).trans x3
    have x4_c := ((bcell HB).1 _ _ hb).trans x4
    have x5_c := ((bcell HB).1 _ _ hb).trans x5
    have y0_c := ((bcell HB).1 _ _ hb).trans y0
    have y1_c := ((bcell HB).1 _ _ hb).trans y1
    have y2_c := ((bcell HB).1 _ _ hb).trans y2
    have y3_c := ((bcell HB).1 _ _ hb).trans y3
    have y4_c := ((bcell HB).1 _ _ hb).trans y4
    have y5_c := ((bcell HB).1 _ _ hb).trans y5
    go_wp2
    go_ret2
    exact rpost (by rw [HV.out] <;> rfl) HB
  · have HV := Lib.hid (bankV_no h)
    rw [twoV_no h]
    clear h
    go_wp2
    go_ret2
    exact rpost (by rw [HV.out] <;> rfl) HB
end Go.Proofs.Ytncdkfkihfhcgaa.Pond7
