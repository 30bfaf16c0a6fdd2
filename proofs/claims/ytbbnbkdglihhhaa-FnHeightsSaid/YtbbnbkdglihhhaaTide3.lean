/- HighestTide: the model's and the program's. -/
import Derived.Test.YtbbnbkdglihhhaaTide2
namespace Go.Proofs.Ytbbnbkdglihhhaa.Tide3
open Go.RowKit Go.Proofs.Ytbbnbkdglihhhaa.Mem Go.Proofs.Ytbbnbkdglihhhaa.Base Go.Proofs.Ytbbnbkdglihhhaa.SMark Go.Proofs.Ytbbnbkdglihhhaa.Regn Go.Proofs.Ytbbnbkdglihhhaa.Boxes Go.Proofs.Ytbbnbkdglihhhaa.Tide Go.Proofs.Ytbbnbkdglihhhaa.Tide2
set_option linter.unusedVariables false
set_option maxRecDepth 100000
/-- the first mark among the first k with the greatest height. -/
def best (l : List R) : Nat → Nat
  | 0 => 0
  | k + 1 => if (at_ l (best l k)).f1 < (at_ l k).f1 then k else best l k
theorem best_one (l : List R) : best l 1 = 0 := by simp [best]
theorem best_lt (l : List R) : ∀ k, 0 < k → best l k < k := by
  intro k
  induction k with
  | zero => intro h; omega
  | succ k ih =>
    intro _
    unfold best
    split
    · omega
    · rcases Nat.eq_zero_or_pos k with h | h
      · subst h; simp [best]
      · have := ih h; omega
theorem best_yes {l : List R} {k : Nat} (h : (at_ l (best l k)).f1 < (at_ l k).f1) : best l (k + 1) = k := by rw [best, if_pos h]
theorem best_no {l : List R} {k : Nat} (h : ¬ (at_ l (best l k)).f1 < (at_ l k).f1) : best l (k + 1) = best l k := by rw [best, if_neg h]
def highV (l : List R) : Value := if good l = true then .tuple #[.int .i64 (at_ l (best l l.length)).f0, .int .i64 (at_ l (best l l.length)).f1, .bool true] else .tuple #[.int .i64 0, .int .i64 0, .bool false]
theorem highV_no {l : List R} (h : good l = false) : highV l = .tuple #[.int .i64 0, .int .i64 0, .bool false] := by unfold highV; rw [h]; rfl
theorem highV_yes {l : List R} (h : good l = true) : highV l = .tuple #[.int .i64 (at_ l (best l l.length)).f0, .int .i64 (at_ l (best l l.length)).f1, .bool true] := by unfold highV; rw [if_pos h]
theorem highV_form (l : List R) : ∃ x y q, highV l = .tuple #[.int .i64 x, .int .i64 y, .bool q] := by unfold highV; split <;> exact ⟨_, _, _, rfl⟩
theorem tail2 {w : World} {b o n : Nat} {l : List R} (hc : ∀ j, j < n → w.cell? ⟨b, o + j * 2, none⟩ = some (.int .i64 (at_ l j).f0) ∧ w.cell? ⟨b, o + j * 2 + 1, none⟩ = some (.int .i64 (at_ l j).f1)) {k : Nat} (hk : k + 1 < n) :
    w.cell? ⟨b, o + 2 + k * 2, none⟩ = some (.int .i64 (at_ l (k + 1)).f0) ∧ w.cell? ⟨b, o + 2 + k * 2 + 1, none⟩ = some (.int .i64 (at_ l (k + 1)).f1) := by
  have := hc (k + 1) hk
  rwa [show o + (k + 1) * 2 = o + 2 + k * 2 by omega] at this
set_option maxHeartbeats 800000 in
theorem high_spec (P : Option Addr) (cap : Nat) (l : List R) (w : World) (hr : Rd w w.heap.size P (flat l)) (hn : l.length ≤ 1048576) :
    Calls Try.prog 52 #[.slice P l.length cap] w (RPost (highV l) w) := by
  have HR := Lib.hid hr; clear hr
  go_enter Try.func52, Try.ntmps52
  go_wp2_with fail
  refine (good_spec P cap l w HR.out hn).mono ?_
  rintro e w1 ⟨rfl, HB⟩
  cases hg : good l
  · have HV := Lib.hid (highV_no hg)
    go_wp2
    go_ret3
    exact rpost (by rw [HV.out] <;> rfl) HB
  have HG := Lib.hid hg; clear hg
  have hl2 := (good_true HG.out).1
  have HV := Lib.hid (highV_yes HG.out)
  go_wp2
  go_loopw [5, 6] (fun q i wr => ∃ k : Nat, 1 ≤ k ∧ k ≤ l.length ∧ i = .int .i64 k ∧ q = .int .i64 (best l k) ∧ Below w.heap.size w wr) (fun _ i _ => l.length - (intOf i).toNat)
  case atStart => exact ⟨1, Nat.le_refl _, by omega, rfl, by rw [best_one]; rfl, HB⟩
  case round =>
    clear HB
    obtain ⟨k, hk1, hk, rfl, rfl, HB⟩ := hrel
    have hb1 := best_lt l k hk1
    obtain ⟨n, hbn⟩ : ∃ n, best l k = n := ⟨_, rfl⟩
    have HN := Lib.hid hbn
    rw [hbn] at hb1 ⊢
    clear hbn
    have hnl : n < l.length := by omega
    obtain ⟨b, o, rfl, hb, hc⟩ := rd2 HR.out (k := n) hnl
    obtain ⟨y, hy⟩ : ∃ y, at_ l n = y := ⟨_, rfl⟩
    obtain ⟨k0, k1⟩ := hc n hnl
    rw [hy] at k0 k1
    by_cases hlt : k < l.length
    · obtain ⟨x, hx⟩ : ∃ x, at_ l k = x := ⟨_, rfl⟩
      obtain ⟨h0, h1⟩ := hc k hlt
      rw [hx] at h0 h1
      have g1 := ((bcell HB).1 _ _ hb).trans h1
      have j1 := ((bcell HB).1 _ _ hb).trans k1
      clear h0 h1 k0 k1 hc
      by_cases hgt : y.f1 < x.f1
      · have HB1 := Lib.hid (best_yes (l := l) (k := k) (by rw [HN.out, hy, hx]; exact hgt))
        clear hx hy
        go_wp2
        go_quiet (fail)
        go_wp2
        refine ⟨⟨k + 1, by omega, hlt, by go_num, by rw [HB1.out] <;> simp, Below.drewN' HB _⟩, by simp [intOf]; omega⟩
      · have HB1 := Lib.hid (best_no (l := l) (k := k) (by rw [HN.out, hy, hx]; exact hgt))
        clear hx hy
        go_wp2
        go_quiet (fail)
        go_wp2
        refine ⟨⟨k + 1, by omega, hlt, by go_num, by rw [HB1.out, HN.out] <;> simp, Below.drewN' HB _⟩, by simp [intOf]; omega⟩
    · obtain rfl : k = l.length := by omega
      have j0 := ((bcell HB).1 _ _ hb).trans k0
      have j1 := ((bcell HB).1 _ _ hb).trans k1
      rw [HN.out, hy] at HV
      clear k0 k1 hc hy
      go_wp2
      go_quiet (fail)
      go_wp2
      go_ret3
      exact rpost (by rw [HV.out] <;> rfl) (Below.drewN' HB _)
set_option maxHeartbeats 800000 in
theorem high_impl (P : Option Addr) (cap : Nat) (l : List R) (w : World) (hr : Rd w w.heap.size P (flat l)) (hcap : l.length ≤ cap) (hn : l.length ≤ 1048576) :
    Calls Try.prog 42 #[.slice P l.length cap] w (RPost (highV l) w) := by
  have HR := Lib.hid hr; clear hr
  go_enter Try.func42, Try.ntmps42
  go_wp2_with fail
  refine (tide_impl P cap l w HR.out hn).mono ?_
  rintro e w1 ⟨rfl, HB⟩
  cases hg : good l
  · have HV := Lib.hid (highV_no hg)
    go_wp2
    go_ret3
    exact rpost (by rw [HV.out] <;> rfl) HB
  have HG := Lib.hid hg; clear hg
  have hl2 := (good_true HG.out).1
  have HV := Lib.hid (highV_yes HG.out)
  obtain ⟨b, o, rfl, hb, hc⟩ := rd2 HR.out (k := 0) (by omega)
  have HC := Lib.hid hc; clear hc
  obtain ⟨h0, h1⟩ := HC.out 0 (by omega)
  obtain ⟨x, hx⟩ : ∃ x, at_ l 0 = x := ⟨_, rfl⟩
  rw [hx, Nat.zero_mul, Nat.add_zero] at h0 h1
  have HX := Lib.hid hx; clear hx
  have p1 : 0 < l.length := by omega
  have p2 : 1 ≤ l.length := by omega
  have p3 : 1 ≤ cap := by omega
  have p4 : (1 : Int) ≤ l.length := by omega
  have p5 : ¬ cap = 1 := by omega
  have h0_c := ((bcell HB).1 _ _ hb).trans h0
  have h1_c := ((bcell HB).1 _ _ hb).trans h1
  go_wp2_with fail
  have H := Box.new HB [.int .i64 x.f0, .int .i64 x.f1] 95 (g := w1.heap.size) rfl
  generalize (w1.alloc (.cells #[.int .i64 x.f0, .int .i64 x.f1] 95)) = W1 at H ⊢
  clear h0_c
  clear h1_c
  have H_0 := H.cells 0 _ rfl
  have H_1 := H.cells 1 _ rfl
  have H_f0 := H.free 0 (by simp)
  have H_f1 := H.free 1 (by simp)
  have H_t := H.there
  have h0_c := ((bcell H.below).1 _ _ hb).trans h0
  have h1_c := ((bcell H.below).1 _ _ hb).trans h1
  generalize w1.heap.size = g at *
  go_wp2
  go_loopw [17] (fun i wr => ∃ (k : Nat) (y : R), k + 1 ≤ l.length ∧ i = .int .i64 k ∧ Hid (at_ l (best l (k + 1)) = y) ∧ Box g [.int .i64 y.f0, .int .i64 y.f1] w wr) (fun i _ => l.length - 1 - (intOf i).toNat)
  case atStart => exact ⟨0, x, by omega, rfl, Lib.hid (by rw [best_one]; exact HX.out), H⟩
  case round =>
    clear H_0 H_1 H_f0 H_f1 H_t
    clear H
    obtain ⟨k, y, hk, rfl, HY, H⟩ := hrel
    have H_0 := H.cells 0 _ rfl
    have H_1 := H.cells 1 _ rfl
    have H_f0 := H.free 0 (by simp)
    have H_f1 := H.free 1 (by simp)
    have H_t := H.there
    by_cases hlt : k + 1 < l.length
    · obtain ⟨z, hz⟩ : ∃ z, at_ l (k + 1) = z := ⟨_, rfl⟩
      obtain ⟨m0, m1⟩ := tail2 HC.out hlt
      rw [hz] at m0 m1
      have g0 := ((bcell H.below).1 _ _ hb).trans m0
      have g1 := ((bcell H.below).1 _ _ hb).trans m1
      clear m0 m1
      have HZ := Lib.hid hz; clear hz
      have q1 : k < l.length - 1 := by omega
      by_cases hgt : y.f1 < z.f1
      · have HN := Lib.hid (show at_ l (best l (k + 1 + 1)) = z by rw [best_yes (by rw [HY.out, HZ.out]; exact hgt)]; exact HZ.out)
        go_wp2
        go_roundw
        case rel => exact ⟨k + 1, z, by omega, by go_num, HN, ((H.set 0 (.int .i64 z.f0)).set 1 (.int .i64 z.f1)).alloc _⟩
        case measure => simp [intOf]; omega
      · have HN := Lib.hid (show at_ l (best l (k + 1 + 1)) = y by rw [best_no (by rw [HY.out, HZ.out]; exact hgt)]; exact HY.out)
        go_wp2
        go_roundw
        case rel => exact ⟨k + 1, y, by omega, by go_num, HN, H.alloc _⟩
        case measure => simp [intOf]; omega
    · have hk1 : k + 1 = l.length := by omega
      have q1 : ¬ (k : Int) < (l.length : Int) - 1 := by omega
      have HY1 := Lib.hid (show at_ l (best l l.length) = y by rw [← hk1]; exact HY.out)
      rw [HY1.out] at HV
      clear hk1
      go_wp2
      refine wp_region_text (fun w' => Box (g) [.int .i64 y.f0, .int .i64 y.f1] w w') (by kernel_rfl) (by kernel_rfl) (H.drew) ?_
      clear H_0 H_1 H_f0 H_f1 H_t
      clear h0_c
      clear h1_c
      iterate 7 (
        apply SeqH.one
        · intro uw K hS hK
          have qH := hS
          have qH_0 := qH.cells 0 _ rfl
          have qH_1 := qH.cells 1 _ rfl
          have qh0_c := ((bcell qH.below).1 _ _ hb).trans h0
          have qh1_c := ((bcell qH.below).1 _ _ hb).trans h1
          first
            | (go_simp; exact hK.out _ qH)
        try simp only [Act.put, List.setIfInBounds_toArray, List.set_cons_zero, List.set_cons_succ])
      refine SeqH.end' rfl ?_
      intro v2 hS
      clear H
      have H := hS; clear hS
      have H_0 := H.cells 0 _ rfl
      have H_1 := H.cells 1 _ rfl
      have H_f0 := H.free 0 (by simp)
      have H_f1 := H.free 1 (by simp)
      have H_t := H.there
      have h0_c := ((bcell H.below).1 _ _ hb).trans h0
      have h1_c := ((bcell H.below).1 _ _ hb).trans h1
      go_wp2
      go_ret3
      exact rpost (by rw [HV.out] <;> rfl) H.below
end Go.Proofs.Ytbbnbkdglihhhaa.Tide3
