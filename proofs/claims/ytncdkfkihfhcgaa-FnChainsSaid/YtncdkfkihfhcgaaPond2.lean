/- Lists of ponds: the model's l3Good. -/
import Derived.Test.YtncdkfkihfhcgaaPond
namespace Go.Proofs.Ytncdkfkihfhcgaa.Pond2
open Go.RowKit Go.Proofs.Ytncdkfkihfhcgaa.Mem Go.Proofs.Ytncdkfkihfhcgaa.Base Go.Proofs.Ytncdkfkihfhcgaa.SPond Go.Proofs.Ytncdkfkihfhcgaa.Regn Go.Proofs.Ytncdkfkihfhcgaa.Boxes Go.Proofs.Ytncdkfkihfhcgaa.Pond
set_option linter.unusedVariables false
set_option maxRecDepth 100000
/-- two ponds have a cell in common. -/
def clash (x y : R) : Bool := decide (0 < common x.f1 x.f3 y.f1 y.f3) && decide (0 < common x.f2 x.f4 y.f2 y.f4)
def free (l : List R) (k m : Nat) : Bool := (List.range m).all fun q => !clash (l.getD q zero) (l.getD k zero)
def okAt (l : List R) (k : Nat) : Bool := okP (l.getD k zero) && (k == 0 || decide ((l.getD (k - 1) zero).f0 < (l.getD k zero).f0)) && free l k k
def good (l : List R) : Bool := (List.range (min l.length 11)).all (okAt l) && decide (l.length ≤ 10)
def Ok (l : List R) (k : Nat) : Prop := ∀ j, j < k → okAt l j = true
theorem good_no {l : List R} {k : Nat} (hk : k < l.length) (h10 : k ≤ 10) (h : okAt l k = false) : good l = false := by
  unfold good
  rw [Bool.and_eq_false_iff]; left
  rw [List.all_eq_false]
  exact ⟨k, List.mem_range.2 (by omega), by simp [h]⟩
theorem good_end {l : List R} {k : Nat} (h : Ok l k) (hk : l.length ≤ k ∨ 11 ≤ k) : good l = decide (l.length ≤ 10) := by
  unfold good
  rw [List.all_eq_true.2 (fun j hj => h j (by have := List.mem_range.1 hj; omega)), Bool.true_and]
theorem Ok.next {l : List R} {k : Nat} (h : Ok l k) (hk : okAt l k = true) : Ok l (k + 1) := fun j hj => by
  rcases Nat.lt_or_ge j k with h1 | h1
  · exact h j h1
  · have : j = k := by omega
    subst this; exact hk
theorem getD_at {l : List R} {k : Nat} (h : k < l.length) : l.getD k zero = l[k] := by simp [List.getD, h]
theorem free_next {l : List R} {k m : Nat} (h : free l k m = true) (hm : m < l.length) (hk : k < l.length) (hc : clash l[m] l[k] = false) : free l k (m + 1) = true := by
  unfold free at *
  rw [List.range_succ, List.all_append, h]
  rw [← getD_at hm, ← getD_at hk] at hc
  simp only [List.all_cons, List.all_nil, hc]; rfl
theorem free_no {l : List R} {k m n : Nat} (hmn : m < n) (hm : m < l.length) (hk : k < l.length) (hc : clash l[m] l[k] = true) : free l k n = false := by
  unfold free
  rw [List.all_eq_false]
  rw [← getD_at hm, ← getD_at hk] at hc
  exact ⟨m, List.mem_range.2 hmn, by rw [hc]; simp⟩
theorem at_of {l : List R} {k : Nat} {x : R} {f : Bool} (hk : k < l.length) (hx : l[k] = x) (h1 : okP x = true) (h2 : k = 0 ∨ ∃ (h : k - 1 < l.length), l[k - 1].f0 < x.f0) (h3 : free l k k = f) : okAt l k = f := by
  unfold okAt
  rw [getD_at hk, hx, h1, h3]
  rcases h2 with h2 | ⟨h4, h5⟩
  · simp [h2]
  · rw [getD_at h4, decide_eq_true h5]; simp
theorem at_bad {l : List R} {k : Nat} {x : R} (hk : k < l.length) (hx : l[k] = x) (h : okP x = false) : okAt l k = false := by
  unfold okAt; rw [getD_at hk, hx, h]; rfl
theorem at_low {l : List R} {k : Nat} {x : R} (hk : k + 1 < l.length) (hx : l[k + 1] = x) (h1 : okP x = true) (h : ¬ l[k].f0 < x.f0) : okAt l (k + 1) = false := by
  unfold okAt; rw [getD_at hk, hx, h1]
  have e : l.getD (k + 1 - 1) zero = l[k] := getD_at (by omega)
  rw [e, decide_eq_false h]; simp
theorem Ok.okP {l : List R} {k m : Nat} (h : Ok l k) (hm : m < k) (hl : m < l.length) : okP l[m] = true := by
  have := h m hm
  unfold okAt at this
  rw [getD_at hl] at this
  simp only [Bool.and_eq_true] at this
  exact this.1.1
set_option maxHeartbeats 1600000 in
theorem good_spec (P : Option Addr) (cap : Nat) (l : List R) (w : World) (hr : Rd w w.heap.size P (flat l)) (hn : l.length ≤ 1048576) :
    Calls Try.prog 38 #[.slice P l.length cap] w (RPost (.bool (good l)) w) := by
  have HR := Lib.hid hr; clear hr
  go_enter Try.func38, Try.ntmps38
  go_wp2
  go_loopw [3] (fun i wr => ∃ k : Nat, k ≤ l.length ∧ k ≤ 11 ∧ i = .int .i64 k ∧ Hid (Ok l k) ∧ Below w.heap.size w wr) (fun i _ => 11 - (intOf i).toNat)
  case atStart => exact ⟨0, Nat.zero_le _, by omega, rfl, Lib.hid (fun j hj => by omega), Below.refl _ _⟩
  case round =>
    obtain ⟨k, hk, hk11, rfl, HOK, HB0⟩ := hrel
    by_cases hlt : k < l.length
    · by_cases h10 : k ≤ 10
      · have h10' : (k : Int) ≤ 10 := by omega
        obtain ⟨b, o, rfl, hb, hc⟩ := HR.out.at (k := k * 6) (by rw [flat_n]; omega)
        obtain ⟨x, hx⟩ : ∃ x, l[k] = x := ⟨_, rfl⟩
        have h0 : wr.cell? ⟨b, o + k * 6, none⟩ = some (.int .i64 x.f0) := ((bcell HB0).1 _ _ hb).trans (by rw [← hx]; exact hc _ _ (flat_0 l k hlt))
        have h1 : wr.cell? ⟨b, o + k * 6 + 1, none⟩ = some (.int .i64 x.f1) := ((bcell HB0).1 _ _ hb).trans (by rw [← hx]; exact hc _ _ (flat_1 l k hlt))
        have h2 : wr.cell? ⟨b, o + k * 6 + 2, none⟩ = some (.int .i64 x.f2) := ((bcell HB0).1 _ _ hb).trans (by rw [← hx]; exact hc _ _ (flat_2 l k hlt))
        have h3 : wr.cell? ⟨b, o + k * 6 + 3, none⟩ = some (.int .i64 x.f3) := ((bcell HB0).1 _ _ hb).trans (by rw [← hx]; exact hc _ _ (flat_3 l k hlt))
        have h4 : wr.cell? ⟨b, o + k * 6 + 4, none⟩ = some (.int .i64 x.f4) := ((bcell HB0).1 _ _ hb).trans (by rw [← hx]; exact hc _ _ (flat_4 l k hlt))
        have h5 : wr.cell? ⟨b, o + k * 6 + 5, none⟩ = some (.int .i64 x.f5) := ((bcell HB0).1 _ _ hb).trans (by rw [← hx]; exact hc _ _ (flat_5 l k hlt))
        have HX := Lib.hid hx; clear hx
        clear hc
        go_wp2_with fail
        have B := Box.new HB0 [.int .i64 x.f0, .int .i64 x.f1, .int .i64 x.f2, .int .i64 x.f3, .int .i64 x.f4, .int .i64 x.f5] 54 (g := wr.heap.size) rfl
        generalize (wr.alloc (.cells #[.int .i64 x.f0, .int .i64 x.f1, .int .i64 x.f2, .int .i64 x.f3, .int .i64 x.f4, .int .i64 x.f5] 54)) = W1 at B ⊢
        have B_0 := B.cells 0 _ rfl
        have B_1 := B.cells 1 _ rfl
        have B_2 := B.cells 2 _ rfl
        have B_3 := B.cells 3 _ rfl
        have B_4 := B.cells 4 _ rfl
        have B_5 := B.cells 5 _ rfl
        have B_f0 := B.free 0 (by simp)
        have B_f1 := B.free 1 (by simp)
        have B_f2 := B.free 2 (by simp)
        have B_f3 := B.free 3 (by simp)
        have B_f4 := B.free 4 (by simp)
        have B_f5 := B.free 5 (by simp)
        have B_t := B.there
        clear h0 h1 h2 h3 h4 h5
        have HL := Lib.hid hlt
        cases hok : okP x
        · refine wp_region_text (fun w' => Box (wr.heap.size) [.int .i64 x.f0, .int .i64 x.f1, .int .i64 x.f2, .int .i64 x.f3, .int .i64 x.f4, .int .i64 x.f5] w w') (by kernel_rfl) (by kernel_rfl) (B.drew) ?_
          clear B_0 B_1 B_2 B_3 B_4 B_5 B_f0 B_f1 B_f2 B_f3 B_f4 B_f5 B_t
          iterate 18 (
            apply SeqH.one
            · intro uw K hS hK
              have qB := hS
              have qB_0 := qB.cells 0 _ rfl
              have qB_1 := qB.cells 1 _ rfl
              have qB_2 := qB.cells 2 _ rfl
              have qB_3 := qB.cells 3 _ rfl
              have qB_4 := qB.cells 4 _ rfl
              have qB_5 := qB.cells 5 _ rfl
              first
                | (go_simp; exact hK.out _ qB)
                | (go_simp; go_at_call 56; (with_reducible refine (one_spec x.f0 x.f1 x.f2 x.f3 x.f4 x.f5 _).mono ?_); rintro e uw1 ⟨rfl, hv⟩; go_wp2_with fail; exact hK.out _ (qB.more hv))
            try simp only [Act.put, List.setIfInBounds_toArray, List.set_cons_zero, List.set_cons_succ])
          refine SeqH.end' rfl ?_
          intro v2 hS
          clear B
          have B := hS; clear hS
          have B_0 := B.cells 0 _ rfl
          have B_1 := B.cells 1 _ rfl
          have B_2 := B.cells 2 _ rfl
          have B_3 := B.cells 3 _ rfl
          have B_4 := B.cells 4 _ rfl
          have B_5 := B.cells 5 _ rfl
          have B_f0 := B.free 0 (by simp)
          have B_f1 := B.free 1 (by simp)
          have B_f2 := B.free 2 (by simp)
          have B_f3 := B.free 3 (by simp)
          have B_f4 := B.free 4 (by simp)
          have B_f5 := B.free 5 (by simp)
          have B_t := B.there
          go_wp2
          go_ret
          exact rpost (by rw [good_no HL.out h10 (at_bad HL.out HX.out hok)] <;> rfl) B.below
        · rcases Nat.eq_zero_or_pos k with hz | hz
          · have hz1 : decide ((0 : Int) < k) = false := decide_eq_false (by omega)
            have hz2 : decide (0 < k) = false := decide_eq_false (by omega)
            have HZ := Lib.hid hz; clear hz
            refine wp_region_text (fun w' => Box (wr.heap.size) [.int .i64 x.f0, .int .i64 x.f1, .int .i64 x.f2, .int .i64 x.f3, .int .i64 x.f4, .int .i64 x.f5] w w') (by kernel_rfl) (by kernel_rfl) (B.drew) ?_
            clear B_0 B_1 B_2 B_3 B_4 B_5 B_f0 B_f1 B_f2 B_f3 B_f4 B_f5 B_t
            iterate 18 (
              apply SeqH.one
              · intro uw K hS hK
                have qB := hS
                have qB_0 := qB.cells 0 _ rfl
                have qB_1 := qB.cells 1 _ rfl
                have qB_2 := qB.cells 2 _ rfl
                have qB_3 := qB.cells 3 _ rfl
                have qB_4 := qB.cells 4 _ rfl
                have qB_5 := qB.cells 5 _ rfl
                first
                  | (go_simp; exact hK.out _ qB)
                  | (go_simp; go_at_call 56; (with_reducible refine (one_spec x.f0 x.f1 x.f2 x.f3 x.f4 x.f5 _).mono ?_); rintro e uw1 ⟨rfl, hv⟩; go_wp2_with fail; exact hK.out _ (qB.more hv))
              try simp only [Act.put, List.setIfInBounds_toArray, List.set_cons_zero, List.set_cons_succ])
            refine SeqH.end' rfl ?_
            intro v3 hS
            clear B
            have B := hS; clear hS
            have B_0 := B.cells 0 _ rfl
            have B_1 := B.cells 1 _ rfl
            have B_2 := B.cells 2 _ rfl
            have B_3 := B.cells 3 _ rfl
            have B_4 := B.cells 4 _ rfl
            have B_5 := B.cells 5 _ rfl
            have B_f0 := B.free 0 (by simp)
            have B_f1 := B.free 1 (by simp)
            have B_f2 := B.free 2 (by simp)
            have B_f3 := B.free 3 (by simp)
            have B_f4 := B.free 4 (by simp)
            have B_f5 := B.free 5 (by simp)
            have B_t := B.there
            clear hz1 hz2
            generalize wr.heap.size = g at *
            go_wp2
            go_loopw [5] (fun i wr => ∃ m : Nat, m ≤ k ∧ i = .int .i64 m ∧ Hid (free l (k) m = true) ∧ Box g [.int .i64 x.f0, .int .i64 x.f1, .int .i64 x.f2, .int .i64 x.f3, .int .i64 x.f4, .int .i64 x.f5] w wr) (fun i _ => k - (intOf i).toNat)
            case atStart => exact ⟨0, Nat.zero_le _, rfl, Lib.hid rfl, B⟩
            case round =>
              clear B_0 B_1 B_2 B_3 B_4 B_5 B_f0 B_f1 B_f2 B_f3 B_f4 B_f5 B_t
              clear B
              obtain ⟨m, hm, rfl, HF, B⟩ := hrel
              have B_0 := B.cells 0 _ rfl
              have B_1 := B.cells 1 _ rfl
              have B_2 := B.cells 2 _ rfl
              have B_3 := B.cells 3 _ rfl
              have B_4 := B.cells 4 _ rfl
              have B_5 := B.cells 5 _ rfl
              have B_f0 := B.free 0 (by simp)
              have B_f1 := B.free 1 (by simp)
              have B_f2 := B.free 2 (by simp)
              have B_f3 := B.free 3 (by simp)
              have B_f4 := B.free 4 (by simp)
              have B_f5 := B.free 5 (by simp)
              have B_t := B.there
              by_cases hmk : m < k
              · obtain ⟨b', o', e1, hb', hc⟩ := HR.out.at (k := m * 6) (by have := HL.out; rw [flat_n]; omega)
                obtain ⟨rfl, rfl⟩ : b = b' ∧ o = o' := by injection e1 with e1; injection e1 with e1 e2 e3; exact ⟨e1, e2⟩
                clear e1 hb'
                have hml : m < l.length := by have := HL.out; omega
                obtain ⟨y, hy⟩ : ∃ y, l[m] = y := ⟨_, rfl⟩
                have h0 : wr.cell? ⟨b, o + m * 6, none⟩ = some (.int .i64 y.f0) := ((bcell B.below).1 _ _ hb).trans (by rw [← hy]; exact hc _ _ (flat_0 l m hml))
                have h1 : wr.cell? ⟨b, o + m * 6 + 1, none⟩ = some (.int .i64 y.f1) := ((bcell B.below).1 _ _ hb).trans (by rw [← hy]; exact hc _ _ (flat_1 l m hml))
                have h2 : wr.cell? ⟨b, o + m * 6 + 2, none⟩ = some (.int .i64 y.f2) := ((bcell B.below).1 _ _ hb).trans (by rw [← hy]; exact hc _ _ (flat_2 l m hml))
                have h3 : wr.cell? ⟨b, o + m * 6 + 3, none⟩ = some (.int .i64 y.f3) := ((bcell B.below).1 _ _ hb).trans (by rw [← hy]; exact hc _ _ (flat_3 l m hml))
                have h4 : wr.cell? ⟨b, o + m * 6 + 4, none⟩ = some (.int .i64 y.f4) := ((bcell B.below).1 _ _ hb).trans (by rw [← hy]; exact hc _ _ (flat_4 l m hml))
                have h5 : wr.cell? ⟨b, o + m * 6 + 5, none⟩ = some (.int .i64 y.f5) := ((bcell B.below).1 _ _ hb).trans (by rw [← hy]; exact hc _ _ (flat_5 l m hml))
                have hoy : okP y = true := by rw [← hy]; exact HOK.out.okP hmk hml
                have HY := Lib.hid hy; clear hy
                have HML := Lib.hid hml
                clear hc
                obtain ⟨_, _, a1, a2, a3, a4, a5, a6, a7, a8, _, _, _, _⟩ := okP_true hok
                obtain ⟨_, _, b1, b2, b3, b4, b5, b6, b7, b8, _, _, _, _⟩ := okP_true hoy
                have C1 := fun u => common_spec y.f1 y.f3 x.f1 x.f3 (by omega) (by omega) (by omega) (by omega) (by omega) (by omega) (by omega) (by omega) u
                have C2 := fun u => common_spec y.f2 y.f4 x.f2 x.f4 (by omega) (by omega) (by omega) (by omega) (by omega) (by omega) (by omega) (by omega) u
                have HC := Lib.hid (show clash l[m] l[k] = (decide (0 < common y.f1 y.f3 x.f1 x.f3) && decide (0 < common y.f2 y.f4 x.f2 x.f4)) from congr (congrArg clash HY.out) HX.out)
                generalize common y.f1 y.f3 x.f1 x.f3 = c1 at C1 HC
                generalize common y.f2 y.f4 x.f2 x.f4 = c2 at C2 HC
                have HC1 := Lib.hid C1; have HC2 := Lib.hid C2; clear C1 C2 a1 a2 a3 a4 a5 a6 a7 a8 b1 b2 b3 b4 b5 b6 b7 b8
                go_wp2_with fail
                have B_t4 := B.there
                have Y := Box.new B.below [.int .i64 y.f0, .int .i64 y.f1, .int .i64 y.f2, .int .i64 y.f3, .int .i64 y.f4, .int .i64 y.f5] 54 (g := wr.heap.size) rfl
                clear B_0 B_1 B_2 B_3 B_4 B_5 B_f0 B_f1 B_f2 B_f3 B_f4 B_f5 B_t
                replace B := (B).alloc (.cells #[.int .i64 y.f0, .int .i64 y.f1, .int .i64 y.f2, .int .i64 y.f3, .int .i64 y.f4, .int .i64 y.f5] 54)
                generalize (wr.alloc (.cells #[.int .i64 y.f0, .int .i64 y.f1, .int .i64 y.f2, .int .i64 y.f3, .int .i64 y.f4, .int .i64 y.f5] 54)) = W4 at Y B ⊢
                have B_0 := B.cells 0 _ rfl
                have B_1 := B.cells 1 _ rfl
                have B_2 := B.cells 2 _ rfl
                have B_3 := B.cells 3 _ rfl
                have B_4 := B.cells 4 _ rfl
                have B_5 := B.cells 5 _ rfl
                have B_f0 := B.free 0 (by simp)
                have B_f1 := B.free 1 (by simp)
                have B_f2 := B.free 2 (by simp)
                have B_f3 := B.free 3 (by simp)
                have B_f4 := B.free 4 (by simp)
                have B_f5 := B.free 5 (by simp)
                have B_t := B.there
                have Y_0 := Y.cells 0 _ rfl
                have Y_1 := Y.cells 1 _ rfl
                have Y_2 := Y.cells 2 _ rfl
                have Y_3 := Y.cells 3 _ rfl
                have Y_4 := Y.cells 4 _ rfl
                have Y_5 := Y.cells 5 _ rfl
                have Y_f0 := Y.free 0 (by simp)
                have Y_f1 := Y.free 1 (by simp)
                have Y_f2 := Y.free 2 (by simp)
                have Y_f3 := Y.free 3 (by simp)
                have Y_f4 := Y.free 4 (by simp)
                have Y_f5 := Y.free 5 (by simp)
                have Y_t := Y.there
                clear h0 h1 h2 h3 h4 h5
                go_wp2_with fail
                refine (HC1.out _).mono ?_
                rintro e _ ⟨rfl, rfl⟩
                by_cases hc1 : 0 < c1
                · go_wp2_with fail
                  refine (HC2.out _).mono ?_
                  rintro e _ ⟨rfl, rfl⟩
                  by_cases hc2 : 0 < c2
                  · go_wp2
                    go_ret
                    exact rpost (by rw [good_no HL.out (by omega) (at_of HL.out HX.out hok (.inl HZ.out) (free_no hmk HML.out HL.out (HC.out.trans (by rw [decide_eq_true (show 0 < c1 by omega), decide_eq_true (show 0 < c2 by omega)]; rfl))))] <;> rfl) B.below
                  · go_wp2
                    go_roundw
                    case rel => exact ⟨m + 1, by omega, by go_num, Lib.hid (free_next HF.out HML.out HL.out (HC.out.trans (by rw [decide_eq_false (show ¬ 0 < c2 by omega), Bool.and_false]))), B⟩
                    case measure => simp [intOf]; omega
                · go_wp2
                  go_roundw
                  case rel => exact ⟨m + 1, by omega, by go_num, Lib.hid (free_next HF.out HML.out HL.out (HC.out.trans (by rw [decide_eq_false (show ¬ 0 < c1 by omega), Bool.false_and]))), B⟩
                  case measure => simp [intOf]; omega
              · obtain rfl : m = k := by omega
                have HN := Lib.hid (HOK.out.next (at_of HL.out HX.out hok (.inl HZ.out) HF.out))
                go_wp2
                go_roundw
                case rel => exact ⟨_, HL.out, by omega, by go_num, HN, B.below⟩
                case measure => simp [intOf]; omega
          · obtain ⟨j, rfl⟩ : ∃ j, k = j + 1 := ⟨k - 1, by omega⟩
            obtain ⟨b', o', e1, hb', hc⟩ := HR.out.at (k := j * 6) (by rw [flat_n]; omega)
            obtain ⟨rfl, rfl⟩ : b = b' ∧ o = o' := by injection e1 with e1; injection e1 with e1 e2 e3; exact ⟨e1, e2⟩
            clear e1 hb'
            obtain ⟨p, hp⟩ : ∃ p, l[j].f0 = p := ⟨_, rfl⟩
            have hq : w.cell? ⟨b, o + j * 6, none⟩ = some (.int .i64 p) := by rw [← hp]; exact hc _ _ (flat_0 l j (by omega))
            have HP := Lib.hid hp; clear hp hc hz
            have q1 : (0 : Int) < (j : Int) + 1 := by omega
            have q2 : IntKind.i64.wrap (j : Int) = j := IntWalk.i64_in _ (by omega)
            have q3 : j < l.length := by omega
            have hq_c := ((bcell B.below).1 _ _ hb).trans hq
            by_cases hlow : p < x.f0
            · refine wp_region_text (fun w' => Box (wr.heap.size) [.int .i64 x.f0, .int .i64 x.f1, .int .i64 x.f2, .int .i64 x.f3, .int .i64 x.f4, .int .i64 x.f5] w w') (by kernel_rfl) (by kernel_rfl) (B.drew) ?_
              clear B_0 B_1 B_2 B_3 B_4 B_5 B_f0 B_f1 B_f2 B_f3 B_f4 B_f5 B_t
              clear hq_c
              iterate 18 (
                apply SeqH.one
                · intro uw K hS hK
                  have qB := hS
                  have qB_0 := qB.cells 0 _ rfl
                  have qB_1 := qB.cells 1 _ rfl
                  have qB_2 := qB.cells 2 _ rfl
                  have qB_3 := qB.cells 3 _ rfl
                  have qB_4 := qB.cells 4 _ rfl
                  have qB_5 := qB.cells 5 _ rfl
                  have qhq_c := ((bcell qB.below).1 _ _ hb).trans hq
                  first
                    | (go_simp; exact hK.out _ qB)
                    | (go_simp; go_at_call 56; (with_reducible refine (one_spec x.f0 x.f1 x.f2 x.f3 x.f4 x.f5 _).mono ?_); rintro e uw1 ⟨rfl, hv⟩; go_wp2_with fail; exact hK.out _ (qB.more hv))
                try simp only [Act.put, List.setIfInBounds_toArray, List.set_cons_zero, List.set_cons_succ])
              refine SeqH.end' rfl ?_
              intro v7 hS
              clear B
              have B := hS; clear hS
              have B_0 := B.cells 0 _ rfl
              have B_1 := B.cells 1 _ rfl
              have B_2 := B.cells 2 _ rfl
              have B_3 := B.cells 3 _ rfl
              have B_4 := B.cells 4 _ rfl
              have B_5 := B.cells 5 _ rfl
              have B_f0 := B.free 0 (by simp)
              have B_f1 := B.free 1 (by simp)
              have B_f2 := B.free 2 (by simp)
              have B_f3 := B.free 3 (by simp)
              have B_f4 := B.free 4 (by simp)
              have B_f5 := B.free 5 (by simp)
              have B_t := B.there
              have hq_c := ((bcell B.below).1 _ _ hb).trans hq
              have HQ := Lib.hid (show l[j].f0 < x.f0 by rw [HP.out]; exact hlow)
              generalize wr.heap.size = g at *
              go_wp2
              go_loopw [5] (fun i wr => ∃ m : Nat, m ≤ j + 1 ∧ i = .int .i64 m ∧ Hid (free l (j + 1) m = true) ∧ Box g [.int .i64 x.f0, .int .i64 x.f1, .int .i64 x.f2, .int .i64 x.f3, .int .i64 x.f4, .int .i64 x.f5] w wr) (fun i _ => j + 1 - (intOf i).toNat)
              case atStart => exact ⟨0, Nat.zero_le _, rfl, Lib.hid rfl, B⟩
              case round =>
                clear B_0 B_1 B_2 B_3 B_4 B_5 B_f0 B_f1 B_f2 B_f3 B_f4 B_f5 B_t
                clear B
                obtain ⟨m, hm, rfl, HF, B⟩ := hrel
                have B_0 := B.cells 0 _ rfl
                have B_1 := B.cells 1 _ rfl
                have B_2 := B.cells 2 _ rfl
                have B_3 := B.cells 3 _ rfl
                have B_4 := B.cells 4 _ rfl
                have B_5 := B.cells 5 _ rfl
                have B_f0 := B.free 0 (by simp)
                have B_f1 := B.free 1 (by simp)
                have B_f2 := B.free 2 (by simp)
                have B_f3 := B.free 3 (by simp)
                have B_f4 := B.free 4 (by simp)
                have B_f5 := B.free 5 (by simp)
                have B_t := B.there
                by_cases hmk : m < j + 1
                · obtain ⟨b', o', e1, hb', hc⟩ := HR.out.at (k := m * 6) (by have := HL.out; rw [flat_n]; omega)
                  obtain ⟨rfl, rfl⟩ : b = b' ∧ o = o' := by injection e1 with e1; injection e1 with e1 e2 e3; exact ⟨e1, e2⟩
                  clear e1 hb'
                  have hml : m < l.length := by have := HL.out; omega
                  obtain ⟨y, hy⟩ : ∃ y, l[m] = y := ⟨_, rfl⟩
                  have h0 : wr.cell? ⟨b, o + m * 6, none⟩ = some (.int .i64 y.f0) := ((bcell B.below).1 _ _ hb).trans (by rw [← hy]; exact hc _ _ (flat_0 l m hml))
                  have h1 : wr.cell? ⟨b, o + m * 6 + 1, none⟩ = some (.int .i64 y.f1) := ((bcell B.below).1 _ _ hb).trans (by rw [← hy]; exact hc _ _ (flat_1 l m hml))
                  have h2 : wr.cell? ⟨b, o + m * 6 + 2, none⟩ = some (.int .i64 y.f2) := ((bcell B.below).1 _ _ hb).trans (by rw [← hy]; exact hc _ _ (flat_2 l m hml))
                  have h3 : wr.cell? ⟨b, o + m * 6 + 3, none⟩ = some (.int .i64 y.f3) := ((bcell B.below).1 _ _ hb).trans (by rw [← hy]; exact hc _ _ (flat_3 l m hml))
                  have h4 : wr.cell? ⟨b, o + m * 6 + 4, none⟩ = some (.int .i64 y.f4) := ((bcell B.below).1 _ _ hb).trans (by rw [← hy]; exact hc _ _ (flat_4 l m hml))
                  have h5 : wr.cell? ⟨b, o + m * 6 + 5, none⟩ = some (.int .i64 y.f5) := ((bcell B.below).1 _ _ hb).trans (by rw [← hy]; exact hc _ _ (flat_5 l m hml))
                  have hoy : okP y = true := by rw [← hy]; exact HOK.out.okP hmk hml
                  have HY := Lib.hid hy; clear hy
                  have HML := Lib.hid hml
                  clear hc
                  obtain ⟨_, _, a1, a2, a3, a4, a5, a6, a7, a8, _, _, _, _⟩ := okP_true hok
                  obtain ⟨_, _, b1, b2, b3, b4, b5, b6, b7, b8, _, _, _, _⟩ := okP_true hoy
                  have C1 := fun u => common_spec y.f1 y.f3 x.f1 x.f3 (by omega) (by omega) (by omega) (by omega) (by omega) (by omega) (by omega) (by omega) u
                  have C2 := fun u => common_spec y.f2 y.f4 x.f2 x.f4 (by omega) (by omega) (by omega) (by omega) (by omega) (by omega) (by omega) (by omega) u
                  have HC := Lib.hid (show clash l[m] l[j + 1] = (decide (0 < common y.f1 y.f3 x.f1 x.f3) && decide (0 < common y.f2 y.f4 x.f2 x.f4)) from congr (congrArg clash HY.out) HX.out)
                  generalize common y.f1 y.f3 x.f1 x.f3 = c1 at C1 HC
                  generalize common y.f2 y.f4 x.f2 x.f4 = c2 at C2 HC
                  have HC1 := Lib.hid C1; have HC2 := Lib.hid C2; clear C1 C2 a1 a2 a3 a4 a5 a6 a7 a8 b1 b2 b3 b4 b5 b6 b7 b8
                  go_wp2_with fail
                  have B_t8 := B.there
                  have Y := Box.new B.below [.int .i64 y.f0, .int .i64 y.f1, .int .i64 y.f2, .int .i64 y.f3, .int .i64 y.f4, .int .i64 y.f5] 54 (g := wr.heap.size) rfl
                  clear B_0 B_1 B_2 B_3 B_4 B_5 B_f0 B_f1 B_f2 B_f3 B_f4 B_f5 B_t
                  replace B := (B).alloc (.cells #[.int .i64 y.f0, .int .i64 y.f1, .int .i64 y.f2, .int .i64 y.f3, .int .i64 y.f4, .int .i64 y.f5] 54)
                  generalize (wr.alloc (.cells #[.int .i64 y.f0, .int .i64 y.f1, .int .i64 y.f2, .int .i64 y.f3, .int .i64 y.f4, .int .i64 y.f5] 54)) = W8 at Y B ⊢
                  clear hq_c
                  have B_0 := B.cells 0 _ rfl
                  have B_1 := B.cells 1 _ rfl
                  have B_2 := B.cells 2 _ rfl
                  have B_3 := B.cells 3 _ rfl
                  have B_4 := B.cells 4 _ rfl
                  have B_5 := B.cells 5 _ rfl
                  have B_f0 := B.free 0 (by simp)
                  have B_f1 := B.free 1 (by simp)
                  have B_f2 := B.free 2 (by simp)
                  have B_f3 := B.free 3 (by simp)
                  have B_f4 := B.free 4 (by simp)
                  have B_f5 := B.free 5 (by simp)
                  have B_t := B.there
                  have Y_0 := Y.cells 0 _ rfl
                  have Y_1 := Y.cells 1 _ rfl
                  have Y_2 := Y.cells 2 _ rfl
                  have Y_3 := Y.cells 3 _ rfl
                  have Y_4 := Y.cells 4 _ rfl
                  have Y_5 := Y.cells 5 _ rfl
                  have Y_f0 := Y.free 0 (by simp)
                  have Y_f1 := Y.free 1 (by simp)
                  have Y_f2 := Y.free 2 (by simp)
                  have Y_f3 := Y.free 3 (by simp)
                  have Y_f4 := Y.free 4 (by simp)
                  have Y_f5 := Y.free 5 (by simp)
                  have Y_t := Y.there
                  have hq_c := ((bcell B.below).1 _ _ hb).trans hq
                  clear h0 h1 h2 h3 h4 h5
                  go_wp2_with fail
                  refine (HC1.out _).mono ?_
                  rintro e _ ⟨rfl, rfl⟩
                  by_cases hc1 : 0 < c1
                  · go_wp2_with fail
                    refine (HC2.out _).mono ?_
                    rintro e _ ⟨rfl, rfl⟩
                    by_cases hc2 : 0 < c2
                    · go_wp2
                      go_ret
                      exact rpost (by rw [good_no HL.out (by omega) (at_of HL.out HX.out hok (.inr ⟨by omega, HQ.out⟩) (free_no hmk HML.out HL.out (HC.out.trans (by rw [decide_eq_true (show 0 < c1 by omega), decide_eq_true (show 0 < c2 by omega)]; rfl))))] <;> rfl) B.below
                    · go_wp2
                      go_roundw
                      case rel => exact ⟨m + 1, by omega, by go_num, Lib.hid (free_next HF.out HML.out HL.out (HC.out.trans (by rw [decide_eq_false (show ¬ 0 < c2 by omega), Bool.and_false]))), B⟩
                      case measure => simp [intOf]; omega
                  · go_wp2
                    go_roundw
                    case rel => exact ⟨m + 1, by omega, by go_num, Lib.hid (free_next HF.out HML.out HL.out (HC.out.trans (by rw [decide_eq_false (show ¬ 0 < c1 by omega), Bool.false_and]))), B⟩
                    case measure => simp [intOf]; omega
                · obtain rfl : m = j + 1 := by omega
                  have HN := Lib.hid (HOK.out.next (at_of HL.out HX.out hok (.inr ⟨by omega, HQ.out⟩) HF.out))
                  go_wp2
                  go_roundw
                  case rel => exact ⟨_, HL.out, by omega, by go_num, HN, B.below⟩
                  case measure => simp [intOf]; omega
            · have HW := Lib.hid (at_low HL.out HX.out hok (by rw [HP.out]; exact hlow))
              have hle : decide (x.f0 ≤ p) = true := decide_eq_true (by omega)
              clear hlow HP
              refine wp_region_text (fun w' => Box (wr.heap.size) [.int .i64 x.f0, .int .i64 x.f1, .int .i64 x.f2, .int .i64 x.f3, .int .i64 x.f4, .int .i64 x.f5] w w') (by kernel_rfl) (by kernel_rfl) (B.drew) ?_
              clear B_0 B_1 B_2 B_3 B_4 B_5 B_f0 B_f1 B_f2 B_f3 B_f4 B_f5 B_t
              clear hq_c
              iterate 18 (
                apply SeqH.one
                · intro uw K hS hK
                  have qB := hS
                  have qB_0 := qB.cells 0 _ rfl
                  have qB_1 := qB.cells 1 _ rfl
                  have qB_2 := qB.cells 2 _ rfl
                  have qB_3 := qB.cells 3 _ rfl
                  have qB_4 := qB.cells 4 _ rfl
                  have qB_5 := qB.cells 5 _ rfl
                  have qhq_c := ((bcell qB.below).1 _ _ hb).trans hq
                  first
                    | (go_simp; exact hK.out _ qB)
                    | (go_simp; go_at_call 56; (with_reducible refine (one_spec x.f0 x.f1 x.f2 x.f3 x.f4 x.f5 _).mono ?_); rintro e uw1 ⟨rfl, hv⟩; go_wp2_with fail; exact hK.out _ (qB.more hv))
                try simp only [Act.put, List.setIfInBounds_toArray, List.set_cons_zero, List.set_cons_succ])
              refine SeqH.end' rfl ?_
              intro v11 hS
              clear B
              have B := hS; clear hS
              have B_0 := B.cells 0 _ rfl
              have B_1 := B.cells 1 _ rfl
              have B_2 := B.cells 2 _ rfl
              have B_3 := B.cells 3 _ rfl
              have B_4 := B.cells 4 _ rfl
              have B_5 := B.cells 5 _ rfl
              have B_f0 := B.free 0 (by simp)
              have B_f1 := B.free 1 (by simp)
              have B_f2 := B.free 2 (by simp)
              have B_f3 := B.free 3 (by simp)
              have B_f4 := B.free 4 (by simp)
              have B_f5 := B.free 5 (by simp)
              have B_t := B.there
              have hq_c := ((bcell B.below).1 _ _ hb).trans hq
              go_wp2
              go_ret
              exact rpost (by rw [good_no HL.out h10 HW.out] <;> rfl) B.below
      · have h10' : decide ((k : Int) ≤ 10) = false := decide_eq_false (by omega)
        have HE := Lib.hid ((good_end HOK.out (.inr (by omega))).trans (decide_eq_false (by omega)))
        have h12 : decide ((l.length : Int) ≤ 10) = false := decide_eq_false (by omega)
        go_wp2
        go_ret
        exact rpost (by rw [HE.out] <;> rfl) HB0
    · by_cases h12 : l.length ≤ 10
      · have HE := Lib.hid ((good_end HOK.out (.inl (by omega))).trans (decide_eq_true h12))
        have h13 : decide ((l.length : Int) ≤ 10) = true := decide_eq_true (by omega)
        go_wp2
        go_ret
        exact rpost (by rw [HE.out] <;> rfl) HB0
      · have HE := Lib.hid ((good_end HOK.out (.inl (by omega))).trans (decide_eq_false h12))
        have h13 : decide ((l.length : Int) ≤ 10) = false := decide_eq_false (by omega)
        go_wp2
        go_ret
        exact rpost (by rw [HE.out] <;> rfl) HB0
end Go.Proofs.Ytncdkfkihfhcgaa.Pond2
