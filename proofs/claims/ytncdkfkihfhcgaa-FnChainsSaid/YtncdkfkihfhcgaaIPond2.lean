/- The program's meetsAny and ArePonds. -/
import Derived.Test.YtncdkfkihfhcgaaIPond
import Derived.Test.YtncdkfkihfhcgaaPond4
namespace Go.Proofs.Ytncdkfkihfhcgaa.IPond2
open Go.RowKit Go.Proofs.Ytncdkfkihfhcgaa.Mem Go.Proofs.Ytncdkfkihfhcgaa.Base Go.Proofs.Ytncdkfkihfhcgaa.Within Go.Proofs.Ytncdkfkihfhcgaa.SPond Go.Proofs.Ytncdkfkihfhcgaa.Regn Go.Proofs.Ytncdkfkihfhcgaa.Boxes Go.Proofs.Ytncdkfkihfhcgaa.Pond Go.Proofs.Ytncdkfkihfhcgaa.Pond2 Go.Proofs.Ytncdkfkihfhcgaa.IPond
set_option linter.unusedVariables false
set_option maxRecDepth 100000
theorem clash_cols {x y : R} : clash y x = (decide (0 < cols x y) && decide (0 < rows x y)) := by
  have e1 : (0 < common y.f1 y.f3 x.f1 x.f3) ↔ 0 < cols x y := by unfold common cols most least; split <;> split <;> split <;> split <;> split <;> omega
  have e2 : (0 < common y.f2 y.f4 x.f2 x.f4) ↔ 0 < rows x y := by unfold common rows most least; split <;> split <;> split <;> split <;> split <;> omega
  unfold clash
  simp only [e1, e2]
def meets (l : List R) (x : R) : Bool := l.any fun y => clash y x
theorem meets_yes {l : List R} {x : R} {k : Nat} (hk : k < l.length) (h : clash l[k] x = true) : meets l x = true := List.any_eq_true.2 ⟨l[k], List.getElem_mem hk, h⟩
def Clear (l : List R) (x : R) (k : Nat) : Prop := ∀ j (h : j < l.length), j < k → clash l[j] x = false
theorem Clear.next {l : List R} {x : R} {k : Nat} (h : Clear l x k) (hk : k < l.length) (he : clash l[k] x = false) : Clear l x (k + 1) := fun j hj hj2 => by
  rcases Nat.lt_or_ge j k with h1 | h1
  · exact h j hj h1
  · have : j = k := by omega
    subst this; exact he
theorem Clear.no {l : List R} {x : R} (h : Clear l x l.length) : meets l x = false := by
  unfold meets
  rw [List.any_eq_false]
  intro y hy
  obtain ⟨j, hj, rfl⟩ := List.getElem_of_mem hy
  rw [h j hj hj]; simp
theorem cells6 {w W : World} {b o k : Nat} {l : List R} {x : R} (HB : Below w.heap.size w W) (hb : b < w.heap.size) (hc : ∀ (j : Nat) (v : Value), (flat l)[j]? = some v → w.cell? ⟨b, o + j, none⟩ = some v) (hlt : k < l.length) (hx : l[k] = x) :
    W.cell? ⟨b, o + k * 6, none⟩ = some (.int .i64 x.f0) ∧ W.cell? ⟨b, o + k * 6 + 1, none⟩ = some (.int .i64 x.f1) ∧ W.cell? ⟨b, o + k * 6 + 2, none⟩ = some (.int .i64 x.f2) ∧ W.cell? ⟨b, o + k * 6 + 3, none⟩ = some (.int .i64 x.f3) ∧ W.cell? ⟨b, o + k * 6 + 4, none⟩ = some (.int .i64 x.f4) ∧ W.cell? ⟨b, o + k * 6 + 5, none⟩ = some (.int .i64 x.f5) := by
  subst hx
  exact ⟨((bcell HB).1 _ _ hb).trans (hc _ _ (flat_0 l k hlt)), ((bcell HB).1 _ _ hb).trans (hc _ _ (flat_1 l k hlt)), ((bcell HB).1 _ _ hb).trans (hc _ _ (flat_2 l k hlt)), ((bcell HB).1 _ _ hb).trans (hc _ _ (flat_3 l k hlt)), ((bcell HB).1 _ _ hb).trans (hc _ _ (flat_4 l k hlt)), ((bcell HB).1 _ _ hb).trans (hc _ _ (flat_5 l k hlt))⟩
set_option maxHeartbeats 800000 in
theorem meets_any (x : R) (hx : okP x = true) (P : Option Addr) (cap : Nat) (l : List R) (ho : ∀ y ∈ l, okP y = true) (w : World) (hr : Rd w w.heap.size P (flat l)) (hn : l.length ≤ 1048576) :
    Calls Try.prog 40 #[.agg #[.int .i64 x.f0, .int .i64 x.f1, .int .i64 x.f2, .int .i64 x.f3, .int .i64 x.f4, .int .i64 x.f5], .slice P l.length cap] w (RPost (.bool (meets l x)) w) := by
  have HR := Lib.hid hr; clear hr
  have HO := Lib.hid ho; clear ho
  have HX := Lib.hid hx; clear hx
  go_enter Try.func40, Try.ntmps40
  go_wp2_with fail
  have X := Box.new (Below.refl _ w) [.int .i64 x.f0, .int .i64 x.f1, .int .i64 x.f2, .int .i64 x.f3, .int .i64 x.f4, .int .i64 x.f5] 54 (g := w.heap.size) rfl
  generalize (w.alloc (.cells #[.int .i64 x.f0, .int .i64 x.f1, .int .i64 x.f2, .int .i64 x.f3, .int .i64 x.f4, .int .i64 x.f5] 54)) = W1 at X ⊢
  have X_0 := X.cells 0 _ rfl
  have X_1 := X.cells 1 _ rfl
  have X_2 := X.cells 2 _ rfl
  have X_3 := X.cells 3 _ rfl
  have X_4 := X.cells 4 _ rfl
  have X_5 := X.cells 5 _ rfl
  have X_f0 := X.free 0 (by simp)
  have X_f1 := X.free 1 (by simp)
  have X_f2 := X.free 2 (by simp)
  have X_f3 := X.free 3 (by simp)
  have X_f4 := X.free 4 (by simp)
  have X_f5 := X.free 5 (by simp)
  have X_t := X.there
  go_loopw [9] (fun i wr => ∃ k : Nat, k ≤ l.length ∧ i = .int .i64 k ∧ Hid (Clear l x k) ∧ Box w.heap.size [.int .i64 x.f0, .int .i64 x.f1, .int .i64 x.f2, .int .i64 x.f3, .int .i64 x.f4, .int .i64 x.f5] w wr) (fun i _ => l.length - (intOf i).toNat)
  case atStart => exact ⟨0, Nat.zero_le _, rfl, Lib.hid (fun j _ hj => by omega), X⟩
  case round =>
    clear X_0 X_1 X_2 X_3 X_4 X_5 X_f0 X_f1 X_f2 X_f3 X_f4 X_f5 X_t
    clear X
    obtain ⟨k, hk, rfl, HN, X⟩ := hrel
    by_cases hlt : k < l.length
    · obtain ⟨b, o, rfl, hb, hc⟩ := HR.out.at (k := k * 6) (by rw [flat_n]; omega)
      obtain ⟨y, hy⟩ : ∃ y, l[k] = y := ⟨_, rfl⟩
      obtain ⟨h0, h1, h2, h3, h4, h5⟩ := cells6 X.below hb hc hlt hy
      have HOY := Lib.hid (show okP y = true by rw [← hy]; exact HO.out _ (List.getElem_mem hlt))
      have HC := Lib.hid (show clash l[k] x = (decide (0 < cols x y) && decide (0 < rows x y)) by rw [hy]; exact clash_cols)
      have HL := Lib.hid hlt
      clear hc hy
      have X_0 := X.cells 0 _ rfl
      have X_1 := X.cells 1 _ rfl
      have X_2 := X.cells 2 _ rfl
      have X_3 := X.cells 3 _ rfl
      have X_4 := X.cells 4 _ rfl
      have X_5 := X.cells 5 _ rfl
      have X_f0 := X.free 0 (by simp)
      have X_f1 := X.free 1 (by simp)
      have X_f2 := X.free 2 (by simp)
      have X_f3 := X.free 3 (by simp)
      have X_f4 := X.free 4 (by simp)
      have X_f5 := X.free 5 (by simp)
      have X_t := X.there
      go_wp2_with fail
      have X_t2 := X.there
      have Y := Box.new X.below [.int .i64 y.f0, .int .i64 y.f1, .int .i64 y.f2, .int .i64 y.f3, .int .i64 y.f4, .int .i64 y.f5] 54 (g := wr.heap.size) rfl
      clear X_0 X_1 X_2 X_3 X_4 X_5 X_f0 X_f1 X_f2 X_f3 X_f4 X_f5 X_t
      replace X := (X).alloc (.cells #[.int .i64 y.f0, .int .i64 y.f1, .int .i64 y.f2, .int .i64 y.f3, .int .i64 y.f4, .int .i64 y.f5] 54)
      generalize (wr.alloc (.cells #[.int .i64 y.f0, .int .i64 y.f1, .int .i64 y.f2, .int .i64 y.f3, .int .i64 y.f4, .int .i64 y.f5] 54)) = W2 at Y X ⊢
      have X_0 := X.cells 0 _ rfl
      have X_1 := X.cells 1 _ rfl
      have X_2 := X.cells 2 _ rfl
      have X_3 := X.cells 3 _ rfl
      have X_4 := X.cells 4 _ rfl
      have X_5 := X.cells 5 _ rfl
      have X_f0 := X.free 0 (by simp)
      have X_f1 := X.free 1 (by simp)
      have X_f2 := X.free 2 (by simp)
      have X_f3 := X.free 3 (by simp)
      have X_f4 := X.free 4 (by simp)
      have X_f5 := X.free 5 (by simp)
      have X_t := X.there
      have Y_0 := Y.cells 0 _ rfl
      have Y_1 := Y.cells 1 _ rfl
      have Y_2 := Y.cells 2 _ rfl
      have Y_3 := Y.cells 3 _ rfl
      have Y_4 := Y.cells 4 _ rfl
      have Y_5 := Y.cells 5 _ rfl
      have Y_f0 := Y.free 0 (by simp)
      have Y_f1 := Y.free 1 (by simp)
      have Y_f2 := Y.free 2 (by simp)
      have Y_f3 := Y.free 3 (by simp)
      have Y_f4 := Y.free 4 (by simp)
      have Y_f5 := Y.free 5 (by simp)
      have Y_t := Y.there
      clear h0 h1 h2 h3 h4 h5
      go_wp2_with fail
      refine (cols_any x y HX.out HOY.out _).mono ?_
      rintro e v3 ⟨rfl, hv3⟩
      clear X_0 X_1 X_2 X_3 X_4 X_5 X_f0 X_f1 X_f2 X_f3 X_f4 X_f5 X_t
      clear Y_0 Y_1 Y_2 Y_3 Y_4 Y_5 Y_f0 Y_f1 Y_f2 Y_f3 Y_f4 Y_f5 Y_t
      replace X := X.more hv3
      replace Y := Y.more hv3
      have zhv3 := hv3.size
      clear hv3
      have X_0 := X.cells 0 _ rfl
      have X_1 := X.cells 1 _ rfl
      have X_2 := X.cells 2 _ rfl
      have X_3 := X.cells 3 _ rfl
      have X_4 := X.cells 4 _ rfl
      have X_5 := X.cells 5 _ rfl
      have X_f0 := X.free 0 (by simp)
      have X_f1 := X.free 1 (by simp)
      have X_f2 := X.free 2 (by simp)
      have X_f3 := X.free 3 (by simp)
      have X_f4 := X.free 4 (by simp)
      have X_f5 := X.free 5 (by simp)
      have X_t := X.there
      have Y_0 := Y.cells 0 _ rfl
      have Y_1 := Y.cells 1 _ rfl
      have Y_2 := Y.cells 2 _ rfl
      have Y_3 := Y.cells 3 _ rfl
      have Y_4 := Y.cells 4 _ rfl
      have Y_5 := Y.cells 5 _ rfl
      have Y_f0 := Y.free 0 (by simp)
      have Y_f1 := Y.free 1 (by simp)
      have Y_f2 := Y.free 2 (by simp)
      have Y_f3 := Y.free 3 (by simp)
      have Y_f4 := Y.free 4 (by simp)
      have Y_f5 := Y.free 5 (by simp)
      have Y_t := Y.there
      generalize cols x y = c at *
      by_cases hc1 : 0 < c
      · go_wp2_with fail
        refine (rows_any x y HX.out HOY.out _).mono ?_
        rintro e v4 ⟨rfl, hv4⟩
        clear X_0 X_1 X_2 X_3 X_4 X_5 X_f0 X_f1 X_f2 X_f3 X_f4 X_f5 X_t
        clear Y_0 Y_1 Y_2 Y_3 Y_4 Y_5 Y_f0 Y_f1 Y_f2 Y_f3 Y_f4 Y_f5 Y_t
        replace X := X.more hv4
        replace Y := Y.more hv4
        have zhv4 := hv4.size
        clear hv4
        have X_0 := X.cells 0 _ rfl
        have X_1 := X.cells 1 _ rfl
        have X_2 := X.cells 2 _ rfl
        have X_3 := X.cells 3 _ rfl
        have X_4 := X.cells 4 _ rfl
        have X_5 := X.cells 5 _ rfl
        have X_f0 := X.free 0 (by simp)
        have X_f1 := X.free 1 (by simp)
        have X_f2 := X.free 2 (by simp)
        have X_f3 := X.free 3 (by simp)
        have X_f4 := X.free 4 (by simp)
        have X_f5 := X.free 5 (by simp)
        have X_t := X.there
        have Y_0 := Y.cells 0 _ rfl
        have Y_1 := Y.cells 1 _ rfl
        have Y_2 := Y.cells 2 _ rfl
        have Y_3 := Y.cells 3 _ rfl
        have Y_4 := Y.cells 4 _ rfl
        have Y_5 := Y.cells 5 _ rfl
        have Y_f0 := Y.free 0 (by simp)
        have Y_f1 := Y.free 1 (by simp)
        have Y_f2 := Y.free 2 (by simp)
        have Y_f3 := Y.free 3 (by simp)
        have Y_f4 := Y.free 4 (by simp)
        have Y_f5 := Y.free 5 (by simp)
        have Y_t := Y.there
        generalize rows x y = r at *
        by_cases hc2 : 0 < r
        · go_wp2
          go_ret
          exact rpost (by rw [meets_yes HL.out (HC.out.trans (by rw [decide_eq_true (show 0 < c by omega), decide_eq_true (show 0 < r by omega)]; rfl))] <;> rfl) X.below
        · go_wp2
          go_roundw
          case rel => exact ⟨k + 1, by omega, by go_num, Lib.hid (HN.out.next HL.out (HC.out.trans (by rw [decide_eq_false (show ¬ 0 < r by omega), Bool.and_false]))), X⟩
          case measure => simp [intOf]; omega
      · go_wp2
        go_roundw
        case rel => exact ⟨k + 1, by omega, by go_num, Lib.hid (HN.out.next HL.out (HC.out.trans (by rw [decide_eq_false (show ¬ 0 < c by omega), Bool.false_and]))), X⟩
        case measure => simp [intOf]; omega
    · obtain rfl : k = l.length := by omega
      go_wp2
      go_ret
      exact rpost (by rw [HN.out.no] <;> rfl) X.below
theorem free_meets {l : List R} {x : R} {k : Nat} (hk : k < l.length) (hx : l[k] = x) : free l k k = !meets (l.take k) x := by
  unfold free meets
  rw [List.not_any_eq_all_not, Bool.eq_iff_iff, List.all_eq_true, List.all_eq_true]
  rw [getD_at hk, hx]
  constructor
  · intro h y hy
    obtain ⟨j, hj, rfl⟩ := List.getElem_of_mem hy
    rw [List.length_take] at hj
    have := h j (List.mem_range.2 (by omega))
    rw [getD_at (by omega)] at this
    rw [List.getElem_take]; exact this
  · intro h j hj
    have hj := List.mem_range.1 hj
    rw [getD_at (by omega)]
    exact h _ (by rw [List.mem_take_iff_getElem]; exact ⟨j, by omega, rfl⟩)
theorem ok_all {l : List R} {k : Nat} (h : Ok l k) (hk : k ≤ l.length) : ∀ y ∈ l.take k, okP y = true := by
  intro y hy
  obtain ⟨j, hj, rfl⟩ := List.getElem_of_mem hy
  rw [List.length_take] at hj
  rw [List.getElem_take]
  exact h.okP (by omega) (by omega)
theorem rd_take {w : World} {B : Nat} {A : Option Addr} {l : List R} (k : Nat) (h : Rd w B A (flat l)) : Rd w B A (flat (l.take k)) := by
  rcases h with h | ⟨b, o, hA, hb, hc⟩
  · left
    have : l = [] := by have := flat_n l; rw [h] at this; exact List.eq_nil_of_length_eq_zero (by simp at this; omega)
    subst this; simp [flat]
  · refine .inr ⟨b, o, hA, hb, fun j v hv => hc j v ?_⟩
    have e : flat l = flat (l.take k) ++ flat (l.drop k) := by unfold flat; rw [← List.flatMap_append, List.take_append_drop]
    have hj : j < (flat (l.take k)).length := by
      rcases Nat.lt_or_ge j (flat (l.take k)).length with h1 | h1
      · exact h1
      · rw [List.getElem?_eq_none h1] at hv; cases hv
    rw [e, List.getElem?_append_left hj]; exact hv
set_option maxHeartbeats 1600000 in
theorem are_impl (P : Option Addr) (cap : Nat) (l : List R) (w : World) (hr : Rd w w.heap.size P (flat l)) (hcap : l.length ≤ cap) (hn : l.length ≤ 1048576) :
    Calls Try.prog 13 #[.slice P l.length cap] w (RPost (.bool (good l)) w) := by
  have HR := Lib.hid hr; clear hr
  by_cases h10 : l.length ≤ 10
  · have h10' : decide ((10 : Int) < l.length) = false := decide_eq_false (by omega)
    go_enter Try.func13, Try.ntmps13
    go_wp2
    go_loopw [10] (fun i wr => ∃ k : Nat, k ≤ l.length ∧ i = .int .i64 k ∧ Hid (Ok l k) ∧ Below w.heap.size w wr) (fun i _ => l.length - (intOf i).toNat)
    case atStart => exact ⟨0, Nat.zero_le _, rfl, Lib.hid (fun j hj => by omega), Below.refl _ _⟩
    case round =>
      obtain ⟨k, hk, rfl, HOK, HB0⟩ := hrel
      by_cases hlt : k < l.length
      · obtain ⟨b, o, rfl, hb, hc⟩ := HR.out.at (k := k * 6) (by rw [flat_n]; omega)
        obtain ⟨x, hx⟩ : ∃ x, l[k] = x := ⟨_, rfl⟩
        obtain ⟨h0, h1, h2, h3, h4, h5⟩ := cells6 HB0 hb hc hlt hx
        have HX := Lib.hid hx; clear hx
        have HL := Lib.hid hlt
        have HC := Lib.hid hc; clear hc
        go_wp2_with fail
        have B := Box.new HB0 [.int .i64 x.f0, .int .i64 x.f1, .int .i64 x.f2, .int .i64 x.f3, .int .i64 x.f4, .int .i64 x.f5] 54 (g := wr.heap.size) rfl
        generalize (wr.alloc (.cells #[.int .i64 x.f0, .int .i64 x.f1, .int .i64 x.f2, .int .i64 x.f3, .int .i64 x.f4, .int .i64 x.f5] 54)) = W1 at B ⊢
        have B_0 := B.cells 0 _ rfl
        have B_1 := B.cells 1 _ rfl
        have B_2 := B.cells 2 _ rfl
        have B_3 := B.cells 3 _ rfl
        have B_4 := B.cells 4 _ rfl
        have B_5 := B.cells 5 _ rfl
        have B_f0 := B.free 0 (by simp)
        have B_f1 := B.free 1 (by simp)
        have B_f2 := B.free 2 (by simp)
        have B_f3 := B.free 3 (by simp)
        have B_f4 := B.free 4 (by simp)
        have B_f5 := B.free 5 (by simp)
        have B_t := B.there
        clear h0 h1 h2 h3 h4 h5
        cases hok : okP x
        · refine wp_region_text (fun w' => Box (wr.heap.size) [.int .i64 x.f0, .int .i64 x.f1, .int .i64 x.f2, .int .i64 x.f3, .int .i64 x.f4, .int .i64 x.f5] w w') (by kernel_rfl) (by kernel_rfl) (B.drew) ?_
          clear B_0 B_1 B_2 B_3 B_4 B_5 B_f0 B_f1 B_f2 B_f3 B_f4 B_f5 B_t
          iterate 25 (
            apply SeqH.one
            · intro uw K hS hK
              have qB := hS
              have qB_0 := qB.cells 0 _ rfl
              have qB_1 := qB.cells 1 _ rfl
              have qB_2 := qB.cells 2 _ rfl
              have qB_3 := qB.cells 3 _ rfl
              have qB_4 := qB.cells 4 _ rfl
              have qB_5 := qB.cells 5 _ rfl
              first
                | (go_simp; exact hK.out _ qB)
                | (go_simp; go_at_call 39; (with_reducible refine (pond_impl x _).mono ?_); rintro e uw1 ⟨rfl, hv⟩; rw [hok]; go_wp2_with fail; exact hK.out _ (qB.more hv))
            try simp only [Act.put, List.setIfInBounds_toArray, List.set_cons_zero, List.set_cons_succ])
          refine SeqH.end' rfl ?_
          intro v2 hS
          clear B
          have B := hS; clear hS
          have B_0 := B.cells 0 _ rfl
          have B_1 := B.cells 1 _ rfl
          have B_2 := B.cells 2 _ rfl
          have B_3 := B.cells 3 _ rfl
          have B_4 := B.cells 4 _ rfl
          have B_5 := B.cells 5 _ rfl
          have B_f0 := B.free 0 (by simp)
          have B_f1 := B.free 1 (by simp)
          have B_f2 := B.free 2 (by simp)
          have B_f3 := B.free 3 (by simp)
          have B_f4 := B.free 4 (by simp)
          have B_f5 := B.free 5 (by simp)
          have B_t := B.there
          go_wp2
          go_ret
          exact rpost (by rw [good_no HL.out (by omega) (at_bad HL.out HX.out hok)] <;> rfl) B.below
        · have hkc : k ≤ cap := by omega
          have hlen : (l.take k).length = k := by rw [List.length_take]; omega
          have HM := Lib.hid (fun W (hB : Below w.heap.size w W) => meets_any x hok (some ⟨b, o, none⟩) cap (l.take k) (ok_all HOK.out (Nat.le_of_lt HL.out)) W (rd_take k ((HR.out.below hB (Nat.le_refl _)).mono hB.size)) (by omega))
          rw [hlen] at HM
          rcases Nat.eq_zero_or_pos k with hz | hz
          · have hm : meets (l.take k) x = false := by rw [hz]; rfl
            have HN := Lib.hid (HOK.out.next (at_of HL.out HX.out hok (.inl hz) ((free_meets HL.out HX.out).trans (by rw [hm]; rfl))))
            have hz1 : decide ((0 : Int) < k) = false := decide_eq_false (by omega)
            have hz2 : decide (0 < k) = false := decide_eq_false (by omega)
            have HZ := Lib.hid hz; clear hz
            refine wp_region_text (fun w' => Box (wr.heap.size) [.int .i64 x.f0, .int .i64 x.f1, .int .i64 x.f2, .int .i64 x.f3, .int .i64 x.f4, .int .i64 x.f5] w w') (by kernel_rfl) (by kernel_rfl) (B.drew) ?_
            clear B_0 B_1 B_2 B_3 B_4 B_5 B_f0 B_f1 B_f2 B_f3 B_f4 B_f5 B_t
            iterate 25 (
              apply SeqH.one
              · intro uw K hS hK
                have qB := hS
                have qB_0 := qB.cells 0 _ rfl
                have qB_1 := qB.cells 1 _ rfl
                have qB_2 := qB.cells 2 _ rfl
                have qB_3 := qB.cells 3 _ rfl
                have qB_4 := qB.cells 4 _ rfl
                have qB_5 := qB.cells 5 _ rfl
                first
                  | (go_simp; exact hK.out _ qB)
                  | (go_simp; go_at_call 39; (with_reducible refine (pond_impl x _).mono ?_); rintro e uw1 ⟨rfl, hv⟩; rw [hok]; go_wp2_with fail; exact hK.out _ (qB.more hv))
                  | (go_simp; go_at_call 40; (with_reducible refine (HM.out _ qB.below).mono ?_); rintro e uw1 ⟨rfl, hv⟩; rw [hm]; go_wp2_with fail; exact hK.out _ (qB.more hv))
                  | (go_simp; rw [if_pos (And.intro (by omega) (by omega))]; go_simp; exact hK.out _ qB)
              try simp only [Act.put, List.setIfInBounds_toArray, List.set_cons_zero, List.set_cons_succ])
            refine SeqH.end' rfl ?_
            intro v3 hS
            clear B
            have B := hS; clear hS
            have B_0 := B.cells 0 _ rfl
            have B_1 := B.cells 1 _ rfl
            have B_2 := B.cells 2 _ rfl
            have B_3 := B.cells 3 _ rfl
            have B_4 := B.cells 4 _ rfl
            have B_5 := B.cells 5 _ rfl
            have B_f0 := B.free 0 (by simp)
            have B_f1 := B.free 1 (by simp)
            have B_f2 := B.free 2 (by simp)
            have B_f3 := B.free 3 (by simp)
            have B_f4 := B.free 4 (by simp)
            have B_f5 := B.free 5 (by simp)
            have B_t := B.there
            clear hz1 hz2
            go_wp2
            go_roundw
            case rel => exact ⟨k + 1, HL.out, by go_num, HN, B.below⟩
            case measure => have := HL.out; simp [intOf]; omega
          · obtain ⟨j, rfl⟩ : ∃ j, k = j + 1 := ⟨k - 1, by omega⟩
            obtain ⟨p, hp⟩ : ∃ p, l[j].f0 = p := ⟨_, rfl⟩
            have hq : w.cell? ⟨b, o + j * 6, none⟩ = some (.int .i64 p) := by rw [← hp]; exact HC.out _ _ (flat_0 l j (by omega))
            have HP := Lib.hid hp; clear hp hz
            have q1 : (0 : Int) < (j : Int) + 1 := by omega
            have q2 : IntKind.i64.wrap (j : Int) = j := IntWalk.i64_in _ (by omega)
            have q3 : j < l.length := by omega
            have hq_c := ((bcell B.below).1 _ _ hb).trans hq
            by_cases hlow : p < x.f0
            · have hle : decide (x.f0 ≤ p) = false := decide_eq_false (by omega)
              have HQ := Lib.hid (show l[j].f0 < x.f0 by rw [HP.out]; exact hlow)
              clear hlow
              cases hm : meets (l.take (j + 1)) x
              · have HN := Lib.hid (HOK.out.next (at_of HL.out HX.out hok (.inr ⟨by omega, HQ.out⟩) ((free_meets HL.out HX.out).trans (by rw [hm]; rfl))))
                refine wp_region_text (fun w' => Box (wr.heap.size) [.int .i64 x.f0, .int .i64 x.f1, .int .i64 x.f2, .int .i64 x.f3, .int .i64 x.f4, .int .i64 x.f5] w w') (by kernel_rfl) (by kernel_rfl) (B.drew) ?_
                clear B_0 B_1 B_2 B_3 B_4 B_5 B_f0 B_f1 B_f2 B_f3 B_f4 B_f5 B_t
                clear hq_c
                iterate 25 (
                  apply SeqH.one
                  · intro uw K hS hK
                    have qB := hS
                    have qB_0 := qB.cells 0 _ rfl
                    have qB_1 := qB.cells 1 _ rfl
                    have qB_2 := qB.cells 2 _ rfl
                    have qB_3 := qB.cells 3 _ rfl
                    have qB_4 := qB.cells 4 _ rfl
                    have qB_5 := qB.cells 5 _ rfl
                    have qhq_c := ((bcell qB.below).1 _ _ hb).trans hq
                    first
                      | (go_simp; exact hK.out _ qB)
                      | (go_simp; go_at_call 39; (with_reducible refine (pond_impl x _).mono ?_); rintro e uw1 ⟨rfl, hv⟩; rw [hok]; go_wp2_with fail; exact hK.out _ (qB.more hv))
                      | (go_simp; go_at_call 40; (with_reducible refine (HM.out _ qB.below).mono ?_); rintro e uw1 ⟨rfl, hv⟩; rw [hm]; go_wp2_with fail; exact hK.out _ (qB.more hv))
                      | (go_simp; rw [if_pos (And.intro (by omega) (by omega))]; go_simp; exact hK.out _ qB)
                  try simp only [Act.put, List.setIfInBounds_toArray, List.set_cons_zero, List.set_cons_succ])
                refine SeqH.end' rfl ?_
                intro v4 hS
                clear B
                have B := hS; clear hS
                have B_0 := B.cells 0 _ rfl
                have B_1 := B.cells 1 _ rfl
                have B_2 := B.cells 2 _ rfl
                have B_3 := B.cells 3 _ rfl
                have B_4 := B.cells 4 _ rfl
                have B_5 := B.cells 5 _ rfl
                have B_f0 := B.free 0 (by simp)
                have B_f1 := B.free 1 (by simp)
                have B_f2 := B.free 2 (by simp)
                have B_f3 := B.free 3 (by simp)
                have B_f4 := B.free 4 (by simp)
                have B_f5 := B.free 5 (by simp)
                have B_t := B.there
                have hq_c := ((bcell B.below).1 _ _ hb).trans hq
                go_wp2
                go_roundw
                case rel => exact ⟨j + 1 + 1, HL.out, by go_num, HN, B.below⟩
                case measure => have := HL.out; simp [intOf]; omega
              · have HN := Lib.hid (good_no HL.out (by omega) (at_of HL.out HX.out hok (.inr ⟨by omega, HQ.out⟩) ((free_meets HL.out HX.out).trans (by rw [hm]; rfl))))
                refine wp_region_text (fun w' => Box (wr.heap.size) [.int .i64 x.f0, .int .i64 x.f1, .int .i64 x.f2, .int .i64 x.f3, .int .i64 x.f4, .int .i64 x.f5] w w') (by kernel_rfl) (by kernel_rfl) (B.drew) ?_
                clear B_0 B_1 B_2 B_3 B_4 B_5 B_f0 B_f1 B_f2 B_f3 B_f4 B_f5 B_t
                clear hq_c
                iterate 25 (
                  apply SeqH.one
                  · intro uw K hS hK
                    have qB := hS
                    have qB_0 := qB.cells 0 _ rfl
                    have qB_1 := qB.cells 1 _ rfl
                    have qB_2 := qB.cells 2 _ rfl
                    have qB_3 := qB.cells 3 _ rfl
                    have qB_4 := qB.cells 4 _ rfl
                    have qB_5 := qB.cells 5 _ rfl
                    have qhq_c := ((bcell qB.below).1 _ _ hb).trans hq
                    first
                      | (go_simp; exact hK.out _ qB)
                      | (go_simp; go_at_call 39; (with_reducible refine (pond_impl x _).mono ?_); rintro e uw1 ⟨rfl, hv⟩; rw [hok]; go_wp2_with fail; exact hK.out _ (qB.more hv))
                      | (go_simp; go_at_call 40; (with_reducible refine (HM.out _ qB.below).mono ?_); rintro e uw1 ⟨rfl, hv⟩; rw [hm]; go_wp2_with fail; exact hK.out _ (qB.more hv))
                      | (go_simp; rw [if_pos (And.intro (by omega) (by omega))]; go_simp; exact hK.out _ qB)
                  try simp only [Act.put, List.setIfInBounds_toArray, List.set_cons_zero, List.set_cons_succ])
                refine SeqH.end' rfl ?_
                intro v5 hS
                clear B
                have B := hS; clear hS
                have B_0 := B.cells 0 _ rfl
                have B_1 := B.cells 1 _ rfl
                have B_2 := B.cells 2 _ rfl
                have B_3 := B.cells 3 _ rfl
                have B_4 := B.cells 4 _ rfl
                have B_5 := B.cells 5 _ rfl
                have B_f0 := B.free 0 (by simp)
                have B_f1 := B.free 1 (by simp)
                have B_f2 := B.free 2 (by simp)
                have B_f3 := B.free 3 (by simp)
                have B_f4 := B.free 4 (by simp)
                have B_f5 := B.free 5 (by simp)
                have B_t := B.there
                have hq_c := ((bcell B.below).1 _ _ hb).trans hq
                go_wp2
                go_ret
                exact rpost (by rw [HN.out] <;> rfl) B.below
            · have HW := Lib.hid (at_low HL.out HX.out hok (by rw [HP.out]; exact hlow))
              have hle : decide (x.f0 ≤ p) = true := decide_eq_true (by omega)
              clear hlow HP
              refine wp_region_text (fun w' => Box (wr.heap.size) [.int .i64 x.f0, .int .i64 x.f1, .int .i64 x.f2, .int .i64 x.f3, .int .i64 x.f4, .int .i64 x.f5] w w') (by kernel_rfl) (by kernel_rfl) (B.drew) ?_
              clear B_0 B_1 B_2 B_3 B_4 B_5 B_f0 B_f1 B_f2 B_f3 B_f4 B_f5 B_t
              clear hq_c
              iterate 25 (
                apply SeqH.one
                · intro uw K hS hK
                  have qB := hS
                  have qB_0 := qB.cells 0 _ rfl
                  have qB_1 := qB.cells 1 _ rfl
                  have qB_2 := qB.cells 2 _ rfl
                  have qB_3 := qB.cells 3 _ rfl
                  have qB_4 := qB.cells 4 _ rfl
                  have qB_5 := qB.cells 5 _ rfl
                  have qhq_c := ((bcell qB.below).1 _ _ hb).trans hq
                  first
                    | (go_simp; exact hK.out _ qB)
                    | (go_simp; go_at_call 39; (with_reducible refine (pond_impl x _).mono ?_); rintro e uw1 ⟨rfl, hv⟩; rw [hok]; go_wp2_with fail; exact hK.out _ (qB.more hv))
                try simp only [Act.put, List.setIfInBounds_toArray, List.set_cons_zero, List.set_cons_succ])
              refine SeqH.end' rfl ?_
              intro v6 hS
              clear B
              have B := hS; clear hS
              have B_0 := B.cells 0 _ rfl
              have B_1 := B.cells 1 _ rfl
              have B_2 := B.cells 2 _ rfl
              have B_3 := B.cells 3 _ rfl
              have B_4 := B.cells 4 _ rfl
              have B_5 := B.cells 5 _ rfl
              have B_f0 := B.free 0 (by simp)
              have B_f1 := B.free 1 (by simp)
              have B_f2 := B.free 2 (by simp)
              have B_f3 := B.free 3 (by simp)
              have B_f4 := B.free 4 (by simp)
              have B_f5 := B.free 5 (by simp)
              have B_t := B.there
              have hq_c := ((bcell B.below).1 _ _ hb).trans hq
              go_wp2
              go_ret
              exact rpost (by rw [good_no HL.out (by omega) HW.out] <;> rfl) B.below
      · have HE := Lib.hid ((good_end HOK.out (.inl (by omega))).trans (decide_eq_true h10))
        go_wp2
        go_ret
        exact rpost (by rw [HE.out] <;> rfl) HB0
  · have h10' : decide ((10 : Int) < l.length) = true := decide_eq_true (by omega)
    have HE := Lib.hid (show good l = false by unfold good; rw [decide_eq_false h10, Bool.and_false])
    go_enter Try.func13, Try.ntmps13
    go_wp2
    go_ret
    exact rpost (by rw [HE.out] <;> rfl) (Below.refl _ _)
end Go.Proofs.Ytncdkfkihfhcgaa.IPond2
