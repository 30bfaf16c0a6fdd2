/- Ladders: rungUnder, l13Asked, RoomOnRung, SunOnRung. Made by tools/mk_lady.py. -/
import Derived.Test.YtngominkeammiaaLadG
import Derived.Test.YtngominkeammiaaRegn3
import Derived.Lib.MinMax
import Derived.Deep.Cut
import Derived.Deep.CutBlock
import Derived.Deep.CutRange
import Derived.Deep.DeepCutAuto
namespace Go.Proofs.Ytngominkeammiaa.LadY
open Go.RowKit Go.Proofs.Ytngominkeammiaa.Mem Go.Proofs.Ytngominkeammiaa.Base Go.Proofs.Ytngominkeammiaa.Within Go.Proofs.Ytngominkeammiaa.Brine Go.Proofs.Ytngominkeammiaa.Regn Go.Proofs.Ytngominkeammiaa.Boxes Go.Proofs.Ytngominkeammiaa.Keep Go.Proofs.Ytngominkeammiaa.LadP Go.Proofs.Ytngominkeammiaa.LadS Go.Proofs.Ytngominkeammiaa.LadG
open Go.Proofs.Ytngominkeammiaa.SRung hiding RPost rpost
set_option linter.unusedVariables false
set_option linter.unusedSimpArgs false
set_option maxRecDepth 100000
def undV (l : List R) (i a c : Int) : Value := if asked l i a c = true then .tuple #[(l.getD i.toNat zero).val, .bool true] else .tuple #[zero.val, .bool false]
theorem und_no {l : List R} {i a c : Int} (h : asked l i a c = false) : undV l i a c = .tuple #[.agg #[.int .i64 0, .int .i64 0], .bool false] := by unfold undV; rw [h]; rfl
theorem und_yes {l : List R} {i a c : Int} {x : R} (h : asked l i a c = true) (hx : l.getD i.toNat zero = x) : undV l i a c = .tuple #[.agg #[.int .i64 x.f0, .int .i64 x.f1], .bool true] := by unfold undV; rw [if_pos h, hx]; rfl
theorem at_i {l : List R} {i : Int} {k : Nat} {x : R} (e : i = k) (hk : k < l.length) (hx : l[k] = x) : l.getD i.toNat zero = x := by subst e; rw [Int.toNat_natCast, getD_at hk, hx]
theorem okM_okB {a c : Int} (h : IBrine.okM ⟨a, c⟩ = true) : okB a c = true ∧ 0 < a + c := by
  obtain ⟨h1, h2⟩ := IBrine.okM_true h
  have := okB_true h1
  exact ⟨h1, by omega⟩
theorem ask_mass {l : List R} {i a c : Int} (h : IBrine.okM ⟨a, c⟩ = false) : asked l i a c = false := by
  cases hb : okB a c
  · exact ask3 hb
  · exact ask4 (by have := IBrine.okM_false h hb; omega)
theorem least_min (p q : Int) : min p q = least p q := by unfold least; split <;> omega
theorem up_impl (m n : Int) (h0 : 0 ≤ m) (h1 : m ≤ 20000000000000000) (hn : 1 ≤ n) (hn1 : n ≤ 200000000) (w : World) : Calls Try.prog 80 #[.int .i64 m, .int .i64 n] w fun e w' => e = .returned (.int .i64 ((m + n - 1) / n)) ∧ w = w' := by
  have e1 : (m + n - 1).tdiv n = (m + n - 1) / n := Int.tdiv_eq_ediv_of_nonneg (by omega)
  have e2 : (n == 0) = false := by rw [beq_eq_false_iff_ne]; omega
  have e3 : 0 ≤ (m + n - 1) / n := Int.ediv_nonneg (by omega) (by omega)
  have e4 : (m + n - 1) / n ≤ m + n - 1 := Int.ediv_le_self _ (by omega)
  have e5 : IntKind.i64.wrap ((m + n - 1) / n) = (m + n - 1) / n := IntWalk.i64_in _ (by omega)
  clear e3 e4
  go_enter Try.func80, Try.ntmps80
  go_wp2
  go_ret
  exact ⟨rfl, rfl⟩
set_option maxHeartbeats 4000000 in
theorem und_impl (P : Option Addr) (cap : Nat) (l : List R) (i a c : Int) (w : World) (hr : Rd w w.heap.size P (flat l)) (hn : l.length ≤ 1048576) :
    Calls Try.prog 76 #[.slice P l.length cap, .int .i64 i, .agg #[.int .i64 a, .int .i64 c]] w (RPost (undV l i a c) w) := by
  have HR := Lib.hid hr; clear hr
  have q1 : IntKind.i64.wrap ((l.length : Int) - 1) = l.length - 1 := IntWalk.i64_in _ (by omega)
  go_enter Try.func76, Try.ntmps76
  go_upto_region 1 with fail
  have B := (Box.new (Below.refl _ w) [.int .i64 a, .int .i64 c] 32 (g := w.heap.size) rfl).alloc (.cells #[.int .i64 0, .int .i64 0] 54)
  have Z := Box.new (al (Below.refl _ w) (o := (.cells #[.int .i64 a, .int .i64 c] 32))) [.int .i64 0, .int .i64 0] 54 (g := w.heap.size + 1) (by simp only [size_alloc'])
  generalize ((w.alloc (.cells #[.int .i64 a, .int .i64 c] 32)).alloc (.cells #[.int .i64 0, .int .i64 0] 54)) = W1 at B Z ⊢
  have B_0 := B.cells 0 _ rfl
  have B_1 := B.cells 1 _ rfl
  have B_f0 := B.free 0 (by simp)
  have B_f1 := B.free 1 (by simp)
  have B_t := B.there
  have Z_0 := Z.cells 0 _ rfl
  have Z_1 := Z.cells 1 _ rfl
  have Z_f0 := Z.free 0 (by simp)
  have Z_f1 := Z.free 1 (by simp)
  have Z_t := Z.there
  cases hg : good l
  · have HG := Lib.hid hg
    refine wp_region_text (fun w' => Box (w.heap.size) [.int .i64 a, .int .i64 c] w w' ∧ Box (w.heap.size + 1) [.int .i64 0, .int .i64 0] w w') (by kernel_rfl) (by kernel_rfl) ⟨B.drew, Z.drew⟩ ?_
    clear B_0 B_1 B_f0 B_f1 B_t
    clear Z_0 Z_1 Z_f0 Z_f1 Z_t
    iterate 26 (
      apply SeqH.one
      · intro uw K hS hK
        obtain ⟨qB, qZ⟩ := hS
        have qB_0 := qB.cells 0 _ rfl
        have qB_1 := qB.cells 1 _ rfl
        have qZ_0 := qZ.cells 0 _ rfl
        have qZ_1 := qZ.cells 1 _ rfl
        first
          | (go_simp; exact hK.out _ ⟨qB, qZ⟩)
          | (go_simp; go_at_call 19; (with_reducible refine (good_impl P cap l _ (rd_keep HR.out qB.below) hn).mono ?_); rintro e uw1 ⟨rfl, hv⟩; rw [hg]; go_wp2_with fail; exact hK.out _ ⟨qB.more hv, qZ.more hv⟩)
      try simp only [Act.put, List.setIfInBounds_toArray, List.set_cons_zero, List.set_cons_succ])
    refine SeqH.end' rfl ?_
    intro v2 hS
    clear B Z
    obtain ⟨B, Z⟩ := hS
    have B_0 := B.cells 0 _ rfl
    have B_1 := B.cells 1 _ rfl
    have B_f0 := B.free 0 (by simp)
    have B_f1 := B.free 1 (by simp)
    have B_t := B.there
    have Z_0 := Z.cells 0 _ rfl
    have Z_1 := Z.cells 1 _ rfl
    have Z_f0 := Z.free 0 (by simp)
    have Z_f1 := Z.free 1 (by simp)
    have Z_t := Z.there
    have HV := Lib.hid (und_no (ask1 (i := i) (a := a) (b := c) hg))
    go_wp2
    clear B_0 B_1 B_f0 B_f1 B_t
    clear Z_0 Z_1 Z_f0 Z_f1 Z_t
    have B_t3 := B.there
    have Z_t3 := Z.there
    have B' : Box (w.heap.size) [.int .i64 a, .int .i64 c] w _ := ((B.far Z.base (by omega) 0 (.int .i64 0)).far Z.base (by omega) 1 (.int .i64 0))
    have Z' : Box (w.heap.size + 1) [.int .i64 0, .int .i64 0] w _ := ((Z.set 0 (.int .i64 0)).set 1 (.int .i64 0))
    clear B; have B := B'; clear B'
    clear Z; have Z := Z'; clear Z'
    have sz3 : ((v2.setCell ⟨w.heap.size + 1, 0, none⟩ (.int .i64 0)).setCell ⟨w.heap.size + 1, 1, none⟩ (.int .i64 0)).heap.size = v2.heap.size := by simp only [size_set']
    generalize ((v2.setCell ⟨w.heap.size + 1, 0, none⟩ (.int .i64 0)).setCell ⟨w.heap.size + 1, 1, none⟩ (.int .i64 0)) = W3 at B Z sz3 ⊢
    replace sz3 := Lib.hid sz3
    have B_0 := B.cells 0 _ rfl
    have B_1 := B.cells 1 _ rfl
    have B_f0 := B.free 0 (by simp)
    have B_f1 := B.free 1 (by simp)
    have B_t := B.there
    have Z_0 := Z.cells 0 _ rfl
    have Z_1 := Z.cells 1 _ rfl
    have Z_f0 := Z.free 0 (by simp)
    have Z_f1 := Z.free 1 (by simp)
    have Z_t := Z.there
    go_wp2
    exact bodyPost_ret (v := .tuple #[.agg #[.int .i64 0, .int .i64 0], .bool false]) (by simp [results, Try.results76, go_sem, Z_0, Z_1]) rfl (rpost (by rw [HV.out] <;> rfl) Z.below)
  cases hin : inB i 0 ((l.length : Int) - 1)
  · refine wp_region_text (fun w' => Box (w.heap.size) [.int .i64 a, .int .i64 c] w w' ∧ Box (w.heap.size + 1) [.int .i64 0, .int .i64 0] w w') (by kernel_rfl) (by kernel_rfl) ⟨B.drew, Z.drew⟩ ?_
    clear B_0 B_1 B_f0 B_f1 B_t
    clear Z_0 Z_1 Z_f0 Z_f1 Z_t
    iterate 26 (
      apply SeqH.one
      · intro uw K hS hK
        obtain ⟨qB, qZ⟩ := hS
        have qB_0 := qB.cells 0 _ rfl
        have qB_1 := qB.cells 1 _ rfl
        have qZ_0 := qZ.cells 0 _ rfl
        have qZ_1 := qZ.cells 1 _ rfl
        first
          | (go_simp; exact hK.out _ ⟨qB, qZ⟩)
          | (go_simp; go_at_call 19; (with_reducible refine (good_impl P cap l _ (rd_keep HR.out qB.below) hn).mono ?_); rintro e uw1 ⟨rfl, hv⟩; rw [hg]; go_wp2_with fail; exact hK.out _ ⟨qB.more hv, qZ.more hv⟩)
          | (go_simp; go_at_call 61; (with_reducible refine (within_any _ _ _ _).mono ?_); rintro e _ ⟨rfl, rfl⟩; rw [hin]; go_wp2_with fail; exact hK.out _ ⟨qB, qZ⟩)
      try simp only [Act.put, List.setIfInBounds_toArray, List.set_cons_zero, List.set_cons_succ])
    refine SeqH.end' rfl ?_
    intro v4 hS
    clear B Z
    obtain ⟨B, Z⟩ := hS
    have B_0 := B.cells 0 _ rfl
    have B_1 := B.cells 1 _ rfl
    have B_f0 := B.free 0 (by simp)
    have B_f1 := B.free 1 (by simp)
    have B_t := B.there
    have Z_0 := Z.cells 0 _ rfl
    have Z_1 := Z.cells 1 _ rfl
    have Z_f0 := Z.free 0 (by simp)
    have Z_f1 := Z.free 1 (by simp)
    have Z_t := Z.there
    have HV := Lib.hid (und_no (ask2 (a := a) (b := c) hin))
    go_wp2
    clear B_0 B_1 B_f0 B_f1 B_t
    clear Z_0 Z_1 Z_f0 Z_f1 Z_t
    have B_t5 := B.there
    have Z_t5 := Z.there
    have B' : Box (w.heap.size) [.int .i64 a, .int .i64 c] w _ := ((B.far Z.base (by omega) 0 (.int .i64 0)).far Z.base (by omega) 1 (.int .i64 0))
    have Z' : Box (w.heap.size + 1) [.int .i64 0, .int .i64 0] w _ := ((Z.set 0 (.int .i64 0)).set 1 (.int .i64 0))
    clear B; have B := B'; clear B'
    clear Z; have Z := Z'; clear Z'
    have sz5 : ((v4.setCell ⟨w.heap.size + 1, 0, none⟩ (.int .i64 0)).setCell ⟨w.heap.size + 1, 1, none⟩ (.int .i64 0)).heap.size = v4.heap.size := by simp only [size_set']
    generalize ((v4.setCell ⟨w.heap.size + 1, 0, none⟩ (.int .i64 0)).setCell ⟨w.heap.size + 1, 1, none⟩ (.int .i64 0)) = W5 at B Z sz5 ⊢
    replace sz5 := Lib.hid sz5
    have B_0 := B.cells 0 _ rfl
    have B_1 := B.cells 1 _ rfl
    have B_f0 := B.free 0 (by simp)
    have B_f1 := B.free 1 (by simp)
    have B_t := B.there
    have Z_0 := Z.cells 0 _ rfl
    have Z_1 := Z.cells 1 _ rfl
    have Z_f0 := Z.free 0 (by simp)
    have Z_f1 := Z.free 1 (by simp)
    have Z_t := Z.there
    go_wp2
    exact bodyPost_ret (v := .tuple #[.agg #[.int .i64 0, .int .i64 0], .bool false]) (by simp [results, Try.results76, go_sem, Z_0, Z_1]) rfl (rpost (by rw [HV.out] <;> rfl) Z.below)
  have hi := of_inB hin
  obtain ⟨k, hk⟩ : ∃ k : Nat, i = k := ⟨i.toNat, by omega⟩
  subst hk
  have hlt : k < l.length := by omega
  obtain ⟨b, o, rfl, hbl, hc⟩ := HR.out.at (k := k * 2) (by rw [flat_n]; omega)
  obtain ⟨x, hx⟩ : ∃ x, l[k] = x := ⟨_, rfl⟩
  obtain ⟨x0, x1⟩ := cells2 (Below.refl _ w) hbl hc hlt hx
  have HX := Lib.hid hx
  have HG := Lib.hid hg
  have HIN := Lib.hid hin
  have hox := Lib.hid (good_get hg hlt hx)
  have i1 : (k : Int) < l.length := by omega
  clear hx hc hi hg hin
  cases hm : [(⟨a, c⟩ : SBrine.R)].all IBrine.okM
  · have HM := Lib.hid hm
    rw [IBrine.all1] at hm
    have HNO := Lib.hid (ask_mass (l := l) (i := (k : Int)) hm)
    clear hm
    clear B_0 B_1 B_f0 B_f1 B_t
    clear Z_0 Z_1 Z_f0 Z_f1 Z_t
    refine wp_region_rel [8, 9, 10, 11, 12, 13, 14, 15, 16, 17, 18, 19, 20, 21, 22, 23, 24, 25, 26, 27, 28, 29, 30, 31, 32, 33] (fun L f w' => (Box (w.heap.size) [.int .i64 a, .int .i64 c] w w') ∧ (Box (w.heap.size + 1) [.int .i64 0, .int .i64 0] w w') ∧ (L 0 → f 8 = .slice (some ⟨b, o, none⟩) l.length cap) ∧ (L 1 → f 9 = .bool true) ∧ (L 2 → f 10 = .bool false) ∧ (L 3 → f 11 = .bool false) ∧ (L 4 → f 12 = .int .i64 (k : Int)) ∧ (L 5 → f 13 = .slice (some ⟨b, o, none⟩) l.length cap) ∧ (L 6 → f 14 = .int .i64 (l.length : Int)) ∧ (L 7 → f 15 = .int .i64 ((l.length : Int) - 1)) ∧ (L 8 → f 16 = .bool true) ∧ (L 9 → f 17 = .bool false) ∧ (L 10 → f 18 = .bool false) ∧ (L 11 → f 19 = .bool false) ∧ (L 12 → f 20 = .agg #[.int .i64 a, .int .i64 c]) ∧ (L 13 → ∃ g, f 21 = .slice (some ⟨g, 0, none⟩) 1 1 ∧ Box g [.int .i64 a, .int .i64 c] w w') ∧ (L 14 → f 22 = .bool false) ∧ (L 15 → f 23 = .bool true) ∧ (L 16 → f 24 = .bool true) ∧ (L 17 → f 25 = .bool true) ∧ (L 25 → f 33 = .bool true)) (by kernel_rfl) (by kernel_rfl) (by kernel_rfl) (fun f => ⟨B.drew, Z.drew, fun h => h.elim, fun h => h.elim, fun h => h.elim, fun h => h.elim, fun h => h.elim, fun h => h.elim, fun h => h.elim, fun h => h.elim, fun h => h.elim, fun h => h.elim, fun h => h.elim, fun h => h.elim, fun h => h.elim, fun h => h.elim, fun h => h.elim, fun h => h.elim, fun h => h.elim, fun h => h.elim, fun h => h.elim⟩) ?_ ?_
    · apply RelH.op2
      · intro L f u K hN hS hK
        simp only [puts, Act.put, List.setIfInBounds_toArray, List.set_cons_zero, List.set_cons_succ, upd, Nat.reduceEqDiff, ↓reduceIte, if_true, if_false] at hK ⊢
        have HS9 := Lib.hid hS
        obtain ⟨qB, qZ, c0, c1, c2, c3, c4, c5, c6, c7, c8, c9, c10, c11, c12, c13, c14, c15, c16, c17, c25⟩ := hS
        clear c0 c1 c2 c3 c4 c5 c6 c7 c8 c9 c10 c11 c12 c13 c14 c15 c16 c17 c25
        go_simp
        obtain ⟨qB, qZ, c0, c1, c2, c3, c4, c5, c6, c7, c8, c9, c10, c11, c12, c13, c14, c15, c16, c17, c25⟩ := HS9.out
        exact hK.out _ _ ⟨qB, qZ, fun _ => rfl, fun h => c1 (h.resolve_right (by decide)), fun h => c2 (h.resolve_right (by decide)), fun h => c3 (h.resolve_right (by decide)), fun h => c4 (h.resolve_right (by decide)), fun h => c5 (h.resolve_right (by decide)), fun h => c6 (h.resolve_right (by decide)), fun h => c7 (h.resolve_right (by decide)), fun h => c8 (h.resolve_right (by decide)), fun h => c9 (h.resolve_right (by decide)), fun h => c10 (h.resolve_right (by decide)), fun h => c11 (h.resolve_right (by decide)), fun h => c12 (h.resolve_right (by decide)), fun h => c13 (h.resolve_right (by decide)), fun h => c14 (h.resolve_right (by decide)), fun h => c15 (h.resolve_right (by decide)), fun h => c16 (h.resolve_right (by decide)), fun h => c17 (h.resolve_right (by decide)), fun h => c25 (h.resolve_right (by decide))⟩ _ rfl
      apply RelH.op2
      · intro L f u K hN hS hK
        simp only [puts, Act.put, List.setIfInBounds_toArray, List.set_cons_zero, List.set_cons_succ, upd, Nat.reduceEqDiff, ↓reduceIte, if_true, if_false] at hK ⊢
        have HS9 := Lib.hid hS
        obtain ⟨qB, qZ, c0, c1, c2, c3, c4, c5, c6, c7, c8, c9, c10, c11, c12, c13, c14, c15, c16, c17, c25⟩ := hS
        have e0 := c0 (hN.out.2 0 (by decide +kernel))
        have HCON := Lib.hid (good_impl (some ⟨b, o, none⟩) cap l u (rd_keep HR.out qB.below) hn)
        clear c0 c1 c2 c3 c4 c5 c6 c7 c8 c9 c10 c11 c12 c13 c14 c15 c16 c17 c25
        go_simp
        go_at_call 19
        (with_reducible refine HCON.out.mono ?_)
        rintro e uw1 ⟨rfl, hv⟩
        rw [HG.out]
        go_wp2_with fail
        obtain ⟨qB, qZ, c0, c1, c2, c3, c4, c5, c6, c7, c8, c9, c10, c11, c12, c13, c14, c15, c16, c17, c25⟩ := HS9.out
        exact hK.out _ _ ⟨qB.more hv, qZ.more hv, fun h => c0 (h.resolve_right (by decide)), fun _ => rfl, fun h => c2 (h.resolve_right (by decide)), fun h => c3 (h.resolve_right (by decide)), fun h => c4 (h.resolve_right (by decide)), fun h => c5 (h.resolve_right (by decide)), fun h => c6 (h.resolve_right (by decide)), fun h => c7 (h.resolve_right (by decide)), fun h => c8 (h.resolve_right (by decide)), fun h => c9 (h.resolve_right (by decide)), fun h => c10 (h.resolve_right (by decide)), fun h => c11 (h.resolve_right (by decide)), fun h => c12 (h.resolve_right (by decide)), fun h => (let ⟨g, e, X⟩ := (c13 (h.resolve_right (by decide))); ⟨g, e, X.more hv⟩), fun h => c14 (h.resolve_right (by decide)), fun h => c15 (h.resolve_right (by decide)), fun h => c16 (h.resolve_right (by decide)), fun h => c17 (h.resolve_right (by decide)), fun h => c25 (h.resolve_right (by decide))⟩ _ (by simp only [e0] <;> rfl)
      apply RelH.op2
      · intro L f u K hN hS hK
        simp only [puts, Act.put, List.setIfInBounds_toArray, List.set_cons_zero, List.set_cons_succ, upd, Nat.reduceEqDiff, ↓reduceIte, if_true, if_false] at hK ⊢
        have HS9 := Lib.hid hS
        obtain ⟨qB, qZ, c0, c1, c2, c3, c4, c5, c6, c7, c8, c9, c10, c11, c12, c13, c14, c15, c16, c17, c25⟩ := hS
        have e1 := c1 (hN.out.2 1 (by decide +kernel))
        clear c0 c1 c2 c3 c4 c5 c6 c7 c8 c9 c10 c11 c12 c13 c14 c15 c16 c17 c25
        go_simp
        obtain ⟨qB, qZ, c0, c1, c2, c3, c4, c5, c6, c7, c8, c9, c10, c11, c12, c13, c14, c15, c16, c17, c25⟩ := HS9.out
        exact hK.out _ _ ⟨qB, qZ, fun h => c0 (h.resolve_right (by decide)), fun h => c1 (h.resolve_right (by decide)), fun _ => rfl, fun h => c3 (h.resolve_right (by decide)), fun h => c4 (h.resolve_right (by decide)), fun h => c5 (h.resolve_right (by decide)), fun h => c6 (h.resolve_right (by decide)), fun h => c7 (h.resolve_right (by decide)), fun h => c8 (h.resolve_right (by decide)), fun h => c9 (h.resolve_right (by decide)), fun h => c10 (h.resolve_right (by decide)), fun h => c11 (h.resolve_right (by decide)), fun h => c12 (h.resolve_right (by decide)), fun h => c13 (h.resolve_right (by decide)), fun h => c14 (h.resolve_right (by decide)), fun h => c15 (h.resolve_right (by decide)), fun h => c16 (h.resolve_right (by decide)), fun h => c17 (h.resolve_right (by decide)), fun h => c25 (h.resolve_right (by decide))⟩ _ (by simp only [e1] <;> rfl)
      apply RelH.op2
      · intro L f u K hN hS hK
        simp only [puts, Act.put, List.setIfInBounds_toArray, List.set_cons_zero, List.set_cons_succ, upd, Nat.reduceEqDiff, ↓reduceIte, if_true, if_false] at hK ⊢
        have HS9 := Lib.hid hS
        obtain ⟨qB, qZ, c0, c1, c2, c3, c4, c5, c6, c7, c8, c9, c10, c11, c12, c13, c14, c15, c16, c17, c25⟩ := hS
        have e2 := c2 (hN.out.2 2 (by decide +kernel))
        clear c0 c1 c2 c3 c4 c5 c6 c7 c8 c9 c10 c11 c12 c13 c14 c15 c16 c17 c25
        go_simp
        obtain ⟨qB, qZ, c0, c1, c2, c3, c4, c5, c6, c7, c8, c9, c10, c11, c12, c13, c14, c15, c16, c17, c25⟩ := HS9.out
        exact hK.out _ _ ⟨qB, qZ, fun h => c0 (h.resolve_right (by decide)), fun h => c1 (h.resolve_right (by decide)), fun h => c2 (h.resolve_right (by decide)), fun _ => rfl, fun h => c4 (h.resolve_right (by decide)), fun h => c5 (h.resolve_right (by decide)), fun h => c6 (h.resolve_right (by decide)), fun h => c7 (h.resolve_right (by decide)), fun h => c8 (h.resolve_right (by decide)), fun h => c9 (h.resolve_right (by decide)), fun h => c10 (h.resolve_right (by decide)), fun h => c11 (h.resolve_right (by decide)), fun h => c12 (h.resolve_right (by decide)), fun h => c13 (h.resolve_right (by decide)), fun h => c14 (h.resolve_right (by decide)), fun h => c15 (h.resolve_right (by decide)), fun h => c16 (h.resolve_right (by decide)), fun h => c17 (h.resolve_right (by decide)), fun h => c25 (h.resolve_right (by decide))⟩ _ (by simp only [e2] <;> rfl)
      apply RelH.op2
      · intro L f u K hN hS hK
        simp only [puts, Act.put, List.setIfInBounds_toArray, List.set_cons_zero, List.set_cons_succ, upd, Nat.reduceEqDiff, ↓reduceIte, if_true, if_false] at hK ⊢
        have HS9 := Lib.hid hS
        obtain ⟨qB, qZ, c0, c1, c2, c3, c4, c5, c6, c7, c8, c9, c10, c11, c12, c13, c14, c15, c16, c17, c25⟩ := hS
        have e3 := c3 (hN.out.2 3 (by decide +kernel))
        clear c0 c1 c2 c3 c4 c5 c6 c7 c8 c9 c10 c11 c12 c13 c14 c15 c16 c17 c25
        go_simp
        obtain ⟨qB, qZ, c0, c1, c2, c3, c4, c5, c6, c7, c8, c9, c10, c11, c12, c13, c14, c15, c16, c17, c25⟩ := HS9.out
        exact hK.out _ _ ⟨qB, qZ, fun h => c0 (h.resolve_right (by decide)), fun h => c1 (h.resolve_right (by decide)), fun h => c2 (h.resolve_right (by decide)), fun h => c3 (h.resolve_right (by decide)), fun _ => rfl, fun h => c5 (h.resolve_right (by decide)), fun h => c6 (h.resolve_right (by decide)), fun h => c7 (h.resolve_right (by decide)), fun h => c8 (h.resolve_right (by decide)), fun h => c9 (h.resolve_right (by decide)), fun h => c10 (h.resolve_right (by decide)), fun h => c11 (h.resolve_right (by decide)), fun h => c12 (h.resolve_right (by decide)), fun h => c13 (h.resolve_right (by decide)), fun h => c14 (h.resolve_right (by decide)), fun h => c15 (h.resolve_right (by decide)), fun h => c16 (h.resolve_right (by decide)), fun h => c17 (h.resolve_right (by decide)), fun h => c25 (h.resolve_right (by decide))⟩ _ (by simp only [e3] <;> rfl)
      apply RelH.op2
      · intro L f u K hN hS hK
        simp only [puts, Act.put, List.setIfInBounds_toArray, List.set_cons_zero, List.set_cons_succ, upd, Nat.reduceEqDiff, ↓reduceIte, if_true, if_false] at hK ⊢
        have HS9 := Lib.hid hS
        obtain ⟨qB, qZ, c0, c1, c2, c3, c4, c5, c6, c7, c8, c9, c10, c11, c12, c13, c14, c15, c16, c17, c25⟩ := hS
        have e3 := c3 (hN.out.2 3 (by decide +kernel))
        clear c0 c1 c2 c3 c4 c5 c6 c7 c8 c9 c10 c11 c12 c13 c14 c15 c16 c17 c25
        go_simp
        obtain ⟨qB, qZ, c0, c1, c2, c3, c4, c5, c6, c7, c8, c9, c10, c11, c12, c13, c14, c15, c16, c17, c25⟩ := HS9.out
        exact hK.out _ _ ⟨qB, qZ, fun h => c0 (h.resolve_right (by decide)), fun h => c1 (h.resolve_right (by decide)), fun h => c2 (h.resolve_right (by decide)), fun h => c3 (h.resolve_right (by decide)), fun h => c4 (h.resolve_right (by decide)), fun _ => rfl, fun h => c6 (h.resolve_right (by decide)), fun h => c7 (h.resolve_right (by decide)), fun h => c8 (h.resolve_right (by decide)), fun h => c9 (h.resolve_right (by decide)), fun h => c10 (h.resolve_right (by decide)), fun h => c11 (h.resolve_right (by decide)), fun h => c12 (h.resolve_right (by decide)), fun h => c13 (h.resolve_right (by decide)), fun h => c14 (h.resolve_right (by decide)), fun h => c15 (h.resolve_right (by decide)), fun h => c16 (h.resolve_right (by decide)), fun h => c17 (h.resolve_right (by decide)), fun h => c25 (h.resolve_right (by decide))⟩ _ (by simp only [e3] <;> rfl)
      apply RelH.op2
      · intro L f u K hN hS hK
        simp only [puts, Act.put, List.setIfInBounds_toArray, List.set_cons_zero, List.set_cons_succ, upd, Nat.reduceEqDiff, ↓reduceIte, if_true, if_false] at hK ⊢
        have HS9 := Lib.hid hS
        obtain ⟨qB, qZ, c0, c1, c2, c3, c4, c5, c6, c7, c8, c9, c10, c11, c12, c13, c14, c15, c16, c17, c25⟩ := hS
        have e5 := c5 (hN.out.2 5 (by decide +kernel))
        have e3 := c3 (hN.out.2 3 (by decide +kernel))
        clear c0 c1 c2 c3 c4 c5 c6 c7 c8 c9 c10 c11 c12 c13 c14 c15 c16 c17 c25
        go_simp
        obtain ⟨qB, qZ, c0, c1, c2, c3, c4, c5, c6, c7, c8, c9, c10, c11, c12, c13, c14, c15, c16, c17, c25⟩ := HS9.out
        exact hK.out _ _ ⟨qB, qZ, fun h => c0 (h.resolve_right (by decide)), fun h => c1 (h.resolve_right (by decide)), fun h => c2 (h.resolve_right (by decide)), fun h => c3 (h.resolve_right (by decide)), fun h => c4 (h.resolve_right (by decide)), fun h => c5 (h.resolve_right (by decide)), fun _ => rfl, fun h => c7 (h.resolve_right (by decide)), fun h => c8 (h.resolve_right (by decide)), fun h => c9 (h.resolve_right (by decide)), fun h => c10 (h.resolve_right (by decide)), fun h => c11 (h.resolve_right (by decide)), fun h => c12 (h.resolve_right (by decide)), fun h => c13 (h.resolve_right (by decide)), fun h => c14 (h.resolve_right (by decide)), fun h => c15 (h.resolve_right (by decide)), fun h => c16 (h.resolve_right (by decide)), fun h => c17 (h.resolve_right (by decide)), fun h => c25 (h.resolve_right (by decide))⟩ _ (by simp only [e5, e3] <;> rfl)
      apply RelH.op2
      · intro L f u K hN hS hK
        simp only [puts, Act.put, List.setIfInBounds_toArray, List.set_cons_zero, List.set_cons_succ, upd, Nat.reduceEqDiff, ↓reduceIte, if_true, if_false] at hK ⊢
        have HS9 := Lib.hid hS
        obtain ⟨qB, qZ, c0, c1, c2, c3, c4, c5, c6, c7, c8, c9, c10, c11, c12, c13, c14, c15, c16, c17, c25⟩ := hS
        have e6 := c6 (hN.out.2 6 (by decide +kernel))
        have e3 := c3 (hN.out.2 3 (by decide +kernel))
        clear c0 c1 c2 c3 c4 c5 c6 c7 c8 c9 c10 c11 c12 c13 c14 c15 c16 c17 c25
        go_simp
        obtain ⟨qB, qZ, c0, c1, c2, c3, c4, c5, c6, c7, c8, c9, c10, c11, c12, c13, c14, c15, c16, c17, c25⟩ := HS9.out
        exact hK.out _ _ ⟨qB, qZ, fun h => c0 (h.resolve_right (by decide)), fun h => c1 (h.resolve_right (by decide)), fun h => c2 (h.resolve_right (by decide)), fun h => c3 (h.resolve_right (by decide)), fun h => c4 (h.resolve_right (by decide)), fun h => c5 (h.resolve_right (by decide)), fun h => c6 (h.resolve_right (by decide)), fun _ => rfl, fun h => c8 (h.resolve_right (by decide)), fun h => c9 (h.resolve_right (by decide)), fun h => c10 (h.resolve_right (by decide)), fun h => c11 (h.resolve_right (by decide)), fun h => c12 (h.resolve_right (by decide)), fun h => c13 (h.resolve_right (by decide)), fun h => c14 (h.resolve_right (by decide)), fun h => c15 (h.resolve_right (by decide)), fun h => c16 (h.resolve_right (by decide)), fun h => c17 (h.resolve_right (by decide)), fun h => c25 (h.resolve_right (by decide))⟩ _ (by simp only [e6, e3] <;> rfl)
      apply RelH.op2
      · intro L f u K hN hS hK
        simp only [puts, Act.put, List.setIfInBounds_toArray, List.set_cons_zero, List.set_cons_succ, upd, Nat.reduceEqDiff, ↓reduceIte, if_true, if_false] at hK ⊢
        have HS9 := Lib.hid hS
        obtain ⟨qB, qZ, c0, c1, c2, c3, c4, c5, c6, c7, c8, c9, c10, c11, c12, c13, c14, c15, c16, c17, c25⟩ := hS
        have e3 := c3 (hN.out.2 3 (by decide +kernel))
        have e4 := c4 (hN.out.2 4 (by decide +kernel))
        have e7 := c7 (hN.out.2 7 (by decide +kernel))
        have HCON := Lib.hid (within_any (k : Int) 0 ((l.length : Int) - 1) u)
        clear c0 c1 c2 c3 c4 c5 c6 c7 c8 c9 c10 c11 c12 c13 c14 c15 c16 c17 c25
        go_simp
        go_at_call 61
        (with_reducible refine HCON.out.mono ?_)
        rintro e uw1 ⟨rfl, rfl⟩
        rw [HIN.out]
        go_wp2_with fail
        obtain ⟨qB, qZ, c0, c1, c2, c3, c4, c5, c6, c7, c8, c9, c10, c11, c12, c13, c14, c15, c16, c17, c25⟩ := HS9.out
        exact hK.out _ _ ⟨qB, qZ, fun h => c0 (h.resolve_right (by decide)), fun h => c1 (h.resolve_right (by decide)), fun h => c2 (h.resolve_right (by decide)), fun h => c3 (h.resolve_right (by decide)), fun h => c4 (h.resolve_right (by decide)), fun h => c5 (h.resolve_right (by decide)), fun h => c6 (h.resolve_right (by decide)), fun h => c7 (h.resolve_right (by decide)), fun _ => rfl, fun h => c9 (h.resolve_right (by decide)), fun h => c10 (h.resolve_right (by decide)), fun h => c11 (h.resolve_right (by decide)), fun h => c12 (h.resolve_right (by decide)), fun h => c13 (h.resolve_right (by decide)), fun h => c14 (h.resolve_right (by decide)), fun h => c15 (h.resolve_right (by decide)), fun h => c16 (h.resolve_right (by decide)), fun h => c17 (h.resolve_right (by decide)), fun h => c25 (h.resolve_right (by decide))⟩ _ (by simp only [e3, e4, e7] <;> rfl)
      apply RelH.op2
      · intro L f u K hN hS hK
        simp only [puts, Act.put, List.setIfInBounds_toArray, List.set_cons_zero, List.set_cons_succ, upd, Nat.reduceEqDiff, ↓reduceIte, if_true, if_false] at hK ⊢
        have HS9 := Lib.hid hS
        obtain ⟨qB, qZ, c0, c1, c2, c3, c4, c5, c6, c7, c8, c9, c10, c11, c12, c13, c14, c15, c16, c17, c25⟩ := hS
        have e8 := c8 (hN.out.2 8 (by decide +kernel))
        have e3 := c3 (hN.out.2 3 (by decide +kernel))
        clear c0 c1 c2 c3 c4 c5 c6 c7 c8 c9 c10 c11 c12 c13 c14 c15 c16 c17 c25
        go_simp
        obtain ⟨qB, qZ, c0, c1, c2, c3, c4, c5, c6, c7, c8, c9, c10, c11, c12, c13, c14, c15, c16, c17, c25⟩ := HS9.out
        exact hK.out _ _ ⟨qB, qZ, fun h => c0 (h.resolve_right (by decide)), fun h => c1 (h.resolve_right (by decide)), fun h => c2 (h.resolve_right (by decide)), fun h => c3 (h.resolve_right (by decide)), fun h => c4 (h.resolve_right (by decide)), fun h => c5 (h.resolve_right (by decide)), fun h => c6 (h.resolve_right (by decide)), fun h => c7 (h.resolve_right (by decide)), fun h => c8 (h.resolve_right (by decide)), fun _ => rfl, fun h => c10 (h.resolve_right (by decide)), fun h => c11 (h.resolve_right (by decide)), fun h => c12 (h.resolve_right (by decide)), fun h => c13 (h.resolve_right (by decide)), fun h => c14 (h.resolve_right (by decide)), fun h => c15 (h.resolve_right (by decide)), fun h => c16 (h.resolve_right (by decide)), fun h => c17 (h.resolve_right (by decide)), fun h => c25 (h.resolve_right (by decide))⟩ _ (by simp only [e8, e3] <;> rfl)
      apply RelH.op2
      · intro L f u K hN hS hK
        simp only [puts, Act.put, List.setIfInBounds_toArray, List.set_cons_zero, List.set_cons_succ, upd, Nat.reduceEqDiff, ↓reduceIte, if_true, if_false] at hK ⊢
        have HS9 := Lib.hid hS
        obtain ⟨qB, qZ, c0, c1, c2, c3, c4, c5, c6, c7, c8, c9, c10, c11, c12, c13, c14, c15, c16, c17, c25⟩ := hS
        have e3 := c3 (hN.out.2 3 (by decide +kernel))
        have e9 := c9 (hN.out.2 9 (by decide +kernel))
        clear c0 c1 c2 c3 c4 c5 c6 c7 c8 c9 c10 c11 c12 c13 c14 c15 c16 c17 c25
        go_simp
        obtain ⟨qB, qZ, c0, c1, c2, c3, c4, c5, c6, c7, c8, c9, c10, c11, c12, c13, c14, c15, c16, c17, c25⟩ := HS9.out
        exact hK.out _ _ ⟨qB, qZ, fun h => c0 (h.resolve_right (by decide)), fun h => c1 (h.resolve_right (by decide)), fun h => c2 (h.resolve_right (by decide)), fun h => c3 (h.resolve_right (by decide)), fun h => c4 (h.resolve_right (by decide)), fun h => c5 (h.resolve_right (by decide)), fun h => c6 (h.resolve_right (by decide)), fun h => c7 (h.resolve_right (by decide)), fun h => c8 (h.resolve_right (by decide)), fun h => c9 (h.resolve_right (by decide)), fun _ => rfl, fun h => c11 (h.resolve_right (by decide)), fun h => c12 (h.resolve_right (by decide)), fun h => c13 (h.resolve_right (by decide)), fun h => c14 (h.resolve_right (by decide)), fun h => c15 (h.resolve_right (by decide)), fun h => c16 (h.resolve_right (by decide)), fun h => c17 (h.resolve_right (by decide)), fun h => c25 (h.resolve_right (by decide))⟩ _ (by simp only [e3, e9] <;> rfl)
      apply RelH.op2
      · intro L f u K hN hS hK
        simp only [puts, Act.put, List.setIfInBounds_toArray, List.set_cons_zero, List.set_cons_succ, upd, Nat.reduceEqDiff, ↓reduceIte, if_true, if_false] at hK ⊢
        have HS9 := Lib.hid hS
        obtain ⟨qB, qZ, c0, c1, c2, c3, c4, c5, c6, c7, c8, c9, c10, c11, c12, c13, c14, c15, c16, c17, c25⟩ := hS
        have e10 := c10 (hN.out.2 10 (by decide +kernel))
        clear c0 c1 c2 c3 c4 c5 c6 c7 c8 c9 c10 c11 c12 c13 c14 c15 c16 c17 c25
        go_simp
        obtain ⟨qB, qZ, c0, c1, c2, c3, c4, c5, c6, c7, c8, c9, c10, c11, c12, c13, c14, c15, c16, c17, c25⟩ := HS9.out
        exact hK.out _ _ ⟨qB, qZ, fun h => c0 (h.resolve_right (by decide)), fun h => c1 (h.resolve_right (by decide)), fun h => c2 (h.resolve_right (by decide)), fun h => c3 (h.resolve_right (by decide)), fun h => c4 (h.resolve_right (by decide)), fun h => c5 (h.resolve_right (by decide)), fun h => c6 (h.resolve_right (by decide)), fun h => c7 (h.resolve_right (by decide)), fun h => c8 (h.resolve_right (by decide)), fun h => c9 (h.resolve_right (by decide)), fun h => c10 (h.resolve_right (by decide)), fun _ => rfl, fun h => c12 (h.resolve_right (by decide)), fun h => c13 (h.resolve_right (by decide)), fun h => c14 (h.resolve_right (by decide)), fun h => c15 (h.resolve_right (by decide)), fun h => c16 (h.resolve_right (by decide)), fun h => c17 (h.resolve_right (by decide)), fun h => c25 (h.resolve_right (by decide))⟩ _ (by simp only [e10] <;> rfl)
      apply RelH.op2
      · intro L f u K hN hS hK
        simp only [puts, Act.put, List.setIfInBounds_toArray, List.set_cons_zero, List.set_cons_succ, upd, Nat.reduceEqDiff, ↓reduceIte, if_true, if_false] at hK ⊢
        have HS9 := Lib.hid hS
        obtain ⟨qB, qZ, c0, c1, c2, c3, c4, c5, c6, c7, c8, c9, c10, c11, c12, c13, c14, c15, c16, c17, c25⟩ := hS
        have e11 := c11 (hN.out.2 11 (by decide +kernel))
        have qB_0 := qB.cells 0 _ rfl
        have qB_1 := qB.cells 1 _ rfl
        clear c0 c1 c2 c3 c4 c5 c6 c7 c8 c9 c10 c11 c12 c13 c14 c15 c16 c17 c25
        go_simp
        obtain ⟨qB, qZ, c0, c1, c2, c3, c4, c5, c6, c7, c8, c9, c10, c11, c12, c13, c14, c15, c16, c17, c25⟩ := HS9.out
        exact hK.out _ _ ⟨qB, qZ, fun h => c0 (h.resolve_right (by decide)), fun h => c1 (h.resolve_right (by decide)), fun h => c2 (h.resolve_right (by decide)), fun h => c3 (h.resolve_right (by decide)), fun h => c4 (h.resolve_right (by decide)), fun h => c5 (h.resolve_right (by decide)), fun h => c6 (h.resolve_right (by decide)), fun h => c7 (h.resolve_right (by decide)), fun h => c8 (h.resolve_right (by decide)), fun h => c9 (h.resolve_right (by decide)), fun h => c10 (h.resolve_right (by decide)), fun h => c11 (h.resolve_right (by decide)), fun _ => rfl, fun h => c13 (h.resolve_right (by decide)), fun h => c14 (h.resolve_right (by decide)), fun h => c15 (h.resolve_right (by decide)), fun h => c16 (h.resolve_right (by decide)), fun h => c17 (h.resolve_right (by decide)), fun h => c25 (h.resolve_right (by decide))⟩ _ (by simp only [e11] <;> rfl)
      apply RelH.op2
      · intro L f u K hN hS hK
        simp only [puts, Act.put, List.setIfInBounds_toArray, List.set_cons_zero, List.set_cons_succ, upd, Nat.reduceEqDiff, ↓reduceIte, if_true, if_false] at hK ⊢
        have HS9 := Lib.hid hS
        obtain ⟨qB, qZ, c0, c1, c2, c3, c4, c5, c6, c7, c8, c9, c10, c11, c12, c13, c14, c15, c16, c17, c25⟩ := hS
        have e11 := c11 (hN.out.2 11 (by decide +kernel))
        have e12 := c12 (hN.out.2 12 (by decide +kernel))
        have hv : Below u.heap.size u (u.alloc (.cells #[.int .i64 a, .int .i64 c] 32)) := al (Below.refl _ _)
        have hX := Box.new qB.below [.int .i64 a, .int .i64 c] 32 (g := u.heap.size) rfl
        clear c0 c1 c2 c3 c4 c5 c6 c7 c8 c9 c10 c11 c12 c13 c14 c15 c16 c17 c25
        go_simp
        obtain ⟨qB, qZ, c0, c1, c2, c3, c4, c5, c6, c7, c8, c9, c10, c11, c12, c13, c14, c15, c16, c17, c25⟩ := HS9.out
        exact hK.out _ _ ⟨qB.more hv, qZ.more hv, fun h => c0 (h.resolve_right (by decide)), fun h => c1 (h.resolve_right (by decide)), fun h => c2 (h.resolve_right (by decide)), fun h => c3 (h.resolve_right (by decide)), fun h => c4 (h.resolve_right (by decide)), fun h => c5 (h.resolve_right (by decide)), fun h => c6 (h.resolve_right (by decide)), fun h => c7 (h.resolve_right (by decide)), fun h => c8 (h.resolve_right (by decide)), fun h => c9 (h.resolve_right (by decide)), fun h => c10 (h.resolve_right (by decide)), fun h => c11 (h.resolve_right (by decide)), fun h => c12 (h.resolve_right (by decide)), fun _ => ⟨_, rfl, hX⟩, fun h => c14 (h.resolve_right (by decide)), fun h => c15 (h.resolve_right (by decide)), fun h => c16 (h.resolve_right (by decide)), fun h => c17 (h.resolve_right (by decide)), fun h => c25 (h.resolve_right (by decide))⟩ _ (by simp only [e11, e12] <;> rfl)
      apply RelH.op2
      · intro L f u K hN hS hK
        simp only [puts, Act.put, List.setIfInBounds_toArray, List.set_cons_zero, List.set_cons_succ, upd, Nat.reduceEqDiff, ↓reduceIte, if_true, if_false] at hK ⊢
        have HS9 := Lib.hid hS
        obtain ⟨qB, qZ, c0, c1, c2, c3, c4, c5, c6, c7, c8, c9, c10, c11, c12, c13, c14, c15, c16, c17, c25⟩ := hS
        have e11 := c11 (hN.out.2 11 (by decide +kernel))
        obtain ⟨g, e13, X⟩ := c13 (hN.out.2 13 (by decide +kernel))
        have HCON := Lib.hid (IBrine.have_any (some ⟨g, 0, none⟩) 1 [⟨a, c⟩] u X.rd (by simp))
        clear c0 c1 c2 c3 c4 c5 c6 c7 c8 c9 c10 c11 c12 c13 c14 c15 c16 c17 c25
        go_simp
        go_at_call 91
        refine HCON.out.mono ?_
        rintro e uw1 ⟨rfl, hv⟩
        rw [HM.out]
        go_wp2_with fail
        obtain ⟨qB, qZ, c0, c1, c2, c3, c4, c5, c6, c7, c8, c9, c10, c11, c12, c13, c14, c15, c16, c17, c25⟩ := HS9.out
        exact hK.out _ _ ⟨qB.more hv, qZ.more hv, fun h => c0 (h.resolve_right (by decide)), fun h => c1 (h.resolve_right (by decide)), fun h => c2 (h.resolve_right (by decide)), fun h => c3 (h.resolve_right (by decide)), fun h => c4 (h.resolve_right (by decide)), fun h => c5 (h.resolve_right (by decide)), fun h => c6 (h.resolve_right (by decide)), fun h => c7 (h.resolve_right (by decide)), fun h => c8 (h.resolve_right (by decide)), fun h => c9 (h.resolve_right (by decide)), fun h => c10 (h.resolve_right (by decide)), fun h => c11 (h.resolve_right (by decide)), fun h => c12 (h.resolve_right (by decide)), fun h => (let ⟨g, e, X⟩ := (c13 (h.resolve_right (by decide))); ⟨g, e, X.more hv⟩), fun _ => rfl, fun h => c15 (h.resolve_right (by decide)), fun h => c16 (h.resolve_right (by decide)), fun h => c17 (h.resolve_right (by decide)), fun h => c25 (h.resolve_right (by decide))⟩ _ (by simp only [e11, e13] <;> rfl)
      apply RelH.op2
      · intro L f u K hN hS hK
        simp only [puts, Act.put, List.setIfInBounds_toArray, List.set_cons_zero, List.set_cons_succ, upd, Nat.reduceEqDiff, ↓reduceIte, if_true, if_false] at hK ⊢
        have HS9 := Lib.hid hS
        obtain ⟨qB, qZ, c0, c1, c2, c3, c4, c5, c6, c7, c8, c9, c10, c11, c12, c13, c14, c15, c16, c17, c25⟩ := hS
        have e14 := c14 (hN.out.2 14 (by decide +kernel))
        have e11 := c11 (hN.out.2 11 (by decide +kernel))
        clear c0 c1 c2 c3 c4 c5 c6 c7 c8 c9 c10 c11 c12 c13 c14 c15 c16 c17 c25
        go_simp
        obtain ⟨qB, qZ, c0, c1, c2, c3, c4, c5, c6, c7, c8, c9, c10, c11, c12, c13, c14, c15, c16, c17, c25⟩ := HS9.out
        exact hK.out _ _ ⟨qB, qZ, fun h => c0 (h.resolve_right (by decide)), fun h => c1 (h.resolve_right (by decide)), fun h => c2 (h.resolve_right (by decide)), fun h => c3 (h.resolve_right (by decide)), fun h => c4 (h.resolve_right (by decide)), fun h => c5 (h.resolve_right (by decide)), fun h => c6 (h.resolve_right (by decide)), fun h => c7 (h.resolve_right (by decide)), fun h => c8 (h.resolve_right (by decide)), fun h => c9 (h.resolve_right (by decide)), fun h => c10 (h.resolve_right (by decide)), fun h => c11 (h.resolve_right (by decide)), fun h => c12 (h.resolve_right (by decide)), fun h => c13 (h.resolve_right (by decide)), fun h => c14 (h.resolve_right (by decide)), fun _ => rfl, fun h => c16 (h.resolve_right (by decide)), fun h => c17 (h.resolve_right (by decide)), fun h => c25 (h.resolve_right (by decide))⟩ _ (by simp only [e14, e11] <;> rfl)
      apply RelH.op2
      · intro L f u K hN hS hK
        simp only [puts, Act.put, List.setIfInBounds_toArray, List.set_cons_zero, List.set_cons_succ, upd, Nat.reduceEqDiff, ↓reduceIte, if_true, if_false] at hK ⊢
        have HS9 := Lib.hid hS
        obtain ⟨qB, qZ, c0, c1, c2, c3, c4, c5, c6, c7, c8, c9, c10, c11, c12, c13, c14, c15, c16, c17, c25⟩ := hS
        have e11 := c11 (hN.out.2 11 (by decide +kernel))
        have e15 := c15 (hN.out.2 15 (by decide +kernel))
        clear c0 c1 c2 c3 c4 c5 c6 c7 c8 c9 c10 c11 c12 c13 c14 c15 c16 c17 c25
        go_simp
        obtain ⟨qB, qZ, c0, c1, c2, c3, c4, c5, c6, c7, c8, c9, c10, c11, c12, c13, c14, c15, c16, c17, c25⟩ := HS9.out
        exact hK.out _ _ ⟨qB, qZ, fun h => c0 (h.resolve_right (by decide)), fun h => c1 (h.resolve_right (by decide)), fun h => c2 (h.resolve_right (by decide)), fun h => c3 (h.resolve_right (by decide)), fun h => c4 (h.resolve_right (by decide)), fun h => c5 (h.resolve_right (by decide)), fun h => c6 (h.resolve_right (by decide)), fun h => c7 (h.resolve_right (by decide)), fun h => c8 (h.resolve_right (by decide)), fun h => c9 (h.resolve_right (by decide)), fun h => c10 (h.resolve_right (by decide)), fun h => c11 (h.resolve_right (by decide)), fun h => c12 (h.resolve_right (by decide)), fun h => c13 (h.resolve_right (by decide)), fun h => c14 (h.resolve_right (by decide)), fun h => c15 (h.resolve_right (by decide)), fun _ => rfl, fun h => c17 (h.resolve_right (by decide)), fun h => c25 (h.resolve_right (by decide))⟩ _ (by simp only [e11, e15] <;> rfl)
      apply RelH.op2
      · intro L f u K hN hS hK
        simp only [puts, Act.put, List.setIfInBounds_toArray, List.set_cons_zero, List.set_cons_succ, upd, Nat.reduceEqDiff, ↓reduceIte, if_true, if_false] at hK ⊢
        have HS9 := Lib.hid hS
        obtain ⟨qB, qZ, c0, c1, c2, c3, c4, c5, c6, c7, c8, c9, c10, c11, c12, c13, c14, c15, c16, c17, c25⟩ := hS
        have e16 := c16 (hN.out.2 16 (by decide +kernel))
        clear c0 c1 c2 c3 c4 c5 c6 c7 c8 c9 c10 c11 c12 c13 c14 c15 c16 c17 c25
        go_simp
        obtain ⟨qB, qZ, c0, c1, c2, c3, c4, c5, c6, c7, c8, c9, c10, c11, c12, c13, c14, c15, c16, c17, c25⟩ := HS9.out
        exact hK.out _ _ ⟨qB, qZ, fun h => c0 (h.resolve_right (by decide)), fun h => c1 (h.resolve_right (by decide)), fun h => c2 (h.resolve_right (by decide)), fun h => c3 (h.resolve_right (by decide)), fun h => c4 (h.resolve_right (by decide)), fun h => c5 (h.resolve_right (by decide)), fun h => c6 (h.resolve_right (by decide)), fun h => c7 (h.resolve_right (by decide)), fun h => c8 (h.resolve_right (by decide)), fun h => c9 (h.resolve_right (by decide)), fun h => c10 (h.resolve_right (by decide)), fun h => c11 (h.resolve_right (by decide)), fun h => c12 (h.resolve_right (by decide)), fun h => c13 (h.resolve_right (by decide)), fun h => c14 (h.resolve_right (by decide)), fun h => c15 (h.resolve_right (by decide)), fun h => c16 (h.resolve_right (by decide)), fun _ => rfl, fun h => c25 (h.resolve_right (by decide))⟩ _ (by simp only [e16] <;> rfl)
      apply RelH.op2
      · intro L f u K hN hS hK
        simp only [puts, Act.put, List.setIfInBounds_toArray, List.set_cons_zero, List.set_cons_succ, upd, Nat.reduceEqDiff, ↓reduceIte, if_true, if_false] at hK ⊢
        have HS9 := Lib.hid hS
        obtain ⟨qB, qZ, c0, c1, c2, c3, c4, c5, c6, c7, c8, c9, c10, c11, c12, c13, c14, c15, c16, c17, c25⟩ := hS
        have e17 := c17 (hN.out.2 17 (by decide +kernel))
        clear c0 c1 c2 c3 c4 c5 c6 c7 c8 c9 c10 c11 c12 c13 c14 c15 c16 c17 c25
        go_simp
        obtain ⟨qB, qZ, c0, c1, c2, c3, c4, c5, c6, c7, c8, c9, c10, c11, c12, c13, c14, c15, c16, c17, c25⟩ := HS9.out
        exact hK.out _ _ ⟨qB, qZ, fun h => c0 (h.resolve_right (by decide)), fun h => c1 (h.resolve_right (by decide)), fun h => c2 (h.resolve_right (by decide)), fun h => c3 (h.resolve_right (by decide)), fun h => c4 (h.resolve_right (by decide)), fun h => c5 (h.resolve_right (by decide)), fun h => c6 (h.resolve_right (by decide)), fun h => c7 (h.resolve_right (by decide)), fun h => c8 (h.resolve_right (by decide)), fun h => c9 (h.resolve_right (by decide)), fun h => c10 (h.resolve_right (by decide)), fun h => c11 (h.resolve_right (by decide)), fun h => c12 (h.resolve_right (by decide)), fun h => c13 (h.resolve_right (by decide)), fun h => c14 (h.resolve_right (by decide)), fun h => c15 (h.resolve_right (by decide)), fun h => c16 (h.resolve_right (by decide)), fun h => c17 (h.resolve_right (by decide)), fun h => c25 (h.resolve_right (by decide))⟩ _ (by simp only [e17] <;> rfl)
      apply RelH.op2
      · intro L f u K hN hS hK
        simp only [puts, Act.put, List.setIfInBounds_toArray, List.set_cons_zero, List.set_cons_succ, upd, Nat.reduceEqDiff, ↓reduceIte, if_true, if_false] at hK ⊢
        have HS9 := Lib.hid hS
        obtain ⟨qB, qZ, c0, c1, c2, c3, c4, c5, c6, c7, c8, c9, c10, c11, c12, c13, c14, c15, c16, c17, c25⟩ := hS
        have e17 := c17 (hN.out.2 17 (by decide +kernel))
        clear c0 c1 c2 c3 c4 c5 c6 c7 c8 c9 c10 c11 c12 c13 c14 c15 c16 c17 c25
        go_simp
        obtain ⟨qB, qZ, c0, c1, c2, c3, c4, c5, c6, c7, c8, c9, c10, c11, c12, c13, c14, c15, c16, c17, c25⟩ := HS9.out
        exact hK.out _ _ ⟨qB, qZ, fun h => c0 (h.resolve_right (by decide)), fun h => c1 (h.resolve_right (by decide)), fun h => c2 (h.resolve_right (by decide)), fun h => c3 (h.resolve_right (by decide)), fun h => c4 (h.resolve_right (by decide)), fun h => c5 (h.resolve_right (by decide)), fun h => c6 (h.resolve_right (by decide)), fun h => c7 (h.resolve_right (by decide)), fun h => c8 (h.resolve_right (by decide)), fun h => c9 (h.resolve_right (by decide)), fun h => c10 (h.resolve_right (by decide)), fun h => c11 (h.resolve_right (by decide)), fun h => c12 (h.resolve_right (by decide)), fun h => c13 (h.resolve_right (by decide)), fun h => c14 (h.resolve_right (by decide)), fun h => c15 (h.resolve_right (by decide)), fun h => c16 (h.resolve_right (by decide)), fun h => c17 (h.resolve_right (by decide)), fun h => c25 (h.resolve_right (by decide))⟩ _ (by simp only [e17] <;> rfl)
      apply RelH.op2
      · intro L f u K hN hS hK
        simp only [puts, Act.put, List.setIfInBounds_toArray, List.set_cons_zero, List.set_cons_succ, upd, Nat.reduceEqDiff, ↓reduceIte, if_true, if_false] at hK ⊢
        have HS9 := Lib.hid hS
        obtain ⟨qB, qZ, c0, c1, c2, c3, c4, c5, c6, c7, c8, c9, c10, c11, c12, c13, c14, c15, c16, c17, c25⟩ := hS
        have e17 := c17 (hN.out.2 17 (by decide +kernel))
        clear c0 c1 c2 c3 c4 c5 c6 c7 c8 c9 c10 c11 c12 c13 c14 c15 c16 c17 c25
        go_simp
        obtain ⟨qB, qZ, c0, c1, c2, c3, c4, c5, c6, c7, c8, c9, c10, c11, c12, c13, c14, c15, c16, c17, c25⟩ := HS9.out
        exact hK.out _ _ ⟨qB, qZ, fun h => c0 (h.resolve_right (by decide)), fun h => c1 (h.resolve_right (by decide)), fun h => c2 (h.resolve_right (by decide)), fun h => c3 (h.resolve_right (by decide)), fun h => c4 (h.resolve_right (by decide)), fun h => c5 (h.resolve_right (by decide)), fun h => c6 (h.resolve_right (by decide)), fun h => c7 (h.resolve_right (by decide)), fun h => c8 (h.resolve_right (by decide)), fun h => c9 (h.resolve_right (by decide)), fun h => c10 (h.resolve_right (by decide)), fun h => c11 (h.resolve_right (by decide)), fun h => c12 (h.resolve_right (by decide)), fun h => c13 (h.resolve_right (by decide)), fun h => c14 (h.resolve_right (by decide)), fun h => c15 (h.resolve_right (by decide)), fun h => c16 (h.resolve_right (by decide)), fun h => c17 (h.resolve_right (by decide)), fun h => c25 (h.resolve_right (by decide))⟩ _ (by simp only [e17] <;> rfl)
      apply RelH.op2
      · intro L f u K hN hS hK
        simp only [puts, Act.put, List.setIfInBounds_toArray, List.set_cons_zero, List.set_cons_succ, upd, Nat.reduceEqDiff, ↓reduceIte, if_true, if_false] at hK ⊢
        have HS9 := Lib.hid hS
        obtain ⟨qB, qZ, c0, c1, c2, c3, c4, c5, c6, c7, c8, c9, c10, c11, c12, c13, c14, c15, c16, c17, c25⟩ := hS
        have e17 := c17 (hN.out.2 17 (by decide +kernel))
        clear c0 c1 c2 c3 c4 c5 c6 c7 c8 c9 c10 c11 c12 c13 c14 c15 c16 c17 c25
        go_simp
        obtain ⟨qB, qZ, c0, c1, c2, c3, c4, c5, c6, c7, c8, c9, c10, c11, c12, c13, c14, c15, c16, c17, c25⟩ := HS9.out
        exact hK.out _ _ ⟨qB, qZ, fun h => c0 (h.resolve_right (by decide)), fun h => c1 (h.resolve_right (by decide)), fun h => c2 (h.resolve_right (by decide)), fun h => c3 (h.resolve_right (by decide)), fun h => c4 (h.resolve_right (by decide)), fun h => c5 (h.resolve_right (by decide)), fun h => c6 (h.resolve_right (by decide)), fun h => c7 (h.resolve_right (by decide)), fun h => c8 (h.resolve_right (by decide)), fun h => c9 (h.resolve_right (by decide)), fun h => c10 (h.resolve_right (by decide)), fun h => c11 (h.resolve_right (by decide)), fun h => c12 (h.resolve_right (by decide)), fun h => c13 (h.resolve_right (by decide)), fun h => c14 (h.resolve_right (by decide)), fun h => c15 (h.resolve_right (by decide)), fun h => c16 (h.resolve_right (by decide)), fun h => c17 (h.resolve_right (by decide)), fun h => c25 (h.resolve_right (by decide))⟩ _ (by simp only [e17] <;> rfl)
      apply RelH.op2
      · intro L f u K hN hS hK
        simp only [puts, Act.put, List.setIfInBounds_toArray, List.set_cons_zero, List.set_cons_succ, upd, Nat.reduceEqDiff, ↓reduceIte, if_true, if_false] at hK ⊢
        have HS9 := Lib.hid hS
        obtain ⟨qB, qZ, c0, c1, c2, c3, c4, c5, c6, c7, c8, c9, c10, c11, c12, c13, c14, c15, c16, c17, c25⟩ := hS
        have e17 := c17 (hN.out.2 17 (by decide +kernel))
        clear c0 c1 c2 c3 c4 c5 c6 c7 c8 c9 c10 c11 c12 c13 c14 c15 c16 c17 c25
        go_simp
        obtain ⟨qB, qZ, c0, c1, c2, c3, c4, c5, c6, c7, c8, c9, c10, c11, c12, c13, c14, c15, c16, c17, c25⟩ := HS9.out
        exact hK.out _ _ ⟨qB, qZ, fun h => c0 (h.resolve_right (by decide)), fun h => c1 (h.resolve_right (by decide)), fun h => c2 (h.resolve_right (by decide)), fun h => c3 (h.resolve_right (by decide)), fun h => c4 (h.resolve_right (by decide)), fun h => c5 (h.resolve_right (by decide)), fun h => c6 (h.resolve_right (by decide)), fun h => c7 (h.resolve_right (by decide)), fun h => c8 (h.resolve_right (by decide)), fun h => c9 (h.resolve_right (by decide)), fun h => c10 (h.resolve_right (by decide)), fun h => c11 (h.resolve_right (by decide)), fun h => c12 (h.resolve_right (by decide)), fun h => c13 (h.resolve_right (by decide)), fun h => c14 (h.resolve_right (by decide)), fun h => c15 (h.resolve_right (by decide)), fun h => c16 (h.resolve_right (by decide)), fun h => c17 (h.resolve_right (by decide)), fun h => c25 (h.resolve_right (by decide))⟩ _ (by simp only [e17] <;> rfl)
      apply RelH.op2
      · intro L f u K hN hS hK
        simp only [puts, Act.put, List.setIfInBounds_toArray, List.set_cons_zero, List.set_cons_succ, upd, Nat.reduceEqDiff, ↓reduceIte, if_true, if_false] at hK ⊢
        have HS9 := Lib.hid hS
        obtain ⟨qB, qZ, c0, c1, c2, c3, c4, c5, c6, c7, c8, c9, c10, c11, c12, c13, c14, c15, c16, c17, c25⟩ := hS
        have e17 := c17 (hN.out.2 17 (by decide +kernel))
        clear c0 c1 c2 c3 c4 c5 c6 c7 c8 c9 c10 c11 c12 c13 c14 c15 c16 c17 c25
        go_simp
        obtain ⟨qB, qZ, c0, c1, c2, c3, c4, c5, c6, c7, c8, c9, c10, c11, c12, c13, c14, c15, c16, c17, c25⟩ := HS9.out
        exact hK.out _ _ ⟨qB, qZ, fun h => c0 (h.resolve_right (by decide)), fun h => c1 (h.resolve_right (by decide)), fun h => c2 (h.resolve_right (by decide)), fun h => c3 (h.resolve_right (by decide)), fun h => c4 (h.resolve_right (by decide)), fun h => c5 (h.resolve_right (by decide)), fun h => c6 (h.resolve_right (by decide)), fun h => c7 (h.resolve_right (by decide)), fun h => c8 (h.resolve_right (by decide)), fun h => c9 (h.resolve_right (by decide)), fun h => c10 (h.resolve_right (by decide)), fun h => c11 (h.resolve_right (by decide)), fun h => c12 (h.resolve_right (by decide)), fun h => c13 (h.resolve_right (by decide)), fun h => c14 (h.resolve_right (by decide)), fun h => c15 (h.resolve_right (by decide)), fun h => c16 (h.resolve_right (by decide)), fun h => c17 (h.resolve_right (by decide)), fun h => c25 (h.resolve_right (by decide))⟩ _ (by simp only [e17] <;> rfl)
      apply RelH.op2
      · intro L f u K hN hS hK
        simp only [puts, Act.put, List.setIfInBounds_toArray, List.set_cons_zero, List.set_cons_succ, upd, Nat.reduceEqDiff, ↓reduceIte, if_true, if_false] at hK ⊢
        have HS9 := Lib.hid hS
        obtain ⟨qB, qZ, c0, c1, c2, c3, c4, c5, c6, c7, c8, c9, c10, c11, c12, c13, c14, c15, c16, c17, c25⟩ := hS
        have e17 := c17 (hN.out.2 17 (by decide +kernel))
        clear c0 c1 c2 c3 c4 c5 c6 c7 c8 c9 c10 c11 c12 c13 c14 c15 c16 c17 c25
        go_simp
        obtain ⟨qB, qZ, c0, c1, c2, c3, c4, c5, c6, c7, c8, c9, c10, c11, c12, c13, c14, c15, c16, c17, c25⟩ := HS9.out
        exact hK.out _ _ ⟨qB, qZ, fun h => c0 (h.resolve_right (by decide)), fun h => c1 (h.resolve_right (by decide)), fun h => c2 (h.resolve_right (by decide)), fun h => c3 (h.resolve_right (by decide)), fun h => c4 (h.resolve_right (by decide)), fun h => c5 (h.resolve_right (by decide)), fun h => c6 (h.resolve_right (by decide)), fun h => c7 (h.resolve_right (by decide)), fun h => c8 (h.resolve_right (by decide)), fun h => c9 (h.resolve_right (by decide)), fun h => c10 (h.resolve_right (by decide)), fun h => c11 (h.resolve_right (by decide)), fun h => c12 (h.resolve_right (by decide)), fun h => c13 (h.resolve_right (by decide)), fun h => c14 (h.resolve_right (by decide)), fun h => c15 (h.resolve_right (by decide)), fun h => c16 (h.resolve_right (by decide)), fun h => c17 (h.resolve_right (by decide)), fun h => c25 (h.resolve_right (by decide))⟩ _ (by simp only [e17] <;> rfl)
      apply RelH.op2
      · intro L f u K hN hS hK
        simp only [puts, Act.put, List.setIfInBounds_toArray, List.set_cons_zero, List.set_cons_succ, upd, Nat.reduceEqDiff, ↓reduceIte, if_true, if_false] at hK ⊢
        have HS9 := Lib.hid hS
        obtain ⟨qB, qZ, c0, c1, c2, c3, c4, c5, c6, c7, c8, c9, c10, c11, c12, c13, c14, c15, c16, c17, c25⟩ := hS
        have e17 := c17 (hN.out.2 17 (by decide +kernel))
        clear c0 c1 c2 c3 c4 c5 c6 c7 c8 c9 c10 c11 c12 c13 c14 c15 c16 c17 c25
        go_simp
        obtain ⟨qB, qZ, c0, c1, c2, c3, c4, c5, c6, c7, c8, c9, c10, c11, c12, c13, c14, c15, c16, c17, c25⟩ := HS9.out
        exact hK.out _ _ ⟨qB, qZ, fun h => c0 (h.resolve_right (by decide)), fun h => c1 (h.resolve_right (by decide)), fun h => c2 (h.resolve_right (by decide)), fun h => c3 (h.resolve_right (by decide)), fun h => c4 (h.resolve_right (by decide)), fun h => c5 (h.resolve_right (by decide)), fun h => c6 (h.resolve_right (by decide)), fun h => c7 (h.resolve_right (by decide)), fun h => c8 (h.resolve_right (by decide)), fun h => c9 (h.resolve_right (by decide)), fun h => c10 (h.resolve_right (by decide)), fun h => c11 (h.resolve_right (by decide)), fun h => c12 (h.resolve_right (by decide)), fun h => c13 (h.resolve_right (by decide)), fun h => c14 (h.resolve_right (by decide)), fun h => c15 (h.resolve_right (by decide)), fun h => c16 (h.resolve_right (by decide)), fun h => c17 (h.resolve_right (by decide)), fun _ => rfl⟩ _ (by simp only [e17] <;> rfl)
      exact RelH.done
    intro L f V1 hL hS
    simp only [puts, Act.put, List.setIfInBounds_toArray, List.set_cons_zero, List.set_cons_succ]
    obtain ⟨qB, qZ, c0, c1, c2, c3, c4, c5, c6, c7, c8, c9, c10, c11, c12, c13, c14, c15, c16, c17, c25⟩ := hS
    clear B Z
    have B := qB; clear qB
    have Z := qZ; clear qZ
    have e25 := c25 (hL 25 (by decide))
    simp only [e25]
    clear c0 c1 c2 c3 c4 c5 c6 c7 c8 c9 c10 c11 c12 c13 c14 c15 c16 c17 c25 e25 hL
    have B_0 := B.cells 0 _ rfl
    have B_1 := B.cells 1 _ rfl
    have B_f0 := B.free 0 (by simp)
    have B_f1 := B.free 1 (by simp)
    have B_t := B.there
    have Z_0 := Z.cells 0 _ rfl
    have Z_1 := Z.cells 1 _ rfl
    have Z_f0 := Z.free 0 (by simp)
    have Z_f1 := Z.free 1 (by simp)
    have Z_t := Z.there
    have HV := Lib.hid (und_no (HNO.out))
    go_wp2
    clear B_0 B_1 B_f0 B_f1 B_t
    clear Z_0 Z_1 Z_f0 Z_f1 Z_t
    have B_t1 := B.there
    have Z_t1 := Z.there
    have B' : Box (w.heap.size) [.int .i64 a, .int .i64 c] w _ := ((B.far Z.base (by omega) 0 (.int .i64 0)).far Z.base (by omega) 1 (.int .i64 0))
    have Z' : Box (w.heap.size + 1) [.int .i64 0, .int .i64 0] w _ := ((Z.set 0 (.int .i64 0)).set 1 (.int .i64 0))
    clear B; have B := B'; clear B'
    clear Z; have Z := Z'; clear Z'
    have sz1 : ((V1.setCell ⟨w.heap.size + 1, 0, none⟩ (.int .i64 0)).setCell ⟨w.heap.size + 1, 1, none⟩ (.int .i64 0)).heap.size = V1.heap.size := by simp only [size_set']
    generalize ((V1.setCell ⟨w.heap.size + 1, 0, none⟩ (.int .i64 0)).setCell ⟨w.heap.size + 1, 1, none⟩ (.int .i64 0)) = W1 at B Z sz1 ⊢
    replace sz1 := Lib.hid sz1
    have B_0 := B.cells 0 _ rfl
    have B_1 := B.cells 1 _ rfl
    have B_f0 := B.free 0 (by simp)
    have B_f1 := B.free 1 (by simp)
    have B_t := B.there
    have Z_0 := Z.cells 0 _ rfl
    have Z_1 := Z.cells 1 _ rfl
    have Z_f0 := Z.free 0 (by simp)
    have Z_f1 := Z.free 1 (by simp)
    have Z_t := Z.there
    go_wp2
    exact bodyPost_ret (v := .tuple #[.agg #[.int .i64 0, .int .i64 0], .bool false]) (by simp [results, Try.results76, go_sem, Z_0, Z_1]) rfl (rpost (by rw [HV.out] <;> rfl) Z.below)
  have HM := Lib.hid hm
  rw [IBrine.all1] at hm
  have HMS := Lib.hid (okM_okB hm)
  clear hm
  obtain ⟨q, hq⟩ : ∃ q, st x a c = q := ⟨_, rfl⟩
  have HST := Lib.hid (fun u => show Calls Try.prog 67 #[.agg #[.int .i64 a, .int .i64 c], .agg #[.int .i64 x.f0, .int .i64 x.f1]] u (RPost (.bool q) u) by rw [← hq]; exact st_impl x a c hox.out HMS.out.1 u)
  have HQ := Lib.hid hq; clear hq
  clear B_0 B_1 B_f0 B_f1 B_t
  clear Z_0 Z_1 Z_f0 Z_f1 Z_t
  refine wp_region_rel [8, 9, 10, 11, 12, 13, 14, 15, 16, 17, 18, 19, 20, 21, 22, 23, 24, 25, 26, 27, 28, 29, 30, 31, 32, 33] (fun L f w' => (Box (w.heap.size) [.int .i64 a, .int .i64 c] w w') ∧ (Box (w.heap.size + 1) [.int .i64 0, .int .i64 0] w w') ∧ (L 0 → f 8 = .slice (some ⟨b, o, none⟩) l.length cap) ∧ (L 1 → f 9 = .bool true) ∧ (L 2 → f 10 = .bool false) ∧ (L 3 → f 11 = .bool false) ∧ (L 4 → f 12 = .int .i64 (k : Int)) ∧ (L 5 → f 13 = .slice (some ⟨b, o, none⟩) l.length cap) ∧ (L 6 → f 14 = .int .i64 (l.length : Int)) ∧ (L 7 → f 15 = .int .i64 ((l.length : Int) - 1)) ∧ (L 8 → f 16 = .bool true) ∧ (L 9 → f 17 = .bool false) ∧ (L 10 → f 18 = .bool false) ∧ (L 11 → f 19 = .bool false) ∧ (L 12 → f 20 = .agg #[.int .i64 a, .int .i64 c]) ∧ (L 13 → ∃ g, f 21 = .slice (some ⟨g, 0, none⟩) 1 1 ∧ Box g [.int .i64 a, .int .i64 c] w w') ∧ (L 14 → f 22 = .bool true) ∧ (L 15 → f 23 = .bool false) ∧ (L 16 → f 24 = .bool false) ∧ (L 17 → f 25 = .bool false) ∧ (L 18 → f 26 = .agg #[.int .i64 a, .int .i64 c]) ∧ (L 19 → f 27 = .slice (some ⟨b, o, none⟩) l.length cap) ∧ (L 20 → f 28 = .int .i64 (k : Int)) ∧ (L 21 → f 29 = .pointer (some ⟨b, o + k * 2, none⟩)) ∧ (L 22 → f 30 = .agg #[.int .i64 x.f0, .int .i64 x.f1]) ∧ (L 23 → f 31 = .bool q) ∧ (L 24 → f 32 = .bool (!q)) ∧ (L 25 → f 33 = .bool (!q))) (by kernel_rfl) (by kernel_rfl) (by kernel_rfl) (fun f => ⟨B.drew, Z.drew, fun h => h.elim, fun h => h.elim, fun h => h.elim, fun h => h.elim, fun h => h.elim, fun h => h.elim, fun h => h.elim, fun h => h.elim, fun h => h.elim, fun h => h.elim, fun h => h.elim, fun h => h.elim, fun h => h.elim, fun h => h.elim, fun h => h.elim, fun h => h.elim, fun h => h.elim, fun h => h.elim, fun h => h.elim, fun h => h.elim, fun h => h.elim, fun h => h.elim, fun h => h.elim, fun h => h.elim, fun h => h.elim, fun h => h.elim⟩) ?_ ?_
  · apply RelH.op2
    · intro L f u K hN hS hK
      simp only [puts, Act.put, List.setIfInBounds_toArray, List.set_cons_zero, List.set_cons_succ, upd, Nat.reduceEqDiff, ↓reduceIte, if_true, if_false] at hK ⊢
      have HS9 := Lib.hid hS
      obtain ⟨qB, qZ, c0, c1, c2, c3, c4, c5, c6, c7, c8, c9, c10, c11, c12, c13, c14, c15, c16, c17, c18, c19, c20, c21, c22, c23, c24, c25⟩ := hS
      clear c0 c1 c2 c3 c4 c5 c6 c7 c8 c9 c10 c11 c12 c13 c14 c15 c16 c17 c18 c19 c20 c21 c22 c23 c24 c25
      go_simp
      obtain ⟨qB, qZ, c0, c1, c2, c3, c4, c5, c6, c7, c8, c9, c10, c11, c12, c13, c14, c15, c16, c17, c18, c19, c20, c21, c22, c23, c24, c25⟩ := HS9.out
      exact hK.out _ _ ⟨qB, qZ, fun _ => rfl, fun h => c1 (h.resolve_right (by decide)), fun h => c2 (h.resolve_right (by decide)), fun h => c3 (h.resolve_right (by decide)), fun h => c4 (h.resolve_right (by decide)), fun h => c5 (h.resolve_right (by decide)), fun h => c6 (h.resolve_right (by decide)), fun h => c7 (h.resolve_right (by decide)), fun h => c8 (h.resolve_right (by decide)), fun h => c9 (h.resolve_right (by decide)), fun h => c10 (h.resolve_right (by decide)), fun h => c11 (h.resolve_right (by decide)), fun h => c12 (h.resolve_right (by decide)), fun h => c13 (h.resolve_right (by decide)), fun h => c14 (h.resolve_right (by decide)), fun h => c15 (h.resolve_right (by decide)), fun h => c16 (h.resolve_right (by decide)), fun h => c17 (h.resolve_right (by decide)), fun h => c18 (h.resolve_right (by decide)), fun h => c19 (h.resolve_right (by decide)), fun h => c20 (h.resolve_right (by decide)), fun h => c21 (h.resolve_right (by decide)), fun h => c22 (h.resolve_right (by decide)), fun h => c23 (h.resolve_right (by decide)), fun h => c24 (h.resolve_right (by decide)), fun h => c25 (h.resolve_right (by decide))⟩ _ rfl
    apply RelH.op2
    · intro L f u K hN hS hK
      simp only [puts, Act.put, List.setIfInBounds_toArray, List.set_cons_zero, List.set_cons_succ, upd, Nat.reduceEqDiff, ↓reduceIte, if_true, if_false] at hK ⊢
      have HS9 := Lib.hid hS
      obtain ⟨qB, qZ, c0, c1, c2, c3, c4, c5, c6, c7, c8, c9, c10, c11, c12, c13, c14, c15, c16, c17, c18, c19, c20, c21, c22, c23, c24, c25⟩ := hS
      have e0 := c0 (hN.out.2 0 (by decide +kernel))
      have HCON := Lib.hid (good_impl (some ⟨b, o, none⟩) cap l u (rd_keep HR.out qB.below) hn)
      clear c0 c1 c2 c3 c4 c5 c6 c7 c8 c9 c10 c11 c12 c13 c14 c15 c16 c17 c18 c19 c20 c21 c22 c23 c24 c25
      go_simp
      go_at_call 19
      (with_reducible refine HCON.out.mono ?_)
      rintro e uw1 ⟨rfl, hv⟩
      rw [HG.out]
      go_wp2_with fail
      obtain ⟨qB, qZ, c0, c1, c2, c3, c4, c5, c6, c7, c8, c9, c10, c11, c12, c13, c14, c15, c16, c17, c18, c19, c20, c21, c22, c23, c24, c25⟩ := HS9.out
      exact hK.out _ _ ⟨qB.more hv, qZ.more hv, fun h => c0 (h.resolve_right (by decide)), fun _ => rfl, fun h => c2 (h.resolve_right (by decide)), fun h => c3 (h.resolve_right (by decide)), fun h => c4 (h.resolve_right (by decide)), fun h => c5 (h.resolve_right (by decide)), fun h => c6 (h.resolve_right (by decide)), fun h => c7 (h.resolve_right (by decide)), fun h => c8 (h.resolve_right (by decide)), fun h => c9 (h.resolve_right (by decide)), fun h => c10 (h.resolve_right (by decide)), fun h => c11 (h.resolve_right (by decide)), fun h => c12 (h.resolve_right (by decide)), fun h => (let ⟨g, e, X⟩ := (c13 (h.resolve_right (by decide))); ⟨g, e, X.more hv⟩), fun h => c14 (h.resolve_right (by decide)), fun h => c15 (h.resolve_right (by decide)), fun h => c16 (h.resolve_right (by decide)), fun h => c17 (h.resolve_right (by decide)), fun h => c18 (h.resolve_right (by decide)), fun h => c19 (h.resolve_right (by decide)), fun h => c20 (h.resolve_right (by decide)), fun h => c21 (h.resolve_right (by decide)), fun h => c22 (h.resolve_right (by decide)), fun h => c23 (h.resolve_right (by decide)), fun h => c24 (h.resolve_right (by decide)), fun h => c25 (h.resolve_right (by decide))⟩ _ (by simp only [e0] <;> rfl)
    apply RelH.op2
    · intro L f u K hN hS hK
      simp only [puts, Act.put, List.setIfInBounds_toArray, List.set_cons_zero, List.set_cons_succ, upd, Nat.reduceEqDiff, ↓reduceIte, if_true, if_false] at hK ⊢
      have HS9 := Lib.hid hS
      obtain ⟨qB, qZ, c0, c1, c2, c3, c4, c5, c6, c7, c8, c9, c10, c11, c12, c13, c14, c15, c16, c17, c18, c19, c20, c21, c22, c23, c24, c25⟩ := hS
      have e1 := c1 (hN.out.2 1 (by decide +kernel))
      clear c0 c1 c2 c3 c4 c5 c6 c7 c8 c9 c10 c11 c12 c13 c14 c15 c16 c17 c18 c19 c20 c21 c22 c23 c24 c25
      go_simp
      obtain ⟨qB, qZ, c0, c1, c2, c3, c4, c5, c6, c7, c8, c9, c10, c11, c12, c13, c14, c15, c16, c17, c18, c19, c20, c21, c22, c23, c24, c25⟩ := HS9.out
      exact hK.out _ _ ⟨qB, qZ, fun h => c0 (h.resolve_right (by decide)), fun h => c1 (h.resolve_right (by decide)), fun _ => rfl, fun h => c3 (h.resolve_right (by decide)), fun h => c4 (h.resolve_right (by decide)), fun h => c5 (h.resolve_right (by decide)), fun h => c6 (h.resolve_right (by decide)), fun h => c7 (h.resolve_right (by decide)), fun h => c8 (h.resolve_right (by decide)), fun h => c9 (h.resolve_right (by decide)), fun h => c10 (h.resolve_right (by decide)), fun h => c11 (h.resolve_right (by decide)), fun h => c12 (h.resolve_right (by decide)), fun h => c13 (h.resolve_right (by decide)), fun h => c14 (h.resolve_right (by decide)), fun h => c15 (h.resolve_right (by decide)), fun h => c16 (h.resolve_right (by decide)), fun h => c17 (h.resolve_right (by decide)), fun h => c18 (h.resolve_right (by decide)), fun h => c19 (h.resolve_right (by decide)), fun h => c20 (h.resolve_right (by decide)), fun h => c21 (h.resolve_right (by decide)), fun h => c22 (h.resolve_right (by decide)), fun h => c23 (h.resolve_right (by decide)), fun h => c24 (h.resolve_right (by decide)), fun h => c25 (h.resolve_right (by decide))⟩ _ (by simp only [e1] <;> rfl)
    apply RelH.op2
    · intro L f u K hN hS hK
      simp only [puts, Act.put, List.setIfInBounds_toArray, List.set_cons_zero, List.set_cons_succ, upd, Nat.reduceEqDiff, ↓reduceIte, if_true, if_false] at hK ⊢
      have HS9 := Lib.hid hS
      obtain ⟨qB, qZ, c0, c1, c2, c3, c4, c5, c6, c7, c8, c9, c10, c11, c12, c13, c14, c15, c16, c17, c18, c19, c20, c21, c22, c23, c24, c25⟩ := hS
      have e2 := c2 (hN.out.2 2 (by decide +kernel))
      clear c0 c1 c2 c3 c4 c5 c6 c7 c8 c9 c10 c11 c12 c13 c14 c15 c16 c17 c18 c19 c20 c21 c22 c23 c24 c25
      go_simp
      obtain ⟨qB, qZ, c0, c1, c2, c3, c4, c5, c6, c7, c8, c9, c10, c11, c12, c13, c14, c15, c16, c17, c18, c19, c20, c21, c22, c23, c24, c25⟩ := HS9.out
      exact hK.out _ _ ⟨qB, qZ, fun h => c0 (h.resolve_right (by decide)), fun h => c1 (h.resolve_right (by decide)), fun h => c2 (h.resolve_right (by decide)), fun _ => rfl, fun h => c4 (h.resolve_right (by decide)), fun h => c5 (h.resolve_right (by decide)), fun h => c6 (h.resolve_right (by decide)), fun h => c7 (h.resolve_right (by decide)), fun h => c8 (h.resolve_right (by decide)), fun h => c9 (h.resolve_right (by decide)), fun h => c10 (h.resolve_right (by decide)), fun h => c11 (h.resolve_right (by decide)), fun h => c12 (h.resolve_right (by decide)), fun h => c13 (h.resolve_right (by decide)), fun h => c14 (h.resolve_right (by decide)), fun h => c15 (h.resolve_right (by decide)), fun h => c16 (h.resolve_right (by decide)), fun h => c17 (h.resolve_right (by decide)), fun h => c18 (h.resolve_right (by decide)), fun h => c19 (h.resolve_right (by decide)), fun h => c20 (h.resolve_right (by decide)), fun h => c21 (h.resolve_right (by decide)), fun h => c22 (h.resolve_right (by decide)), fun h => c23 (h.resolve_right (by decide)), fun h => c24 (h.resolve_right (by decide)), fun h => c25 (h.resolve_right (by decide))⟩ _ (by simp only [e2] <;> rfl)
    apply RelH.op2
    · intro L f u K hN hS hK
      simp only [puts, Act.put, List.setIfInBounds_toArray, List.set_cons_zero, List.set_cons_succ, upd, Nat.reduceEqDiff, ↓reduceIte, if_true, if_false] at hK ⊢
      have HS9 := Lib.hid hS
      obtain ⟨qB, qZ, c0, c1, c2, c3, c4, c5, c6, c7, c8, c9, c10, c11, c12, c13, c14, c15, c16, c17, c18, c19, c20, c21, c22, c23, c24, c25⟩ := hS
      have e3 := c3 (hN.out.2 3 (by decide +kernel))
      clear c0 c1 c2 c3 c4 c5 c6 c7 c8 c9 c10 c11 c12 c13 c14 c15 c16 c17 c18 c19 c20 c21 c22 c23 c24 c25
      go_simp
      obtain ⟨qB, qZ, c0, c1, c2, c3, c4, c5, c6, c7, c8, c9, c10, c11, c12, c13, c14, c15, c16, c17, c18, c19, c20, c21, c22, c23, c24, c25⟩ := HS9.out
      exact hK.out _ _ ⟨qB, qZ, fun h => c0 (h.resolve_right (by decide)), fun h => c1 (h.resolve_right (by decide)), fun h => c2 (h.resolve_right (by decide)), fun h => c3 (h.resolve_right (by decide)), fun _ => rfl, fun h => c5 (h.resolve_right (by decide)), fun h => c6 (h.resolve_right (by decide)), fun h => c7 (h.resolve_right (by decide)), fun h => c8 (h.resolve_right (by decide)), fun h => c9 (h.resolve_right (by decide)), fun h => c10 (h.resolve_right (by decide)), fun h => c11 (h.resolve_right (by decide)), fun h => c12 (h.resolve_right (by decide)), fun h => c13 (h.resolve_right (by decide)), fun h => c14 (h.resolve_right (by decide)), fun h => c15 (h.resolve_right (by decide)), fun h => c16 (h.resolve_right (by decide)), fun h => c17 (h.resolve_right (by decide)), fun h => c18 (h.resolve_right (by decide)), fun h => c19 (h.resolve_right (by decide)), fun h => c20 (h.resolve_right (by decide)), fun h => c21 (h.resolve_right (by decide)), fun h => c22 (h.resolve_right (by decide)), fun h => c23 (h.resolve_right (by decide)), fun h => c24 (h.resolve_right (by decide)), fun h => c25 (h.resolve_right (by decide))⟩ _ (by simp only [e3] <;> rfl)
    apply RelH.op2
    · intro L f u K hN hS hK
      simp only [puts, Act.put, List.setIfInBounds_toArray, List.set_cons_zero, List.set_cons_succ, upd, Nat.reduceEqDiff, ↓reduceIte, if_true, if_false] at hK ⊢
      have HS9 := Lib.hid hS
      obtain ⟨qB, qZ, c0, c1, c2, c3, c4, c5, c6, c7, c8, c9, c10, c11, c12, c13, c14, c15, c16, c17, c18, c19, c20, c21, c22, c23, c24, c25⟩ := hS
      have e3 := c3 (hN.out.2 3 (by decide +kernel))
      clear c0 c1 c2 c3 c4 c5 c6 c7 c8 c9 c10 c11 c12 c13 c14 c15 c16 c17 c18 c19 c20 c21 c22 c23 c24 c25
      go_simp
      obtain ⟨qB, qZ, c0, c1, c2, c3, c4, c5, c6, c7, c8, c9, c10, c11, c12, c13, c14, c15, c16, c17, c18, c19, c20, c21, c22, c23, c24, c25⟩ := HS9.out
      exact hK.out _ _ ⟨qB, qZ, fun h => c0 (h.resolve_right (by decide)), fun h => c1 (h.resolve_right (by decide)), fun h => c2 (h.resolve_right (by decide)), fun h => c3 (h.resolve_right (by decide)), fun h => c4 (h.resolve_right (by decide)), fun _ => rfl, fun h => c6 (h.resolve_right (by decide)), fun h => c7 (h.resolve_right (by decide)), fun h => c8 (h.resolve_right (by decide)), fun h => c9 (h.resolve_right (by decide)), fun h => c10 (h.resolve_right (by decide)), fun h => c11 (h.resolve_right (by decide)), fun h => c12 (h.resolve_right (by decide)), fun h => c13 (h.resolve_right (by decide)), fun h => c14 (h.resolve_right (by decide)), fun h => c15 (h.resolve_right (by decide)), fun h => c16 (h.resolve_right (by decide)), fun h => c17 (h.resolve_right (by decide)), fun h => c18 (h.resolve_right (by decide)), fun h => c19 (h.resolve_right (by decide)), fun h => c20 (h.resolve_right (by decide)), fun h => c21 (h.resolve_right (by decide)), fun h => c22 (h.resolve_right (by decide)), fun h => c23 (h.resolve_right (by decide)), fun h => c24 (h.resolve_right (by decide)), fun h => c25 (h.resolve_right (by decide))⟩ _ (by simp only [e3] <;> rfl)
    apply RelH.op2
    · intro L f u K hN hS hK
      simp only [puts, Act.put, List.setIfInBounds_toArray, List.set_cons_zero, List.set_cons_succ, upd, Nat.reduceEqDiff, ↓reduceIte, if_true, if_false] at hK ⊢
      have HS9 := Lib.hid hS
      obtain ⟨qB, qZ, c0, c1, c2, c3, c4, c5, c6, c7, c8, c9, c10, c11, c12, c13, c14, c15, c16, c17, c18, c19, c20, c21, c22, c23, c24, c25⟩ := hS
      have e5 := c5 (hN.out.2 5 (by decide +kernel))
      have e3 := c3 (hN.out.2 3 (by decide +kernel))
      clear c0 c1 c2 c3 c4 c5 c6 c7 c8 c9 c10 c11 c12 c13 c14 c15 c16 c17 c18 c19 c20 c21 c22 c23 c24 c25
      go_simp
      obtain ⟨qB, qZ, c0, c1, c2, c3, c4, c5, c6, c7, c8, c9, c10, c11, c12, c13, c14, c15, c16, c17, c18, c19, c20, c21, c22, c23, c24, c25⟩ := HS9.out
      exact hK.out _ _ ⟨qB, qZ, fun h => c0 (h.resolve_right (by decide)), fun h => c1 (h.resolve_right (by decide)), fun h => c2 (h.resolve_right (by decide)), fun h => c3 (h.resolve_right (by decide)), fun h => c4 (h.resolve_right (by decide)), fun h => c5 (h.resolve_right (by decide)), fun _ => rfl, fun h => c7 (h.resolve_right (by decide)), fun h => c8 (h.resolve_right (by decide)), fun h => c9 (h.resolve_right (by decide)), fun h => c10 (h.resolve_right (by decide)), fun h => c11 (h.resolve_right (by decide)), fun h => c12 (h.resolve_right (by decide)), fun h => c13 (h.resolve_right (by decide)), fun h => c14 (h.resolve_right (by decide)), fun h => c15 (h.resolve_right (by decide)), fun h => c16 (h.resolve_right (by decide)), fun h => c17 (h.resolve_right (by decide)), fun h => c18 (h.resolve_right (by decide)), fun h => c19 (h.resolve_right (by decide)), fun h => c20 (h.resolve_right (by decide)), fun h => c21 (h.resolve_right (by decide)), fun h => c22 (h.resolve_right (by decide)), fun h => c23 (h.resolve_right (by decide)), fun h => c24 (h.resolve_right (by decide)), fun h => c25 (h.resolve_right (by decide))⟩ _ (by simp only [e5, e3] <;> rfl)
    apply RelH.op2
    · intro L f u K hN hS hK
      simp only [puts, Act.put, List.setIfInBounds_toArray, List.set_cons_zero, List.set_cons_succ, upd, Nat.reduceEqDiff, ↓reduceIte, if_true, if_false] at hK ⊢
      have HS9 := Lib.hid hS
      obtain ⟨qB, qZ, c0, c1, c2, c3, c4, c5, c6, c7, c8, c9, c10, c11, c12, c13, c14, c15, c16, c17, c18, c19, c20, c21, c22, c23, c24, c25⟩ := hS
      have e6 := c6 (hN.out.2 6 (by decide +kernel))
      have e3 := c3 (hN.out.2 3 (by decide +kernel))
      clear c0 c1 c2 c3 c4 c5 c6 c7 c8 c9 c10 c11 c12 c13 c14 c15 c16 c17 c18 c19 c20 c21 c22 c23 c24 c25
      go_simp
      obtain ⟨qB, qZ, c0, c1, c2, c3, c4, c5, c6, c7, c8, c9, c10, c11, c12, c13, c14, c15, c16, c17, c18, c19, c20, c21, c22, c23, c24, c25⟩ := HS9.out
      exact hK.out _ _ ⟨qB, qZ, fun h => c0 (h.resolve_right (by decide)), fun h => c1 (h.resolve_right (by decide)), fun h => c2 (h.resolve_right (by decide)), fun h => c3 (h.resolve_right (by decide)), fun h => c4 (h.resolve_right (by decide)), fun h => c5 (h.resolve_right (by decide)), fun h => c6 (h.resolve_right (by decide)), fun _ => rfl, fun h => c8 (h.resolve_right (by decide)), fun h => c9 (h.resolve_right (by decide)), fun h => c10 (h.resolve_right (by decide)), fun h => c11 (h.resolve_right (by decide)), fun h => c12 (h.resolve_right (by decide)), fun h => c13 (h.resolve_right (by decide)), fun h => c14 (h.resolve_right (by decide)), fun h => c15 (h.resolve_right (by decide)), fun h => c16 (h.resolve_right (by decide)), fun h => c17 (h.resolve_right (by decide)), fun h => c18 (h.resolve_right (by decide)), fun h => c19 (h.resolve_right (by decide)), fun h => c20 (h.resolve_right (by decide)), fun h => c21 (h.resolve_right (by decide)), fun h => c22 (h.resolve_right (by decide)), fun h => c23 (h.resolve_right (by decide)), fun h => c24 (h.resolve_right (by decide)), fun h => c25 (h.resolve_right (by decide))⟩ _ (by simp only [e6, e3] <;> rfl)
    apply RelH.op2
    · intro L f u K hN hS hK
      simp only [puts, Act.put, List.setIfInBounds_toArray, List.set_cons_zero, List.set_cons_succ, upd, Nat.reduceEqDiff, ↓reduceIte, if_true, if_false] at hK ⊢
      have HS9 := Lib.hid hS
      obtain ⟨qB, qZ, c0, c1, c2, c3, c4, c5, c6, c7, c8, c9, c10, c11, c12, c13, c14, c15, c16, c17, c18, c19, c20, c21, c22, c23, c24, c25⟩ := hS
      have e3 := c3 (hN.out.2 3 (by decide +kernel))
      have e4 := c4 (hN.out.2 4 (by decide +kernel))
      have e7 := c7 (hN.out.2 7 (by decide +kernel))
      have HCON := Lib.hid (within_any (k : Int) 0 ((l.length : Int) - 1) u)
      clear c0 c1 c2 c3 c4 c5 c6 c7 c8 c9 c10 c11 c12 c13 c14 c15 c16 c17 c18 c19 c20 c21 c22 c23 c24 c25
      go_simp
      go_at_call 61
      (with_reducible refine HCON.out.mono ?_)
      rintro e uw1 ⟨rfl, rfl⟩
      rw [HIN.out]
      go_wp2_with fail
      obtain ⟨qB, qZ, c0, c1, c2, c3, c4, c5, c6, c7, c8, c9, c10, c11, c12, c13, c14, c15, c16, c17, c18, c19, c20, c21, c22, c23, c24, c25⟩ := HS9.out
      exact hK.out _ _ ⟨qB, qZ, fun h => c0 (h.resolve_right (by decide)), fun h => c1 (h.resolve_right (by decide)), fun h => c2 (h.resolve_right (by decide)), fun h => c3 (h.resolve_right (by decide)), fun h => c4 (h.resolve_right (by decide)), fun h => c5 (h.resolve_right (by decide)), fun h => c6 (h.resolve_right (by decide)), fun h => c7 (h.resolve_right (by decide)), fun _ => rfl, fun h => c9 (h.resolve_right (by decide)), fun h => c10 (h.resolve_right (by decide)), fun h => c11 (h.resolve_right (by decide)), fun h => c12 (h.resolve_right (by decide)), fun h => c13 (h.resolve_right (by decide)), fun h => c14 (h.resolve_right (by decide)), fun h => c15 (h.resolve_right (by decide)), fun h => c16 (h.resolve_right (by decide)), fun h => c17 (h.resolve_right (by decide)), fun h => c18 (h.resolve_right (by decide)), fun h => c19 (h.resolve_right (by decide)), fun h => c20 (h.resolve_right (by decide)), fun h => c21 (h.resolve_right (by decide)), fun h => c22 (h.resolve_right (by decide)), fun h => c23 (h.resolve_right (by decide)), fun h => c24 (h.resolve_right (by decide)), fun h => c25 (h.resolve_right (by decide))⟩ _ (by simp only [e3, e4, e7] <;> rfl)
    apply RelH.op2
    · intro L f u K hN hS hK
      simp only [puts, Act.put, List.setIfInBounds_toArray, List.set_cons_zero, List.set_cons_succ, upd, Nat.reduceEqDiff, ↓reduceIte, if_true, if_false] at hK ⊢
      have HS9 := Lib.hid hS
      obtain ⟨qB, qZ, c0, c1, c2, c3, c4, c5, c6, c7, c8, c9, c10, c11, c12, c13, c14, c15, c16, c17, c18, c19, c20, c21, c22, c23, c24, c25⟩ := hS
      have e8 := c8 (hN.out.2 8 (by decide +kernel))
      have e3 := c3 (hN.out.2 3 (by decide +kernel))
      clear c0 c1 c2 c3 c4 c5 c6 c7 c8 c9 c10 c11 c12 c13 c14 c15 c16 c17 c18 c19 c20 c21 c22 c23 c24 c25
      go_simp
      obtain ⟨qB, qZ, c0, c1, c2, c3, c4, c5, c6, c7, c8, c9, c10, c11, c12, c13, c14, c15, c16, c17, c18, c19, c20, c21, c22, c23, c24, c25⟩ := HS9.out
      exact hK.out _ _ ⟨qB, qZ, fun h => c0 (h.resolve_right (by decide)), fun h => c1 (h.resolve_right (by decide)), fun h => c2 (h.resolve_right (by decide)), fun h => c3 (h.resolve_right (by decide)), fun h => c4 (h.resolve_right (by decide)), fun h => c5 (h.resolve_right (by decide)), fun h => c6 (h.resolve_right (by decide)), fun h => c7 (h.resolve_right (by decide)), fun h => c8 (h.resolve_right (by decide)), fun _ => rfl, fun h => c10 (h.resolve_right (by decide)), fun h => c11 (h.resolve_right (by decide)), fun h => c12 (h.resolve_right (by decide)), fun h => c13 (h.resolve_right (by decide)), fun h => c14 (h.resolve_right (by decide)), fun h => c15 (h.resolve_right (by decide)), fun h => c16 (h.resolve_right (by decide)), fun h => c17 (h.resolve_right (by decide)), fun h => c18 (h.resolve_right (by decide)), fun h => c19 (h.resolve_right (by decide)), fun h => c20 (h.resolve_right (by decide)), fun h => c21 (h.resolve_right (by decide)), fun h => c22 (h.resolve_right (by decide)), fun h => c23 (h.resolve_right (by decide)), fun h => c24 (h.resolve_right (by decide)), fun h => c25 (h.resolve_right (by decide))⟩ _ (by simp only [e8, e3] <;> rfl)
    apply RelH.op2
    · intro L f u K hN hS hK
      simp only [puts, Act.put, List.setIfInBounds_toArray, List.set_cons_zero, List.set_cons_succ, upd, Nat.reduceEqDiff, ↓reduceIte, if_true, if_false] at hK ⊢
      have HS9 := Lib.hid hS
      obtain ⟨qB, qZ, c0, c1, c2, c3, c4, c5, c6, c7, c8, c9, c10, c11, c12, c13, c14, c15, c16, c17, c18, c19, c20, c21, c22, c23, c24, c25⟩ := hS
      have e3 := c3 (hN.out.2 3 (by decide +kernel))
      have e9 := c9 (hN.out.2 9 (by decide +kernel))
      clear c0 c1 c2 c3 c4 c5 c6 c7 c8 c9 c10 c11 c12 c13 c14 c15 c16 c17 c18 c19 c20 c21 c22 c23 c24 c25
      go_simp
      obtain ⟨qB, qZ, c0, c1, c2, c3, c4, c5, c6, c7, c8, c9, c10, c11, c12, c13, c14, c15, c16, c17, c18, c19, c20, c21, c22, c23, c24, c25⟩ := HS9.out
      exact hK.out _ _ ⟨qB, qZ, fun h => c0 (h.resolve_right (by decide)), fun h => c1 (h.resolve_right (by decide)), fun h => c2 (h.resolve_right (by decide)), fun h => c3 (h.resolve_right (by decide)), fun h => c4 (h.resolve_right (by decide)), fun h => c5 (h.resolve_right (by decide)), fun h => c6 (h.resolve_right (by decide)), fun h => c7 (h.resolve_right (by decide)), fun h => c8 (h.resolve_right (by decide)), fun h => c9 (h.resolve_right (by decide)), fun _ => rfl, fun h => c11 (h.resolve_right (by decide)), fun h => c12 (h.resolve_right (by decide)), fun h => c13 (h.resolve_right (by decide)), fun h => c14 (h.resolve_right (by decide)), fun h => c15 (h.resolve_right (by decide)), fun h => c16 (h.resolve_right (by decide)), fun h => c17 (h.resolve_right (by decide)), fun h => c18 (h.resolve_right (by decide)), fun h => c19 (h.resolve_right (by decide)), fun h => c20 (h.resolve_right (by decide)), fun h => c21 (h.resolve_right (by decide)), fun h => c22 (h.resolve_right (by decide)), fun h => c23 (h.resolve_right (by decide)), fun h => c24 (h.resolve_right (by decide)), fun h => c25 (h.resolve_right (by decide))⟩ _ (by simp only [e3, e9] <;> rfl)
    apply RelH.op2
    · intro L f u K hN hS hK
      simp only [puts, Act.put, List.setIfInBounds_toArray, List.set_cons_zero, List.set_cons_succ, upd, Nat.reduceEqDiff, ↓reduceIte, if_true, if_false] at hK ⊢
      have HS9 := Lib.hid hS
      obtain ⟨qB, qZ, c0, c1, c2, c3, c4, c5, c6, c7, c8, c9, c10, c11, c12, c13, c14, c15, c16, c17, c18, c19, c20, c21, c22, c23, c24, c25⟩ := hS
      have e10 := c10 (hN.out.2 10 (by decide +kernel))
      clear c0 c1 c2 c3 c4 c5 c6 c7 c8 c9 c10 c11 c12 c13 c14 c15 c16 c17 c18 c19 c20 c21 c22 c23 c24 c25
      go_simp
      obtain ⟨qB, qZ, c0, c1, c2, c3, c4, c5, c6, c7, c8, c9, c10, c11, c12, c13, c14, c15, c16, c17, c18, c19, c20, c21, c22, c23, c24, c25⟩ := HS9.out
      exact hK.out _ _ ⟨qB, qZ, fun h => c0 (h.resolve_right (by decide)), fun h => c1 (h.resolve_right (by decide)), fun h => c2 (h.resolve_right (by decide)), fun h => c3 (h.resolve_right (by decide)), fun h => c4 (h.resolve_right (by decide)), fun h => c5 (h.resolve_right (by decide)), fun h => c6 (h.resolve_right (by decide)), fun h => c7 (h.resolve_right (by decide)), fun h => c8 (h.resolve_right (by decide)), fun h => c9 (h.resolve_right (by decide)), fun h => c10 (h.resolve_right (by decide)), fun _ => rfl, fun h => c12 (h.resolve_right (by decide)), fun h => c13 (h.resolve_right (by decide)), fun h => c14 (h.resolve_right (by decide)), fun h => c15 (h.resolve_right (by decide)), fun h => c16 (h.resolve_right (by decide)), fun h => c17 (h.resolve_right (by decide)), fun h => c18 (h.resolve_right (by decide)), fun h => c19 (h.resolve_right (by decide)), fun h => c20 (h.resolve_right (by decide)), fun h => c21 (h.resolve_right (by decide)), fun h => c22 (h.resolve_right (by decide)), fun h => c23 (h.resolve_right (by decide)), fun h => c24 (h.resolve_right (by decide)), fun h => c25 (h.resolve_right (by decide))⟩ _ (by simp only [e10] <;> rfl)
    apply RelH.op2
    · intro L f u K hN hS hK
      simp only [puts, Act.put, List.setIfInBounds_toArray, List.set_cons_zero, List.set_cons_succ, upd, Nat.reduceEqDiff, ↓reduceIte, if_true, if_false] at hK ⊢
      have HS9 := Lib.hid hS
      obtain ⟨qB, qZ, c0, c1, c2, c3, c4, c5, c6, c7, c8, c9, c10, c11, c12, c13, c14, c15, c16, c17, c18, c19, c20, c21, c22, c23, c24, c25⟩ := hS
      have e11 := c11 (hN.out.2 11 (by decide +kernel))
      have qB_0 := qB.cells 0 _ rfl
      have qB_1 := qB.cells 1 _ rfl
      clear c0 c1 c2 c3 c4 c5 c6 c7 c8 c9 c10 c11 c12 c13 c14 c15 c16 c17 c18 c19 c20 c21 c22 c23 c24 c25
      go_simp
      obtain ⟨qB, qZ, c0, c1, c2, c3, c4, c5, c6, c7, c8, c9, c10, c11, c12, c13, c14, c15, c16, c17, c18, c19, c20, c21, c22, c23, c24, c25⟩ := HS9.out
      exact hK.out _ _ ⟨qB, qZ, fun h => c0 (h.resolve_right (by decide)), fun h => c1 (h.resolve_right (by decide)), fun h => c2 (h.resolve_right (by decide)), fun h => c3 (h.resolve_right (by decide)), fun h => c4 (h.resolve_right (by decide)), fun h => c5 (h.resolve_right (by decide)), fun h => c6 (h.resolve_right (by decide)), fun h => c7 (h.resolve_right (by decide)), fun h => c8 (h.resolve_right (by decide)), fun h => c9 (h.resolve_right (by decide)), fun h => c10 (h.resolve_right (by decide)), fun h => c11 (h.resolve_right (by decide)), fun _ => rfl, fun h => c13 (h.resolve_right (by decide)), fun h => c14 (h.resolve_right (by decide)), fun h => c15 (h.resolve_right (by decide)), fun h => c16 (h.resolve_right (by decide)), fun h => c17 (h.resolve_right (by decide)), fun h => c18 (h.resolve_right (by decide)), fun h => c19 (h.resolve_right (by decide)), fun h => c20 (h.resolve_right (by decide)), fun h => c21 (h.resolve_right (by decide)), fun h => c22 (h.resolve_right (by decide)), fun h => c23 (h.resolve_right (by decide)), fun h => c24 (h.resolve_right (by decide)), fun h => c25 (h.resolve_right (by decide))⟩ _ (by simp only [e11] <;> rfl)
    apply RelH.op2
    · intro L f u K hN hS hK
      simp only [puts, Act.put, List.setIfInBounds_toArray, List.set_cons_zero, List.set_cons_succ, upd, Nat.reduceEqDiff, ↓reduceIte, if_true, if_false] at hK ⊢
      have HS9 := Lib.hid hS
      obtain ⟨qB, qZ, c0, c1, c2, c3, c4, c5, c6, c7, c8, c9, c10, c11, c12, c13, c14, c15, c16, c17, c18, c19, c20, c21, c22, c23, c24, c25⟩ := hS
      have e11 := c11 (hN.out.2 11 (by decide +kernel))
      have e12 := c12 (hN.out.2 12 (by decide +kernel))
      have hv : Below u.heap.size u (u.alloc (.cells #[.int .i64 a, .int .i64 c] 32)) := al (Below.refl _ _)
      have hX := Box.new qB.below [.int .i64 a, .int .i64 c] 32 (g := u.heap.size) rfl
      clear c0 c1 c2 c3 c4 c5 c6 c7 c8 c9 c10 c11 c12 c13 c14 c15 c16 c17 c18 c19 c20 c21 c22 c23 c24 c25
      go_simp
      obtain ⟨qB, qZ, c0, c1, c2, c3, c4, c5, c6, c7, c8, c9, c10, c11, c12, c13, c14, c15, c16, c17, c18, c19, c20, c21, c22, c23, c24, c25⟩ := HS9.out
      exact hK.out _ _ ⟨qB.more hv, qZ.more hv, fun h => c0 (h.resolve_right (by decide)), fun h => c1 (h.resolve_right (by decide)), fun h => c2 (h.resolve_right (by decide)), fun h => c3 (h.resolve_right (by decide)), fun h => c4 (h.resolve_right (by decide)), fun h => c5 (h.resolve_right (by decide)), fun h => c6 (h.resolve_right (by decide)), fun h => c7 (h.resolve_right (by decide)), fun h => c8 (h.resolve_right (by decide)), fun h => c9 (h.resolve_right (by decide)), fun h => c10 (h.resolve_right (by decide)), fun h => c11 (h.resolve_right (by decide)), fun h => c12 (h.resolve_right (by decide)), fun _ => ⟨_, rfl, hX⟩, fun h => c14 (h.resolve_right (by decide)), fun h => c15 (h.resolve_right (by decide)), fun h => c16 (h.resolve_right (by decide)), fun h => c17 (h.resolve_right (by decide)), fun h => c18 (h.resolve_right (by decide)), fun h => c19 (h.resolve_right (by decide)), fun h => c20 (h.resolve_right (by decide)), fun h => c21 (h.resolve_right (by decide)), fun h => c22 (h.resolve_right (by decide)), fun h => c23 (h.resolve_right (by decide)), fun h => c24 (h.resolve_right (by decide)), fun h => c25 (h.resolve_right (by decide))⟩ _ (by simp only [e11, e12] <;> rfl)
    apply RelH.op2
    · intro L f u K hN hS hK
      simp only [puts, Act.put, List.setIfInBounds_toArray, List.set_cons_zero, List.set_cons_succ, upd, Nat.reduceEqDiff, ↓reduceIte, if_true, if_false] at hK ⊢
      have HS9 := Lib.hid hS
      obtain ⟨qB, qZ, c0, c1, c2, c3, c4, c5, c6, c7, c8, c9, c10, c11, c12, c13, c14, c15, c16, c17, c18, c19, c20, c21, c22, c23, c24, c25⟩ := hS
      have e11 := c11 (hN.out.2 11 (by decide +kernel))
      obtain ⟨g, e13, X⟩ := c13 (hN.out.2 13 (by decide +kernel))
      have HCON := Lib.hid (IBrine.have_any (some ⟨g, 0, none⟩) 1 [⟨a, c⟩] u X.rd (by simp))
      clear c0 c1 c2 c3 c4 c5 c6 c7 c8 c9 c10 c11 c12 c13 c14 c15 c16 c17 c18 c19 c20 c21 c22 c23 c24 c25
      go_simp
      go_at_call 91
      refine HCON.out.mono ?_
      rintro e uw1 ⟨rfl, hv⟩
      rw [HM.out]
      go_wp2_with fail
      obtain ⟨qB, qZ, c0, c1, c2, c3, c4, c5, c6, c7, c8, c9, c10, c11, c12, c13, c14, c15, c16, c17, c18, c19, c20, c21, c22, c23, c24, c25⟩ := HS9.out
      exact hK.out _ _ ⟨qB.more hv, qZ.more hv, fun h => c0 (h.resolve_right (by decide)), fun h => c1 (h.resolve_right (by decide)), fun h => c2 (h.resolve_right (by decide)), fun h => c3 (h.resolve_right (by decide)), fun h => c4 (h.resolve_right (by decide)), fun h => c5 (h.resolve_right (by decide)), fun h => c6 (h.resolve_right (by decide)), fun h => c7 (h.resolve_right (by decide)), fun h => c8 (h.resolve_right (by decide)), fun h => c9 (h.resolve_right (by decide)), fun h => c10 (h.resolve_right (by decide)), fun h => c11 (h.resolve_right (by decide)), fun h => c12 (h.resolve_right (by decide)), fun h => (let ⟨g, e, X⟩ := (c13 (h.resolve_right (by decide))); ⟨g, e, X.more hv⟩), fun _ => rfl, fun h => c15 (h.resolve_right (by decide)), fun h => c16 (h.resolve_right (by decide)), fun h => c17 (h.resolve_right (by decide)), fun h => c18 (h.resolve_right (by decide)), fun h => c19 (h.resolve_right (by decide)), fun h => c20 (h.resolve_right (by decide)), fun h => c21 (h.resolve_right (by decide)), fun h => c22 (h.resolve_right (by decide)), fun h => c23 (h.resolve_right (by decide)), fun h => c24 (h.resolve_right (by decide)), fun h => c25 (h.resolve_right (by decide))⟩ _ (by simp only [e11, e13] <;> rfl)
    apply RelH.op2
    · intro L f u K hN hS hK
      simp only [puts, Act.put, List.setIfInBounds_toArray, List.set_cons_zero, List.set_cons_succ, upd, Nat.reduceEqDiff, ↓reduceIte, if_true, if_false] at hK ⊢
      have HS9 := Lib.hid hS
      obtain ⟨qB, qZ, c0, c1, c2, c3, c4, c5, c6, c7, c8, c9, c10, c11, c12, c13, c14, c15, c16, c17, c18, c19, c20, c21, c22, c23, c24, c25⟩ := hS
      have e14 := c14 (hN.out.2 14 (by decide +kernel))
      have e11 := c11 (hN.out.2 11 (by decide +kernel))
      clear c0 c1 c2 c3 c4 c5 c6 c7 c8 c9 c10 c11 c12 c13 c14 c15 c16 c17 c18 c19 c20 c21 c22 c23 c24 c25
      go_simp
      obtain ⟨qB, qZ, c0, c1, c2, c3, c4, c5, c6, c7, c8, c9, c10, c11, c12, c13, c14, c15, c16, c17, c18, c19, c20, c21, c22, c23, c24, c25⟩ := HS9.out
      exact hK.out _ _ ⟨qB, qZ, fun h => c0 (h.resolve_right (by decide)), fun h => c1 (h.resolve_right (by decide)), fun h => c2 (h.resolve_right (by decide)), fun h => c3 (h.resolve_right (by decide)), fun h => c4 (h.resolve_right (by decide)), fun h => c5 (h.resolve_right (by decide)), fun h => c6 (h.resolve_right (by decide)), fun h => c7 (h.resolve_right (by decide)), fun h => c8 (h.resolve_right (by decide)), fun h => c9 (h.resolve_right (by decide)), fun h => c10 (h.resolve_right (by decide)), fun h => c11 (h.resolve_right (by decide)), fun h => c12 (h.resolve_right (by decide)), fun h => c13 (h.resolve_right (by decide)), fun h => c14 (h.resolve_right (by decide)), fun _ => rfl, fun h => c16 (h.resolve_right (by decide)), fun h => c17 (h.resolve_right (by decide)), fun h => c18 (h.resolve_right (by decide)), fun h => c19 (h.resolve_right (by decide)), fun h => c20 (h.resolve_right (by decide)), fun h => c21 (h.resolve_right (by decide)), fun h => c22 (h.resolve_right (by decide)), fun h => c23 (h.resolve_right (by decide)), fun h => c24 (h.resolve_right (by decide)), fun h => c25 (h.resolve_right (by decide))⟩ _ (by simp only [e14, e11] <;> rfl)
    apply RelH.op2
    · intro L f u K hN hS hK
      simp only [puts, Act.put, List.setIfInBounds_toArray, List.set_cons_zero, List.set_cons_succ, upd, Nat.reduceEqDiff, ↓reduceIte, if_true, if_false] at hK ⊢
      have HS9 := Lib.hid hS
      obtain ⟨qB, qZ, c0, c1, c2, c3, c4, c5, c6, c7, c8, c9, c10, c11, c12, c13, c14, c15, c16, c17, c18, c19, c20, c21, c22, c23, c24, c25⟩ := hS
      have e11 := c11 (hN.out.2 11 (by decide +kernel))
      have e15 := c15 (hN.out.2 15 (by decide +kernel))
      clear c0 c1 c2 c3 c4 c5 c6 c7 c8 c9 c10 c11 c12 c13 c14 c15 c16 c17 c18 c19 c20 c21 c22 c23 c24 c25
      go_simp
      obtain ⟨qB, qZ, c0, c1, c2, c3, c4, c5, c6, c7, c8, c9, c10, c11, c12, c13, c14, c15, c16, c17, c18, c19, c20, c21, c22, c23, c24, c25⟩ := HS9.out
      exact hK.out _ _ ⟨qB, qZ, fun h => c0 (h.resolve_right (by decide)), fun h => c1 (h.resolve_right (by decide)), fun h => c2 (h.resolve_right (by decide)), fun h => c3 (h.resolve_right (by decide)), fun h => c4 (h.resolve_right (by decide)), fun h => c5 (h.resolve_right (by decide)), fun h => c6 (h.resolve_right (by decide)), fun h => c7 (h.resolve_right (by decide)), fun h => c8 (h.resolve_right (by decide)), fun h => c9 (h.resolve_right (by decide)), fun h => c10 (h.resolve_right (by decide)), fun h => c11 (h.resolve_right (by decide)), fun h => c12 (h.resolve_right (by decide)), fun h => c13 (h.resolve_right (by decide)), fun h => c14 (h.resolve_right (by decide)), fun h => c15 (h.resolve_right (by decide)), fun _ => rfl, fun h => c17 (h.resolve_right (by decide)), fun h => c18 (h.resolve_right (by decide)), fun h => c19 (h.resolve_right (by decide)), fun h => c20 (h.resolve_right (by decide)), fun h => c21 (h.resolve_right (by decide)), fun h => c22 (h.resolve_right (by decide)), fun h => c23 (h.resolve_right (by decide)), fun h => c24 (h.resolve_right (by decide)), fun h => c25 (h.resolve_right (by decide))⟩ _ (by simp only [e11, e15] <;> rfl)
    apply RelH.op2
    · intro L f u K hN hS hK
      simp only [puts, Act.put, List.setIfInBounds_toArray, List.set_cons_zero, List.set_cons_succ, upd, Nat.reduceEqDiff, ↓reduceIte, if_true, if_false] at hK ⊢
      have HS9 := Lib.hid hS
      obtain ⟨qB, qZ, c0, c1, c2, c3, c4, c5, c6, c7, c8, c9, c10, c11, c12, c13, c14, c15, c16, c17, c18, c19, c20, c21, c22, c23, c24, c25⟩ := hS
      have e16 := c16 (hN.out.2 16 (by decide +kernel))
      clear c0 c1 c2 c3 c4 c5 c6 c7 c8 c9 c10 c11 c12 c13 c14 c15 c16 c17 c18 c19 c20 c21 c22 c23 c24 c25
      go_simp
      obtain ⟨qB, qZ, c0, c1, c2, c3, c4, c5, c6, c7, c8, c9, c10, c11, c12, c13, c14, c15, c16, c17, c18, c19, c20, c21, c22, c23, c24, c25⟩ := HS9.out
      exact hK.out _ _ ⟨qB, qZ, fun h => c0 (h.resolve_right (by decide)), fun h => c1 (h.resolve_right (by decide)), fun h => c2 (h.resolve_right (by decide)), fun h => c3 (h.resolve_right (by decide)), fun h => c4 (h.resolve_right (by decide)), fun h => c5 (h.resolve_right (by decide)), fun h => c6 (h.resolve_right (by decide)), fun h => c7 (h.resolve_right (by decide)), fun h => c8 (h.resolve_right (by decide)), fun h => c9 (h.resolve_right (by decide)), fun h => c10 (h.resolve_right (by decide)), fun h => c11 (h.resolve_right (by decide)), fun h => c12 (h.resolve_right (by decide)), fun h => c13 (h.resolve_right (by decide)), fun h => c14 (h.resolve_right (by decide)), fun h => c15 (h.resolve_right (by decide)), fun h => c16 (h.resolve_right (by decide)), fun _ => rfl, fun h => c18 (h.resolve_right (by decide)), fun h => c19 (h.resolve_right (by decide)), fun h => c20 (h.resolve_right (by decide)), fun h => c21 (h.resolve_right (by decide)), fun h => c22 (h.resolve_right (by decide)), fun h => c23 (h.resolve_right (by decide)), fun h => c24 (h.resolve_right (by decide)), fun h => c25 (h.resolve_right (by decide))⟩ _ (by simp only [e16] <;> rfl)
    apply RelH.op2
    · intro L f u K hN hS hK
      simp only [puts, Act.put, List.setIfInBounds_toArray, List.set_cons_zero, List.set_cons_succ, upd, Nat.reduceEqDiff, ↓reduceIte, if_true, if_false] at hK ⊢
      have HS9 := Lib.hid hS
      obtain ⟨qB, qZ, c0, c1, c2, c3, c4, c5, c6, c7, c8, c9, c10, c11, c12, c13, c14, c15, c16, c17, c18, c19, c20, c21, c22, c23, c24, c25⟩ := hS
      have e17 := c17 (hN.out.2 17 (by decide +kernel))
      have qB_0 := qB.cells 0 _ rfl
      have qB_1 := qB.cells 1 _ rfl
      clear c0 c1 c2 c3 c4 c5 c6 c7 c8 c9 c10 c11 c12 c13 c14 c15 c16 c17 c18 c19 c20 c21 c22 c23 c24 c25
      go_simp
      obtain ⟨qB, qZ, c0, c1, c2, c3, c4, c5, c6, c7, c8, c9, c10, c11, c12, c13, c14, c15, c16, c17, c18, c19, c20, c21, c22, c23, c24, c25⟩ := HS9.out
      exact hK.out _ _ ⟨qB, qZ, fun h => c0 (h.resolve_right (by decide)), fun h => c1 (h.resolve_right (by decide)), fun h => c2 (h.resolve_right (by decide)), fun h => c3 (h.resolve_right (by decide)), fun h => c4 (h.resolve_right (by decide)), fun h => c5 (h.resolve_right (by decide)), fun h => c6 (h.resolve_right (by decide)), fun h => c7 (h.resolve_right (by decide)), fun h => c8 (h.resolve_right (by decide)), fun h => c9 (h.resolve_right (by decide)), fun h => c10 (h.resolve_right (by decide)), fun h => c11 (h.resolve_right (by decide)), fun h => c12 (h.resolve_right (by decide)), fun h => c13 (h.resolve_right (by decide)), fun h => c14 (h.resolve_right (by decide)), fun h => c15 (h.resolve_right (by decide)), fun h => c16 (h.resolve_right (by decide)), fun h => c17 (h.resolve_right (by decide)), fun _ => rfl, fun h => c19 (h.resolve_right (by decide)), fun h => c20 (h.resolve_right (by decide)), fun h => c21 (h.resolve_right (by decide)), fun h => c22 (h.resolve_right (by decide)), fun h => c23 (h.resolve_right (by decide)), fun h => c24 (h.resolve_right (by decide)), fun h => c25 (h.resolve_right (by decide))⟩ _ (by simp only [e17] <;> rfl)
    apply RelH.op2
    · intro L f u K hN hS hK
      simp only [puts, Act.put, List.setIfInBounds_toArray, List.set_cons_zero, List.set_cons_succ, upd, Nat.reduceEqDiff, ↓reduceIte, if_true, if_false] at hK ⊢
      have HS9 := Lib.hid hS
      obtain ⟨qB, qZ, c0, c1, c2, c3, c4, c5, c6, c7, c8, c9, c10, c11, c12, c13, c14, c15, c16, c17, c18, c19, c20, c21, c22, c23, c24, c25⟩ := hS
      have e17 := c17 (hN.out.2 17 (by decide +kernel))
      clear c0 c1 c2 c3 c4 c5 c6 c7 c8 c9 c10 c11 c12 c13 c14 c15 c16 c17 c18 c19 c20 c21 c22 c23 c24 c25
      go_simp
      obtain ⟨qB, qZ, c0, c1, c2, c3, c4, c5, c6, c7, c8, c9, c10, c11, c12, c13, c14, c15, c16, c17, c18, c19, c20, c21, c22, c23, c24, c25⟩ := HS9.out
      exact hK.out _ _ ⟨qB, qZ, fun h => c0 (h.resolve_right (by decide)), fun h => c1 (h.resolve_right (by decide)), fun h => c2 (h.resolve_right (by decide)), fun h => c3 (h.resolve_right (by decide)), fun h => c4 (h.resolve_right (by decide)), fun h => c5 (h.resolve_right (by decide)), fun h => c6 (h.resolve_right (by decide)), fun h => c7 (h.resolve_right (by decide)), fun h => c8 (h.resolve_right (by decide)), fun h => c9 (h.resolve_right (by decide)), fun h => c10 (h.resolve_right (by decide)), fun h => c11 (h.resolve_right (by decide)), fun h => c12 (h.resolve_right (by decide)), fun h => c13 (h.resolve_right (by decide)), fun h => c14 (h.resolve_right (by decide)), fun h => c15 (h.resolve_right (by decide)), fun h => c16 (h.resolve_right (by decide)), fun h => c17 (h.resolve_right (by decide)), fun h => c18 (h.resolve_right (by decide)), fun _ => rfl, fun h => c20 (h.resolve_right (by decide)), fun h => c21 (h.resolve_right (by decide)), fun h => c22 (h.resolve_right (by decide)), fun h => c23 (h.resolve_right (by decide)), fun h => c24 (h.resolve_right (by decide)), fun h => c25 (h.resolve_right (by decide))⟩ _ (by simp only [e17] <;> rfl)
    apply RelH.op2
    · intro L f u K hN hS hK
      simp only [puts, Act.put, List.setIfInBounds_toArray, List.set_cons_zero, List.set_cons_succ, upd, Nat.reduceEqDiff, ↓reduceIte, if_true, if_false] at hK ⊢
      have HS9 := Lib.hid hS
      obtain ⟨qB, qZ, c0, c1, c2, c3, c4, c5, c6, c7, c8, c9, c10, c11, c12, c13, c14, c15, c16, c17, c18, c19, c20, c21, c22, c23, c24, c25⟩ := hS
      have e17 := c17 (hN.out.2 17 (by decide +kernel))
      clear c0 c1 c2 c3 c4 c5 c6 c7 c8 c9 c10 c11 c12 c13 c14 c15 c16 c17 c18 c19 c20 c21 c22 c23 c24 c25
      go_simp
      obtain ⟨qB, qZ, c0, c1, c2, c3, c4, c5, c6, c7, c8, c9, c10, c11, c12, c13, c14, c15, c16, c17, c18, c19, c20, c21, c22, c23, c24, c25⟩ := HS9.out
      exact hK.out _ _ ⟨qB, qZ, fun h => c0 (h.resolve_right (by decide)), fun h => c1 (h.resolve_right (by decide)), fun h => c2 (h.resolve_right (by decide)), fun h => c3 (h.resolve_right (by decide)), fun h => c4 (h.resolve_right (by decide)), fun h => c5 (h.resolve_right (by decide)), fun h => c6 (h.resolve_right (by decide)), fun h => c7 (h.resolve_right (by decide)), fun h => c8 (h.resolve_right (by decide)), fun h => c9 (h.resolve_right (by decide)), fun h => c10 (h.resolve_right (by decide)), fun h => c11 (h.resolve_right (by decide)), fun h => c12 (h.resolve_right (by decide)), fun h => c13 (h.resolve_right (by decide)), fun h => c14 (h.resolve_right (by decide)), fun h => c15 (h.resolve_right (by decide)), fun h => c16 (h.resolve_right (by decide)), fun h => c17 (h.resolve_right (by decide)), fun h => c18 (h.resolve_right (by decide)), fun h => c19 (h.resolve_right (by decide)), fun _ => rfl, fun h => c21 (h.resolve_right (by decide)), fun h => c22 (h.resolve_right (by decide)), fun h => c23 (h.resolve_right (by decide)), fun h => c24 (h.resolve_right (by decide)), fun h => c25 (h.resolve_right (by decide))⟩ _ (by simp only [e17] <;> rfl)
    apply RelH.op2
    · intro L f u K hN hS hK
      simp only [puts, Act.put, List.setIfInBounds_toArray, List.set_cons_zero, List.set_cons_succ, upd, Nat.reduceEqDiff, ↓reduceIte, if_true, if_false] at hK ⊢
      have HS9 := Lib.hid hS
      obtain ⟨qB, qZ, c0, c1, c2, c3, c4, c5, c6, c7, c8, c9, c10, c11, c12, c13, c14, c15, c16, c17, c18, c19, c20, c21, c22, c23, c24, c25⟩ := hS
      have e17 := c17 (hN.out.2 17 (by decide +kernel))
      have e19 := c19 (hN.out.2 19 (by decide +kernel))
      have e20 := c20 (hN.out.2 20 (by decide +kernel))
      clear c0 c1 c2 c3 c4 c5 c6 c7 c8 c9 c10 c11 c12 c13 c14 c15 c16 c17 c18 c19 c20 c21 c22 c23 c24 c25
      go_simp
      obtain ⟨qB, qZ, c0, c1, c2, c3, c4, c5, c6, c7, c8, c9, c10, c11, c12, c13, c14, c15, c16, c17, c18, c19, c20, c21, c22, c23, c24, c25⟩ := HS9.out
      exact hK.out _ _ ⟨qB, qZ, fun h => c0 (h.resolve_right (by decide)), fun h => c1 (h.resolve_right (by decide)), fun h => c2 (h.resolve_right (by decide)), fun h => c3 (h.resolve_right (by decide)), fun h => c4 (h.resolve_right (by decide)), fun h => c5 (h.resolve_right (by decide)), fun h => c6 (h.resolve_right (by decide)), fun h => c7 (h.resolve_right (by decide)), fun h => c8 (h.resolve_right (by decide)), fun h => c9 (h.resolve_right (by decide)), fun h => c10 (h.resolve_right (by decide)), fun h => c11 (h.resolve_right (by decide)), fun h => c12 (h.resolve_right (by decide)), fun h => c13 (h.resolve_right (by decide)), fun h => c14 (h.resolve_right (by decide)), fun h => c15 (h.resolve_right (by decide)), fun h => c16 (h.resolve_right (by decide)), fun h => c17 (h.resolve_right (by decide)), fun h => c18 (h.resolve_right (by decide)), fun h => c19 (h.resolve_right (by decide)), fun h => c20 (h.resolve_right (by decide)), fun _ => rfl, fun h => c22 (h.resolve_right (by decide)), fun h => c23 (h.resolve_right (by decide)), fun h => c24 (h.resolve_right (by decide)), fun h => c25 (h.resolve_right (by decide))⟩ _ (by simp only [e17, e19, e20] <;> rfl)
    apply RelH.op2
    · intro L f u K hN hS hK
      simp only [puts, Act.put, List.setIfInBounds_toArray, List.set_cons_zero, List.set_cons_succ, upd, Nat.reduceEqDiff, ↓reduceIte, if_true, if_false] at hK ⊢
      have HS9 := Lib.hid hS
      obtain ⟨qB, qZ, c0, c1, c2, c3, c4, c5, c6, c7, c8, c9, c10, c11, c12, c13, c14, c15, c16, c17, c18, c19, c20, c21, c22, c23, c24, c25⟩ := hS
      have e17 := c17 (hN.out.2 17 (by decide +kernel))
      have e21 := c21 (hN.out.2 21 (by decide +kernel))
      have x0q := ((bcell qB.below).1 _ _ hbl).trans x0
      have x1q := ((bcell qB.below).1 _ _ hbl).trans x1
      clear c0 c1 c2 c3 c4 c5 c6 c7 c8 c9 c10 c11 c12 c13 c14 c15 c16 c17 c18 c19 c20 c21 c22 c23 c24 c25
      go_simp
      obtain ⟨qB, qZ, c0, c1, c2, c3, c4, c5, c6, c7, c8, c9, c10, c11, c12, c13, c14, c15, c16, c17, c18, c19, c20, c21, c22, c23, c24, c25⟩ := HS9.out
      exact hK.out _ _ ⟨qB, qZ, fun h => c0 (h.resolve_right (by decide)), fun h => c1 (h.resolve_right (by decide)), fun h => c2 (h.resolve_right (by decide)), fun h => c3 (h.resolve_right (by decide)), fun h => c4 (h.resolve_right (by decide)), fun h => c5 (h.resolve_right (by decide)), fun h => c6 (h.resolve_right (by decide)), fun h => c7 (h.resolve_right (by decide)), fun h => c8 (h.resolve_right (by decide)), fun h => c9 (h.resolve_right (by decide)), fun h => c10 (h.resolve_right (by decide)), fun h => c11 (h.resolve_right (by decide)), fun h => c12 (h.resolve_right (by decide)), fun h => c13 (h.resolve_right (by decide)), fun h => c14 (h.resolve_right (by decide)), fun h => c15 (h.resolve_right (by decide)), fun h => c16 (h.resolve_right (by decide)), fun h => c17 (h.resolve_right (by decide)), fun h => c18 (h.resolve_right (by decide)), fun h => c19 (h.resolve_right (by decide)), fun h => c20 (h.resolve_right (by decide)), fun h => c21 (h.resolve_right (by decide)), fun _ => rfl, fun h => c23 (h.resolve_right (by decide)), fun h => c24 (h.resolve_right (by decide)), fun h => c25 (h.resolve_right (by decide))⟩ _ (by simp only [e17, e21] <;> rfl)
    apply RelH.op2
    · intro L f u K hN hS hK
      simp only [puts, Act.put, List.setIfInBounds_toArray, List.set_cons_zero, List.set_cons_succ, upd, Nat.reduceEqDiff, ↓reduceIte, if_true, if_false] at hK ⊢
      have HS9 := Lib.hid hS
      obtain ⟨qB, qZ, c0, c1, c2, c3, c4, c5, c6, c7, c8, c9, c10, c11, c12, c13, c14, c15, c16, c17, c18, c19, c20, c21, c22, c23, c24, c25⟩ := hS
      have e17 := c17 (hN.out.2 17 (by decide +kernel))
      have e18 := c18 (hN.out.2 18 (by decide +kernel))
      have e22 := c22 (hN.out.2 22 (by decide +kernel))
      have HCON := Lib.hid (HST.out u)
      clear c0 c1 c2 c3 c4 c5 c6 c7 c8 c9 c10 c11 c12 c13 c14 c15 c16 c17 c18 c19 c20 c21 c22 c23 c24 c25
      go_simp
      go_at_call 67
      (with_reducible refine HCON.out.mono ?_)
      rintro e uw1 ⟨rfl, hv⟩
      go_wp2_with fail
      obtain ⟨qB, qZ, c0, c1, c2, c3, c4, c5, c6, c7, c8, c9, c10, c11, c12, c13, c14, c15, c16, c17, c18, c19, c20, c21, c22, c23, c24, c25⟩ := HS9.out
      exact hK.out _ _ ⟨qB.more hv, qZ.more hv, fun h => c0 (h.resolve_right (by decide)), fun h => c1 (h.resolve_right (by decide)), fun h => c2 (h.resolve_right (by decide)), fun h => c3 (h.resolve_right (by decide)), fun h => c4 (h.resolve_right (by decide)), fun h => c5 (h.resolve_right (by decide)), fun h => c6 (h.resolve_right (by decide)), fun h => c7 (h.resolve_right (by decide)), fun h => c8 (h.resolve_right (by decide)), fun h => c9 (h.resolve_right (by decide)), fun h => c10 (h.resolve_right (by decide)), fun h => c11 (h.resolve_right (by decide)), fun h => c12 (h.resolve_right (by decide)), fun h => (let ⟨g, e, X⟩ := (c13 (h.resolve_right (by decide))); ⟨g, e, X.more hv⟩), fun h => c14 (h.resolve_right (by decide)), fun h => c15 (h.resolve_right (by decide)), fun h => c16 (h.resolve_right (by decide)), fun h => c17 (h.resolve_right (by decide)), fun h => c18 (h.resolve_right (by decide)), fun h => c19 (h.resolve_right (by decide)), fun h => c20 (h.resolve_right (by decide)), fun h => c21 (h.resolve_right (by decide)), fun h => c22 (h.resolve_right (by decide)), fun _ => rfl, fun h => c24 (h.resolve_right (by decide)), fun h => c25 (h.resolve_right (by decide))⟩ _ (by simp only [e17, e18, e22] <;> rfl)
    apply RelH.op2
    · intro L f u K hN hS hK
      simp only [puts, Act.put, List.setIfInBounds_toArray, List.set_cons_zero, List.set_cons_succ, upd, Nat.reduceEqDiff, ↓reduceIte, if_true, if_false] at hK ⊢
      have HS9 := Lib.hid hS
      obtain ⟨qB, qZ, c0, c1, c2, c3, c4, c5, c6, c7, c8, c9, c10, c11, c12, c13, c14, c15, c16, c17, c18, c19, c20, c21, c22, c23, c24, c25⟩ := hS
      have e17 := c17 (hN.out.2 17 (by decide +kernel))
      have e23 := c23 (hN.out.2 23 (by decide +kernel))
      clear c0 c1 c2 c3 c4 c5 c6 c7 c8 c9 c10 c11 c12 c13 c14 c15 c16 c17 c18 c19 c20 c21 c22 c23 c24 c25
      go_simp
      obtain ⟨qB, qZ, c0, c1, c2, c3, c4, c5, c6, c7, c8, c9, c10, c11, c12, c13, c14, c15, c16, c17, c18, c19, c20, c21, c22, c23, c24, c25⟩ := HS9.out
      exact hK.out _ _ ⟨qB, qZ, fun h => c0 (h.resolve_right (by decide)), fun h => c1 (h.resolve_right (by decide)), fun h => c2 (h.resolve_right (by decide)), fun h => c3 (h.resolve_right (by decide)), fun h => c4 (h.resolve_right (by decide)), fun h => c5 (h.resolve_right (by decide)), fun h => c6 (h.resolve_right (by decide)), fun h => c7 (h.resolve_right (by decide)), fun h => c8 (h.resolve_right (by decide)), fun h => c9 (h.resolve_right (by decide)), fun h => c10 (h.resolve_right (by decide)), fun h => c11 (h.resolve_right (by decide)), fun h => c12 (h.resolve_right (by decide)), fun h => c13 (h.resolve_right (by decide)), fun h => c14 (h.resolve_right (by decide)), fun h => c15 (h.resolve_right (by decide)), fun h => c16 (h.resolve_right (by decide)), fun h => c17 (h.resolve_right (by decide)), fun h => c18 (h.resolve_right (by decide)), fun h => c19 (h.resolve_right (by decide)), fun h => c20 (h.resolve_right (by decide)), fun h => c21 (h.resolve_right (by decide)), fun h => c22 (h.resolve_right (by decide)), fun h => c23 (h.resolve_right (by decide)), fun _ => rfl, fun h => c25 (h.resolve_right (by decide))⟩ _ (by simp only [e17, e23] <;> rfl)
    apply RelH.op2
    · intro L f u K hN hS hK
      simp only [puts, Act.put, List.setIfInBounds_toArray, List.set_cons_zero, List.set_cons_succ, upd, Nat.reduceEqDiff, ↓reduceIte, if_true, if_false] at hK ⊢
      have HS9 := Lib.hid hS
      obtain ⟨qB, qZ, c0, c1, c2, c3, c4, c5, c6, c7, c8, c9, c10, c11, c12, c13, c14, c15, c16, c17, c18, c19, c20, c21, c22, c23, c24, c25⟩ := hS
      have e17 := c17 (hN.out.2 17 (by decide +kernel))
      have e24 := c24 (hN.out.2 24 (by decide +kernel))
      clear c0 c1 c2 c3 c4 c5 c6 c7 c8 c9 c10 c11 c12 c13 c14 c15 c16 c17 c18 c19 c20 c21 c22 c23 c24 c25
      go_simp
      obtain ⟨qB, qZ, c0, c1, c2, c3, c4, c5, c6, c7, c8, c9, c10, c11, c12, c13, c14, c15, c16, c17, c18, c19, c20, c21, c22, c23, c24, c25⟩ := HS9.out
      exact hK.out _ _ ⟨qB, qZ, fun h => c0 (h.resolve_right (by decide)), fun h => c1 (h.resolve_right (by decide)), fun h => c2 (h.resolve_right (by decide)), fun h => c3 (h.resolve_right (by decide)), fun h => c4 (h.resolve_right (by decide)), fun h => c5 (h.resolve_right (by decide)), fun h => c6 (h.resolve_right (by decide)), fun h => c7 (h.resolve_right (by decide)), fun h => c8 (h.resolve_right (by decide)), fun h => c9 (h.resolve_right (by decide)), fun h => c10 (h.resolve_right (by decide)), fun h => c11 (h.resolve_right (by decide)), fun h => c12 (h.resolve_right (by decide)), fun h => c13 (h.resolve_right (by decide)), fun h => c14 (h.resolve_right (by decide)), fun h => c15 (h.resolve_right (by decide)), fun h => c16 (h.resolve_right (by decide)), fun h => c17 (h.resolve_right (by decide)), fun h => c18 (h.resolve_right (by decide)), fun h => c19 (h.resolve_right (by decide)), fun h => c20 (h.resolve_right (by decide)), fun h => c21 (h.resolve_right (by decide)), fun h => c22 (h.resolve_right (by decide)), fun h => c23 (h.resolve_right (by decide)), fun h => c24 (h.resolve_right (by decide)), fun _ => rfl⟩ _ (by simp only [e17, e24] <;> rfl)
    exact RelH.done
  intro L f V1 hL hS
  simp only [puts, Act.put, List.setIfInBounds_toArray, List.set_cons_zero, List.set_cons_succ]
  obtain ⟨qB, qZ, c0, c1, c2, c3, c4, c5, c6, c7, c8, c9, c10, c11, c12, c13, c14, c15, c16, c17, c18, c19, c20, c21, c22, c23, c24, c25⟩ := hS
  clear B Z
  have B := qB; clear qB
  have Z := qZ; clear qZ
  have e25 := c25 (hL 25 (by decide))
  simp only [e25]
  clear c0 c1 c2 c3 c4 c5 c6 c7 c8 c9 c10 c11 c12 c13 c14 c15 c16 c17 c18 c19 c20 c21 c22 c23 c24 c25 e25 hL
  have B_0 := B.cells 0 _ rfl
  have B_1 := B.cells 1 _ rfl
  have B_f0 := B.free 0 (by simp)
  have B_f1 := B.free 1 (by simp)
  have B_t := B.there
  have Z_0 := Z.cells 0 _ rfl
  have Z_1 := Z.cells 1 _ rfl
  have Z_f0 := Z.free 0 (by simp)
  have Z_f1 := Z.free 1 (by simp)
  have Z_t := Z.there
  cases q
  · have HNO := Lib.hid (ask5 (a := a) (b := c) (i := (k : Int)) rfl hlt HX.out HQ.out)
    have HV := Lib.hid (und_no (HNO.out))
    go_wp2
    clear B_0 B_1 B_f0 B_f1 B_t
    clear Z_0 Z_1 Z_f0 Z_f1 Z_t
    have B_t1 := B.there
    have Z_t1 := Z.there
    have B' : Box (w.heap.size) [.int .i64 a, .int .i64 c] w _ := ((B.far Z.base (by omega) 0 (.int .i64 0)).far Z.base (by omega) 1 (.int .i64 0))
    have Z' : Box (w.heap.size + 1) [.int .i64 0, .int .i64 0] w _ := ((Z.set 0 (.int .i64 0)).set 1 (.int .i64 0))
    clear B; have B := B'; clear B'
    clear Z; have Z := Z'; clear Z'
    have sz1 : ((V1.setCell ⟨w.heap.size + 1, 0, none⟩ (.int .i64 0)).setCell ⟨w.heap.size + 1, 1, none⟩ (.int .i64 0)).heap.size = V1.heap.size := by simp only [size_set']
    generalize ((V1.setCell ⟨w.heap.size + 1, 0, none⟩ (.int .i64 0)).setCell ⟨w.heap.size + 1, 1, none⟩ (.int .i64 0)) = W1 at B Z sz1 ⊢
    replace sz1 := Lib.hid sz1
    have B_0 := B.cells 0 _ rfl
    have B_1 := B.cells 1 _ rfl
    have B_f0 := B.free 0 (by simp)
    have B_f1 := B.free 1 (by simp)
    have B_t := B.there
    have Z_0 := Z.cells 0 _ rfl
    have Z_1 := Z.cells 1 _ rfl
    have Z_f0 := Z.free 0 (by simp)
    have Z_f1 := Z.free 1 (by simp)
    have Z_t := Z.there
    go_wp2
    exact bodyPost_ret (v := .tuple #[.agg #[.int .i64 0, .int .i64 0], .bool false]) (by simp [results, Try.results76, go_sem, Z_0, Z_1]) rfl (rpost (by rw [HV.out] <;> rfl) Z.below)
  · have HV := Lib.hid (und_yes (ask6 rfl hlt HX.out HG.out HIN.out HMS.out.1 HMS.out.2 HQ.out) (at_i rfl hlt HX.out))
    have z0 := ((bcell B.below).1 _ _ hbl).trans x0
    have z1 := ((bcell B.below).1 _ _ hbl).trans x1
    go_wp2
    clear z0 z1
    clear B_0 B_1 B_f0 B_f1 B_t
    clear Z_0 Z_1 Z_f0 Z_f1 Z_t
    have B_t2 := B.there
    have Z_t2 := Z.there
    have B' : Box (w.heap.size) [.int .i64 a, .int .i64 c] w _ := ((B.far Z.base (by omega) 0 (.int .i64 x.f0)).far Z.base (by omega) 1 (.int .i64 x.f1))
    have Z' : Box (w.heap.size + 1) [.int .i64 x.f0, .int .i64 x.f1] w _ := ((Z.set 0 (.int .i64 x.f0)).set 1 (.int .i64 x.f1))
    clear B; have B := B'; clear B'
    clear Z; have Z := Z'; clear Z'
    have sz2 : ((V1.setCell ⟨w.heap.size + 1, 0, none⟩ (.int .i64 x.f0)).setCell ⟨w.heap.size + 1, 1, none⟩ (.int .i64 x.f1)).heap.size = V1.heap.size := by simp only [size_set']
    generalize ((V1.setCell ⟨w.heap.size + 1, 0, none⟩ (.int .i64 x.f0)).setCell ⟨w.heap.size + 1, 1, none⟩ (.int .i64 x.f1)) = W2 at B Z sz2 ⊢
    replace sz2 := Lib.hid sz2
    have B_0 := B.cells 0 _ rfl
    have B_1 := B.cells 1 _ rfl
    have B_f0 := B.free 0 (by simp)
    have B_f1 := B.free 1 (by simp)
    have B_t := B.there
    have Z_0 := Z.cells 0 _ rfl
    have Z_1 := Z.cells 1 _ rfl
    have Z_f0 := Z.free 0 (by simp)
    have Z_f1 := Z.free 1 (by simp)
    have Z_t := Z.there
    go_wp2
    exact bodyPost_ret (v := .tuple #[.agg #[.int .i64 x.f0, .int .i64 x.f1], .bool true]) (by simp [results, Try.results76, go_sem, Z_0, Z_1]) rfl (rpost (by rw [HV.out] <;> rfl) Z.below)
end Go.Proofs.Ytngominkeammiaa.LadY
