/- DrawIsHeap, DrawHeapText. Made by tools/mk_dheaps5.py. -/
import Derived.Test.YtokgncbcknpfiaaDoorDHeap
namespace Go.Proofs.YtokgncbcknpfiaaDoor.DHeaps5
open Go.RowKit Go.Proofs.YtokgncbcknpfiaaDoor.Mem Go.Proofs.YtokgncbcknpfiaaDoor.Base Go.Proofs.YtokgncbcknpfiaaDoor.Draw Go.Proofs.YtokgncbcknpfiaaDoor.Boxes Go.Proofs.YtokgncbcknpfiaaDoor.Keep Go.Proofs.YtokgncbcknpfiaaDoor.Dr Go.Proofs.YtokgncbcknpfiaaDoor.SInt Go.Proofs.YtokgncbcknpfiaaDoor.Nest Go.Proofs.YtokgncbcknpfiaaDoor.HeapS
open Go.Proofs.YtokgncbcknpfiaaDoor.DStack (cu_at below_of)
set_option linter.unusedVariables false
set_option linter.unusedSimpArgs false
set_option maxRecDepth 100000
theorem below_set {w W : World} (h : Below w.heap.size w W) {g : Nat} (hg : w.heap.size ≤ g) (i : Nat) (v : Value) : Below w.heap.size w (W.setCell ⟨g, i, none⟩ v) := h.setCell (p := ⟨g, i, none⟩) hg v
theorem row_low {w : World} {lo : Nat} {r : Row} (h : RowOwn w lo r) {k : Nat} (hk : k < lo) (i : Nat) (v : Value) : RowOwn (w.setCell ⟨k, i, none⟩ v) lo r :=
  h.congr fun j hj => Below.heap_setCell w ⟨k, i, none⟩ v j (by have := (h.lt j hj).1; show j ≠ k; omega)
/-- a heap in new memory. -/
def DI (w : World) (e : Ending) (w' : World) : Prop := ∃ x : R, x.f2.ls.length ≤ 30 ∧ e = .returned x.val ∧ RowOwn w' w.heap.size x.f2 ∧ Below w.heap.size w w'
set_option maxHeartbeats 800000 in
theorem drawIs (A : Option Addr) (cap : Nat) (zs : List Int) (w : World) (h : Draw.Src w A zs) : Calls Tryd.prog 48 #[.slice A zs.length cap] w (DI w) := by
  have C0 := cu_at (h.below (al (Below.refl _ w) (o := .cells #[.int .i64 0, .int .i64 0, .slice none 0 0, .bool false] 41))) cap (p := w.heap.size + 1) (by rw [size_alloc'])
  have R0 := (Cb.new w [.int .i64 0, .int .i64 0, .slice none 0 0, .bool false] 41 (g := w.heap.size) rfl).alloc (.cells #[.slice A zs.length cap, .int .i64 0, .int .u64 0] 49)
  have G0 : w.grownBy ((w.alloc (.cells #[.int .i64 0, .int .i64 0, .slice none 0 0, .bool false] 41)).alloc (.cells #[.slice A zs.length cap, .int .i64 0, .int .u64 0] 49)) (some (w.heap.size + 1)) := grown_trans (grown_alloc w _ _) (grown_alloc _ _ _)
  have S0 : ((w.alloc (.cells #[.int .i64 0, .int .i64 0, .slice none 0 0, .bool false] 41)).alloc (.cells #[.slice A zs.length cap, .int .i64 0, .int .u64 0] 49)).heap.size = w.heap.size + 1 + 1 := by rw [size_alloc', size_alloc']
  have H0 := Lib.hid (And.intro C0 (And.intro R0 (And.intro G0 S0))); clear C0 R0 G0 S0
  go_enter Tryd.func48, Tryd.ntmps48
  go_wp2_with fail
  obtain ⟨C0, R, GW, sv⟩ := H0.out
  obtain ⟨B, C⟩ : ∃ B, Cu B zs (w.heap.size + 1) 0 ((w.alloc (.cells #[.int .i64 0, .int .i64 0, .slice none 0 0, .bool false] 41)).alloc (.cells #[.slice A zs.length cap, .int .i64 0, .int .u64 0] 49)) := ⟨_, C0⟩
  clear C0 H0
  generalize (w.alloc (.cells #[.int .i64 0, .int .i64 0, .slice none 0 0, .bool false] 41)).alloc (.cells #[.slice A zs.length cap, .int .i64 0, .int .u64 0] 49) = v at C R GW sv ⊢
  have zw : w.heap.size < w.heap.size + 1 := Nat.lt_succ_self _
  generalize w.heap.size + 1 = p at *
  refine (among_d B zs p _ _ (p + 1) 3 [1, 42, 99] (C.alloc _) (by omega) (lst_at v [.int .i64 1, .int .i64 42, .int .i64 99] 3 (g := p + 1) sv.symm) (by omega) (by simp) (by simp)).mono ?_
  rintro e V1 ⟨i, hi, rfl, C1, G1⟩
  replace GW := grown_trans (grown_trans GW (grown_alloc v _ _)) G1
  replace R := (R.alloc (.cells #[.int .i64 1, .int .i64 42, .int .i64 99] 3)).went G1 (by omega)
  clear C G1
  go_wp2_with fail
  refine (DHeap.heap_d B zs p _ V1 C1 (by omega) i).mono ?_
  rintro e V2 ⟨x, hx, he, O, C2, G2⟩
  obtain rfl : e = .returned (.agg #[.int .i64 x.f0, .int .i64 x.f1, .slice x.f2.A x.f2.ls.length x.f2.cap, .bool x.f3]) := he
  replace GW := grown_trans GW G2
  replace R := R.went G2 (by omega)
  have HB := below_of GW (by omega)
  clear GW G2 C1 C2
  have r0 := R.cells 0 _ rfl
  have r1 := R.cells 1 _ rfl
  have r2 := R.cells 2 _ rfl
  have r3 := R.cells 3 _ rfl
  have f0 := R.free 0 (by simp)
  have f1 := R.free 1 (by simp)
  have f2 := R.free 2 (by simp)
  have f3 := R.free 3 (by simp)
  have HOR := Lib.hid (And.intro O R); clear O R
  go_wp2
  have Q := ((((HOR.out.2).set 0 (.int .i64 x.f0)).set 1 (.int .i64 x.f1)).set 2 (.slice x.f2.A x.f2.ls.length x.f2.cap)).set 3 (.bool x.f3)
  have q0 := Q.cells 0 _ rfl
  have q1 := Q.cells 1 _ rfl
  have q2 := Q.cells 2 _ rfl
  have q3 := Q.cells 3 _ rfl
  have Q1 := row_low (row_low (row_low (row_low (HOR.out.1) (k := w.heap.size) (by omega) 0 (.int .i64 x.f0)) (k := w.heap.size) (by omega) 1 (.int .i64 x.f1)) (k := w.heap.size) (by omega) 2 (.slice x.f2.A x.f2.ls.length x.f2.cap)) (k := w.heap.size) (by omega) 3 (.bool x.f3)
  exact bodyPost_ret (v := x.val) (by simp [HeapS.R.val, results, Tryd.results48, go_sem, q0, q1, q2, q3]) rfl ⟨x, hx, rfl, Q1.base (by omega), below_set (below_set (below_set (below_set (HB) (Nat.le_refl _) _ _) (Nat.le_refl _) _ _) (Nat.le_refl _) _ _) (Nat.le_refl _) _ _⟩
set_option maxHeartbeats 1600000 in
theorem drawText (A : Option Addr) (cap : Nat) (zs : List Int) (w : World) (h : Draw.Src w A zs) : Calls Tryd.prog 19 #[.slice A zs.length cap] w (DI w) := by
  have h1 := h.below (al (Below.refl _ w) (o := .cells #[.int .i64 0, .int .i64 0, .slice none 0 0, .bool false] 41))
  have R0 := Cb.new w [.int .i64 0, .int .i64 0, .slice none 0 0, .bool false] 41 (g := w.heap.size) rfl
  have S0 := size_alloc' w (.cells #[.int .i64 0, .int .i64 0, .slice none 0 0, .bool false] 41)
  have B0 := al (Below.refl _ w) (o := .cells #[.int .i64 0, .int .i64 0, .slice none 0 0, .bool false] 41)
  have H0 := Lib.hid (And.intro h1 (And.intro R0 (And.intro S0 B0))); clear h1 R0 S0 B0 h
  go_enter Tryd.func19, Tryd.ntmps19
  go_wp2_with fail
  refine (drawIs A cap zs _ H0.out.1).mono ?_
  rintro e V ⟨x, hx, he, O, HB1⟩
  obtain rfl : e = .returned (.agg #[.int .i64 x.f0, .int .i64 x.f1, .slice x.f2.A x.f2.ls.length x.f2.cap, .bool x.f3]) := he
  have HB := H0.out.2.2.2.trans (HB1.mono (by rw [H0.out.2.2.1]; omega))
  have R := H0.out.2.1.more HB1
  rw [H0.out.2.2.1] at O
  clear H0 HB1
  have r0 := R.cells 0 _ rfl
  have r1 := R.cells 1 _ rfl
  have r2 := R.cells 2 _ rfl
  have r3 := R.cells 3 _ rfl
  have f0 := R.free 0 (by simp)
  have f1 := R.free 1 (by simp)
  have f2 := R.free 2 (by simp)
  have f3 := R.free 3 (by simp)
  have HOR := Lib.hid (And.intro O R); clear O R
  go_wp2
  have Q := ((((HOR.out.2).set 0 (.int .i64 x.f0)).set 1 (.int .i64 x.f1)).set 2 (.slice x.f2.A x.f2.ls.length x.f2.cap)).set 3 (.bool x.f3)
  have q0 := Q.cells 0 _ rfl
  have q1 := Q.cells 1 _ rfl
  have q2 := Q.cells 2 _ rfl
  have q3 := Q.cells 3 _ rfl
  have Q1 := row_low (row_low (row_low (row_low (HOR.out.1) (k := w.heap.size) (by omega) 0 (.int .i64 x.f0)) (k := w.heap.size) (by omega) 1 (.int .i64 x.f1)) (k := w.heap.size) (by omega) 2 (.slice x.f2.A x.f2.ls.length x.f2.cap)) (k := w.heap.size) (by omega) 3 (.bool x.f3)
  exact bodyPost_ret (v := x.val) (by simp [HeapS.R.val, results, Tryd.results19, go_sem, q0, q1, q2, q3]) rfl ⟨x, hx, rfl, Q1.base (by omega), below_set (below_set (below_set (below_set (HB) (Nat.le_refl _) _ _) (Nat.le_refl _) _ _) (Nat.le_refl _) _ _) (Nat.le_refl _) _ _⟩
end Go.Proofs.YtokgncbcknpfiaaDoor.DHeaps5
