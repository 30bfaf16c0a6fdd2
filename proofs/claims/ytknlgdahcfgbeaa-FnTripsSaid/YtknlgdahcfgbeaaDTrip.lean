/- The draw of a trip. Made by tools/mk_dtrip.py. -/
import Derived.Test.YtknlgdahcfgbeaaDr
import Derived.Test.YtknlgdahcfgbeaaDTrip0
namespace Go.Proofs.Ytknlgdahcfgbeaa.DTrip
open Go.RowKit Go.Proofs.Ytknlgdahcfgbeaa.Mem Go.Proofs.Ytknlgdahcfgbeaa.Base Go.Proofs.Ytknlgdahcfgbeaa.Draw Go.Proofs.Ytknlgdahcfgbeaa.Boxes Go.Proofs.Ytknlgdahcfgbeaa.Keep Go.Proofs.Ytknlgdahcfgbeaa.Dr Go.Proofs.Ytknlgdahcfgbeaa.STrip Go.Proofs.Ytknlgdahcfgbeaa.DTrip0
set_option linter.unusedVariables false
set_option maxRecDepth 100000
set_option maxHeartbeats 1600000 in
theorem trip_d (B : Nat) (zs : List Int) (p K : Nat) (w : World) (id : Int) (i0 : -10 ≤ id) (i1 : id ≤ 1000) (C : Cu B zs p K w) (hK : K ≤ 800000000) :
    Calls Try.prog 35 #[.pointer (some ⟨p, 0, none⟩), .int .i64 id] w fun e w' => ∃ x : R, Sm x ∧ e = .returned (.agg #[.int .i64 x.f0, .int .i64 x.f1, .int .i64 x.f2, .int .i64 x.f3, .int .i64 x.f4]) ∧ Cu B zs p (K + 12) w' ∧ w.grownBy w' (some p) := by
  go_enter Try.func35, Try.ntmps35
  have hp := C.lt
  have hB := C.base
  have GW : w.grownBy w (some p) := grown_refl w _
  go_wp2_with fail
  have X := Cb.new w [.int .i64 0, .int .i64 0, .int .i64 0, .int .i64 0, .int .i64 0] 25 (g := w.heap.size) rfl
  replace C := (C.alloc (.cells #[.int .i64 0, .int .i64 0, .int .i64 0, .int .i64 0, .int .i64 0] 25))
  replace GW := (grown_trans GW (grown_alloc _ (.cells #[.int .i64 0, .int .i64 0, .int .i64 0, .int .i64 0, .int .i64 0] 25) _))
  have su1 : (w.alloc (.cells #[.int .i64 0, .int .i64 0, .int .i64 0, .int .i64 0, .int .i64 0] 25)).heap.size = w.heap.size + 1 := by simp only [size_alloc']
  generalize (w.alloc (.cells #[.int .i64 0, .int .i64 0, .int .i64 0, .int .i64 0, .int .i64 0] 25)) = u1 at X GW C su1 ⊢
  have zu1 := GW.size
  try go_wp2_with fail
  refine (among_d B zs p (K) _ _ 5 [0, 0, 2, 5, 9] (C.alloc (.cells #[.int .i64 0, .int .i64 0, .int .i64 2, .int .i64 5, .int .i64 9] 3)) (by omega) (lst_at u1 _ _ (by omega)) (by omega) (by simp) (by simp)).mono ?_
  rintro e u2 ⟨a, hx, rfl, C1, G⟩
  have a_r : 0 ≤ a ∧ a ≤ 9 := by simp at hx; omega
  clear hx
  have yu2 : u1.heap.size ≤ u2.heap.size := (by have := G.size; simp only [size_alloc'] at this; omega)
  replace X := (X.alloc (.cells #[.int .i64 0, .int .i64 0, .int .i64 2, .int .i64 5, .int .i64 9] 3)).went G (by omega)
  replace GW := grown_trans (grown_trans GW (grown_alloc _ (.cells #[.int .i64 0, .int .i64 0, .int .i64 2, .int .i64 5, .int .i64 9] 3) _)) G
  replace C := C1
  clear C1 G
  have zu2 := GW.size
  try go_wp2_with fail
  refine (among_d B zs p (K + 2) _ _ 5 [1, 3, 5, 8, 9] (C.alloc (.cells #[.int .i64 1, .int .i64 3, .int .i64 5, .int .i64 8, .int .i64 9] 3)) (by omega) (lst_at u2 _ _ (by omega)) (by omega) (by simp) (by simp)).mono ?_
  rintro e u3 ⟨b, hx, rfl, C1, G⟩
  have b_r : 1 ≤ b ∧ b ≤ 9 := by simp at hx; omega
  clear hx
  have yu3 : u2.heap.size ≤ u3.heap.size := (by have := G.size; simp only [size_alloc'] at this; omega)
  replace X := (X.alloc (.cells #[.int .i64 1, .int .i64 3, .int .i64 5, .int .i64 8, .int .i64 9] 3)).went G (by omega)
  replace GW := grown_trans (grown_trans GW (grown_alloc _ (.cells #[.int .i64 1, .int .i64 3, .int .i64 5, .int .i64 8, .int .i64 9] 3) _)) G
  replace C := C1
  clear C1 G
  have zu3 := GW.size
  try go_wp2_with fail
  refine (among_d B zs p (K + 2 + 2) _ _ 8 [0, 480, 480, 484, 490, 500, 520, 1400] (C.alloc (.cells #[.int .i64 0, .int .i64 480, .int .i64 480, .int .i64 484, .int .i64 490, .int .i64 500, .int .i64 520, .int .i64 1400] 3)) (by omega) (lst_at u3 _ _ (by omega)) (by omega) (by simp) (by simp)).mono ?_
  rintro e u4 ⟨c, hx, rfl, C1, G⟩
  have c_r : 0 ≤ c ∧ c ≤ 1400 := by simp at hx; omega
  clear hx
  have yu4 : u3.heap.size ≤ u4.heap.size := (by have := G.size; simp only [size_alloc'] at this; omega)
  replace X := (X.alloc (.cells #[.int .i64 0, .int .i64 480, .int .i64 480, .int .i64 484, .int .i64 490, .int .i64 500, .int .i64 520, .int .i64 1400] 3)).went G (by omega)
  replace GW := grown_trans (grown_trans GW (grown_alloc _ (.cells #[.int .i64 0, .int .i64 480, .int .i64 480, .int .i64 484, .int .i64 490, .int .i64 500, .int .i64 520, .int .i64 1400] 3) _)) G
  replace C := C1
  clear C1 G
  have zu4 := GW.size
  try go_wp2_with fail
  refine (among_d B zs p (K + 2 + 2 + 2) _ _ 4 [0, 1, 3, 8] (C.alloc (.cells #[.int .i64 0, .int .i64 1, .int .i64 3, .int .i64 8] 3)) (by omega) (lst_at u4 _ _ (by omega)) (by omega) (by simp) (by simp)).mono ?_
  rintro e u5 ⟨d, hx, rfl, C1, G⟩
  have d_r : 0 ≤ d ∧ d ≤ 8 := by simp at hx; omega
  clear hx
  have yu5 : u4.heap.size ≤ u5.heap.size := (by have := G.size; simp only [size_alloc'] at this; omega)
  replace X := (X.alloc (.cells #[.int .i64 0, .int .i64 1, .int .i64 3, .int .i64 8] 3)).went G (by omega)
  replace GW := grown_trans (grown_trans GW (grown_alloc _ (.cells #[.int .i64 0, .int .i64 1, .int .i64 3, .int .i64 8] 3) _)) G
  replace C := C1
  clear C1 G
  have zu5 := GW.size
  go_wp2_with fail
  have D := Cb.new u5 [.int .i64 id, .int .i64 a, .int .i64 b, .int .i64 c, .int .i64 d] 25 (g := u5.heap.size) rfl
  replace X := (X.alloc (.cells #[.int .i64 id, .int .i64 a, .int .i64 b, .int .i64 c, .int .i64 d] 25))
  replace C := (C.alloc (.cells #[.int .i64 id, .int .i64 a, .int .i64 b, .int .i64 c, .int .i64 d] 25))
  replace GW := (grown_trans GW (grown_alloc _ (.cells #[.int .i64 id, .int .i64 a, .int .i64 b, .int .i64 c, .int .i64 d] 25) _))
  have su6 : (u5.alloc (.cells #[.int .i64 id, .int .i64 a, .int .i64 b, .int .i64 c, .int .i64 d] 25)).heap.size = u5.heap.size + 1 := by simp only [size_alloc']
  generalize (u5.alloc (.cells #[.int .i64 id, .int .i64 a, .int .i64 b, .int .i64 c, .int .i64 d] 25)) = u6 at D X GW C su6 ⊢
  have zu6 := GW.size
  try go_wp2_with fail
  refine (pick_d B zs p (K + 2 + 2 + 2 + 2) _ 90 C (by omega) (by omega) (by omega)).mono ?_
  rintro e u7 ⟨z, z_r, rfl, C1, G⟩
  have yu7 : u6.heap.size ≤ u7.heap.size := G.size
  replace X := (X).went G (by omega)
  replace D := (D).went G (by omega)
  replace GW := grown_trans GW G
  replace C := C1
  clear C1 G
  have zu7 := GW.size
  by_cases h0 : z = 0
  · subst h0
    try go_wp2_with fail
    refine (among_d B zs p (K + 2 + 2 + 2 + 2 + 2) _ _ 3 [0, 99, 100] (C.alloc (.cells #[.int .i64 0, .int .i64 99, .int .i64 100] 3)) (by omega) (lst_at u7 _ _ (by omega)) (by omega) (by simp) (by simp)).mono ?_
    rintro e u8 ⟨q, hx, rfl, C1, G⟩
    have q_r : 0 ≤ q ∧ q ≤ 100 := by simp at hx; omega
    clear hx
    have yu8 : u7.heap.size ≤ u8.heap.size := (by have := G.size; simp only [size_alloc'] at this; omega)
    replace X := (X.alloc (.cells #[.int .i64 0, .int .i64 99, .int .i64 100] 3)).went G (by omega)
    replace D := (D.alloc (.cells #[.int .i64 0, .int .i64 99, .int .i64 100] 3)).went G (by omega)
    replace GW := grown_trans (grown_trans GW (grown_alloc _ (.cells #[.int .i64 0, .int .i64 99, .int .i64 100] 3) _)) G
    replace C := C1
    clear C1 G
    have zu8 := GW.size
    have X_0 := X.cells 0 _ rfl
    have X_1 := X.cells 1 _ rfl
    have X_2 := X.cells 2 _ rfl
    have X_3 := X.cells 3 _ rfl
    have X_4 := X.cells 4 _ rfl
    have X_f0 := X.free 0 (by simp)
    have X_f1 := X.free 1 (by simp)
    have X_f2 := X.free 2 (by simp)
    have X_f3 := X.free 3 (by simp)
    have X_f4 := X.free 4 (by simp)
    have X_t := X.there
    have D_0 := D.cells 0 _ rfl
    have D_1 := D.cells 1 _ rfl
    have D_2 := D.cells 2 _ rfl
    have D_3 := D.cells 3 _ rfl
    have D_4 := D.cells 4 _ rfl
    have D_f0 := D.free 0 (by simp)
    have D_f1 := D.free 1 (by simp)
    have D_f2 := D.free 2 (by simp)
    have D_f3 := D.free 3 (by simp)
    have D_f4 := D.free 4 (by simp)
    have D_t := D.there
    go_wp2
    clear X_0 X_1 X_2 X_3 X_4 X_f0 X_f1 X_f2 X_f3 X_f4 X_t
    clear D_0 D_1 D_2 D_3 D_4 D_f0 D_f1 D_f2 D_f3 D_f4 D_t
    have X' : Cb (w.heap.size) [.int .i64 q, .int .i64 a, .int .i64 b, .int .i64 c, .int .i64 d] _ := ((((((X.far (k := u5.heap.size) (by omega) 0 (.int .i64 q)).set 0 (.int .i64 q)).set 1 (.int .i64 a)).set 2 (.int .i64 b)).set 3 (.int .i64 c)).set 4 (.int .i64 d))
    have D' : Cb (u5.heap.size) [.int .i64 q, .int .i64 a, .int .i64 b, .int .i64 c, .int .i64 d] _ := ((((((D.set 0 (.int .i64 q)).far (k := w.heap.size) (by omega) 0 (.int .i64 q)).far (k := w.heap.size) (by omega) 1 (.int .i64 a)).far (k := w.heap.size) (by omega) 2 (.int .i64 b)).far (k := w.heap.size) (by omega) 3 (.int .i64 c)).far (k := w.heap.size) (by omega) 4 (.int .i64 d))
    clear X; have X := X'; clear X'
    clear D; have D := D'; clear D'
    replace C := ((((((C.set (g := u5.heap.size) (by omega) (by omega) 0 (.int .i64 q)).set (g := w.heap.size) (by omega) (by omega) 0 (.int .i64 q)).set (g := w.heap.size) (by omega) (by omega) 1 (.int .i64 a)).set (g := w.heap.size) (by omega) (by omega) 2 (.int .i64 b)).set (g := w.heap.size) (by omega) (by omega) 3 (.int .i64 c)).set (g := w.heap.size) (by omega) (by omega) 4 (.int .i64 d))
    replace GW := (grown_set (grown_set (grown_set (grown_set (grown_set (grown_set GW (g := u5.heap.size) (by omega) 0 (.int .i64 q)) (g := w.heap.size) (by omega) 0 (.int .i64 q)) (g := w.heap.size) (by omega) 1 (.int .i64 a)) (g := w.heap.size) (by omega) 2 (.int .i64 b)) (g := w.heap.size) (by omega) 3 (.int .i64 c)) (g := w.heap.size) (by omega) 4 (.int .i64 d))
    generalize ((((((u8.setCell ⟨u5.heap.size, 0, none⟩ (.int .i64 q)).setCell ⟨w.heap.size, 0, none⟩ (.int .i64 q)).setCell ⟨w.heap.size, 1, none⟩ (.int .i64 a)).setCell ⟨w.heap.size, 2, none⟩ (.int .i64 b)).setCell ⟨w.heap.size, 3, none⟩ (.int .i64 c)).setCell ⟨w.heap.size, 4, none⟩ (.int .i64 d)) = u9 at X D GW C ⊢
    have zu9 := GW.size
    have X_0 := X.cells 0 _ rfl
    have X_1 := X.cells 1 _ rfl
    have X_2 := X.cells 2 _ rfl
    have X_3 := X.cells 3 _ rfl
    have X_4 := X.cells 4 _ rfl
    have X_f0 := X.free 0 (by simp)
    have X_f1 := X.free 1 (by simp)
    have X_f2 := X.free 2 (by simp)
    have X_f3 := X.free 3 (by simp)
    have X_f4 := X.free 4 (by simp)
    have X_t := X.there
    exact bodyPost_ret (v := .agg #[.int .i64 q, .int .i64 a, .int .i64 b, .int .i64 c, .int .i64 d]) (by simp [results, Try.results35, go_sem, X_0, X_1, X_2, X_3, X_4]) rfl ⟨⟨q, a, b, c, d⟩, (by unfold Sm; simp only; omega), rfl, C.le (by omega), GW⟩
  by_cases h1 : z = 1
  · subst h1
    try go_wp2_with fail
    refine (among_d B zs p (K + 2 + 2 + 2 + 2 + 2) _ _ 2 [-1, 10] (C.alloc (.cells #[.int .i64 (-1), .int .i64 10] 3)) (by omega) (lst_at u7 _ _ (by omega)) (by omega) (by simp) (by simp)).mono ?_
    rintro e u8 ⟨q, hx, rfl, C1, G⟩
    have q_r : -1 ≤ q ∧ q ≤ 10 := by simp at hx; omega
    clear hx
    have yu8 : u7.heap.size ≤ u8.heap.size := (by have := G.size; simp only [size_alloc'] at this; omega)
    replace X := (X.alloc (.cells #[.int .i64 (-1), .int .i64 10] 3)).went G (by omega)
    replace D := (D.alloc (.cells #[.int .i64 (-1), .int .i64 10] 3)).went G (by omega)
    replace GW := grown_trans (grown_trans GW (grown_alloc _ (.cells #[.int .i64 (-1), .int .i64 10] 3) _)) G
    replace C := C1
    clear C1 G
    have zu8 := GW.size
    have X_0 := X.cells 0 _ rfl
    have X_1 := X.cells 1 _ rfl
    have X_2 := X.cells 2 _ rfl
    have X_3 := X.cells 3 _ rfl
    have X_4 := X.cells 4 _ rfl
    have X_f0 := X.free 0 (by simp)
    have X_f1 := X.free 1 (by simp)
    have X_f2 := X.free 2 (by simp)
    have X_f3 := X.free 3 (by simp)
    have X_f4 := X.free 4 (by simp)
    have X_t := X.there
    have D_0 := D.cells 0 _ rfl
    have D_1 := D.cells 1 _ rfl
    have D_2 := D.cells 2 _ rfl
    have D_3 := D.cells 3 _ rfl
    have D_4 := D.cells 4 _ rfl
    have D_f0 := D.free 0 (by simp)
    have D_f1 := D.free 1 (by simp)
    have D_f2 := D.free 2 (by simp)
    have D_f3 := D.free 3 (by simp)
    have D_f4 := D.free 4 (by simp)
    have D_t := D.there
    go_wp2
    clear X_0 X_1 X_2 X_3 X_4 X_f0 X_f1 X_f2 X_f3 X_f4 X_t
    clear D_0 D_1 D_2 D_3 D_4 D_f0 D_f1 D_f2 D_f3 D_f4 D_t
    have X' : Cb (w.heap.size) [.int .i64 id, .int .i64 q, .int .i64 b, .int .i64 c, .int .i64 d] _ := ((((((X.far (k := u5.heap.size) (by omega) 1 (.int .i64 q)).set 0 (.int .i64 id)).set 1 (.int .i64 q)).set 2 (.int .i64 b)).set 3 (.int .i64 c)).set 4 (.int .i64 d))
    have D' : Cb (u5.heap.size) [.int .i64 id, .int .i64 q, .int .i64 b, .int .i64 c, .int .i64 d] _ := ((((((D.set 1 (.int .i64 q)).far (k := w.heap.size) (by omega) 0 (.int .i64 id)).far (k := w.heap.size) (by omega) 1 (.int .i64 q)).far (k := w.heap.size) (by omega) 2 (.int .i64 b)).far (k := w.heap.size) (by omega) 3 (.int .i64 c)).far (k := w.heap.size) (by omega) 4 (.int .i64 d))
    clear X; have X := X'; clear X'
    clear D; have D := D'; clear D'
    replace C := ((((((C.set (g := u5.heap.size) (by omega) (by omega) 1 (.int .i64 q)).set (g := w.heap.size) (by omega) (by omega) 0 (.int .i64 id)).set (g := w.heap.size) (by omega) (by omega) 1 (.int .i64 q)).set (g := w.heap.size) (by omega) (by omega) 2 (.int .i64 b)).set (g := w.heap.size) (by omega) (by omega) 3 (.int .i64 c)).set (g := w.heap.size) (by omega) (by omega) 4 (.int .i64 d))
    replace GW := (grown_set (grown_set (grown_set (grown_set (grown_set (grown_set GW (g := u5.heap.size) (by omega) 1 (.int .i64 q)) (g := w.heap.size) (by omega) 0 (.int .i64 id)) (g := w.heap.size) (by omega) 1 (.int .i64 q)) (g := w.heap.size) (by omega) 2 (.int .i64 b)) (g := w.heap.size) (by omega) 3 (.int .i64 c)) (g := w.heap.size) (by omega) 4 (.int .i64 d))
    generalize ((((((u8.setCell ⟨u5.heap.size, 1, none⟩ (.int .i64 q)).setCell ⟨w.heap.size, 0, none⟩ (.int .i64 id)).setCell ⟨w.heap.size, 1, none⟩ (.int .i64 q)).setCell ⟨w.heap.size, 2, none⟩ (.int .i64 b)).setCell ⟨w.heap.size, 3, none⟩ (.int .i64 c)).setCell ⟨w.heap.size, 4, none⟩ (.int .i64 d)) = u9 at X D GW C ⊢
    have zu9 := GW.size
    have X_0 := X.cells 0 _ rfl
    have X_1 := X.cells 1 _ rfl
    have X_2 := X.cells 2 _ rfl
    have X_3 := X.cells 3 _ rfl
    have X_4 := X.cells 4 _ rfl
    have X_f0 := X.free 0 (by simp)
    have X_f1 := X.free 1 (by simp)
    have X_f2 := X.free 2 (by simp)
    have X_f3 := X.free 3 (by simp)
    have X_f4 := X.free 4 (by simp)
    have X_t := X.there
    exact bodyPost_ret (v := .agg #[.int .i64 id, .int .i64 q, .int .i64 b, .int .i64 c, .int .i64 d]) (by simp [results, Try.results35, go_sem, X_0, X_1, X_2, X_3, X_4]) rfl ⟨⟨id, q, b, c, d⟩, (by unfold Sm; simp only; omega), rfl, C.le (by omega), GW⟩
  by_cases h2 : z = 2
  · subst h2
    have D_0 := D.cells 0 _ rfl
    have D_1 := D.cells 1 _ rfl
    have D_2 := D.cells 2 _ rfl
    have D_3 := D.cells 3 _ rfl
    have D_4 := D.cells 4 _ rfl
    have D_f0 := D.free 0 (by simp)
    have D_f1 := D.free 1 (by simp)
    have D_f2 := D.free 2 (by simp)
    have D_f3 := D.free 3 (by simp)
    have D_f4 := D.free 4 (by simp)
    have D_t := D.there
    go_wp2_with fail
    clear D_0 D_1 D_2 D_3 D_4 D_f0 D_f1 D_f2 D_f3 D_f4 D_t
    try go_wp2_with fail
    refine (among_d B zs p (K + 2 + 2 + 2 + 2 + 2) _ _ 3 [-1, 10, a] (C.alloc (.cells #[.int .i64 (-1), .int .i64 10, .int .i64 a] 3)) (by omega) (lst_at u7 _ _ (by omega)) (by omega) (by simp) (by simp)).mono ?_
    rintro e u8 ⟨q, hx, rfl, C1, G⟩
    have q_r : -1 ≤ q ∧ q ≤ 10 := by simp at hx; omega
    clear hx
    have yu8 : u7.heap.size ≤ u8.heap.size := (by have := G.size; simp only [size_alloc'] at this; omega)
    replace X := (X.alloc (.cells #[.int .i64 (-1), .int .i64 10, .int .i64 a] 3)).went G (by omega)
    replace D := (D.alloc (.cells #[.int .i64 (-1), .int .i64 10, .int .i64 a] 3)).went G (by omega)
    replace GW := grown_trans (grown_trans GW (grown_alloc _ (.cells #[.int .i64 (-1), .int .i64 10, .int .i64 a] 3) _)) G
    replace C := C1
    clear C1 G
    have zu8 := GW.size
    have X_0 := X.cells 0 _ rfl
    have X_1 := X.cells 1 _ rfl
    have X_2 := X.cells 2 _ rfl
    have X_3 := X.cells 3 _ rfl
    have X_4 := X.cells 4 _ rfl
    have X_f0 := X.free 0 (by simp)
    have X_f1 := X.free 1 (by simp)
    have X_f2 := X.free 2 (by simp)
    have X_f3 := X.free 3 (by simp)
    have X_f4 := X.free 4 (by simp)
    have X_t := X.there
    have D_0 := D.cells 0 _ rfl
    have D_1 := D.cells 1 _ rfl
    have D_2 := D.cells 2 _ rfl
    have D_3 := D.cells 3 _ rfl
    have D_4 := D.cells 4 _ rfl
    have D_f0 := D.free 0 (by simp)
    have D_f1 := D.free 1 (by simp)
    have D_f2 := D.free 2 (by simp)
    have D_f3 := D.free 3 (by simp)
    have D_f4 := D.free 4 (by simp)
    have D_t := D.there
    go_wp2
    clear X_0 X_1 X_2 X_3 X_4 X_f0 X_f1 X_f2 X_f3 X_f4 X_t
    clear D_0 D_1 D_2 D_3 D_4 D_f0 D_f1 D_f2 D_f3 D_f4 D_t
    have X' : Cb (w.heap.size) [.int .i64 id, .int .i64 a, .int .i64 q, .int .i64 c, .int .i64 d] _ := ((((((X.far (k := u5.heap.size) (by omega) 2 (.int .i64 q)).set 0 (.int .i64 id)).set 1 (.int .i64 a)).set 2 (.int .i64 q)).set 3 (.int .i64 c)).set 4 (.int .i64 d))
    have D' : Cb (u5.heap.size) [.int .i64 id, .int .i64 a, .int .i64 q, .int .i64 c, .int .i64 d] _ := ((((((D.set 2 (.int .i64 q)).far (k := w.heap.size) (by omega) 0 (.int .i64 id)).far (k := w.heap.size) (by omega) 1 (.int .i64 a)).far (k := w.heap.size) (by omega) 2 (.int .i64 q)).far (k := w.heap.size) (by omega) 3 (.int .i64 c)).far (k := w.heap.size) (by omega) 4 (.int .i64 d))
    clear X; have X := X'; clear X'
    clear D; have D := D'; clear D'
    replace C := ((((((C.set (g := u5.heap.size) (by omega) (by omega) 2 (.int .i64 q)).set (g := w.heap.size) (by omega) (by omega) 0 (.int .i64 id)).set (g := w.heap.size) (by omega) (by omega) 1 (.int .i64 a)).set (g := w.heap.size) (by omega) (by omega) 2 (.int .i64 q)).set (g := w.heap.size) (by omega) (by omega) 3 (.int .i64 c)).set (g := w.heap.size) (by omega) (by omega) 4 (.int .i64 d))
    replace GW := (grown_set (grown_set (grown_set (grown_set (grown_set (grown_set GW (g := u5.heap.size) (by omega) 2 (.int .i64 q)) (g := w.heap.size) (by omega) 0 (.int .i64 id)) (g := w.heap.size) (by omega) 1 (.int .i64 a)) (g := w.heap.size) (by omega) 2 (.int .i64 q)) (g := w.heap.size) (by omega) 3 (.int .i64 c)) (g := w.heap.size) (by omega) 4 (.int .i64 d))
    generalize ((((((u8.setCell ⟨u5.heap.size, 2, none⟩ (.int .i64 q)).setCell ⟨w.heap.size, 0, none⟩ (.int .i64 id)).setCell ⟨w.heap.size, 1, none⟩ (.int .i64 a)).setCell ⟨w.heap.size, 2, none⟩ (.int .i64 q)).setCell ⟨w.heap.size, 3, none⟩ (.int .i64 c)).setCell ⟨w.heap.size, 4, none⟩ (.int .i64 d)) = u9 at X D GW C ⊢
    have zu9 := GW.size
    have X_0 := X.cells 0 _ rfl
    have X_1 := X.cells 1 _ rfl
    have X_2 := X.cells 2 _ rfl
    have X_3 := X.cells 3 _ rfl
    have X_4 := X.cells 4 _ rfl
    have X_f0 := X.free 0 (by simp)
    have X_f1 := X.free 1 (by simp)
    have X_f2 := X.free 2 (by simp)
    have X_f3 := X.free 3 (by simp)
    have X_f4 := X.free 4 (by simp)
    have X_t := X.there
    exact bodyPost_ret (v := .agg #[.int .i64 id, .int .i64 a, .int .i64 q, .int .i64 c, .int .i64 d]) (by simp [results, Try.results35, go_sem, X_0, X_1, X_2, X_3, X_4]) rfl ⟨⟨id, a, q, c, d⟩, (by unfold Sm; simp only; omega), rfl, C.le (by omega), GW⟩
  by_cases h3 : z = 3
  · subst h3
    try go_wp2_with fail
    refine (among_d B zs p (K + 2 + 2 + 2 + 2 + 2) _ _ 4 [-1, 1420, 1440, 1441] (C.alloc (.cells #[.int .i64 (-1), .int .i64 1420, .int .i64 1440, .int .i64 1441] 3)) (by omega) (lst_at u7 _ _ (by omega)) (by omega) (by simp) (by simp)).mono ?_
    rintro e u8 ⟨q, hx, rfl, C1, G⟩
    have q_r : -1 ≤ q ∧ q ≤ 1441 := by simp at hx; omega
    clear hx
    have yu8 : u7.heap.size ≤ u8.heap.size := (by have := G.size; simp only [size_alloc'] at this; omega)
    replace X := (X.alloc (.cells #[.int .i64 (-1), .int .i64 1420, .int .i64 1440, .int .i64 1441] 3)).went G (by omega)
    replace D := (D.alloc (.cells #[.int .i64 (-1), .int .i64 1420, .int .i64 1440, .int .i64 1441] 3)).went G (by omega)
    replace GW := grown_trans (grown_trans GW (grown_alloc _ (.cells #[.int .i64 (-1), .int .i64 1420, .int .i64 1440, .int .i64 1441] 3) _)) G
    replace C := C1
    clear C1 G
    have zu8 := GW.size
    have X_0 := X.cells 0 _ rfl
    have X_1 := X.cells 1 _ rfl
    have X_2 := X.cells 2 _ rfl
    have X_3 := X.cells 3 _ rfl
    have X_4 := X.cells 4 _ rfl
    have X_f0 := X.free 0 (by simp)
    have X_f1 := X.free 1 (by simp)
    have X_f2 := X.free 2 (by simp)
    have X_f3 := X.free 3 (by simp)
    have X_f4 := X.free 4 (by simp)
    have X_t := X.there
    have D_0 := D.cells 0 _ rfl
    have D_1 := D.cells 1 _ rfl
    have D_2 := D.cells 2 _ rfl
    have D_3 := D.cells 3 _ rfl
    have D_4 := D.cells 4 _ rfl
    have D_f0 := D.free 0 (by simp)
    have D_f1 := D.free 1 (by simp)
    have D_f2 := D.free 2 (by simp)
    have D_f3 := D.free 3 (by simp)
    have D_f4 := D.free 4 (by simp)
    have D_t := D.there
    go_wp2
    clear X_0 X_1 X_2 X_3 X_4 X_f0 X_f1 X_f2 X_f3 X_f4 X_t
    clear D_0 D_1 D_2 D_3 D_4 D_f0 D_f1 D_f2 D_f3 D_f4 D_t
    have X' : Cb (w.heap.size) [.int .i64 id, .int .i64 a, .int .i64 b, .int .i64 q, .int .i64 d] _ := ((((((X.far (k := u5.heap.size) (by omega) 3 (.int .i64 q)).set 0 (.int .i64 id)).set 1 (.int .i64 a)).set 2 (.int .i64 b)).set 3 (.int .i64 q)).set 4 (.int .i64 d))
    have D' : Cb (u5.heap.size) [.int .i64 id, .int .i64 a, .int .i64 b, .int .i64 q, .int .i64 d] _ := ((((((D.set 3 (.int .i64 q)).far (k := w.heap.size) (by omega) 0 (.int .i64 id)).far (k := w.heap.size) (by omega) 1 (.int .i64 a)).far (k := w.heap.size) (by omega) 2 (.int .i64 b)).far (k := w.heap.size) (by omega) 3 (.int .i64 q)).far (k := w.heap.size) (by omega) 4 (.int .i64 d))
    clear X; have X := X'; clear X'
    clear D; have D := D'; clear D'
    replace C := ((((((C.set (g := u5.heap.size) (by omega) (by omega) 3 (.int .i64 q)).set (g := w.heap.size) (by omega) (by omega) 0 (.int .i64 id)).set (g := w.heap.size) (by omega) (by omega) 1 (.int .i64 a)).set (g := w.heap.size) (by omega) (by omega) 2 (.int .i64 b)).set (g := w.heap.size) (by omega) (by omega) 3 (.int .i64 q)).set (g := w.heap.size) (by omega) (by omega) 4 (.int .i64 d))
    replace GW := (grown_set (grown_set (grown_set (grown_set (grown_set (grown_set GW (g := u5.heap.size) (by omega) 3 (.int .i64 q)) (g := w.heap.size) (by omega) 0 (.int .i64 id)) (g := w.heap.size) (by omega) 1 (.int .i64 a)) (g := w.heap.size) (by omega) 2 (.int .i64 b)) (g := w.heap.size) (by omega) 3 (.int .i64 q)) (g := w.heap.size) (by omega) 4 (.int .i64 d))
    generalize ((((((u8.setCell ⟨u5.heap.size, 3, none⟩ (.int .i64 q)).setCell ⟨w.heap.size, 0, none⟩ (.int .i64 id)).setCell ⟨w.heap.size, 1, none⟩ (.int .i64 a)).setCell ⟨w.heap.size, 2, none⟩ (.int .i64 b)).setCell ⟨w.heap.size, 3, none⟩ (.int .i64 q)).setCell ⟨w.heap.size, 4, none⟩ (.int .i64 d)) = u9 at X D GW C ⊢
    have zu9 := GW.size
    have X_0 := X.cells 0 _ rfl
    have X_1 := X.cells 1 _ rfl
    have X_2 := X.cells 2 _ rfl
    have X_3 := X.cells 3 _ rfl
    have X_4 := X.cells 4 _ rfl
    have X_f0 := X.free 0 (by simp)
    have X_f1 := X.free 1 (by simp)
    have X_f2 := X.free 2 (by simp)
    have X_f3 := X.free 3 (by simp)
    have X_f4 := X.free 4 (by simp)
    have X_t := X.there
    exact bodyPost_ret (v := .agg #[.int .i64 id, .int .i64 a, .int .i64 b, .int .i64 q, .int .i64 d]) (by simp [results, Try.results35, go_sem, X_0, X_1, X_2, X_3, X_4]) rfl ⟨⟨id, a, b, q, d⟩, (by unfold Sm; simp only; omega), rfl, C.le (by omega), GW⟩
  by_cases h4 : z = 4
  · subst h4
    try go_wp2_with fail
    refine (among_d B zs p (K + 2 + 2 + 2 + 2 + 2) _ _ 2 [-1, 9] (C.alloc (.cells #[.int .i64 (-1), .int .i64 9] 3)) (by omega) (lst_at u7 _ _ (by omega)) (by omega) (by simp) (by simp)).mono ?_
    rintro e u8 ⟨q, hx, rfl, C1, G⟩
    have q_r : -1 ≤ q ∧ q ≤ 9 := by simp at hx; omega
    clear hx
    have yu8 : u7.heap.size ≤ u8.heap.size := (by have := G.size; simp only [size_alloc'] at this; omega)
    replace X := (X.alloc (.cells #[.int .i64 (-1), .int .i64 9] 3)).went G (by omega)
    replace D := (D.alloc (.cells #[.int .i64 (-1), .int .i64 9] 3)).went G (by omega)
    replace GW := grown_trans (grown_trans GW (grown_alloc _ (.cells #[.int .i64 (-1), .int .i64 9] 3) _)) G
    replace C := C1
    clear C1 G
    have zu8 := GW.size
    have X_0 := X.cells 0 _ rfl
    have X_1 := X.cells 1 _ rfl
    have X_2 := X.cells 2 _ rfl
    have X_3 := X.cells 3 _ rfl
    have X_4 := X.cells 4 _ rfl
    have X_f0 := X.free 0 (by simp)
    have X_f1 := X.free 1 (by simp)
    have X_f2 := X.free 2 (by simp)
    have X_f3 := X.free 3 (by simp)
    have X_f4 := X.free 4 (by simp)
    have X_t := X.there
    have D_0 := D.cells 0 _ rfl
    have D_1 := D.cells 1 _ rfl
    have D_2 := D.cells 2 _ rfl
    have D_3 := D.cells 3 _ rfl
    have D_4 := D.cells 4 _ rfl
    have D_f0 := D.free 0 (by simp)
    have D_f1 := D.free 1 (by simp)
    have D_f2 := D.free 2 (by simp)
    have D_f3 := D.free 3 (by simp)
    have D_f4 := D.free 4 (by simp)
    have D_t := D.there
    go_wp2
    clear X_0 X_1 X_2 X_3 X_4 X_f0 X_f1 X_f2 X_f3 X_f4 X_t
    clear D_0 D_1 D_2 D_3 D_4 D_f0 D_f1 D_f2 D_f3 D_f4 D_t
    have X' : Cb (w.heap.size) [.int .i64 id, .int .i64 a, .int .i64 b, .int .i64 c, .int .i64 q] _ := ((((((X.far (k := u5.heap.size) (by omega) 4 (.int .i64 q)).set 0 (.int .i64 id)).set 1 (.int .i64 a)).set 2 (.int .i64 b)).set 3 (.int .i64 c)).set 4 (.int .i64 q))
    have D' : Cb (u5.heap.size) [.int .i64 id, .int .i64 a, .int .i64 b, .int .i64 c, .int .i64 q] _ := ((((((D.set 4 (.int .i64 q)).far (k := w.heap.size) (by omega) 0 (.int .i64 id)).far (k := w.heap.size) (by omega) 1 (.int .i64 a)).far (k := w.heap.size) (by omega) 2 (.int .i64 b)).far (k := w.heap.size) (by omega) 3 (.int .i64 c)).far (k := w.heap.size) (by omega) 4 (.int .i64 q))
    clear X; have X := X'; clear X'
    clear D; have D := D'; clear D'
    replace C := ((((((C.set (g := u5.heap.size) (by omega) (by omega) 4 (.int .i64 q)).set (g := w.heap.size) (by omega) (by omega) 0 (.int .i64 id)).set (g := w.heap.size) (by omega) (by omega) 1 (.int .i64 a)).set (g := w.heap.size) (by omega) (by omega) 2 (.int .i64 b)).set (g := w.heap.size) (by omega) (by omega) 3 (.int .i64 c)).set (g := w.heap.size) (by omega) (by omega) 4 (.int .i64 q))
    replace GW := (grown_set (grown_set (grown_set (grown_set (grown_set (grown_set GW (g := u5.heap.size) (by omega) 4 (.int .i64 q)) (g := w.heap.size) (by omega) 0 (.int .i64 id)) (g := w.heap.size) (by omega) 1 (.int .i64 a)) (g := w.heap.size) (by omega) 2 (.int .i64 b)) (g := w.heap.size) (by omega) 3 (.int .i64 c)) (g := w.heap.size) (by omega) 4 (.int .i64 q))
    generalize ((((((u8.setCell ⟨u5.heap.size, 4, none⟩ (.int .i64 q)).setCell ⟨w.heap.size, 0, none⟩ (.int .i64 id)).setCell ⟨w.heap.size, 1, none⟩ (.int .i64 a)).setCell ⟨w.heap.size, 2, none⟩ (.int .i64 b)).setCell ⟨w.heap.size, 3, none⟩ (.int .i64 c)).setCell ⟨w.heap.size, 4, none⟩ (.int .i64 q)) = u9 at X D GW C ⊢
    have zu9 := GW.size
    have X_0 := X.cells 0 _ rfl
    have X_1 := X.cells 1 _ rfl
    have X_2 := X.cells 2 _ rfl
    have X_3 := X.cells 3 _ rfl
    have X_4 := X.cells 4 _ rfl
    have X_f0 := X.free 0 (by simp)
    have X_f1 := X.free 1 (by simp)
    have X_f2 := X.free 2 (by simp)
    have X_f3 := X.free 3 (by simp)
    have X_f4 := X.free 4 (by simp)
    have X_t := X.there
    exact bodyPost_ret (v := .agg #[.int .i64 id, .int .i64 a, .int .i64 b, .int .i64 c, .int .i64 q]) (by simp [results, Try.results35, go_sem, X_0, X_1, X_2, X_3, X_4]) rfl ⟨⟨id, a, b, c, q⟩, (by unfold Sm; simp only; omega), rfl, C.le (by omega), GW⟩
  have X_0 := X.cells 0 _ rfl
  have X_1 := X.cells 1 _ rfl
  have X_2 := X.cells 2 _ rfl
  have X_3 := X.cells 3 _ rfl
  have X_4 := X.cells 4 _ rfl
  have X_f0 := X.free 0 (by simp)
  have X_f1 := X.free 1 (by simp)
  have X_f2 := X.free 2 (by simp)
  have X_f3 := X.free 3 (by simp)
  have X_f4 := X.free 4 (by simp)
  have X_t := X.there
  have D_0 := D.cells 0 _ rfl
  have D_1 := D.cells 1 _ rfl
  have D_2 := D.cells 2 _ rfl
  have D_3 := D.cells 3 _ rfl
  have D_4 := D.cells 4 _ rfl
  have D_f0 := D.free 0 (by simp)
  have D_f1 := D.free 1 (by simp)
  have D_f2 := D.free 2 (by simp)
  have D_f3 := D.free 3 (by simp)
  have D_f4 := D.free 4 (by simp)
  have D_t := D.there
  go_wp2
  clear X_0 X_1 X_2 X_3 X_4 X_f0 X_f1 X_f2 X_f3 X_f4 X_t
  clear D_0 D_1 D_2 D_3 D_4 D_f0 D_f1 D_f2 D_f3 D_f4 D_t
  have X' : Cb (w.heap.size) [.int .i64 id, .int .i64 a, .int .i64 b, .int .i64 c, .int .i64 d] _ := (((((X.set 0 (.int .i64 id)).set 1 (.int .i64 a)).set 2 (.int .i64 b)).set 3 (.int .i64 c)).set 4 (.int .i64 d))
  have D' : Cb (u5.heap.size) [.int .i64 id, .int .i64 a, .int .i64 b, .int .i64 c, .int .i64 d] _ := (((((D.far (k := w.heap.size) (by omega) 0 (.int .i64 id)).far (k := w.heap.size) (by omega) 1 (.int .i64 a)).far (k := w.heap.size) (by omega) 2 (.int .i64 b)).far (k := w.heap.size) (by omega) 3 (.int .i64 c)).far (k := w.heap.size) (by omega) 4 (.int .i64 d))
  clear X; have X := X'; clear X'
  clear D; have D := D'; clear D'
  replace C := (((((C.set (g := w.heap.size) (by omega) (by omega) 0 (.int .i64 id)).set (g := w.heap.size) (by omega) (by omega) 1 (.int .i64 a)).set (g := w.heap.size) (by omega) (by omega) 2 (.int .i64 b)).set (g := w.heap.size) (by omega) (by omega) 3 (.int .i64 c)).set (g := w.heap.size) (by omega) (by omega) 4 (.int .i64 d))
  replace GW := (grown_set (grown_set (grown_set (grown_set (grown_set GW (g := w.heap.size) (by omega) 0 (.int .i64 id)) (g := w.heap.size) (by omega) 1 (.int .i64 a)) (g := w.heap.size) (by omega) 2 (.int .i64 b)) (g := w.heap.size) (by omega) 3 (.int .i64 c)) (g := w.heap.size) (by omega) 4 (.int .i64 d))
  generalize (((((u7.setCell ⟨w.heap.size, 0, none⟩ (.int .i64 id)).setCell ⟨w.heap.size, 1, none⟩ (.int .i64 a)).setCell ⟨w.heap.size, 2, none⟩ (.int .i64 b)).setCell ⟨w.heap.size, 3, none⟩ (.int .i64 c)).setCell ⟨w.heap.size, 4, none⟩ (.int .i64 d)) = u8 at X D GW C ⊢
  have zu8 := GW.size
  have X_0 := X.cells 0 _ rfl
  have X_1 := X.cells 1 _ rfl
  have X_2 := X.cells 2 _ rfl
  have X_3 := X.cells 3 _ rfl
  have X_4 := X.cells 4 _ rfl
  have X_f0 := X.free 0 (by simp)
  have X_f1 := X.free 1 (by simp)
  have X_f2 := X.free 2 (by simp)
  have X_f3 := X.free 3 (by simp)
  have X_f4 := X.free 4 (by simp)
  have X_t := X.there
  exact bodyPost_ret (v := .agg #[.int .i64 id, .int .i64 a, .int .i64 b, .int .i64 c, .int .i64 d]) (by simp [results, Try.results35, go_sem, X_0, X_1, X_2, X_3, X_4]) rfl ⟨⟨id, a, b, c, d⟩, (by unfold Sm; simp only; omega), rfl, C.le (by omega), GW⟩
end Go.Proofs.Ytknlgdahcfgbeaa.DTrip
