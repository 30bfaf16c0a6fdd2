/- The draws of chapter 5: a worker, workers, an id, a gang, a day. -/
import Derived.Test.YtdikekecbapcaaaDr
import Derived.Test.YtdikekecbapcaaaWorkY
import Derived.Test.YtdikekecbapcaaaWorkP
namespace Go.Proofs.Ytdikekecbapcaaa.DWork
open Go.RowKit Go.Proofs.Ytdikekecbapcaaa.Mem Go.Proofs.Ytdikekecbapcaaa.Base Go.Proofs.Ytdikekecbapcaaa.Draw Go.Proofs.Ytdikekecbapcaaa.Boxes Go.Proofs.Ytdikekecbapcaaa.Keep Go.Proofs.Ytdikekecbapcaaa.Dr Go.Proofs.Ytdikekecbapcaaa.SWorker
set_option linter.unusedVariables false
set_option maxRecDepth 100000
theorem lst_take {w : World} {g : Nat} {xs : List Int} (h : Lst w g (xs.map (Value.int .i64))) (m : Nat) : Lst w g ((xs.take m).map (Value.int .i64)) := by
  refine ⟨h.1, fun j v hv => h.2 j v ?_⟩
  rw [List.map_take, List.getElem?_take] at hv
  split at hv
  · exact hv
  · cases hv
set_option maxHeartbeats 1600000 in
theorem worker_d (B : Nat) (zs : List Int) (p K : Nat) (w : World) (id : Int) (C : Cu B zs p K w) (hK : K ≤ 800000000) :
    Calls Try.prog 90 #[.pointer (some ⟨p, 0, none⟩), .int .i64 id] w fun e w' => ∃ x : R, e = .returned (.agg #[.int .i64 x.f0, .int .i64 x.f1, .int .i64 x.f2, .bool x.f3, .int .i64 x.f4]) ∧ Cu B zs p (K + 12) w' ∧ w.grownBy w' (some p) := by
  go_enter Try.func90, Try.ntmps90
  have hp := C.lt
  have hB := C.base
  have GW : w.grownBy w (some p) := grown_refl w _
  go_wp2_with fail
  have X := Cb.new w [.int .i64 0, .int .i64 0, .int .i64 0, .bool false, .int .i64 0] 50 (g := w.heap.size) rfl
  replace C := (C.alloc (.cells #[.int .i64 0, .int .i64 0, .int .i64 0, .bool false, .int .i64 0] 50))
  replace GW := (grown_trans GW (grown_alloc _ (.cells #[.int .i64 0, .int .i64 0, .int .i64 0, .bool false, .int .i64 0] 50) _))
  have su1 : (w.alloc (.cells #[.int .i64 0, .int .i64 0, .int .i64 0, .bool false, .int .i64 0] 50)).heap.size = w.heap.size + 1 := by simp only [size_alloc']
  generalize (w.alloc (.cells #[.int .i64 0, .int .i64 0, .int .i64 0, .bool false, .int .i64 0] 50)) = u1 at X GW C su1 ⊢
  have zu1 := GW.size
  try go_wp2_with fail
  refine (among_d B zs p (K) _ _ 7 [0, 1, 1, 1, 2, 2, 5] (C.alloc (.cells #[.int .i64 0, .int .i64 1, .int .i64 1, .int .i64 1, .int .i64 2, .int .i64 2, .int .i64 5] 3)) (by omega) (lst_at u1 _ _ (by omega)) (by omega) (by simp) (by simp)).mono ?_
  rintro e u2 ⟨a, hx, rfl, C1, G⟩
  have a_r : 0 ≤ a ∧ a ≤ 5 := by simp at hx; omega
  clear hx
  have yu2 : u1.heap.size ≤ u2.heap.size := (by have := G.size; simp only [size_alloc'] at this; omega)
  replace X := (X.alloc (.cells #[.int .i64 0, .int .i64 1, .int .i64 1, .int .i64 1, .int .i64 2, .int .i64 2, .int .i64 5] 3)).went G (by omega)
  replace GW := grown_trans (grown_trans GW (grown_alloc _ (.cells #[.int .i64 0, .int .i64 1, .int .i64 1, .int .i64 1, .int .i64 2, .int .i64 2, .int .i64 5] 3) _)) G
  replace C := C1
  clear C1 G
  have zu2 := GW.size
  try go_wp2_with fail
  refine (among_d B zs p (K + 2) _ _ 5 [1, 10, 12, 12, 50] (C.alloc (.cells #[.int .i64 1, .int .i64 10, .int .i64 12, .int .i64 12, .int .i64 50] 3)) (by omega) (lst_at u2 _ _ (by omega)) (by omega) (by simp) (by simp)).mono ?_
  rintro e u3 ⟨b, hx, rfl, C1, G⟩
  have b_r : 1 ≤ b ∧ b ≤ 50 := by simp at hx; omega
  clear hx
  have yu3 : u2.heap.size ≤ u3.heap.size := (by have := G.size; simp only [size_alloc'] at this; omega)
  replace X := (X.alloc (.cells #[.int .i64 1, .int .i64 10, .int .i64 12, .int .i64 12, .int .i64 50] 3)).went G (by omega)
  replace GW := grown_trans (grown_trans GW (grown_alloc _ (.cells #[.int .i64 1, .int .i64 10, .int .i64 12, .int .i64 12, .int .i64 50] 3) _)) G
  replace C := C1
  clear C1 G
  have zu3 := GW.size
  try go_wp2_with fail
  refine (one_d B zs p (K + 2 + 2) _ 2 C (by omega) (by omega) (by omega)).mono ?_
  rintro e u4 ⟨c, rfl, C1, G⟩
  have yu4 : u3.heap.size ≤ u4.heap.size := G.size
  replace X := (X).went G (by omega)
  replace GW := grown_trans GW G
  replace C := C1
  clear C1 G
  have zu4 := GW.size
  try go_wp2_with fail
  refine (pick_d B zs p (K + 2 + 2 + 2) _ 7 C (by omega) (by omega) (by omega)).mono ?_
  rintro e u5 ⟨d, d_r, rfl, C1, G⟩
  have yu5 : u4.heap.size ≤ u5.heap.size := G.size
  replace X := (X).went G (by omega)
  replace GW := grown_trans GW G
  replace C := C1
  clear C1 G
  have zu5 := GW.size
  go_wp2_with fail
  have D := Cb.new u5 [.int .i64 id, .int .i64 a, .int .i64 b, .bool c, .int .i64 d] 50 (g := u5.heap.size) rfl
  replace X := (X.alloc (.cells #[.int .i64 id, .int .i64 a, .int .i64 b, .bool c, .int .i64 d] 50))
  replace C := (C.alloc (.cells #[.int .i64 id, .int .i64 a, .int .i64 b, .bool c, .int .i64 d] 50))
  replace GW := (grown_trans GW (grown_alloc _ (.cells #[.int .i64 id, .int .i64 a, .int .i64 b, .bool c, .int .i64 d] 50) _))
  have su6 : (u5.alloc (.cells #[.int .i64 id, .int .i64 a, .int .i64 b, .bool c, .int .i64 d] 50)).heap.size = u5.heap.size + 1 := by simp only [size_alloc']
  generalize (u5.alloc (.cells #[.int .i64 id, .int .i64 a, .int .i64 b, .bool c, .int .i64 d] 50)) = u6 at D X GW C su6 ⊢
  have zu6 := GW.size
  try go_wp2_with fail
  refine (pick_d B zs p (K + 2 + 2 + 2 + 2) _ 100 C (by omega) (by omega) (by omega)).mono ?_
  rintro e u7 ⟨z, z_r, rfl, C1, G⟩
  have yu7 : u6.heap.size ≤ u7.heap.size := G.size
  replace X := (X).went G (by omega)
  replace D := (D).went G (by omega)
  replace GW := grown_trans GW G
  replace C := C1
  clear C1 G
  have zu7 := GW.size
  by_cases h0 : z = 0
  · subst h0
    try go_wp2_with fail
    refine (among_d B zs p (K + 2 + 2 + 2 + 2 + 2) _ _ 3 [0, 99, 100] (C.alloc (.cells #[.int .i64 0, .int .i64 99, .int .i64 100] 3)) (by omega) (lst_at u7 _ _ (by omega)) (by omega) (by simp) (by simp)).mono ?_
    rintro e u8 ⟨q, hx, rfl, C1, G⟩
    have q_r : 0 ≤ q ∧ q ≤ 100 := by simp at hx; omega
    clear hx
    have yu8 : u7.heap.size ≤ u8.heap.size := (by have := G.size; simp only [size_alloc'] at this; omega)
    replace X := (X.alloc (.cells #[.int .i64 0, .int .i64 99, .int .i64 100] 3)).went G (by omega)
    replace D := (D.alloc (.cells #[.int .i64 0, .int .i64 99, .int .i64 100] 3)).went G (by omega)
    replace GW := grown_trans (grown_trans GW (grown_alloc _ (.cells #[.int .i64 0, .int .i64 99, .int .i64 100] 3) _)) G
    replace C := C1
    clear C1 G
    have zu8 := GW.size
    have X_0 := X.cells 0 _ rfl
    have X_1 := X.cells 1 _ rfl
    have X_2 := X.cells 2 _ rfl
    have X_3 := X.cells 3 _ rfl
    have X_4 := X.cells 4 _ rfl
    have X_f0 := X.free 0 (by simp)
    have X_f1 := X.free 1 (by simp)
    have X_f2 := X.free 2 (by simp)
    have X_f3 := X.free 3 (by simp)
    have X_f4 := X.free 4 (by simp)
    have X_t := X.there
    have D_0 := D.cells 0 _ rfl
    have D_1 := D.cells 1 _ rfl
    have D_2 := D.cells 2 _ rfl
    have D_3 := D.cells 3 _ rfl
    have D_4 := D.cells 4 _ rfl
    have D_f0 := D.free 0 (by simp)
    have D_f1 := D.free 1 (by simp)
    have D_f2 := D.free 2 (by simp)
    have D_f3 := D.free 3 (by simp)
    have D_f4 := D.free 4 (by simp)
    have D_t := D.there
    go_wp2
    clear X_0 X_1 X_2 X_3 X_4 X_f0 X_f1 X_f2 X_f3 X_f4 X_t
    clear D_0 D_1 D_2 D_3 D_4 D_f0 D_f1 D_f2 D_f3 D_f4 D_t
    have X' : Cb (w.heap.size) [.int .i64 q, .int .i64 a, .int .i64 b, .bool c, .int .i64 d] _ := ((((((X.far (k := u5.heap.size) (by omega) 0 (.int .i64 q)).set 0 (.int .i64 q)).set 1 (.int .i64 a)).set 2 (.int .i64 b)).set 3 (.bool c)).set 4 (.int .i64 d))
    have D' : Cb (u5.heap.size) [.int .i64 q, .int .i64 a, .int .i64 b, .bool c, .int .i64 d] _ := ((((((D.set 0 (.int .i64 q)).far (k := w.heap.size) (by omega) 0 (.int .i64 q)).far (k := w.heap.size) (by omega) 1 (.int .i64 a)).far (k := w.heap.size) (by omega) 2 (.int .i64 b)).far (k := w.heap.size) (by omega) 3 (.bool c)).far (k := w.heap.size) (by omega) 4 (.int .i64 d))
    clear X; have X := X'; clear X'
    clear D; have D := D'; clear D'
    replace C := ((((((C.set (g := u5.heap.size) (by omega) (by omega) 0 (.int .i64 q)).set (g := w.heap.size) (by omega) (by omega) 0 (.int .i64 q)).set (g := w.heap.size) (by omega) (by omega) 1 (.int .i64 a)).set (g := w.heap.size) (by omega) (by omega) 2 (.int .i64 b)).set (g := w.heap.size) (by omega) (by omega) 3 (.bool c)).set (g := w.heap.size) (by omega) (by omega) 4 (.int .i64 d))
    replace GW := (grown_set (grown_set (grown_set (grown_set (grown_set (grown_set GW (g := u5.heap.size) (by omega) 0 (.int .i64 q)) (g := w.heap.size) (by omega) 0 (.int .i64 q)) (g := w.heap.size) (by omega) 1 (.int .i64 a)) (g := w.heap.size) (by omega) 2 (.int .i64 b)) (g := w.heap.size) (by omega) 3 (.bool c)) (g := w.heap.size) (by omega) 4 (.int .i64 d))
    generalize ((((((u8.setCell ⟨u5.heap.size, 0, none⟩ (.int .i64 q)).setCell ⟨w.heap.size, 0, none⟩ (.int .i64 q)).setCell ⟨w.heap.size, 1, none⟩ (.int .i64 a)).setCell ⟨w.heap.size, 2, none⟩ (.int .i64 b)).setCell ⟨w.heap.size, 3, none⟩ (.bool c)).setCell ⟨w.heap.size, 4, none⟩ (.int .i64 d)) = u9 at X D GW C ⊢
    have zu9 := GW.size
    have X_0 := X.cells 0 _ rfl
    have X_1 := X.cells 1 _ rfl
    have X_2 := X.cells 2 _ rfl
    have X_3 := X.cells 3 _ rfl
    have X_4 := X.cells 4 _ rfl
    have X_f0 := X.free 0 (by simp)
    have X_f1 := X.free 1 (by simp)
    have X_f2 := X.free 2 (by simp)
    have X_f3 := X.free 3 (by simp)
    have X_f4 := X.free 4 (by simp)
    have X_t := X.there
    exact bodyPost_ret (v := .agg #[.int .i64 q, .int .i64 a, .int .i64 b, .bool c, .int .i64 d]) (by simp [results, Try.results90, go_sem, X_0, X_1, X_2, X_3, X_4]) rfl ⟨⟨q, a, b, c, d⟩, rfl, C.le (by omega), GW⟩
  by_cases h1 : z = 1
  · subst h1
    try go_wp2_with fail
    refine (among_d B zs p (K + 2 + 2 + 2 + 2 + 2) _ _ 2 [-1, 6] (C.alloc (.cells #[.int .i64 (-1), .int .i64 6] 3)) (by omega) (lst_at u7 _ _ (by omega)) (by omega) (by simp) (by simp)).mono ?_
    rintro e u8 ⟨q, hx, rfl, C1, G⟩
    have q_r : -1 ≤ q ∧ q ≤ 6 := by simp at hx; omega
    clear hx
    have yu8 : u7.heap.size ≤ u8.heap.size := (by have := G.size; simp only [size_alloc'] at this; omega)
    replace X := (X.alloc (.cells #[.int .i64 (-1), .int .i64 6] 3)).went G (by omega)
    replace D := (D.alloc (.cells #[.int .i64 (-1), .int .i64 6] 3)).went G (by omega)
    replace GW := grown_trans (grown_trans GW (grown_alloc _ (.cells #[.int .i64 (-1), .int .i64 6] 3) _)) G
    replace C := C1
    clear C1 G
    have zu8 := GW.size
    have X_0 := X.cells 0 _ rfl
    have X_1 := X.cells 1 _ rfl
    have X_2 := X.cells 2 _ rfl
    have X_3 := X.cells 3 _ rfl
    have X_4 := X.cells 4 _ rfl
    have X_f0 := X.free 0 (by simp)
    have X_f1 := X.free 1 (by simp)
    have X_f2 := X.free 2 (by simp)
    have X_f3 := X.free 3 (by simp)
    have X_f4 := X.free 4 (by simp)
    have X_t := X.there
    have D_0 := D.cells 0 _ rfl
    have D_1 := D.cells 1 _ rfl
    have D_2 := D.cells 2 _ rfl
    have D_3 := D.cells 3 _ rfl
    have D_4 := D.cells 4 _ rfl
    have D_f0 := D.free 0 (by simp)
    have D_f1 := D.free 1 (by simp)
    have D_f2 := D.free 2 (by simp)
    have D_f3 := D.free 3 (by simp)
    have D_f4 := D.free 4 (by simp)
    have D_t := D.there
    go_wp2
    clear X_0 X_1 X_2 X_3 X_4 X_f0 X_f1 X_f2 X_f3 X_f4 X_t
    clear D_0 D_1 D_2 D_3 D_4 D_f0 D_f1 D_f2 D_f3 D_f4 D_t
    have X' : Cb (w.heap.size) [.int .i64 id, .int .i64 q, .int .i64 b, .bool c, .int .i64 d] _ := ((((((X.far (k := u5.heap.size) (by omega) 1 (.int .i64 q)).set 0 (.int .i64 id)).set 1 (.int .i64 q)).set 2 (.int .i64 b)).set 3 (.bool c)).set 4 (.int .i64 d))
    have D' : Cb (u5.heap.size) [.int .i64 id, .int .i64 q, .int .i64 b, .bool c, .int .i64 d] _ := ((((((D.set 1 (.int .i64 q)).far (k := w.heap.size) (by omega) 0 (.int .i64 id)).far (k := w.heap.size) (by omega) 1 (.int .i64 q)).far (k := w.heap.size) (by omega) 2 (.int .i64 b)).far (k := w.heap.size) (by omega) 3 (.bool c)).far (k := w.heap.size) (by omega) 4 (.int .i64 d))
    clear X; have X := X'; clear X'
    clear D; have D := D'; clear D'
    replace C := ((((((C.set (g := u5.heap.size) (by omega) (by omega) 1 (.int .i64 q)).set (g := w.heap.size) (by omega) (by omega) 0 (.int .i64 id)).set (g := w.heap.size) (by omega) (by omega) 1 (.int .i64 q)).set (g := w.heap.size) (by omega) (by omega) 2 (.int .i64 b)).set (g := w.heap.size) (by omega) (by omega) 3 (.bool c)).set (g := w.heap.size) (by omega) (by omega) 4 (.int .i64 d))
    replace GW := (grown_set (grown_set (grown_set (grown_set (grown_set (grown_set GW (g := u5.heap.size) (by omega) 1 (.int .i64 q)) (g := w.heap.size) (by omega) 0 (.int .i64 id)) (g := w.heap.size) (by omega) 1 (.int .i64 q)) (g := w.heap.size) (by omega) 2 (.int .i64 b)) (g := w.heap.size) (by omega) 3 (.bool c)) (g := w.heap.size) (by omega) 4 (.int .i64 d))
    generalize ((((((u8.setCell ⟨u5.heap.size, 1, none⟩ (.int .i64 q)).setCell ⟨w.heap.size, 0, none⟩ (.int .i64 id)).setCell ⟨w.heap.size, 1, none⟩ (.int .i64 q)).setCell ⟨w.heap.size, 2, none⟩ (.int .i64 b)).setCell ⟨w.heap.size, 3, none⟩ (.bool c)).setCell ⟨w.heap.size, 4, none⟩ (.int .i64 d)) = u9 at X D GW C ⊢
    have zu9 := GW.size
    have X_0 := X.cells 0 _ rfl
    have X_1 := X.cells 1 _ rfl
    have X_2 := X.cells 2 _ rfl
    have X_3 := X.cells 3 _ rfl
    have X_4 := X.cells 4 _ rfl
    have X_f0 := X.free 0 (by simp)
    have X_f1 := X.free 1 (by simp)
    have X_f2 := X.free 2 (by simp)
    have X_f3 := X.free 3 (by simp)
    have X_f4 := X.free 4 (by simp)
    have X_t := X.there
    exact bodyPost_ret (v := .agg #[.int .i64 id, .int .i64 q, .int .i64 b, .bool c, .int .i64 d]) (by simp [results, Try.results90, go_sem, X_0, X_1, X_2, X_3, X_4]) rfl ⟨⟨id, q, b, c, d⟩, rfl, C.le (by omega), GW⟩
  by_cases h2 : z = 2
  · subst h2
    try go_wp2_with fail
    refine (among_d B zs p (K + 2 + 2 + 2 + 2 + 2) _ _ 2 [0, 51] (C.alloc (.cells #[.int .i64 0, .int .i64 51] 3)) (by omega) (lst_at u7 _ _ (by omega)) (by omega) (by simp) (by simp)).mono ?_
    rintro e u8 ⟨q, hx, rfl, C1, G⟩
    have q_r : 0 ≤ q ∧ q ≤ 51 := by simp at hx; omega
    clear hx
    have yu8 : u7.heap.size ≤ u8.heap.size := (by have := G.size; simp only [size_alloc'] at this; omega)
    replace X := (X.alloc (.cells #[.int .i64 0, .int .i64 51] 3)).went G (by omega)
    replace D := (D.alloc (.cells #[.int .i64 0, .int .i64 51] 3)).went G (by omega)
    replace GW := grown_trans (grown_trans GW (grown_alloc _ (.cells #[.int .i64 0, .int .i64 51] 3) _)) G
    replace C := C1
    clear C1 G
    have zu8 := GW.size
    have X_0 := X.cells 0 _ rfl
    have X_1 := X.cells 1 _ rfl
    have X_2 := X.cells 2 _ rfl
    have X_3 := X.cells 3 _ rfl
    have X_4 := X.cells 4 _ rfl
    have X_f0 := X.free 0 (by simp)
    have X_f1 := X.free 1 (by simp)
    have X_f2 := X.free 2 (by simp)
    have X_f3 := X.free 3 (by simp)
    have X_f4 := X.free 4 (by simp)
    have X_t := X.there
    have D_0 := D.cells 0 _ rfl
    have D_1 := D.cells 1 _ rfl
    have D_2 := D.cells 2 _ rfl
    have D_3 := D.cells 3 _ rfl
    have D_4 := D.cells 4 _ rfl
    have D_f0 := D.free 0 (by simp)
    have D_f1 := D.free 1 (by simp)
    have D_f2 := D.free 2 (by simp)
    have D_f3 := D.free 3 (by simp)
    have D_f4 := D.free 4 (by simp)
    have D_t := D.there
    go_wp2
    clear X_0 X_1 X_2 X_3 X_4 X_f0 X_f1 X_f2 X_f3 X_f4 X_t
    clear D_0 D_1 D_2 D_3 D_4 D_f0 D_f1 D_f2 D_f3 D_f4 D_t
    have X' : Cb (w.heap.size) [.int .i64 id, .int .i64 a, .int .i64 q, .bool c, .int .i64 d] _ := ((((((X.far (k := u5.heap.size) (by omega) 2 (.int .i64 q)).set 0 (.int .i64 id)).set 1 (.int .i64 a)).set 2 (.int .i64 q)).set 3 (.bool c)).set 4 (.int .i64 d))
    have D' : Cb (u5.heap.size) [.int .i64 id, .int .i64 a, .int .i64 q, .bool c, .int .i64 d] _ := ((((((D.set 2 (.int .i64 q)).far (k := w.heap.size) (by omega) 0 (.int .i64 id)).far (k := w.heap.size) (by omega) 1 (.int .i64 a)).far (k := w.heap.size) (by omega) 2 (.int .i64 q)).far (k := w.heap.size) (by omega) 3 (.bool c)).far (k := w.heap.size) (by omega) 4 (.int .i64 d))
    clear X; have X := X'; clear X'
    clear D; have D := D'; clear D'
    replace C := ((((((C.set (g := u5.heap.size) (by omega) (by omega) 2 (.int .i64 q)).set (g := w.heap.size) (by omega) (by omega) 0 (.int .i64 id)).set (g := w.heap.size) (by omega) (by omega) 1 (.int .i64 a)).set (g := w.heap.size) (by omega) (by omega) 2 (.int .i64 q)).set (g := w.heap.size) (by omega) (by omega) 3 (.bool c)).set (g := w.heap.size) (by omega) (by omega) 4 (.int .i64 d))
    replace GW := (grown_set (grown_set (grown_set (grown_set (grown_set (grown_set GW (g := u5.heap.size) (by omega) 2 (.int .i64 q)) (g := w.heap.size) (by omega) 0 (.int .i64 id)) (g := w.heap.size) (by omega) 1 (.int .i64 a)) (g := w.heap.size) (by omega) 2 (.int .i64 q)) (g := w.heap.size) (by omega) 3 (.bool c)) (g := w.heap.size) (by omega) 4 (.int .i64 d))
    generalize ((((((u8.setCell ⟨u5.heap.size, 2, none⟩ (.int .i64 q)).setCell ⟨w.heap.size, 0, none⟩ (.int .i64 id)).setCell ⟨w.heap.size, 1, none⟩ (.int .i64 a)).setCell ⟨w.heap.size, 2, none⟩ (.int .i64 q)).setCell ⟨w.heap.size, 3, none⟩ (.bool c)).setCell ⟨w.heap.size, 4, none⟩ (.int .i64 d)) = u9 at X D GW C ⊢
    have zu9 := GW.size
    have X_0 := X.cells 0 _ rfl
    have X_1 := X.cells 1 _ rfl
    have X_2 := X.cells 2 _ rfl
    have X_3 := X.cells 3 _ rfl
    have X_4 := X.cells 4 _ rfl
    have X_f0 := X.free 0 (by simp)
    have X_f1 := X.free 1 (by simp)
    have X_f2 := X.free 2 (by simp)
    have X_f3 := X.free 3 (by simp)
    have X_f4 := X.free 4 (by simp)
    have X_t := X.there
    exact bodyPost_ret (v := .agg #[.int .i64 id, .int .i64 a, .int .i64 q, .bool c, .int .i64 d]) (by simp [results, Try.results90, go_sem, X_0, X_1, X_2, X_3, X_4]) rfl ⟨⟨id, a, q, c, d⟩, rfl, C.le (by omega), GW⟩
  by_cases h3 : z = 3
  · subst h3
    try go_wp2_with fail
    refine (among_d B zs p (K + 2 + 2 + 2 + 2 + 2) _ _ 2 [-1, 7] (C.alloc (.cells #[.int .i64 (-1), .int .i64 7] 3)) (by omega) (lst_at u7 _ _ (by omega)) (by omega) (by simp) (by simp)).mono ?_
    rintro e u8 ⟨q, hx, rfl, C1, G⟩
    have q_r : -1 ≤ q ∧ q ≤ 7 := by simp at hx; omega
    clear hx
    have yu8 : u7.heap.size ≤ u8.heap.size := (by have := G.size; simp only [size_alloc'] at this; omega)
    replace X := (X.alloc (.cells #[.int .i64 (-1), .int .i64 7] 3)).went G (by omega)
    replace D := (D.alloc (.cells #[.int .i64 (-1), .int .i64 7] 3)).went G (by omega)
    replace GW := grown_trans (grown_trans GW (grown_alloc _ (.cells #[.int .i64 (-1), .int .i64 7] 3) _)) G
    replace C := C1
    clear C1 G
    have zu8 := GW.size
    have X_0 := X.cells 0 _ rfl
    have X_1 := X.cells 1 _ rfl
    have X_2 := X.cells 2 _ rfl
    have X_3 := X.cells 3 _ rfl
    have X_4 := X.cells 4 _ rfl
    have X_f0 := X.free 0 (by simp)
    have X_f1 := X.free 1 (by simp)
    have X_f2 := X.free 2 (by simp)
    have X_f3 := X.free 3 (by simp)
    have X_f4 := X.free 4 (by simp)
    have X_t := X.there
    have D_0 := D.cells 0 _ rfl
    have D_1 := D.cells 1 _ rfl
    have D_2 := D.cells 2 _ rfl
    have D_3 := D.cells 3 _ rfl
    have D_4 := D.cells 4 _ rfl
    have D_f0 := D.free 0 (by simp)
    have D_f1 := D.free 1 (by simp)
    have D_f2 := D.free 2 (by simp)
    have D_f3 := D.free 3 (by simp)
    have D_f4 := D.free 4 (by simp)
    have D_t := D.there
    go_wp2
    clear X_0 X_1 X_2 X_3 X_4 X_f0 X_f1 X_f2 X_f3 X_f4 X_t
    clear D_0 D_1 D_2 D_3 D_4 D_f0 D_f1 D_f2 D_f3 D_f4 D_t
    have X' : Cb (w.heap.size) [.int .i64 id, .int .i64 a, .int .i64 b, .bool c, .int .i64 q] _ := ((((((X.far (k := u5.heap.size) (by omega) 4 (.int .i64 q)).set 0 (.int .i64 id)).set 1 (.int .i64 a)).set 2 (.int .i64 b)).set 3 (.bool c)).set 4 (.int .i64 q))
    have D' : Cb (u5.heap.size) [.int .i64 id, .int .i64 a, .int .i64 b, .bool c, .int .i64 q] _ := ((((((D.set 4 (.int .i64 q)).far (k := w.heap.size) (by omega) 0 (.int .i64 id)).far (k := w.heap.size) (by omega) 1 (.int .i64 a)).far (k := w.heap.size) (by omega) 2 (.int .i64 b)).far (k := w.heap.size) (by omega) 3 (.bool c)).far (k := w.heap.size) (by omega) 4 (.int .i64 q))
    clear X; have X := X'; clear X'
    clear D; have D := D'; clear D'
    replace C := ((((((C.set (g := u5.heap.size) (by omega) (by omega) 4 (.int .i64 q)).set (g := w.heap.size) (by omega) (by omega) 0 (.int .i64 id)).set (g := w.heap.size) (by omega) (by omega) 1 (.int .i64 a)).set (g := w.heap.size) (by omega) (by omega) 2 (.int .i64 b)).set (g := w.heap.size) (by omega) (by omega) 3 (.bool c)).set (g := w.heap.size) (by omega) (by omega) 4 (.int .i64 q))
    replace GW := (grown_set (grown_set (grown_set (grown_set (grown_set (grown_set GW (g := u5.heap.size) (by omega) 4 (.int .i64 q)) (g := w.heap.size) (by omega) 0 (.int .i64 id)) (g := w.heap.size) (by omega) 1 (.int .i64 a)) (g := w.heap.size) (by omega) 2 (.int .i64 b)) (g := w.heap.size) (by omega) 3 (.bool c)) (g := w.heap.size) (by omega) 4 (.int .i64 q))
    generalize ((((((u8.setCell ⟨u5.heap.size, 4, none⟩ (.int .i64 q)).setCell ⟨w.heap.size, 0, none⟩ (.int .i64 id)).setCell ⟨w.heap.size, 1, none⟩ (.int .i64 a)).setCell ⟨w.heap.size, 2, none⟩ (.int .i64 b)).setCell ⟨w.heap.size, 3, none⟩ (.bool c)).setCell ⟨w.heap.size, 4, none⟩ (.int .i64 q)) = u9 at X D GW C ⊢
    have zu9 := GW.size
    have X_0 := X.cells 0 _ rfl
    have X_1 := X.cells 1 _ rfl
    have X_2 := X.cells 2 _ rfl
    have X_3 := X.cells 3 _ rfl
    have X_4 := X.cells 4 _ rfl
    have X_f0 := X.free 0 (by simp)
    have X_f1 := X.free 1 (by simp)
    have X_f2 := X.free 2 (by simp)
    have X_f3 := X.free 3 (by simp)
    have X_f4 := X.free 4 (by simp)
    have X_t := X.there
    exact bodyPost_ret (v := .agg #[.int .i64 id, .int .i64 a, .int .i64 b, .bool c, .int .i64 q]) (by simp [results, Try.results90, go_sem, X_0, X_1, X_2, X_3, X_4]) rfl ⟨⟨id, a, b, c, q⟩, rfl, C.le (by omega), GW⟩
  have X_0 := X.cells 0 _ rfl
  have X_1 := X.cells 1 _ rfl
  have X_2 := X.cells 2 _ rfl
  have X_3 := X.cells 3 _ rfl
  have X_4 := X.cells 4 _ rfl
  have X_f0 := X.free 0 (by simp)
  have X_f1 := X.free 1 (by simp)
  have X_f2 := X.free 2 (by simp)
  have X_f3 := X.free 3 (by simp)
  have X_f4 := X.free 4 (by simp)
  have X_t := X.there
  have D_0 := D.cells 0 _ rfl
  have D_1 := D.cells 1 _ rfl
  have D_2 := D.cells 2 _ rfl
  have D_3 := D.cells 3 _ rfl
  have D_4 := D.cells 4 _ rfl
  have D_f0 := D.free 0 (by simp)
  have D_f1 := D.free 1 (by simp)
  have D_f2 := D.free 2 (by simp)
  have D_f3 := D.free 3 (by simp)
  have D_f4 := D.free 4 (by simp)
  have D_t := D.there
  go_wp2
  clear X_0 X_1 X_2 X_3 X_4 X_f0 X_f1 X_f2 X_f3 X_f4 X_t
  clear D_0 D_1 D_2 D_3 D_4 D_f0 D_f1 D_f2 D_f3 D_f4 D_t
  have X' : Cb (w.heap.size) [.int .i64 id, .int .i64 a, .int .i64 b, .bool c, .int .i64 d] _ := (((((X.set 0 (.int .i64 id)).set 1 (.int .i64 a)).set 2 (.int .i64 b)).set 3 (.bool c)).set 4 (.int .i64 d))
  have D' : Cb (u5.heap.size) [.int .i64 id, .int .i64 a, .int .i64 b, .bool c, .int .i64 d] _ := (((((D.far (k := w.heap.size) (by omega) 0 (.int .i64 id)).far (k := w.heap.size) (by omega) 1 (.int .i64 a)).far (k := w.heap.size) (by omega) 2 (.int .i64 b)).far (k := w.heap.size) (by omega) 3 (.bool c)).far (k := w.heap.size) (by omega) 4 (.int .i64 d))
  clear X; have X := X'; clear X'
  clear D; have D := D'; clear D'
  replace C := (((((C.set (g := w.heap.size) (by omega) (by omega) 0 (.int .i64 id)).set (g := w.heap.size) (by omega) (by omega) 1 (.int .i64 a)).set (g := w.heap.size) (by omega) (by omega) 2 (.int .i64 b)).set (g := w.heap.size) (by omega) (by omega) 3 (.bool c)).set (g := w.heap.size) (by omega) (by omega) 4 (.int .i64 d))
  replace GW := (grown_set (grown_set (grown_set (grown_set (grown_set GW (g := w.heap.size) (by omega) 0 (.int .i64 id)) (g := w.heap.size) (by omega) 1 (.int .i64 a)) (g := w.heap.size) (by omega) 2 (.int .i64 b)) (g := w.heap.size) (by omega) 3 (.bool c)) (g := w.heap.size) (by omega) 4 (.int .i64 d))
  generalize (((((u7.setCell ⟨w.heap.size, 0, none⟩ (.int .i64 id)).setCell ⟨w.heap.size, 1, none⟩ (.int .i64 a)).setCell ⟨w.heap.size, 2, none⟩ (.int .i64 b)).setCell ⟨w.heap.size, 3, none⟩ (.bool c)).setCell ⟨w.heap.size, 4, none⟩ (.int .i64 d)) = u8 at X D GW C ⊢
  have zu8 := GW.size
  have X_0 := X.cells 0 _ rfl
  have X_1 := X.cells 1 _ rfl
  have X_2 := X.cells 2 _ rfl
  have X_3 := X.cells 3 _ rfl
  have X_4 := X.cells 4 _ rfl
  have X_f0 := X.free 0 (by simp)
  have X_f1 := X.free 1 (by simp)
  have X_f2 := X.free 2 (by simp)
  have X_f3 := X.free 3 (by simp)
  have X_f4 := X.free 4 (by simp)
  have X_t := X.there
  exact bodyPost_ret (v := .agg #[.int .i64 id, .int .i64 a, .int .i64 b, .bool c, .int .i64 d]) (by simp [results, Try.results90, go_sem, X_0, X_1, X_2, X_3, X_4]) rfl ⟨⟨id, a, b, c, d⟩, rfl, C.le (by omega), GW⟩
set_option maxHeartbeats 800000 in
theorem gang5_d (B : Nat) (zs : List Int) (p K : Nat) (w : World) (C : Cu B zs p K w) (hK : K ≤ 800000000) :
    Calls Try.prog 61 #[.pointer (some ⟨p, 0, none⟩)] w fun e w' => ∃ x : Int, e = .returned (.int .i64 x) ∧ Cu B zs p (K + 4) w' ∧ w.grownBy w' (some p) := by
  have zp := C.lt
  have T0 : Lst (w.alloc (.cells #[.int .i64 1, .int .i64 1, .int .i64 1, .int .i64 2, .int .i64 5, .int .i64 0, .int .i64 6] 3)) w.heap.size (([1, 1, 1, 2, 5, 0, 6] : List Int).map (Value.int .i64)) := lst_at w _ _ rfl
  go_enter Try.func61, Try.ntmps61
  go_wp2_with fail
  refine (pick_d B zs p _ _ 24 (C.alloc (.cells #[.int .i64 1, .int .i64 1, .int .i64 1, .int .i64 2, .int .i64 5, .int .i64 0, .int .i64 6] 3)) (by omega) (by omega) (by omega)).mono ?_
  rintro e p0 ⟨z0, zr0, rfl, D0, G0⟩
  have GW := grown_trans (grown_alloc w (.cells #[.int .i64 1, .int .i64 1, .int .i64 1, .int .i64 2, .int .i64 5, .int .i64 0, .int .i64 6] 3) (some p)) G0
  replace T0 := T0.went G0 (by omega)
  clear G0 C
  have t0 : Int.tdiv z0 11 = z0 / 11 := Int.tdiv_eq_ediv_of_nonneg zr0.1
  obtain ⟨xs0, hm0, hx0t⟩ : ∃ xs : List Int, 5 + z0 / 11 = (xs.length : Int) ∧ xs = ([1, 1, 1, 2, 5, 0, 6] : List Int).take (5 + z0 / 11).toNat := ⟨_, by rw [List.length_take]; simp; omega, rfl⟩
  have b0 : 5 ≤ xs0.length ∧ xs0.length ≤ 7 := by omega
  replace T0 : Lst p0 w.heap.size (xs0.map (Value.int .i64)) := by rw [hx0t]; exact lst_take T0 _
  have HM0 := Lib.hid hm0; clear hx0t hm0
  have w0 : IntKind.i64.wrap (5 + z0 / 11) = 5 + z0 / 11 := IntWalk.i64_in _ (by omega)
  have v00 : 0 ≤ 5 + z0 / 11 := by omega
  have v01 : 5 + z0 / 11 ≤ 7 := by omega
  go_wp2_with fail
  rw [show (5 + z0 / 11).toNat = xs0.length by have := HM0.out; omega]
  refine (among_d B zs p _ p0 _ 7 xs0 D0 (by omega) T0 (by omega) (by omega) (by omega)).mono ?_
  rintro e q0 ⟨a, hx0, rfl, E0, G1⟩
  have GW1 := grown_trans GW G1
  clear D0 G1 T0 hx0 GW
  go_wp2
  go_ret
  exact ⟨a, rfl, E0.le (by omega), GW1⟩
set_option maxHeartbeats 800000 in
theorem day5_d (B : Nat) (zs : List Int) (p K : Nat) (w : World) (C : Cu B zs p K w) (hK : K ≤ 800000000) :
    Calls Try.prog 77 #[.pointer (some ⟨p, 0, none⟩)] w fun e w' => ∃ x : Int, e = .returned (.int .i64 x) ∧ Cu B zs p (K + 4) w' ∧ w.grownBy w' (some p) := by
  have zp := C.lt
  have T0 : Lst (w.alloc (.cells #[.int .i64 0, .int .i64 3, .int .i64 6, .int .i64 7, .int .i64 25, .int .i64 3990, .int .i64 4000, .int .i64 (-1), .int .i64 4001] 3)) w.heap.size (([0, 3, 6, 7, 25, 3990, 4000, -1, 4001] : List Int).map (Value.int .i64)) := lst_at w _ _ rfl
  go_enter Try.func77, Try.ntmps77
  go_wp2_with fail
  refine (pick_d B zs p _ _ 24 (C.alloc (.cells #[.int .i64 0, .int .i64 3, .int .i64 6, .int .i64 7, .int .i64 25, .int .i64 3990, .int .i64 4000, .int .i64 (-1), .int .i64 4001] 3)) (by omega) (by omega) (by omega)).mono ?_
  rintro e p0 ⟨z0, zr0, rfl, D0, G0⟩
  have GW := grown_trans (grown_alloc w (.cells #[.int .i64 0, .int .i64 3, .int .i64 6, .int .i64 7, .int .i64 25, .int .i64 3990, .int .i64 4000, .int .i64 (-1), .int .i64 4001] 3) (some p)) G0
  replace T0 := T0.went G0 (by omega)
  clear G0 C
  have t0 : Int.tdiv z0 11 = z0 / 11 := Int.tdiv_eq_ediv_of_nonneg zr0.1
  obtain ⟨xs0, hm0, hx0t⟩ : ∃ xs : List Int, 7 + z0 / 11 = (xs.length : Int) ∧ xs = ([0, 3, 6, 7, 25, 3990, 4000, -1, 4001] : List Int).take (7 + z0 / 11).toNat := ⟨_, by rw [List.length_take]; simp; omega, rfl⟩
  have b0 : 7 ≤ xs0.length ∧ xs0.length ≤ 9 := by omega
  replace T0 : Lst p0 w.heap.size (xs0.map (Value.int .i64)) := by rw [hx0t]; exact lst_take T0 _
  have HM0 := Lib.hid hm0; clear hx0t hm0
  have w0 : IntKind.i64.wrap (7 + z0 / 11) = 7 + z0 / 11 := IntWalk.i64_in _ (by omega)
  have v00 : 0 ≤ 7 + z0 / 11 := by omega
  have v01 : 7 + z0 / 11 ≤ 9 := by omega
  go_wp2_with fail
  rw [show (7 + z0 / 11).toNat = xs0.length by have := HM0.out; omega]
  refine (among_d B zs p _ p0 _ 9 xs0 D0 (by omega) T0 (by omega) (by omega) (by omega)).mono ?_
  rintro e q0 ⟨a, hx0, rfl, E0, G1⟩
  have GW1 := grown_trans GW G1
  clear D0 G1 T0 hx0 GW
  go_wp2
  go_ret
  exact ⟨a, rfl, E0.le (by omega), GW1⟩
set_option maxHeartbeats 800000 in
theorem workerId_d (B : Nat) (zs : List Int) (p K : Nat) (w : World) (base g c : Nat) (L : List R) (C : Cu B zs p K w) (hK : K ≤ 800000000) (O : w.ownsRow base 50 5 (.slice (some ⟨g, 0, none⟩) L.length c) L.length (flat L)) (hg : g ≠ p) (hl : L.length ≤ 20) :
    Calls Try.prog 71 #[.pointer (some ⟨p, 0, none⟩), .slice (some ⟨g, 0, none⟩) L.length c] w fun e w' => ∃ x : Int, e = .returned (.int .i64 x) ∧ Cu B zs p (K + 4) w' ∧ w.grownBy w' (some p) := by
  have HO := Lib.hid O; clear O
  by_cases h0 : L.length = 0
  · have hq : ((L.length : Int) == 0) = true := by simp; exact List.eq_nil_of_length_eq_zero h0
    clear h0
    go_enter Try.func71, Try.ntmps71
    have hp := C.lt
    have hB := C.base
    have GW : w.grownBy w (some p) := grown_refl w _
    try go_wp2_with fail
    refine (among_d B zs p (K) _ _ 3 [0, 1, 50] (C.alloc (.cells #[.int .i64 0, .int .i64 1, .int .i64 50] 3)) (by omega) (lst_at w _ _ (by omega)) (by omega) (by simp) (by simp)).mono ?_
    rintro e u1 ⟨x, hx, rfl, C1, G⟩
    have x_r : 0 ≤ x ∧ x ≤ 50 := by simp at hx; omega
    clear hx
    have yu1 : w.heap.size ≤ u1.heap.size := (by have := G.size; simp only [size_alloc'] at this; omega)
    replace GW := grown_trans (grown_trans GW (grown_alloc _ (.cells #[.int .i64 0, .int .i64 1, .int .i64 50] 3) _)) G
    replace C := C1
    clear C1 G
    have zu1 := GW.size
    go_wp2
    go_ret
    exact ⟨x, rfl, C.le (by omega), GW⟩
  · have hq : ((L.length : Int) == 0) = false := by rw [beq_eq_false_iff_ne]; omega
    go_enter Try.func71, Try.ntmps71
    have hp := C.lt
    have hB := C.base
    have GW : w.grownBy w (some p) := grown_refl w _
    try go_wp2_with fail
    refine (one_d B zs p (K) _ 10 C (by omega) (by omega) (by omega)).mono ?_
    rintro e u1 ⟨q, rfl, C1, G⟩
    have yu1 : w.heap.size ≤ u1.heap.size := G.size
    replace GW := grown_trans GW G
    replace C := C1
    clear C1 G
    have zu1 := GW.size
    cases q
    · try go_wp2_with fail
      refine (pick_d B zs p (K + 2) _ (L.length : Int) C (by omega) (by omega) (by omega)).mono ?_
      rintro e u2 ⟨y, y_r, rfl, C1, G⟩
      have yu2 : u1.heap.size ≤ u2.heap.size := G.size
      replace GW := grown_trans GW G
      replace C := C1
      clear C1 G
      have zu2 := GW.size
      obtain ⟨k, rfl⟩ : ∃ k : Nat, y = k := ⟨y.toNat, by omega⟩
      have hk : k < L.length := by omega
      obtain ⟨r, hr⟩ : ∃ r, L[k] = r := ⟨_, rfl⟩
      have O := own_grownN HO.out GW (fun k hk => by injection hk with hk; omega)
      obtain ⟨l0, l1, l2, l3, l4⟩ := WorkP.own5 O hk hr
      clear O l1 l2 l3 l4 hr
      go_wp2
      go_ret
      exact ⟨r.f0, rfl, C.le (by omega), GW⟩
    · try go_wp2_with fail
      refine (among_d B zs p (K + 2) _ _ 3 [0, 1, 50] (C.alloc (.cells #[.int .i64 0, .int .i64 1, .int .i64 50] 3)) (by omega) (lst_at u1 _ _ (by omega)) (by omega) (by simp) (by simp)).mono ?_
      rintro e u2 ⟨x, hx, rfl, C1, G⟩
      have x_r : 0 ≤ x ∧ x ≤ 50 := by simp at hx; omega
      clear hx
      have yu2 : u1.heap.size ≤ u2.heap.size := (by have := G.size; simp only [size_alloc'] at this; omega)
      replace GW := grown_trans (grown_trans GW (grown_alloc _ (.cells #[.int .i64 0, .int .i64 1, .int .i64 50] 3) _)) G
      replace C := C1
      clear C1 G
      have zu2 := GW.size
      go_wp2
      go_ret
      exact ⟨x, rfl, C.le (by omega), GW⟩
end Go.Proofs.Ytdikekecbapcaaa.DWork
