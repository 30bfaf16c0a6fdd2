/- The draws of chapter 12: a batch, washing water. Made by tools/mk_dbat.py. -/
import Derived.Test.YtpokgnkcnibapaaDr
import Derived.Test.YtpokgnkcnibapaaSBatch
namespace Go.Proofs.Ytpokgnkcnibapaa.DBat
open Go.RowKit Go.Proofs.Ytpokgnkcnibapaa.Mem Go.Proofs.Ytpokgnkcnibapaa.Base Go.Proofs.Ytpokgnkcnibapaa.Draw Go.Proofs.Ytpokgnkcnibapaa.Boxes Go.Proofs.Ytpokgnkcnibapaa.Keep Go.Proofs.Ytpokgnkcnibapaa.Dr
open Go.Proofs.Ytpokgnkcnibapaa.SBatch hiding RPost rpost
set_option linter.unusedVariables false
set_option linter.unusedSimpArgs false
set_option maxRecDepth 100000
set_option maxHeartbeats 1600000 in
theorem batch_d (B : Nat) (zs : List Int) (p K : Nat) (w : World) (C : Cu B zs p K w) (hK : K ≤ 800000000) :
    Calls Try.prog 50 #[.pointer (some ⟨p, 0, none⟩)] w fun e w' => ∃ x : R, e = .returned (.agg #[.int .i64 x.f0, .int .i64 x.f1, .int .i64 x.f2]) ∧ Cu B zs p (K + 20) w' ∧ w.grownBy w' (some p) := by
  go_enter Try.func50, Try.ntmps50
  have hp := C.lt
  have hB := C.base
  have GW : w.grownBy w (some p) := grown_refl w _
  go_wp2_with fail
  have X := Cb.new w [.int .i64 0, .int .i64 0, .int .i64 0] 25 (g := w.heap.size) rfl
  replace C := (C.alloc (.cells #[.int .i64 0, .int .i64 0, .int .i64 0] 25))
  replace GW := (grown_trans GW (grown_alloc _ (.cells #[.int .i64 0, .int .i64 0, .int .i64 0] 25) _))
  have su1 : (w.alloc (.cells #[.int .i64 0, .int .i64 0, .int .i64 0] 25)).heap.size = w.heap.size + 1 := by simp only [size_alloc']
  generalize (w.alloc (.cells #[.int .i64 0, .int .i64 0, .int .i64 0] 25)) = u1 at X GW C su1 ⊢
  have zu1 := GW.size
  try go_wp2_with fail
  refine (among_d B zs p (K) _ _ 5 [0, 1, 100, 1000, 100000] (C.alloc (.cells #[.int .i64 0, .int .i64 1, .int .i64 100, .int .i64 1000, .int .i64 100000] 3)) (by omega) (lst_at u1 _ _ (by omega)) (by omega) (by simp) (by simp)).mono ?_
  rintro e u2 ⟨a, hx, rfl, C1, G⟩
  have a_r : 0 ≤ a ∧ a ≤ 100000 := by simp at hx; omega
  clear hx
  have yu2 : u1.heap.size ≤ u2.heap.size := (by have := G.size; simp only [size_alloc'] at this; omega)
  replace X := (X.alloc (.cells #[.int .i64 0, .int .i64 1, .int .i64 100, .int .i64 1000, .int .i64 100000] 3)).went G (by omega)
  replace GW := grown_trans (grown_trans GW (grown_alloc _ (.cells #[.int .i64 0, .int .i64 1, .int .i64 100, .int .i64 1000, .int .i64 100000] 3) _)) G
  replace C := C1
  clear C1 G
  have zu2 := GW.size
  try go_wp2_with fail
  refine (among_d B zs p (K + 2) _ _ 6 [0, 1, 10, 500, 3000, 100000000] (C.alloc (.cells #[.int .i64 0, .int .i64 1, .int .i64 10, .int .i64 500, .int .i64 3000, .int .i64 100000000] 3)) (by omega) (lst_at u2 _ _ (by omega)) (by omega) (by simp) (by simp)).mono ?_
  rintro e u3 ⟨b, hx, rfl, C1, G⟩
  have b_r : 0 ≤ b ∧ b ≤ 100000000 := by simp at hx; omega
  clear hx
  have yu3 : u2.heap.size ≤ u3.heap.size := (by have := G.size; simp only [size_alloc'] at this; omega)
  replace X := (X.alloc (.cells #[.int .i64 0, .int .i64 1, .int .i64 10, .int .i64 500, .int .i64 3000, .int .i64 100000000] 3)).went G (by omega)
  replace GW := grown_trans (grown_trans GW (grown_alloc _ (.cells #[.int .i64 0, .int .i64 1, .int .i64 10, .int .i64 500, .int .i64 3000, .int .i64 100000000] 3) _)) G
  replace C := C1
  clear C1 G
  have zu3 := GW.size
  try go_wp2_with fail
  refine (among_d B zs p (K + 2 + 2) _ _ 6 [0, 1, 50, 1000, 20000, 100000000] (C.alloc (.cells #[.int .i64 0, .int .i64 1, .int .i64 50, .int .i64 1000, .int .i64 20000, .int .i64 100000000] 3)) (by omega) (lst_at u3 _ _ (by omega)) (by omega) (by simp) (by simp)).mono ?_
  rintro e u4 ⟨c, hx, rfl, C1, G⟩
  have c_r : 0 ≤ c ∧ c ≤ 100000000 := by simp at hx; omega
  clear hx
  have yu4 : u3.heap.size ≤ u4.heap.size := (by have := G.size; simp only [size_alloc'] at this; omega)
  replace X := (X.alloc (.cells #[.int .i64 0, .int .i64 1, .int .i64 50, .int .i64 1000, .int .i64 20000, .int .i64 100000000] 3)).went G (by omega)
  replace GW := grown_trans (grown_trans GW (grown_alloc _ (.cells #[.int .i64 0, .int .i64 1, .int .i64 50, .int .i64 1000, .int .i64 20000, .int .i64 100000000] 3) _)) G
  replace C := C1
  clear C1 G
  have zu4 := GW.size
  go_wp2_with fail
  have D := Cb.new u4 [.int .i64 a, .int .i64 b, .int .i64 c] 25 (g := u4.heap.size) rfl
  replace X := (X.alloc (.cells #[.int .i64 a, .int .i64 b, .int .i64 c] 25))
  replace C := (C.alloc (.cells #[.int .i64 a, .int .i64 b, .int .i64 c] 25))
  replace GW := (grown_trans GW (grown_alloc _ (.cells #[.int .i64 a, .int .i64 b, .int .i64 c] 25) _))
  have su5 : (u4.alloc (.cells #[.int .i64 a, .int .i64 b, .int .i64 c] 25)).heap.size = u4.heap.size + 1 := by simp only [size_alloc']
  generalize (u4.alloc (.cells #[.int .i64 a, .int .i64 b, .int .i64 c] 25)) = u5 at D X GW C su5 ⊢
  have zu5 := GW.size
  try go_wp2_with fail
  refine (pick_d B zs p (K + 2 + 2 + 2) _ 48 C (by omega) (by omega) (by omega)).mono ?_
  rintro e u6 ⟨z, z_r, rfl, C1, G⟩
  have yu6 : u5.heap.size ≤ u6.heap.size := G.size
  replace X := (X).went G (by omega)
  replace D := (D).went G (by omega)
  replace GW := grown_trans GW G
  replace C := C1
  clear C1 G
  have zu6 := GW.size
  by_cases h0 : z = 0
  · subst h0
    try go_wp2_with fail
    refine (among_d B zs p (K + 2 + 2 + 2 + 2) _ _ 2 [-1, 100001] (C.alloc (.cells #[.int .i64 (-1), .int .i64 100001] 3)) (by omega) (lst_at u6 _ _ (by omega)) (by omega) (by simp) (by simp)).mono ?_
    rintro e u7 ⟨q, hx, rfl, C1, G⟩
    have q_r : -1 ≤ q ∧ q ≤ 100001 := by simp at hx; omega
    clear hx
    have yu7 : u6.heap.size ≤ u7.heap.size := (by have := G.size; simp only [size_alloc'] at this; omega)
    replace X := (X.alloc (.cells #[.int .i64 (-1), .int .i64 100001] 3)).went G (by omega)
    replace D := (D.alloc (.cells #[.int .i64 (-1), .int .i64 100001] 3)).went G (by omega)
    replace GW := grown_trans (grown_trans GW (grown_alloc _ (.cells #[.int .i64 (-1), .int .i64 100001] 3) _)) G
    replace C := C1
    clear C1 G
    have zu7 := GW.size
    have X_0 := X.cells 0 _ rfl
    have X_1 := X.cells 1 _ rfl
    have X_2 := X.cells 2 _ rfl
    have X_f0 := X.free 0 (by simp)
    have X_f1 := X.free 1 (by simp)
    have X_f2 := X.free 2 (by simp)
    have X_t := X.there
    have D_0 := D.cells 0 _ rfl
    have D_1 := D.cells 1 _ rfl
    have D_2 := D.cells 2 _ rfl
    have D_f0 := D.free 0 (by simp)
    have D_f1 := D.free 1 (by simp)
    have D_f2 := D.free 2 (by simp)
    have D_t := D.there
    go_wp2
    clear X_0 X_1 X_2 X_f0 X_f1 X_f2 X_t
    clear D_0 D_1 D_2 D_f0 D_f1 D_f2 D_t
    have X' : Cb (w.heap.size) [.int .i64 q, .int .i64 b, .int .i64 c] _ := ((((X.far (k := u4.heap.size) (by omega) 0 (.int .i64 q)).set 0 (.int .i64 q)).set 1 (.int .i64 b)).set 2 (.int .i64 c))
    have D' : Cb (u4.heap.size) [.int .i64 q, .int .i64 b, .int .i64 c] _ := ((((D.set 0 (.int .i64 q)).far (k := w.heap.size) (by omega) 0 (.int .i64 q)).far (k := w.heap.size) (by omega) 1 (.int .i64 b)).far (k := w.heap.size) (by omega) 2 (.int .i64 c))
    clear X; have X := X'; clear X'
    clear D; have D := D'; clear D'
    replace C := ((((C.set (g := u4.heap.size) (by omega) (by omega) 0 (.int .i64 q)).set (g := w.heap.size) (by omega) (by omega) 0 (.int .i64 q)).set (g := w.heap.size) (by omega) (by omega) 1 (.int .i64 b)).set (g := w.heap.size) (by omega) (by omega) 2 (.int .i64 c))
    replace GW := (grown_set (grown_set (grown_set (grown_set GW (g := u4.heap.size) (by omega) 0 (.int .i64 q)) (g := w.heap.size) (by omega) 0 (.int .i64 q)) (g := w.heap.size) (by omega) 1 (.int .i64 b)) (g := w.heap.size) (by omega) 2 (.int .i64 c))
    generalize ((((u7.setCell ⟨u4.heap.size, 0, none⟩ (.int .i64 q)).setCell ⟨w.heap.size, 0, none⟩ (.int .i64 q)).setCell ⟨w.heap.size, 1, none⟩ (.int .i64 b)).setCell ⟨w.heap.size, 2, none⟩ (.int .i64 c)) = u8 at X D GW C ⊢
    have zu8 := GW.size
    have X_0 := X.cells 0 _ rfl
    have X_1 := X.cells 1 _ rfl
    have X_2 := X.cells 2 _ rfl
    have X_f0 := X.free 0 (by simp)
    have X_f1 := X.free 1 (by simp)
    have X_f2 := X.free 2 (by simp)
    have X_t := X.there
    exact bodyPost_ret (v := .agg #[.int .i64 q, .int .i64 b, .int .i64 c]) (by simp [results, Try.results50, go_sem, X_0, X_1, X_2]) rfl ⟨⟨q, b, c⟩, rfl, C.le (by omega), GW⟩
  by_cases h1 : z = 1
  · subst h1
    try go_wp2_with fail
    refine (among_d B zs p (K + 2 + 2 + 2 + 2) _ _ 2 [-1, 100000001] (C.alloc (.cells #[.int .i64 (-1), .int .i64 100000001] 3)) (by omega) (lst_at u6 _ _ (by omega)) (by omega) (by simp) (by simp)).mono ?_
    rintro e u7 ⟨q, hx, rfl, C1, G⟩
    have q_r : -1 ≤ q ∧ q ≤ 100000001 := by simp at hx; omega
    clear hx
    have yu7 : u6.heap.size ≤ u7.heap.size := (by have := G.size; simp only [size_alloc'] at this; omega)
    replace X := (X.alloc (.cells #[.int .i64 (-1), .int .i64 100000001] 3)).went G (by omega)
    replace D := (D.alloc (.cells #[.int .i64 (-1), .int .i64 100000001] 3)).went G (by omega)
    replace GW := grown_trans (grown_trans GW (grown_alloc _ (.cells #[.int .i64 (-1), .int .i64 100000001] 3) _)) G
    replace C := C1
    clear C1 G
    have zu7 := GW.size
    have X_0 := X.cells 0 _ rfl
    have X_1 := X.cells 1 _ rfl
    have X_2 := X.cells 2 _ rfl
    have X_f0 := X.free 0 (by simp)
    have X_f1 := X.free 1 (by simp)
    have X_f2 := X.free 2 (by simp)
    have X_t := X.there
    have D_0 := D.cells 0 _ rfl
    have D_1 := D.cells 1 _ rfl
    have D_2 := D.cells 2 _ rfl
    have D_f0 := D.free 0 (by simp)
    have D_f1 := D.free 1 (by simp)
    have D_f2 := D.free 2 (by simp)
    have D_t := D.there
    go_wp2
    clear X_0 X_1 X_2 X_f0 X_f1 X_f2 X_t
    clear D_0 D_1 D_2 D_f0 D_f1 D_f2 D_t
    have X' : Cb (w.heap.size) [.int .i64 a, .int .i64 q, .int .i64 c] _ := ((((X.far (k := u4.heap.size) (by omega) 1 (.int .i64 q)).set 0 (.int .i64 a)).set 1 (.int .i64 q)).set 2 (.int .i64 c))
    have D' : Cb (u4.heap.size) [.int .i64 a, .int .i64 q, .int .i64 c] _ := ((((D.set 1 (.int .i64 q)).far (k := w.heap.size) (by omega) 0 (.int .i64 a)).far (k := w.heap.size) (by omega) 1 (.int .i64 q)).far (k := w.heap.size) (by omega) 2 (.int .i64 c))
    clear X; have X := X'; clear X'
    clear D; have D := D'; clear D'
    replace C := ((((C.set (g := u4.heap.size) (by omega) (by omega) 1 (.int .i64 q)).set (g := w.heap.size) (by omega) (by omega) 0 (.int .i64 a)).set (g := w.heap.size) (by omega) (by omega) 1 (.int .i64 q)).set (g := w.heap.size) (by omega) (by omega) 2 (.int .i64 c))
    replace GW := (grown_set (grown_set (grown_set (grown_set GW (g := u4.heap.size) (by omega) 1 (.int .i64 q)) (g := w.heap.size) (by omega) 0 (.int .i64 a)) (g := w.heap.size) (by omega) 1 (.int .i64 q)) (g := w.heap.size) (by omega) 2 (.int .i64 c))
    generalize ((((u7.setCell ⟨u4.heap.size, 1, none⟩ (.int .i64 q)).setCell ⟨w.heap.size, 0, none⟩ (.int .i64 a)).setCell ⟨w.heap.size, 1, none⟩ (.int .i64 q)).setCell ⟨w.heap.size, 2, none⟩ (.int .i64 c)) = u8 at X D GW C ⊢
    have zu8 := GW.size
    have X_0 := X.cells 0 _ rfl
    have X_1 := X.cells 1 _ rfl
    have X_2 := X.cells 2 _ rfl
    have X_f0 := X.free 0 (by simp)
    have X_f1 := X.free 1 (by simp)
    have X_f2 := X.free 2 (by simp)
    have X_t := X.there
    exact bodyPost_ret (v := .agg #[.int .i64 a, .int .i64 q, .int .i64 c]) (by simp [results, Try.results50, go_sem, X_0, X_1, X_2]) rfl ⟨⟨a, q, c⟩, rfl, C.le (by omega), GW⟩
  have X_0 := X.cells 0 _ rfl
  have X_1 := X.cells 1 _ rfl
  have X_2 := X.cells 2 _ rfl
  have X_f0 := X.free 0 (by simp)
  have X_f1 := X.free 1 (by simp)
  have X_f2 := X.free 2 (by simp)
  have X_t := X.there
  have D_0 := D.cells 0 _ rfl
  have D_1 := D.cells 1 _ rfl
  have D_2 := D.cells 2 _ rfl
  have D_f0 := D.free 0 (by simp)
  have D_f1 := D.free 1 (by simp)
  have D_f2 := D.free 2 (by simp)
  have D_t := D.there
  go_wp2
  clear X_0 X_1 X_2 X_f0 X_f1 X_f2 X_t
  clear D_0 D_1 D_2 D_f0 D_f1 D_f2 D_t
  have X' : Cb (w.heap.size) [.int .i64 a, .int .i64 b, .int .i64 c] _ := (((X.set 0 (.int .i64 a)).set 1 (.int .i64 b)).set 2 (.int .i64 c))
  have D' : Cb (u4.heap.size) [.int .i64 a, .int .i64 b, .int .i64 c] _ := (((D.far (k := w.heap.size) (by omega) 0 (.int .i64 a)).far (k := w.heap.size) (by omega) 1 (.int .i64 b)).far (k := w.heap.size) (by omega) 2 (.int .i64 c))
  clear X; have X := X'; clear X'
  clear D; have D := D'; clear D'
  replace C := (((C.set (g := w.heap.size) (by omega) (by omega) 0 (.int .i64 a)).set (g := w.heap.size) (by omega) (by omega) 1 (.int .i64 b)).set (g := w.heap.size) (by omega) (by omega) 2 (.int .i64 c))
  replace GW := (grown_set (grown_set (grown_set GW (g := w.heap.size) (by omega) 0 (.int .i64 a)) (g := w.heap.size) (by omega) 1 (.int .i64 b)) (g := w.heap.size) (by omega) 2 (.int .i64 c))
  generalize (((u6.setCell ⟨w.heap.size, 0, none⟩ (.int .i64 a)).setCell ⟨w.heap.size, 1, none⟩ (.int .i64 b)).setCell ⟨w.heap.size, 2, none⟩ (.int .i64 c)) = u7 at X D GW C ⊢
  have zu7 := GW.size
  have X_0 := X.cells 0 _ rfl
  have X_1 := X.cells 1 _ rfl
  have X_2 := X.cells 2 _ rfl
  have X_f0 := X.free 0 (by simp)
  have X_f1 := X.free 1 (by simp)
  have X_f2 := X.free 2 (by simp)
  have X_t := X.there
  exact bodyPost_ret (v := .agg #[.int .i64 a, .int .i64 b, .int .i64 c]) (by simp [results, Try.results50, go_sem, X_0, X_1, X_2]) rfl ⟨⟨a, b, c⟩, rfl, C.le (by omega), GW⟩
theorem water_d (B : Nat) (zs : List Int) (p K : Nat) (w : World) (C : Cu B zs p K w) (hK : K ≤ 800000000) :
    Calls Try.prog 49 #[.pointer (some ⟨p, 0, none⟩)] w fun e w' => ∃ x : Int, e = .returned (.int .i64 x) ∧ Cu B zs p (K + 4) w' ∧ w.grownBy w' (some p) := by
  go_enter Try.func49, Try.ntmps49
  have hp := C.lt
  have hB := C.base
  have GW : w.grownBy w (some p) := grown_refl w _
  try go_wp2_with fail
  refine (among_d B zs p (K) _ _ 12 [1, 6, 60, 600, 1000, 12000, 60000, 100000000, 0, 100000001, 7, 30] (C.alloc (.cells #[.int .i64 1, .int .i64 6, .int .i64 60, .int .i64 600, .int .i64 1000, .int .i64 12000, .int .i64 60000, .int .i64 100000000, .int .i64 0, .int .i64 100000001, .int .i64 7, .int .i64 30] 3)) (by omega) (lst_at w _ _ (by omega)) (by omega) (by simp) (by simp)).mono ?_
  rintro e u1 ⟨a, hx, rfl, C1, G⟩
  have a_r : 0 ≤ a ∧ a ≤ 100000001 := by simp at hx; omega
  clear hx
  have yu1 : w.heap.size ≤ u1.heap.size := (by have := G.size; simp only [size_alloc'] at this; omega)
  replace GW := grown_trans (grown_trans GW (grown_alloc _ (.cells #[.int .i64 1, .int .i64 6, .int .i64 60, .int .i64 600, .int .i64 1000, .int .i64 12000, .int .i64 60000, .int .i64 100000000, .int .i64 0, .int .i64 100000001, .int .i64 7, .int .i64 30] 3) _)) G
  replace C := C1
  clear C1 G
  have zu1 := GW.size
  go_wp2
  go_ret
  exact ⟨a, rfl, C.le (by omega), GW⟩
end Go.Proofs.Ytpokgnkcnibapaa.DBat
