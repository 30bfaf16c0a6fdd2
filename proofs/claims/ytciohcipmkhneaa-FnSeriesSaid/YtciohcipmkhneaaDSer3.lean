/- The draws of FnSeries. Made by tools/mk_dser3.py. -/
import Derived.Test.YtciohcipmkhneaaDSer2
import Derived.Test.YtciohcipmkhneaaDraws2
namespace Go.Proofs.Ytciohcipmkhneaa.DSer3
open Go.RowKit Go.Proofs.Ytciohcipmkhneaa.Mem Go.Proofs.Ytciohcipmkhneaa.Base Go.Proofs.Ytciohcipmkhneaa.Draw Go.Proofs.Ytciohcipmkhneaa.Boxes Go.Proofs.Ytciohcipmkhneaa.Keep Go.Proofs.Ytciohcipmkhneaa.Dr Go.Proofs.Ytciohcipmkhneaa.DSer Go.Proofs.Ytciohcipmkhneaa.DSer2
open Go.Proofs.Ytciohcipmkhneaa.SBasin hiding RPost rpost
set_option linter.unusedVariables false
set_option maxRecDepth 100000
theorem DSun2_below {w W V : World} {row : Option Nat} (hB : Below w.heap.size w W) (hg : W.grownBy V row) (hr : ∀ k, row = some k → w.heap.size ≤ k) : Below w.heap.size w V := bl_grown hB hg hr
theorem below_set {w W : World} (h : Below w.heap.size w W) {g : Nat} (hg : w.heap.size ≤ g) (i : Nat) (v : Value) : Below w.heap.size w (W.setCell ⟨g, i, none⟩ v) := h.setCell (p := ⟨g, i, none⟩) hg v
def E2 (w : World) (e : Ending) (w' : World) : Prop := ∃ (L : List R) (g c : Nat) (x y : Int), L.length ≤ 9 ∧ e = .returned (.tuple #[.slice (some ⟨g, 0, none⟩) L.length c, .agg #[.int .i64 x, .int .i64 y]]) ∧ w'.ownsRow w.heap.size 50 3 (.slice (some ⟨g, 0, none⟩) L.length c) L.length (flat L) ∧ Below w.heap.size w w'
def E3 (w : World) (e : Ending) (w' : World) : Prop := ∃ (L : List R) (g c : Nat) (x y n : Int), L.length ≤ 9 ∧ e = .returned (.tuple #[.slice (some ⟨g, 0, none⟩) L.length c, .agg #[.int .i64 x, .int .i64 y], .int .i64 n]) ∧ w'.ownsRow w.heap.size 50 3 (.slice (some ⟨g, 0, none⟩) L.length c) L.length (flat L) ∧ Below w.heap.size w w'
def E4 (w : World) (e : Ending) (w' : World) : Prop := ∃ (L : List R) (g c : Nat) (x y n t : Int), L.length ≤ 9 ∧ e = .returned (.tuple #[.slice (some ⟨g, 0, none⟩) L.length c, .agg #[.int .i64 x, .int .i64 y], .int .i64 n, .int .i64 t]) ∧ w'.ownsRow w.heap.size 50 3 (.slice (some ⟨g, 0, none⟩) L.length c) L.length (flat L) ∧ Below w.heap.size w w'

theorem brine_d (B : Nat) (zs : List Int) (p K : Nat) (w : World) (h : Cu B zs p K w) (hk : K ≤ 700000000) :
    Calls Try.prog 77 #[.pointer (some ⟨p, 0, none⟩)] w fun e w' => ∃ x y : Int, (-1 ≤ x ∧ x ≤ 1000001 ∧ -1 ≤ y ∧ y ≤ 1000001) ∧ e = .returned (.agg #[.int .i64 x, .int .i64 y]) ∧ Cu B zs p (K + 8) w' ∧ w.grownBy w' (some p) := by
  obtain ⟨k, hk1, hc⟩ := h
  refine (Draws2.brine_any B zs w p k hc (by omega)).mono ?_
  rintro e w' ⟨⟨x, y, x0, x1, y0, y1, rfl⟩, ⟨⟨k', hk', hc'⟩, G⟩⟩
  exact ⟨x, y, ⟨x0, x1, y0, y1⟩, rfl, ⟨k', by omega, hc'⟩, G⟩
theorem pass_d (B : Nat) (zs : List Int) (p K : Nat) (w : World) (C : Cu B zs p K w) (hK : K ≤ 800000000) :
    Calls Try.prog 78 #[.pointer (some ⟨p, 0, none⟩)] w fun e w' => ∃ x : Int, (-1 ≤ x ∧ x ≤ 9000) ∧ e = .returned (.int .i64 x) ∧ Cu B zs p (K + 2) w' ∧ w.grownBy w' (some p) := by
  go_enter Try.func78, Try.ntmps78
  have hp := C.lt
  have hB := C.base
  have GW : w.grownBy w (some p) := grown_refl w _
  try go_wp2_with fail
  refine (among_d B zs p (K) _ _ 10 [1, 10, 50, 100, 333, 1000, 9000, 0, -1, 20] (C.alloc (.cells #[.int .i64 1, .int .i64 10, .int .i64 50, .int .i64 100, .int .i64 333, .int .i64 1000, .int .i64 9000, .int .i64 0, .int .i64 (-1), .int .i64 20] 3)) (by omega) (lst_at w _ _ (by omega)) (by omega) (by simp) (by simp)).mono ?_
  rintro e u1 ⟨x, hx, rfl, C1, G⟩
  have x_r : -1 ≤ x ∧ x ≤ 9000 := by simp at hx; omega
  clear hx
  have yu1 : w.heap.size ≤ u1.heap.size := (by have := G.size; simp only [size_alloc'] at this; omega)
  replace GW := grown_trans (grown_trans GW (grown_alloc _ (.cells #[.int .i64 1, .int .i64 10, .int .i64 50, .int .i64 100, .int .i64 333, .int .i64 1000, .int .i64 9000, .int .i64 0, .int .i64 (-1), .int .i64 20] 3) _)) G
  replace C := C1
  clear C1 G
  have zu1 := GW.size
  go_wp2
  go_ret
  exact ⟨x, x_r, rfl, C.le (by omega), GW⟩
set_option maxHeartbeats 1600000 in
theorem drawAfter (A : Option Addr) (cap : Nat) (zs : List Int) (w : World) (h : Draw.Src w A zs) : Calls Try.prog 17 #[.slice A zs.length cap] w (E3 w) := by
  have C0 := cu_at (h.below (al (Below.refl _ w) (o := .cells #[.int .i64 0, .int .i64 0] 26))) cap (p := w.heap.size + 1) (by rw [size_alloc'])
  have R0 := (Cb.new w [.int .i64 0, .int .i64 0] 26 (g := w.heap.size) rfl).alloc (.cells #[.slice A zs.length cap, .int .i64 0, .int .u64 0] 94)
  have G0 : w.grownBy ((w.alloc (.cells #[.int .i64 0, .int .i64 0] 26)).alloc (.cells #[.slice A zs.length cap, .int .i64 0, .int .u64 0] 94)) (some (w.heap.size + 1)) := grown_trans (grown_alloc w _ _) (grown_alloc _ _ _)
  have S0 : ((w.alloc (.cells #[.int .i64 0, .int .i64 0] 26)).alloc (.cells #[.slice A zs.length cap, .int .i64 0, .int .u64 0] 94)).heap.size = w.heap.size + 1 + 1 := by rw [size_alloc', size_alloc']
  have H0 := Lib.hid (And.intro C0 (And.intro R0 (And.intro G0 S0))); clear C0 R0 G0 S0
  go_enter Try.func17, Try.ntmps17
  go_wp2_with fail
  obtain ⟨C0, R, GW, sv⟩ := H0.out
  obtain ⟨B, C⟩ : ∃ B, Cu B zs (w.heap.size + 1) 0 ((w.alloc (.cells #[.int .i64 0, .int .i64 0] 26)).alloc (.cells #[.slice A zs.length cap, .int .i64 0, .int .u64 0] 94)) := ⟨_, C0⟩
  clear C0 H0
  generalize (w.alloc (.cells #[.int .i64 0, .int .i64 0] 26)).alloc (.cells #[.slice A zs.length cap, .int .i64 0, .int .u64 0] 94) = v at C R GW sv ⊢
  have zw : w.heap.size < w.heap.size + 1 := Nat.lt_succ_self _
  have zv := GW.size
  have hp := C.lt
  have hB := C.base
  generalize w.heap.size + 1 = p at *
  try go_wp2_with fail
  refine (series_d B zs p (0) _ C (by omega)).mono ?_
  rintro e u121 ⟨L, g, c, hl, rfl, O, C1, G⟩
  have yu121 : v.heap.size ≤ u121.heap.size := G.size
  replace R := (R).went G (by omega)
  replace GW := grown_trans GW G
  replace C := C1
  clear C1 G
  have zu121 := GW.size
  have hg0 := own_ge O g (by simp [Value.ownBlock])
  try go_wp2_with fail
  refine (brine_d B zs p (0 + 300) _ C (by omega)).mono ?_
  rintro e u122 ⟨x, y, xy_r, rfl, C1, G⟩
  have yu122 : u121.heap.size ≤ u122.heap.size := G.size
  replace R := (R).went G (by omega)
  replace O := own_grown O G (fun k hk => by injection hk with hk; omega)
  replace GW := grown_trans GW G
  replace C := C1
  clear C1 G
  have zu122 := GW.size
  try go_wp2_with fail
  refine (pass_d B zs p (0 + 300 + 8) _ C (by omega)).mono ?_
  rintro e u123 ⟨n, n_r, rfl, C1, G⟩
  have yu123 : u122.heap.size ≤ u123.heap.size := G.size
  replace R := (R).went G (by omega)
  replace O := own_grown O G (fun k hk => by injection hk with hk; omega)
  replace GW := grown_trans GW G
  replace C := C1
  clear C1 G
  have zu123 := GW.size
  have HB := DSun2_below (Below.refl w.heap.size w) GW (fun k hk => by injection hk with hk; omega)
  clear C GW
  have b0 := R.free 0 (by simp)
  have b1 := R.free 1 (by simp)
  have a0 := R.cells 0 _ rfl
  have a1 := R.cells 1 _ rfl
  have s0 := R.there
  have HOR := Lib.hid (And.intro O R); clear O R
  go_wp2
  have Q := (HOR.out.2.set 0 (.int .i64 x)).set 1 (.int .i64 y)
  have q0 := Q.cells 0 _ rfl
  have q1 := Q.cells 1 _ rfl
  have O2 := own_far (own_far HOR.out.1 (k := w.heap.size) (by omega) 0 (.int .i64 x)) (k := w.heap.size) (by omega) 1 (.int .i64 y)
  exact bodyPost_ret (v := .tuple #[.slice (some ⟨g, 0, none⟩) L.length c, .agg #[.int .i64 x, .int .i64 y], .int .i64 n]) (by simp [results, Try.results17, go_sem, q0, q1]) rfl ⟨L, g, c, x, y, n, hl, rfl, own_base O2 (by omega), below_set (below_set HB (Nat.le_refl _) _ _) (Nat.le_refl _) _ _⟩
set_option maxHeartbeats 1600000 in
theorem drawPasses (A : Option Addr) (cap : Nat) (zs : List Int) (w : World) (h : Draw.Src w A zs) : Calls Try.prog 24 #[.slice A zs.length cap] w (E4 w) := by
  have C0 := cu_at (h.below (al (Below.refl _ w) (o := .cells #[.int .i64 0, .int .i64 0] 26))) cap (p := w.heap.size + 1) (by rw [size_alloc'])
  have R0 := (Cb.new w [.int .i64 0, .int .i64 0] 26 (g := w.heap.size) rfl).alloc (.cells #[.slice A zs.length cap, .int .i64 0, .int .u64 0] 94)
  have G0 : w.grownBy ((w.alloc (.cells #[.int .i64 0, .int .i64 0] 26)).alloc (.cells #[.slice A zs.length cap, .int .i64 0, .int .u64 0] 94)) (some (w.heap.size + 1)) := grown_trans (grown_alloc w _ _) (grown_alloc _ _ _)
  have S0 : ((w.alloc (.cells #[.int .i64 0, .int .i64 0] 26)).alloc (.cells #[.slice A zs.length cap, .int .i64 0, .int .u64 0] 94)).heap.size = w.heap.size + 1 + 1 := by rw [size_alloc', size_alloc']
  have H0 := Lib.hid (And.intro C0 (And.intro R0 (And.intro G0 S0))); clear C0 R0 G0 S0
  go_enter Try.func24, Try.ntmps24
  go_wp2_with fail
  obtain ⟨C0, R, GW, sv⟩ := H0.out
  obtain ⟨B, C⟩ : ∃ B, Cu B zs (w.heap.size + 1) 0 ((w.alloc (.cells #[.int .i64 0, .int .i64 0] 26)).alloc (.cells #[.slice A zs.length cap, .int .i64 0, .int .u64 0] 94)) := ⟨_, C0⟩
  clear C0 H0
  generalize (w.alloc (.cells #[.int .i64 0, .int .i64 0] 26)).alloc (.cells #[.slice A zs.length cap, .int .i64 0, .int .u64 0] 94) = v at C R GW sv ⊢
  have zw : w.heap.size < w.heap.size + 1 := Nat.lt_succ_self _
  have zv := GW.size
  have hp := C.lt
  have hB := C.base
  generalize w.heap.size + 1 = p at *
  try go_wp2_with fail
  refine (series_d B zs p (0) _ C (by omega)).mono ?_
  rintro e u121 ⟨L, g, c, hl, rfl, O, C1, G⟩
  have yu121 : v.heap.size ≤ u121.heap.size := G.size
  replace R := (R).went G (by omega)
  replace GW := grown_trans GW G
  replace C := C1
  clear C1 G
  have zu121 := GW.size
  have hg0 := own_ge O g (by simp [Value.ownBlock])
  try go_wp2_with fail
  refine (brine_d B zs p (0 + 300) _ C (by omega)).mono ?_
  rintro e u122 ⟨x, y, xy_r, rfl, C1, G⟩
  have yu122 : u121.heap.size ≤ u122.heap.size := G.size
  replace R := (R).went G (by omega)
  replace O := own_grown O G (fun k hk => by injection hk with hk; omega)
  replace GW := grown_trans GW G
  replace C := C1
  clear C1 G
  have zu122 := GW.size
  try go_wp2_with fail
  refine (pass_d B zs p (0 + 300 + 8) _ C (by omega)).mono ?_
  rintro e u123 ⟨n, n_r, rfl, C1, G⟩
  have yu123 : u122.heap.size ≤ u123.heap.size := G.size
  replace R := (R).went G (by omega)
  replace O := own_grown O G (fun k hk => by injection hk with hk; omega)
  replace GW := grown_trans GW G
  replace C := C1
  clear C1 G
  have zu123 := GW.size
  try go_wp2_with fail
  refine (among_d B zs p (0 + 300 + 8 + 2) _ _ 7 [0, 1, 2, 5, 100, 101, -1] (C.alloc (.cells #[.int .i64 0, .int .i64 1, .int .i64 2, .int .i64 5, .int .i64 100, .int .i64 101, .int .i64 (-1)] 3)) (by omega) (lst_at u123 _ _ (by omega)) (by omega) (by simp) (by simp)).mono ?_
  rintro e u124 ⟨t, hx, rfl, C1, G⟩
  have t_r : -1 ≤ t ∧ t ≤ 101 := by simp at hx; omega
  clear hx
  have yu124 : u123.heap.size ≤ u124.heap.size := (by have := G.size; simp only [size_alloc'] at this; omega)
  replace R := (R.alloc (.cells #[.int .i64 0, .int .i64 1, .int .i64 2, .int .i64 5, .int .i64 100, .int .i64 101, .int .i64 (-1)] 3)).went G (by omega)
  replace O := own_grown (own_keep O (al (Below.refl _ _) (o := (.cells #[.int .i64 0, .int .i64 1, .int .i64 2, .int .i64 5, .int .i64 100, .int .i64 101, .int .i64 (-1)] 3)))) G (fun k hk => by injection hk with hk; omega)
  replace GW := grown_trans (grown_trans GW (grown_alloc _ (.cells #[.int .i64 0, .int .i64 1, .int .i64 2, .int .i64 5, .int .i64 100, .int .i64 101, .int .i64 (-1)] 3) _)) G
  replace C := C1
  clear C1 G
  have zu124 := GW.size
  have HB := DSun2_below (Below.refl w.heap.size w) GW (fun k hk => by injection hk with hk; omega)
  clear C GW
  have b0 := R.free 0 (by simp)
  have b1 := R.free 1 (by simp)
  have a0 := R.cells 0 _ rfl
  have a1 := R.cells 1 _ rfl
  have s0 := R.there
  have HOR := Lib.hid (And.intro O R); clear O R
  go_wp2
  have Q := (HOR.out.2.set 0 (.int .i64 x)).set 1 (.int .i64 y)
  have q0 := Q.cells 0 _ rfl
  have q1 := Q.cells 1 _ rfl
  have O2 := own_far (own_far HOR.out.1 (k := w.heap.size) (by omega) 0 (.int .i64 x)) (k := w.heap.size) (by omega) 1 (.int .i64 y)
  exact bodyPost_ret (v := .tuple #[.slice (some ⟨g, 0, none⟩) L.length c, .agg #[.int .i64 x, .int .i64 y], .int .i64 n, .int .i64 t]) (by simp [results, Try.results24, go_sem, q0, q1]) rfl ⟨L, g, c, x, y, n, t, hl, rfl, own_base O2 (by omega), below_set (below_set HB (Nat.le_refl _) _ _) (Nat.le_refl _) _ _⟩
set_option maxHeartbeats 1600000 in
theorem drawFill (A : Option Addr) (cap : Nat) (zs : List Int) (w : World) (h : Draw.Src w A zs) : Calls Try.prog 30 #[.slice A zs.length cap] w (E2 w) := by
  have C0 := cu_at (h.below (al (Below.refl _ w) (o := .cells #[.int .i64 0, .int .i64 0] 26))) cap (p := w.heap.size + 1) (by rw [size_alloc'])
  have R0 := (Cb.new w [.int .i64 0, .int .i64 0] 26 (g := w.heap.size) rfl).alloc (.cells #[.slice A zs.length cap, .int .i64 0, .int .u64 0] 94)
  have G0 : w.grownBy ((w.alloc (.cells #[.int .i64 0, .int .i64 0] 26)).alloc (.cells #[.slice A zs.length cap, .int .i64 0, .int .u64 0] 94)) (some (w.heap.size + 1)) := grown_trans (grown_alloc w _ _) (grown_alloc _ _ _)
  have S0 : ((w.alloc (.cells #[.int .i64 0, .int .i64 0] 26)).alloc (.cells #[.slice A zs.length cap, .int .i64 0, .int .u64 0] 94)).heap.size = w.heap.size + 1 + 1 := by rw [size_alloc', size_alloc']
  have H0 := Lib.hid (And.intro C0 (And.intro R0 (And.intro G0 S0))); clear C0 R0 G0 S0
  go_enter Try.func30, Try.ntmps30
  go_wp2_with fail
  obtain ⟨C0, R, GW, sv⟩ := H0.out
  obtain ⟨B, C⟩ : ∃ B, Cu B zs (w.heap.size + 1) 0 ((w.alloc (.cells #[.int .i64 0, .int .i64 0] 26)).alloc (.cells #[.slice A zs.length cap, .int .i64 0, .int .u64 0] 94)) := ⟨_, C0⟩
  clear C0 H0
  generalize (w.alloc (.cells #[.int .i64 0, .int .i64 0] 26)).alloc (.cells #[.slice A zs.length cap, .int .i64 0, .int .u64 0] 94) = v at C R GW sv ⊢
  have zw : w.heap.size < w.heap.size + 1 := Nat.lt_succ_self _
  have zv := GW.size
  have hp := C.lt
  have hB := C.base
  generalize w.heap.size + 1 = p at *
  try go_wp2_with fail
  refine (series_d B zs p (0) _ C (by omega)).mono ?_
  rintro e u121 ⟨L, g, c, hl, rfl, O, C1, G⟩
  have yu121 : v.heap.size ≤ u121.heap.size := G.size
  replace R := (R).went G (by omega)
  replace GW := grown_trans GW G
  replace C := C1
  clear C1 G
  have zu121 := GW.size
  have hg0 := own_ge O g (by simp [Value.ownBlock])
  try go_wp2_with fail
  refine (brine_d B zs p (0 + 300) _ C (by omega)).mono ?_
  rintro e u122 ⟨x, y, xy_r, rfl, C1, G⟩
  have yu122 : u121.heap.size ≤ u122.heap.size := G.size
  replace R := (R).went G (by omega)
  replace O := own_grown O G (fun k hk => by injection hk with hk; omega)
  replace GW := grown_trans GW G
  replace C := C1
  clear C1 G
  have zu122 := GW.size
  have HB := DSun2_below (Below.refl w.heap.size w) GW (fun k hk => by injection hk with hk; omega)
  clear C GW
  have b0 := R.free 0 (by simp)
  have b1 := R.free 1 (by simp)
  have a0 := R.cells 0 _ rfl
  have a1 := R.cells 1 _ rfl
  have s0 := R.there
  have HOR := Lib.hid (And.intro O R); clear O R
  go_wp2
  have Q := (HOR.out.2.set 0 (.int .i64 x)).set 1 (.int .i64 y)
  have q0 := Q.cells 0 _ rfl
  have q1 := Q.cells 1 _ rfl
  have O2 := own_far (own_far HOR.out.1 (k := w.heap.size) (by omega) 0 (.int .i64 x)) (k := w.heap.size) (by omega) 1 (.int .i64 y)
  exact bodyPost_ret (v := .tuple #[.slice (some ⟨g, 0, none⟩) L.length c, .agg #[.int .i64 x, .int .i64 y]]) (by simp [results, Try.results30, go_sem, q0, q1]) rfl ⟨L, g, c, x, y, hl, rfl, own_base O2 (by omega), below_set (below_set HB (Nat.le_refl _) _ _) (Nat.le_refl _) _ _⟩
set_option maxHeartbeats 1600000 in
theorem drawPte (A : Option Addr) (cap : Nat) (zs : List Int) (w : World) (h : Draw.Src w A zs) : Calls Try.prog 27 #[.slice A zs.length cap] w (D1 w) := by
  have C0 := cu_at h cap (p := w.heap.size) rfl
  have G0 : w.grownBy (w.alloc (.cells #[.slice A zs.length cap, .int .i64 0, .int .u64 0] 94)) (some w.heap.size) := grown_alloc w _ _
  have S0 : (w.alloc (.cells #[.slice A zs.length cap, .int .i64 0, .int .u64 0] 94)).heap.size = w.heap.size + 1 := size_alloc' _ _
  have H0 := Lib.hid (And.intro C0 (And.intro G0 S0)); clear C0 G0 S0 h
  go_enter Try.func27, Try.ntmps27
  go_wp2_with fail
  obtain ⟨C0, GW, sv⟩ := H0.out
  clear H0
  generalize w.alloc (.cells #[.slice A zs.length cap, .int .i64 0, .int .u64 0] 94) = v at C0 GW sv ⊢
  obtain ⟨p, hpp⟩ : ∃ p, w.heap.size = p := ⟨_, rfl⟩
  rw [hpp] at C0 GW sv ⊢
  obtain ⟨B, hBB, C⟩ : ∃ B, B = p ∧ Cu B zs p 0 v := ⟨_, rfl, C0⟩
  clear C0
  have zv := GW.size
  have hp := C.lt
  have hB := C.base
  try go_wp2_with fail
  refine (series_d B zs p (0) _ C (by omega)).mono ?_
  rintro e u121 ⟨L, g, c, hl, rfl, O, C1, G⟩
  have yu121 : v.heap.size ≤ u121.heap.size := G.size
  replace GW := grown_trans GW G
  replace C := C1
  clear C1 G
  have zu121 := GW.size
  have hg0 := own_ge O g (by simp [Value.ownBlock])
  try go_wp2_with fail
  refine (pass_d B zs p (0 + 300) _ C (by omega)).mono ?_
  rintro e u122 ⟨n, n_r, rfl, C1, G⟩
  have yu122 : u121.heap.size ≤ u122.heap.size := G.size
  replace O := own_grown O G (fun k hk => by injection hk with hk; omega)
  replace GW := grown_trans GW G
  replace C := C1
  clear C1 G
  have zu122 := GW.size
  have HB := Lib.hid (below_of GW (by omega))
  have HO := Lib.hid (own_base O (base' := w.heap.size) (by omega))
  clear C GW O
  go_wp2
  go_ret2
  exact ⟨L, g, c, n, hl, rfl, HO.out, HB.out⟩
end Go.Proofs.Ytciohcipmkhneaa.DSer3
