/- The draws of FnWashing and FnBatches by value. Made by tools/mk_dbat.py. -/
import Derived.Test.YtpokgnkcnibapaaDBat
namespace Go.Proofs.Ytpokgnkcnibapaa.DBat2
open Go.RowKit Go.Proofs.Ytpokgnkcnibapaa.Mem Go.Proofs.Ytpokgnkcnibapaa.Base Go.Proofs.Ytpokgnkcnibapaa.Draw Go.Proofs.Ytpokgnkcnibapaa.Boxes Go.Proofs.Ytpokgnkcnibapaa.Keep Go.Proofs.Ytpokgnkcnibapaa.Dr
open Go.Proofs.Ytpokgnkcnibapaa.SBatch hiding RPost rpost
open Go.Proofs.Ytpokgnkcnibapaa.DBat
set_option linter.unusedVariables false
set_option linter.unusedSimpArgs false
set_option maxRecDepth 100000
theorem cu_at {w : World} {A : Option Addr} {zs : List Int} (h : Src w A zs) (cap : Nat) {p : Nat} (hp : p = w.heap.size) : Cu w.heap.size zs p 0 (w.alloc (.cells #[.slice A zs.length cap, .int .i64 0, .int .u64 0] 66)) := ⟨0, Nat.le_refl _, hp ▸ cur_new h cap⟩
theorem below_of {w W V : World} {row : Option Nat} (hB : Below w.heap.size w W) (hg : W.grownBy V row) (hr : ∀ k, row = some k → w.heap.size ≤ k) : Below w.heap.size w V := bl_grown hB hg hr
theorem below_set {w W : World} (h : Below w.heap.size w W) {g : Nat} (hg : w.heap.size ≤ g) (i : Nat) (v : Value) : Below w.heap.size w (W.setCell ⟨g, i, none⟩ v) := h.setCell (p := ⟨g, i, none⟩) hg v
def D0 (w : World) (e : Ending) (w' : World) : Prop := ∃ x : R, e = .returned (.agg #[.int .i64 x.f0, .int .i64 x.f1, .int .i64 x.f2]) ∧ Below w.heap.size w w'
def D1 (w : World) (e : Ending) (w' : World) : Prop := ∃ (x : R) (a : Int), e = .returned (.tuple #[.agg #[.int .i64 x.f0, .int .i64 x.f1, .int .i64 x.f2], .int .i64 a]) ∧ Below w.heap.size w w'
def D2 (w : World) (e : Ending) (w' : World) : Prop := ∃ (x : R) (a b : Int), e = .returned (.tuple #[.agg #[.int .i64 x.f0, .int .i64 x.f1, .int .i64 x.f2], .int .i64 a, .int .i64 b]) ∧ Below w.heap.size w w'
def DD (w : World) (e : Ending) (w' : World) : Prop := ∃ x y : R, e = .returned (.tuple #[.agg #[.int .i64 x.f0, .int .i64 x.f1, .int .i64 x.f2], .agg #[.int .i64 y.f0, .int .i64 y.f1, .int .i64 y.f2]]) ∧ Below w.heap.size w w'
set_option maxHeartbeats 1600000 in
theorem drawIs (A : Option Addr) (cap : Nat) (zs : List Int) (w : World) (h : Draw.Src w A zs) : Calls Try.prog 65 #[.slice A zs.length cap] w (D0 w) := by
  have C0 := cu_at (h.below (al (Below.refl _ w) (o := .cells #[.int .i64 0, .int .i64 0, .int .i64 0] 25))) cap (p := w.heap.size + 1) (by rw [size_alloc'])
  have R0 := (Cb.new w [.int .i64 0, .int .i64 0, .int .i64 0] 25 (g := w.heap.size) rfl).alloc (.cells #[.slice A zs.length cap, .int .i64 0, .int .u64 0] 66)
  have G0 : w.grownBy ((w.alloc (.cells #[.int .i64 0, .int .i64 0, .int .i64 0] 25)).alloc (.cells #[.slice A zs.length cap, .int .i64 0, .int .u64 0] 66)) (some (w.heap.size + 1)) := grown_trans (grown_alloc w _ _) (grown_alloc _ _ _)
  have S0 : ((w.alloc (.cells #[.int .i64 0, .int .i64 0, .int .i64 0] 25)).alloc (.cells #[.slice A zs.length cap, .int .i64 0, .int .u64 0] 66)).heap.size = w.heap.size + 1 + 1 := (by rw [size_alloc', size_alloc'])
  have H0 := Lib.hid (And.intro C0 (And.intro R0 (And.intro G0 S0))); clear C0 R0 G0 S0
  go_enter Try.func65, Try.ntmps65
  go_wp2_with fail
  obtain ⟨C0, R, GW, sv⟩ := H0.out
  obtain ⟨B, C⟩ : ∃ B, Cu B zs (w.heap.size + 1) 0 ((w.alloc (.cells #[.int .i64 0, .int .i64 0, .int .i64 0] 25)).alloc (.cells #[.slice A zs.length cap, .int .i64 0, .int .u64 0] 66)) := ⟨_, C0⟩
  clear C0 H0
  generalize (w.alloc (.cells #[.int .i64 0, .int .i64 0, .int .i64 0] 25)).alloc (.cells #[.slice A zs.length cap, .int .i64 0, .int .u64 0] 66) = v at C R GW sv ⊢
  have zw : w.heap.size < w.heap.size + 1 := by omega
  have zv := GW.size
  have hp := C.lt
  have hB := C.base
  generalize hpq : w.heap.size + 1 = p at *
  try go_wp2_with fail
  refine (batch_d B zs p (0) _ C (by omega)).mono ?_
  rintro e u121 ⟨x, rfl, C1, G⟩
  have yu121 : v.heap.size ≤ u121.heap.size := G.size
  replace R := (R).went G (by omega)
  replace GW := grown_trans GW G
  replace C := C1
  clear C1 G
  have zu121 := GW.size
  have HB := below_of (Below.refl w.heap.size w) GW (fun k hk => by injection hk with hk; omega)
  clear C GW
  have b0 := R.free 0 (by simp)
  have a0 := R.cells 0 _ rfl
  have b1 := R.free 1 (by simp)
  have a1 := R.cells 1 _ rfl
  have b2 := R.free 2 (by simp)
  have a2 := R.cells 2 _ rfl
  have s0 := R.there
  have HOR := Lib.hid R; clear R
  go_wp2
  have Q := (((HOR.out.set 0 (.int .i64 x.f0)).set 1 (.int .i64 x.f1)).set 2 (.int .i64 x.f2))
  have q0 := Q.cells 0 _ rfl
  have q1 := Q.cells 1 _ rfl
  have q2 := Q.cells 2 _ rfl
  exact bodyPost_ret (v := .agg #[.int .i64 x.f0, .int .i64 x.f1, .int .i64 x.f2]) (by simp [results, Try.results65, go_sem, q0, q1, q2]) rfl ⟨x, rfl, (below_set (below_set (below_set HB (Nat.le_refl _) 0 (.int .i64 x.f0)) (Nat.le_refl _) 1 (.int .i64 x.f1)) (Nat.le_refl _) 2 (.int .i64 x.f2))⟩
set_option maxHeartbeats 800000 in
theorem drawPur (A : Option Addr) (cap : Nat) (zs : List Int) (w : World) (h : Draw.Src w A zs) : Calls Try.prog 39 #[.slice A zs.length cap] w (D0 w) := by
  have HH := Lib.hid h; clear h
  have R0 := Lib.hid (Cb.new w [.int .i64 0, .int .i64 0, .int .i64 0] 25 (g := w.heap.size) rfl)
  have HB0 := Lib.hid (al (Below.refl w.heap.size w) (o := .cells #[.int .i64 0, .int .i64 0, .int .i64 0] 25))
  go_enter Try.func39, Try.ntmps39
  go_wp2_with fail
  have R1 := R0.out; have B1 := HB0.out; have H1 := HH.out.below B1
  clear R0 HB0
  generalize w.alloc (.cells #[.int .i64 0, .int .i64 0, .int .i64 0] 25) = v at R1 B1 H1 ⊢
  refine (drawIs A cap zs v H1).mono ?_
  rintro e v1 ⟨x, rfl, hb⟩
  have R := R1.more hb
  have HB := be B1 hb
  clear R1 B1 H1 hb
  have b0 := R.free 0 (by simp)
  have a0 := R.cells 0 _ rfl
  have b1 := R.free 1 (by simp)
  have a1 := R.cells 1 _ rfl
  have b2 := R.free 2 (by simp)
  have a2 := R.cells 2 _ rfl
  have s0 := R.there
  have HOR := Lib.hid R; clear R
  go_wp2
  have Q := (((HOR.out.set 0 (.int .i64 x.f0)).set 1 (.int .i64 x.f1)).set 2 (.int .i64 x.f2))
  have q0 := Q.cells 0 _ rfl
  have q1 := Q.cells 1 _ rfl
  have q2 := Q.cells 2 _ rfl
  exact bodyPost_ret (v := .agg #[.int .i64 x.f0, .int .i64 x.f1, .int .i64 x.f2]) (by simp [results, Try.results39, go_sem, q0, q1, q2]) rfl ⟨x, rfl, (below_set (below_set (below_set HB (Nat.le_refl _) 0 (.int .i64 x.f0)) (Nat.le_refl _) 1 (.int .i64 x.f1)) (Nat.le_refl _) 2 (.int .i64 x.f2))⟩
set_option maxHeartbeats 1600000 in
theorem drawWash (A : Option Addr) (cap : Nat) (zs : List Int) (w : World) (h : Draw.Src w A zs) : Calls Try.prog 15 #[.slice A zs.length cap] w (D2 w) := by
  have C0 := cu_at (h.below (al (Below.refl _ w) (o := .cells #[.int .i64 0, .int .i64 0, .int .i64 0] 25))) cap (p := w.heap.size + 1) (by rw [size_alloc'])
  have R0 := (Cb.new w [.int .i64 0, .int .i64 0, .int .i64 0] 25 (g := w.heap.size) rfl).alloc (.cells #[.slice A zs.length cap, .int .i64 0, .int .u64 0] 66)
  have G0 : w.grownBy ((w.alloc (.cells #[.int .i64 0, .int .i64 0, .int .i64 0] 25)).alloc (.cells #[.slice A zs.length cap, .int .i64 0, .int .u64 0] 66)) (some (w.heap.size + 1)) := grown_trans (grown_alloc w _ _) (grown_alloc _ _ _)
  have S0 : ((w.alloc (.cells #[.int .i64 0, .int .i64 0, .int .i64 0] 25)).alloc (.cells #[.slice A zs.length cap, .int .i64 0, .int .u64 0] 66)).heap.size = w.heap.size + 1 + 1 := (by rw [size_alloc', size_alloc'])
  have H0 := Lib.hid (And.intro C0 (And.intro R0 (And.intro G0 S0))); clear C0 R0 G0 S0
  go_enter Try.func15, Try.ntmps15
  go_wp2_with fail
  obtain ⟨C0, R, GW, sv⟩ := H0.out
  obtain ⟨B, C⟩ : ∃ B, Cu B zs (w.heap.size + 1) 0 ((w.alloc (.cells #[.int .i64 0, .int .i64 0, .int .i64 0] 25)).alloc (.cells #[.slice A zs.length cap, .int .i64 0, .int .u64 0] 66)) := ⟨_, C0⟩
  clear C0 H0
  generalize (w.alloc (.cells #[.int .i64 0, .int .i64 0, .int .i64 0] 25)).alloc (.cells #[.slice A zs.length cap, .int .i64 0, .int .u64 0] 66) = v at C R GW sv ⊢
  have zw : w.heap.size < w.heap.size + 1 := by omega
  have zv := GW.size
  have hp := C.lt
  have hB := C.base
  generalize hpq : w.heap.size + 1 = p at *
  try go_wp2_with fail
  refine (water_d B zs p (0) _ C (by omega)).mono ?_
  rintro e u121 ⟨wt, rfl, C1, G⟩
  have yu121 : v.heap.size ≤ u121.heap.size := G.size
  replace R := (R).went G (by omega)
  replace GW := grown_trans GW G
  replace C := C1
  clear C1 G
  have zu121 := GW.size
  try go_wp2_with fail
  refine (batch_d B zs p (0 + 4) _ C (by omega)).mono ?_
  rintro e u122 ⟨x, rfl, C1, G⟩
  have yu122 : u121.heap.size ≤ u122.heap.size := G.size
  replace R := (R).went G (by omega)
  replace GW := grown_trans GW G
  replace C := C1
  clear C1 G
  have zu122 := GW.size
  obtain ⟨h2, e2⟩ : ∃ q, IntKind.i64.wrap (wt.tdiv 2) = q := ⟨_, rfl⟩
  obtain ⟨h1, e1⟩ : ∃ q, IntKind.i64.wrap (wt + 1) = q := ⟨_, rfl⟩
  try go_wp2_with fail
  refine (among_d B zs p (0 + 4 + 20) _ _ 7 [0, 0, 1, wt, h2, h1, -1] (C.alloc (.cells #[.int .i64 0, .int .i64 0, .int .i64 1, .int .i64 wt, .int .i64 h2, .int .i64 h1, .int .i64 (-1)] 3)) (by omega) (lst_at u122 _ _ (by omega)) (by omega) (by simp) (by simp)).mono ?_
  rintro e u123 ⟨d, hx, rfl, C1, G⟩
  clear hx
  have yu123 : u122.heap.size ≤ u123.heap.size := (by have := G.size; simp only [size_alloc'] at this; omega)
  replace R := (R.alloc (.cells #[.int .i64 0, .int .i64 0, .int .i64 1, .int .i64 wt, .int .i64 h2, .int .i64 h1, .int .i64 (-1)] 3)).went G (by omega)
  replace GW := grown_trans (grown_trans GW (grown_alloc _ (.cells #[.int .i64 0, .int .i64 0, .int .i64 1, .int .i64 wt, .int .i64 h2, .int .i64 h1, .int .i64 (-1)] 3) _)) G
  replace C := C1
  clear C1 G
  have zu123 := GW.size
  have HB := below_of (Below.refl w.heap.size w) GW (fun k hk => by injection hk with hk; omega)
  clear C GW
  have b0 := R.free 0 (by simp)
  have a0 := R.cells 0 _ rfl
  have b1 := R.free 1 (by simp)
  have a1 := R.cells 1 _ rfl
  have b2 := R.free 2 (by simp)
  have a2 := R.cells 2 _ rfl
  have s0 := R.there
  have HOR := Lib.hid R; clear R
  go_wp2
  have Q := (((HOR.out.set 0 (.int .i64 x.f0)).set 1 (.int .i64 x.f1)).set 2 (.int .i64 x.f2))
  have q0 := Q.cells 0 _ rfl
  have q1 := Q.cells 1 _ rfl
  have q2 := Q.cells 2 _ rfl
  exact bodyPost_ret (v := .tuple #[.agg #[.int .i64 x.f0, .int .i64 x.f1, .int .i64 x.f2], .int .i64 wt, .int .i64 d]) (by simp [results, Try.results15, go_sem, q0, q1, q2]) rfl ⟨x, wt, d, rfl, (below_set (below_set (below_set HB (Nat.le_refl _) 0 (.int .i64 x.f0)) (Nat.le_refl _) 1 (.int .i64 x.f1)) (Nat.le_refl _) 2 (.int .i64 x.f2))⟩
set_option maxHeartbeats 1600000 in
theorem drawStages (A : Option Addr) (cap : Nat) (zs : List Int) (w : World) (h : Draw.Src w A zs) : Calls Try.prog 23 #[.slice A zs.length cap] w (D2 w) := by
  have C0 := cu_at (h.below (al (Below.refl _ w) (o := .cells #[.int .i64 0, .int .i64 0, .int .i64 0] 25))) cap (p := w.heap.size + 1) (by rw [size_alloc'])
  have R0 := (Cb.new w [.int .i64 0, .int .i64 0, .int .i64 0] 25 (g := w.heap.size) rfl).alloc (.cells #[.slice A zs.length cap, .int .i64 0, .int .u64 0] 66)
  have G0 : w.grownBy ((w.alloc (.cells #[.int .i64 0, .int .i64 0, .int .i64 0] 25)).alloc (.cells #[.slice A zs.length cap, .int .i64 0, .int .u64 0] 66)) (some (w.heap.size + 1)) := grown_trans (grown_alloc w _ _) (grown_alloc _ _ _)
  have S0 : ((w.alloc (.cells #[.int .i64 0, .int .i64 0, .int .i64 0] 25)).alloc (.cells #[.slice A zs.length cap, .int .i64 0, .int .u64 0] 66)).heap.size = w.heap.size + 1 + 1 := (by rw [size_alloc', size_alloc'])
  have H0 := Lib.hid (And.intro C0 (And.intro R0 (And.intro G0 S0))); clear C0 R0 G0 S0
  go_enter Try.func23, Try.ntmps23
  go_wp2_with fail
  obtain ⟨C0, R, GW, sv⟩ := H0.out
  obtain ⟨B, C⟩ : ∃ B, Cu B zs (w.heap.size + 1) 0 ((w.alloc (.cells #[.int .i64 0, .int .i64 0, .int .i64 0] 25)).alloc (.cells #[.slice A zs.length cap, .int .i64 0, .int .u64 0] 66)) := ⟨_, C0⟩
  clear C0 H0
  generalize (w.alloc (.cells #[.int .i64 0, .int .i64 0, .int .i64 0] 25)).alloc (.cells #[.slice A zs.length cap, .int .i64 0, .int .u64 0] 66) = v at C R GW sv ⊢
  have zw : w.heap.size < w.heap.size + 1 := by omega
  have zv := GW.size
  have hp := C.lt
  have hB := C.base
  generalize hpq : w.heap.size + 1 = p at *
  try go_wp2_with fail
  refine (batch_d B zs p (0) _ C (by omega)).mono ?_
  rintro e u121 ⟨x, rfl, C1, G⟩
  have yu121 : v.heap.size ≤ u121.heap.size := G.size
  replace R := (R).went G (by omega)
  replace GW := grown_trans GW G
  replace C := C1
  clear C1 G
  have zu121 := GW.size
  try go_wp2_with fail
  refine (water_d B zs p (0 + 20) _ C (by omega)).mono ?_
  rintro e u122 ⟨wt, rfl, C1, G⟩
  have yu122 : u121.heap.size ≤ u122.heap.size := G.size
  replace R := (R).went G (by omega)
  replace GW := grown_trans GW G
  replace C := C1
  clear C1 G
  have zu122 := GW.size
  try go_wp2_with fail
  refine (among_d B zs p (0 + 20 + 4) _ _ 8 [1, 2, 3, 4, 5, 6, 0, 7] (C.alloc (.cells #[.int .i64 1, .int .i64 2, .int .i64 3, .int .i64 4, .int .i64 5, .int .i64 6, .int .i64 0, .int .i64 7] 3)) (by omega) (lst_at u122 _ _ (by omega)) (by omega) (by simp) (by simp)).mono ?_
  rintro e u123 ⟨d, hx, rfl, C1, G⟩
  have d_r : 0 ≤ d ∧ d ≤ 7 := by simp at hx; omega
  clear hx
  have yu123 : u122.heap.size ≤ u123.heap.size := (by have := G.size; simp only [size_alloc'] at this; omega)
  replace R := (R.alloc (.cells #[.int .i64 1, .int .i64 2, .int .i64 3, .int .i64 4, .int .i64 5, .int .i64 6, .int .i64 0, .int .i64 7] 3)).went G (by omega)
  replace GW := grown_trans (grown_trans GW (grown_alloc _ (.cells #[.int .i64 1, .int .i64 2, .int .i64 3, .int .i64 4, .int .i64 5, .int .i64 6, .int .i64 0, .int .i64 7] 3) _)) G
  replace C := C1
  clear C1 G
  have zu123 := GW.size
  have HB := below_of (Below.refl w.heap.size w) GW (fun k hk => by injection hk with hk; omega)
  clear C GW
  have b0 := R.free 0 (by simp)
  have a0 := R.cells 0 _ rfl
  have b1 := R.free 1 (by simp)
  have a1 := R.cells 1 _ rfl
  have b2 := R.free 2 (by simp)
  have a2 := R.cells 2 _ rfl
  have s0 := R.there
  have HOR := Lib.hid R; clear R
  go_wp2
  have Q := (((HOR.out.set 0 (.int .i64 x.f0)).set 1 (.int .i64 x.f1)).set 2 (.int .i64 x.f2))
  have q0 := Q.cells 0 _ rfl
  have q1 := Q.cells 1 _ rfl
  have q2 := Q.cells 2 _ rfl
  exact bodyPost_ret (v := .tuple #[.agg #[.int .i64 x.f0, .int .i64 x.f1, .int .i64 x.f2], .int .i64 wt, .int .i64 d]) (by simp [results, Try.results23, go_sem, q0, q1, q2]) rfl ⟨x, wt, d, rfl, (below_set (below_set (below_set HB (Nat.le_refl _) 0 (.int .i64 x.f0)) (Nat.le_refl _) 1 (.int .i64 x.f1)) (Nat.le_refl _) 2 (.int .i64 x.f2))⟩
set_option maxHeartbeats 1600000 in
theorem drawDry (A : Option Addr) (cap : Nat) (zs : List Int) (w : World) (h : Draw.Src w A zs) : Calls Try.prog 36 #[.slice A zs.length cap] w (D1 w) := by
  have C0 := cu_at (h.below (al (Below.refl _ w) (o := .cells #[.int .i64 0, .int .i64 0, .int .i64 0] 25))) cap (p := w.heap.size + 1) (by rw [size_alloc'])
  have R0 := (Cb.new w [.int .i64 0, .int .i64 0, .int .i64 0] 25 (g := w.heap.size) rfl).alloc (.cells #[.slice A zs.length cap, .int .i64 0, .int .u64 0] 66)
  have G0 : w.grownBy ((w.alloc (.cells #[.int .i64 0, .int .i64 0, .int .i64 0] 25)).alloc (.cells #[.slice A zs.length cap, .int .i64 0, .int .u64 0] 66)) (some (w.heap.size + 1)) := grown_trans (grown_alloc w _ _) (grown_alloc _ _ _)
  have S0 : ((w.alloc (.cells #[.int .i64 0, .int .i64 0, .int .i64 0] 25)).alloc (.cells #[.slice A zs.length cap, .int .i64 0, .int .u64 0] 66)).heap.size = w.heap.size + 1 + 1 := (by rw [size_alloc', size_alloc'])
  have H0 := Lib.hid (And.intro C0 (And.intro R0 (And.intro G0 S0))); clear C0 R0 G0 S0
  go_enter Try.func36, Try.ntmps36
  go_wp2_with fail
  obtain ⟨C0, R, GW, sv⟩ := H0.out
  obtain ⟨B, C⟩ : ∃ B, Cu B zs (w.heap.size + 1) 0 ((w.alloc (.cells #[.int .i64 0, .int .i64 0, .int .i64 0] 25)).alloc (.cells #[.slice A zs.length cap, .int .i64 0, .int .u64 0] 66)) := ⟨_, C0⟩
  clear C0 H0
  generalize (w.alloc (.cells #[.int .i64 0, .int .i64 0, .int .i64 0] 25)).alloc (.cells #[.slice A zs.length cap, .int .i64 0, .int .u64 0] 66) = v at C R GW sv ⊢
  have zw : w.heap.size < w.heap.size + 1 := by omega
  have zv := GW.size
  have hp := C.lt
  have hB := C.base
  generalize hpq : w.heap.size + 1 = p at *
  try go_wp2_with fail
  refine (batch_d B zs p (0) _ C (by omega)).mono ?_
  rintro e u121 ⟨x, rfl, C1, G⟩
  have yu121 : v.heap.size ≤ u121.heap.size := G.size
  replace R := (R).went G (by omega)
  replace GW := grown_trans GW G
  replace C := C1
  clear C1 G
  have zu121 := GW.size
  try go_wp2_with fail
  refine (among_d B zs p (0 + 20) _ _ 7 [0, 1, 33, 50, 100, 101, -1] (C.alloc (.cells #[.int .i64 0, .int .i64 1, .int .i64 33, .int .i64 50, .int .i64 100, .int .i64 101, .int .i64 (-1)] 3)) (by omega) (lst_at u121 _ _ (by omega)) (by omega) (by simp) (by simp)).mono ?_
  rintro e u122 ⟨d, hx, rfl, C1, G⟩
  have d_r : -1 ≤ d ∧ d ≤ 101 := by simp at hx; omega
  clear hx
  have yu122 : u121.heap.size ≤ u122.heap.size := (by have := G.size; simp only [size_alloc'] at this; omega)
  replace R := (R.alloc (.cells #[.int .i64 0, .int .i64 1, .int .i64 33, .int .i64 50, .int .i64 100, .int .i64 101, .int .i64 (-1)] 3)).went G (by omega)
  replace GW := grown_trans (grown_trans GW (grown_alloc _ (.cells #[.int .i64 0, .int .i64 1, .int .i64 33, .int .i64 50, .int .i64 100, .int .i64 101, .int .i64 (-1)] 3) _)) G
  replace C := C1
  clear C1 G
  have zu122 := GW.size
  have HB := below_of (Below.refl w.heap.size w) GW (fun k hk => by injection hk with hk; omega)
  clear C GW
  have b0 := R.free 0 (by simp)
  have a0 := R.cells 0 _ rfl
  have b1 := R.free 1 (by simp)
  have a1 := R.cells 1 _ rfl
  have b2 := R.free 2 (by simp)
  have a2 := R.cells 2 _ rfl
  have s0 := R.there
  have HOR := Lib.hid R; clear R
  go_wp2
  have Q := (((HOR.out.set 0 (.int .i64 x.f0)).set 1 (.int .i64 x.f1)).set 2 (.int .i64 x.f2))
  have q0 := Q.cells 0 _ rfl
  have q1 := Q.cells 1 _ rfl
  have q2 := Q.cells 2 _ rfl
  exact bodyPost_ret (v := .tuple #[.agg #[.int .i64 x.f0, .int .i64 x.f1, .int .i64 x.f2], .int .i64 d]) (by simp [results, Try.results36, go_sem, q0, q1, q2]) rfl ⟨x, d, rfl, (below_set (below_set (below_set HB (Nat.le_refl _) 0 (.int .i64 x.f0)) (Nat.le_refl _) 1 (.int .i64 x.f1)) (Nat.le_refl _) 2 (.int .i64 x.f2))⟩
set_option maxHeartbeats 1600000 in
theorem drawJoin (A : Option Addr) (cap : Nat) (zs : List Int) (w : World) (h : Draw.Src w A zs) : Calls Try.prog 33 #[.slice A zs.length cap] w (DD w) := by
  have C0 := cu_at (h.below (al (al (Below.refl _ w) (o := .cells #[.int .i64 0, .int .i64 0, .int .i64 0] 25)) (o := .cells #[.int .i64 0, .int .i64 0, .int .i64 0] 25))) cap (p := w.heap.size + 1 + 1) (by rw [size_alloc', size_alloc'])
  have R0 := And.intro (((Cb.new w [.int .i64 0, .int .i64 0, .int .i64 0] 25 (g := w.heap.size) rfl).alloc (.cells #[.int .i64 0, .int .i64 0, .int .i64 0] 25)).alloc (.cells #[.slice A zs.length cap, .int .i64 0, .int .u64 0] 66)) ((Cb.new (w.alloc (.cells #[.int .i64 0, .int .i64 0, .int .i64 0] 25)) [.int .i64 0, .int .i64 0, .int .i64 0] 25 (g := w.heap.size + 1) (by rw [size_alloc'])).alloc (.cells #[.slice A zs.length cap, .int .i64 0, .int .u64 0] 66))
  have G0 : w.grownBy (((w.alloc (.cells #[.int .i64 0, .int .i64 0, .int .i64 0] 25)).alloc (.cells #[.int .i64 0, .int .i64 0, .int .i64 0] 25)).alloc (.cells #[.slice A zs.length cap, .int .i64 0, .int .u64 0] 66)) (some (w.heap.size + 1 + 1)) := grown_trans (grown_trans (grown_alloc w _ _) (grown_alloc _ _ _)) (grown_alloc _ _ _)
  have S0 : (((w.alloc (.cells #[.int .i64 0, .int .i64 0, .int .i64 0] 25)).alloc (.cells #[.int .i64 0, .int .i64 0, .int .i64 0] 25)).alloc (.cells #[.slice A zs.length cap, .int .i64 0, .int .u64 0] 66)).heap.size = w.heap.size + 1 + 1 + 1 := (by rw [size_alloc', size_alloc', size_alloc'])
  have H0 := Lib.hid (And.intro C0 (And.intro R0 (And.intro G0 S0))); clear C0 R0 G0 S0
  go_enter Try.func33, Try.ntmps33
  go_wp2_with fail
  obtain ⟨C0, ⟨R, R2⟩, GW, sv⟩ := H0.out
  obtain ⟨B, C⟩ : ∃ B, Cu B zs (w.heap.size + 1 + 1) 0 (((w.alloc (.cells #[.int .i64 0, .int .i64 0, .int .i64 0] 25)).alloc (.cells #[.int .i64 0, .int .i64 0, .int .i64 0] 25)).alloc (.cells #[.slice A zs.length cap, .int .i64 0, .int .u64 0] 66)) := ⟨_, C0⟩
  clear C0 H0
  generalize ((w.alloc (.cells #[.int .i64 0, .int .i64 0, .int .i64 0] 25)).alloc (.cells #[.int .i64 0, .int .i64 0, .int .i64 0] 25)).alloc (.cells #[.slice A zs.length cap, .int .i64 0, .int .u64 0] 66) = v at C R R2 GW sv ⊢
  have zw : w.heap.size < w.heap.size + 1 + 1 := by omega
  have zv := GW.size
  have hp := C.lt
  have hB := C.base
  have hp2 : w.heap.size + 1 < w.heap.size + 1 + 1 := by omega
  generalize hpq : w.heap.size + 1 + 1 = p at *
  try go_wp2_with fail
  refine (batch_d B zs p (0) _ C (by omega)).mono ?_
  rintro e u121 ⟨x, rfl, C1, G⟩
  have yu121 : v.heap.size ≤ u121.heap.size := G.size
  replace R := (R).went G (by omega)
  replace R2 := (R2).went G (by omega)
  replace GW := grown_trans GW G
  replace C := C1
  clear C1 G
  have zu121 := GW.size
  try go_wp2_with fail
  refine (batch_d B zs p (0 + 20) _ C (by omega)).mono ?_
  rintro e u122 ⟨y, rfl, C1, G⟩
  have yu122 : u121.heap.size ≤ u122.heap.size := G.size
  replace R := (R).went G (by omega)
  replace R2 := (R2).went G (by omega)
  replace GW := grown_trans GW G
  replace C := C1
  clear C1 G
  have zu122 := GW.size
  have HB := below_of (Below.refl w.heap.size w) GW (fun k hk => by injection hk with hk; omega)
  clear C GW
  have b0 := R.free 0 (by simp)
  have a0 := R.cells 0 _ rfl
  have d0 := R2.free 0 (by simp)
  have c0 := R2.cells 0 _ rfl
  have b1 := R.free 1 (by simp)
  have a1 := R.cells 1 _ rfl
  have d1 := R2.free 1 (by simp)
  have c1 := R2.cells 1 _ rfl
  have b2 := R.free 2 (by simp)
  have a2 := R.cells 2 _ rfl
  have d2 := R2.free 2 (by simp)
  have c2 := R2.cells 2 _ rfl
  have s0 := R.there
  have s1 := R2.there
  have HOR := Lib.hid (And.intro R R2); clear R R2
  go_wp2
  have Q := ((((((HOR.out.1.set 0 (.int .i64 x.f0)).set 1 (.int .i64 x.f1)).set 2 (.int .i64 x.f2)).far (k := w.heap.size + 1) (by omega) 0 (.int .i64 y.f0)).far (k := w.heap.size + 1) (by omega) 1 (.int .i64 y.f1)).far (k := w.heap.size + 1) (by omega) 2 (.int .i64 y.f2))
  have P := ((((((HOR.out.2.far (k := w.heap.size) (by omega) 0 (.int .i64 x.f0)).far (k := w.heap.size) (by omega) 1 (.int .i64 x.f1)).far (k := w.heap.size) (by omega) 2 (.int .i64 x.f2)).set 0 (.int .i64 y.f0)).set 1 (.int .i64 y.f1)).set 2 (.int .i64 y.f2))
  have q0 := Q.cells 0 _ rfl
  have p0 := P.cells 0 _ rfl
  have q1 := Q.cells 1 _ rfl
  have p1 := P.cells 1 _ rfl
  have q2 := Q.cells 2 _ rfl
  have p2 := P.cells 2 _ rfl
  exact bodyPost_ret (v := .tuple #[.agg #[.int .i64 x.f0, .int .i64 x.f1, .int .i64 x.f2], .agg #[.int .i64 y.f0, .int .i64 y.f1, .int .i64 y.f2]]) (by simp [results, Try.results33, go_sem, q0, q1, q2, p0, p1, p2]) rfl ⟨x, y, rfl, (below_set (below_set (below_set (below_set (below_set (below_set HB (Nat.le_refl _) 0 (.int .i64 x.f0)) (Nat.le_refl _) 1 (.int .i64 x.f1)) (Nat.le_refl _) 2 (.int .i64 x.f2)) (Nat.le_succ _) 0 (.int .i64 y.f0)) (Nat.le_succ _) 1 (.int .i64 y.f1)) (Nat.le_succ _) 2 (.int .i64 y.f2))⟩
end Go.Proofs.Ytpokgnkcnibapaa.DBat2
