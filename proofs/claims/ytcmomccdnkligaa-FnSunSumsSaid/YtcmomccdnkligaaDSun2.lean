/- The draws of FnSuns. -/
import Derived.Test.YtcmomccdnkligaaDSun
import Derived.Test.YtcmomccdnkligaaBrine
import Derived.Test.YtcmomccdnkligaaRegn3
namespace Go.Proofs.Ytcmomccdnkligaa.DSun2
open Go.RowKit Go.Proofs.Ytcmomccdnkligaa.Mem Go.Proofs.Ytcmomccdnkligaa.Base Go.Proofs.Ytcmomccdnkligaa.Draw Go.Proofs.Ytcmomccdnkligaa.Boxes Go.Proofs.Ytcmomccdnkligaa.Keep Go.Proofs.Ytcmomccdnkligaa.Dr Go.Proofs.Ytcmomccdnkligaa.Regn Go.Proofs.Ytcmomccdnkligaa.SSun Go.Proofs.Ytcmomccdnkligaa.DSun
set_option linter.unusedVariables false
set_option maxRecDepth 100000
theorem cu_at {w : World} {A : Option Addr} {zs : List Int} (h : Src w A zs) (cap : Nat) {p : Nat} (hp : p = w.heap.size) : Cu w.heap.size zs p 0 (w.alloc (.cells #[.slice A zs.length cap, .int .i64 0, .int .u64 0] 68)) := ⟨0, Nat.le_refl _, hp ▸ cur_new h cap⟩
theorem below_of {w W V : World} {row : Option Nat} (hB : Below w.heap.size w W) (hg : W.grownBy V row) (hr : ∀ k, row = some k → w.heap.size ≤ k) : Below w.heap.size w V := bl_grown hB hg hr
theorem below_set {w W : World} (h : Below w.heap.size w W) {g : Nat} (hg : w.heap.size ≤ g) (i : Nat) (v : Value) : Below w.heap.size w (W.setCell ⟨g, i, none⟩ v) := h.setCell (p := ⟨g, i, none⟩) hg v
theorem own2 {w : World} {base g n c k : Nat} {l : List R} {x : R} (O : w.ownsRow base 42 2 (.slice (some ⟨g, 0, none⟩) n c) n (flat l)) (hk : k < l.length) (hx : l[k] = x) :
    w.cell? ⟨g, k * 2, none⟩ = some (.int .i64 x.f0) ∧ w.cell? ⟨g, k * 2 + 1, none⟩ = some (.int .i64 x.f1) := by
  subst hx
  have e : n * 2 = l.length * 2 := by have := O.1; rw [flat_n] at this; omega
  refine ⟨?_, ?_⟩
  · rw [O.cellAt _ (by omega)]; exact flat_0 l k hk
  · rw [O.cellAt _ (by omega)]; exact flat_1 l k hk
def D4 (w : World) (e : Ending) (w' : World) : Prop :=
  ∃ (L : List R) (g c : Nat) (x y a d : Int), (L.length ≤ 25 ∧ 0 ≤ a ∧ a ≤ 100001) ∧ e = .returned (.tuple #[.slice (some ⟨g, 0, none⟩) L.length c, .agg #[.int .i64 x, .int .i64 y], .int .i64 a, .int .i64 d]) ∧ w'.ownsRow w.heap.size 42 2 (.slice (some ⟨g, 0, none⟩) L.length c) L.length (flat L) ∧ Below w.heap.size w w'
def D5 (w : World) (e : Ending) (w' : World) : Prop :=
  ∃ (L : List R) (g c : Nat) (x y a f t : Int), L.length ≤ 25 ∧ e = .returned (.tuple #[.slice (some ⟨g, 0, none⟩) L.length c, .agg #[.int .i64 x, .int .i64 y], .int .i64 a, .int .i64 f, .int .i64 t]) ∧ w'.ownsRow w.heap.size 42 2 (.slice (some ⟨g, 0, none⟩) L.length c) L.length (flat L) ∧ Below w.heap.size w w'
set_option maxHeartbeats 1600000 in
theorem drawLoss (A : Option Addr) (cap : Nat) (zs : List Int) (w : World) (h : Draw.Src w A zs) : Calls Try.prog 15 #[.slice A zs.length cap] w (D4 w) := by
  have C0 := cu_at (h.below (al (Below.refl _ w) (o := .cells #[.int .i64 0, .int .i64 0] 26))) cap (p := w.heap.size + 1) (by rw [size_alloc'])
  have R0 := (Cb.new w [.int .i64 0, .int .i64 0] 26 (g := w.heap.size) rfl).alloc (.cells #[.slice A zs.length cap, .int .i64 0, .int .u64 0] 68)
  have G0 : w.grownBy ((w.alloc (.cells #[.int .i64 0, .int .i64 0] 26)).alloc (.cells #[.slice A zs.length cap, .int .i64 0, .int .u64 0] 68)) (some (w.heap.size + 1)) := grown_trans (grown_alloc w _ _) (grown_alloc _ _ _)
  have S0 : ((w.alloc (.cells #[.int .i64 0, .int .i64 0] 26)).alloc (.cells #[.slice A zs.length cap, .int .i64 0, .int .u64 0] 68)).heap.size = w.heap.size + 1 + 1 := by rw [size_alloc', size_alloc']
  have H0 := Lib.hid (And.intro C0 (And.intro R0 (And.intro G0 S0))); clear C0 R0 G0 S0
  go_enter Try.func15, Try.ntmps15
  go_wp2_with fail
  obtain ⟨C0, R, GW, sv⟩ := H0.out
  obtain ⟨B, C⟩ : ∃ B, Cu B zs (w.heap.size + 1) 0 ((w.alloc (.cells #[.int .i64 0, .int .i64 0] 26)).alloc (.cells #[.slice A zs.length cap, .int .i64 0, .int .u64 0] 68)) := ⟨_, C0⟩
  clear C0 H0
  generalize (w.alloc (.cells #[.int .i64 0, .int .i64 0] 26)).alloc (.cells #[.slice A zs.length cap, .int .i64 0, .int .u64 0] 68) = v at C R GW sv ⊢
  have zw : w.heap.size < w.heap.size + 1 := Nat.lt_succ_self _
  have zv := GW.size
  have hp := C.lt
  have hB := C.base
  generalize w.heap.size + 1 = p at *
  try go_wp2_with fail
  refine (suns_d B zs p (0) _ C (by omega)).mono ?_
  rintro e u121 ⟨L, g, c, hl, rfl, O, C1, G⟩
  have yu121 : v.heap.size ≤ u121.heap.size := G.size
  replace R := (R).went G (by omega)
  replace GW := grown_trans GW G
  replace C := C1
  clear C1 G
  have zu121 := GW.size
  have hg0 := own_ge O g (by simp [Value.ownBlock])
  try go_wp2_with fail
  refine (among_d B zs p (0 + 500) _ _ 5 [0, 1, 2, 100, 4001] (C.alloc (.cells #[.int .i64 0, .int .i64 1, .int .i64 2, .int .i64 100, .int .i64 4001] 3)) (by omega) (lst_at u121 _ _ (by omega)) (by omega) (by simp) (by simp)).mono ?_
  rintro e u122 ⟨d0, hx, rfl, C1, G⟩
  have d0_r : 0 ≤ d0 ∧ d0 ≤ 4001 := by simp at hx; omega
  clear hx
  have yu122 : u121.heap.size ≤ u122.heap.size := (by have := G.size; simp only [size_alloc'] at this; omega)
  replace R := (R.alloc (.cells #[.int .i64 0, .int .i64 1, .int .i64 2, .int .i64 100, .int .i64 4001] 3)).went G (by omega)
  replace O := own_grown (own_keep O (al (Below.refl _ _) (o := (.cells #[.int .i64 0, .int .i64 1, .int .i64 2, .int .i64 100, .int .i64 4001] 3)))) G (fun k hk => by injection hk with hk; omega)
  replace GW := grown_trans (grown_trans GW (grown_alloc _ (.cells #[.int .i64 0, .int .i64 1, .int .i64 2, .int .i64 100, .int .i64 4001] 3) _)) G
  replace C := C1
  clear C1 G
  have zu122 := GW.size
  by_cases h0 : L.length = 0
  · have hq : decide ((0 : Int) < L.length) = false := decide_eq_false (by omega)
    have hq2 : decide (0 < L.length) = false := decide_eq_false (by omega)
    have HL0 := Lib.hid h0; clear h0
    try go_wp2_with fail
    refine (brine_d B zs p (0 + 500 + 2) _ C (by omega)).mono ?_
    rintro e u123 ⟨x, y, xy_r, rfl, C1, G⟩
    have yu123 : u122.heap.size ≤ u123.heap.size := G.size
    replace R := (R).went G (by omega)
    replace O := own_grown O G (fun k hk => by injection hk with hk; omega)
    replace GW := grown_trans GW G
    replace C := C1
    clear C1 G
    have zu123 := GW.size
    try go_wp2_with fail
    refine (area_d B zs p (0 + 500 + 2 + 8) _ C (by omega)).mono ?_
    rintro e u124 ⟨a, a_r, rfl, C1, G⟩
    have yu124 : u123.heap.size ≤ u124.heap.size := G.size
    replace R := (R).went G (by omega)
    replace O := own_grown O G (fun k hk => by injection hk with hk; omega)
    replace GW := grown_trans GW G
    replace C := C1
    clear C1 G
    have zu124 := GW.size
    have HB := below_of (Below.refl w.heap.size w) GW (fun k hk => by injection hk with hk; omega)
    clear C GW
    have b0 := R.free 0 (by simp)
    have b1 := R.free 1 (by simp)
    have a0 := R.cells 0 _ rfl
    have a1 := R.cells 1 _ rfl
    have s0 := R.there
    have HOR := Lib.hid (And.intro O R); clear O R
    go_wp2
    have Q := (HOR.out.2.set 0 (.int .i64 x)).set 1 (.int .i64 y)
    have q0 := Q.cells 0 _ rfl
    have q1 := Q.cells 1 _ rfl
    have O2 := own_far (own_far HOR.out.1 (k := w.heap.size) (by omega) 0 (.int .i64 x)) (k := w.heap.size) (by omega) 1 (.int .i64 y)
    exact bodyPost_ret (v := .tuple #[.slice (some ⟨g, 0, none⟩) L.length c, .agg #[.int .i64 x, .int .i64 y], .int .i64 a, .int .i64 d0]) (by simp [results, Try.results15, go_sem, q0, q1]) rfl ⟨L, g, c, x, y, a, d0, ⟨hl, a_r.1, a_r.2⟩, rfl, own_base O2 (by omega), below_set (below_set HB (Nat.le_refl _) _ _) (Nat.le_refl _) _ _⟩
  have hq : decide ((0 : Int) < L.length) = true := decide_eq_true (by omega)
  have hq2 : decide (0 < L.length) = true := decide_eq_true (by omega)
  try go_wp2_with fail
  refine (one_d B zs p (0 + 500 + 2) _ 4 C (by omega) (by omega) (by omega)).mono ?_
  rintro e u123 ⟨q, rfl, C1, G⟩
  have yu123 : u122.heap.size ≤ u123.heap.size := G.size
  replace R := (R).went G (by omega)
  replace O := own_grown O G (fun k hk => by injection hk with hk; omega)
  replace GW := grown_trans GW G
  replace C := C1
  clear C1 G
  have zu123 := GW.size
  cases q
  · try go_wp2_with fail
    refine (pick_d B zs p (0 + 500 + 2 + 2) _ (L.length : Int) C (by omega) (by omega) (by omega)).mono ?_
    rintro e u124 ⟨k0, k0_r, rfl, C1, G⟩
    have yu124 : u123.heap.size ≤ u124.heap.size := G.size
    replace R := (R).went G (by omega)
    replace O := own_grown O G (fun k hk => by injection hk with hk; omega)
    replace GW := grown_trans GW G
    replace C := C1
    clear C1 G
    have zu124 := GW.size
    obtain ⟨k, rfl⟩ : ∃ k : Nat, k0 = k := ⟨k0.toNat, by omega⟩
    have hk : k < L.length := by omega
    obtain ⟨r, hr⟩ : ∃ r, L[k] = r := ⟨_, rfl⟩
    obtain ⟨l0, l1⟩ := own2 O hk hr
    clear l1 hr
    go_wp2_with fail
    clear l0
    try go_wp2_with fail
    refine (brine_d B zs p (0 + 500 + 2 + 2 + 2) _ C (by omega)).mono ?_
    rintro e u125 ⟨x, y, xy_r, rfl, C1, G⟩
    have yu125 : u124.heap.size ≤ u125.heap.size := G.size
    replace R := (R).went G (by omega)
    replace O := own_grown O G (fun k hk => by injection hk with hk; omega)
    replace GW := grown_trans GW G
    replace C := C1
    clear C1 G
    have zu125 := GW.size
    try go_wp2_with fail
    refine (area_d B zs p (0 + 500 + 2 + 2 + 2 + 8) _ C (by omega)).mono ?_
    rintro e u126 ⟨a, a_r, rfl, C1, G⟩
    have yu126 : u125.heap.size ≤ u126.heap.size := G.size
    replace R := (R).went G (by omega)
    replace O := own_grown O G (fun k hk => by injection hk with hk; omega)
    replace GW := grown_trans GW G
    replace C := C1
    clear C1 G
    have zu126 := GW.size
    have HB := below_of (Below.refl w.heap.size w) GW (fun k hk => by injection hk with hk; omega)
    clear C GW
    have b0 := R.free 0 (by simp)
    have b1 := R.free 1 (by simp)
    have a0 := R.cells 0 _ rfl
    have a1 := R.cells 1 _ rfl
    have s0 := R.there
    have HOR := Lib.hid (And.intro O R); clear O R
    go_wp2
    have Q := (HOR.out.2.set 0 (.int .i64 x)).set 1 (.int .i64 y)
    have q0 := Q.cells 0 _ rfl
    have q1 := Q.cells 1 _ rfl
    have O2 := own_far (own_far HOR.out.1 (k := w.heap.size) (by omega) 0 (.int .i64 x)) (k := w.heap.size) (by omega) 1 (.int .i64 y)
    exact bodyPost_ret (v := .tuple #[.slice (some ⟨g, 0, none⟩) L.length c, .agg #[.int .i64 x, .int .i64 y], .int .i64 a, .int .i64 r.f0]) (by simp [results, Try.results15, go_sem, q0, q1]) rfl ⟨L, g, c, x, y, a, r.f0, ⟨hl, a_r.1, a_r.2⟩, rfl, own_base O2 (by omega), below_set (below_set HB (Nat.le_refl _) _ _) (Nat.le_refl _) _ _⟩
  · skip
    try go_wp2_with fail
    refine (brine_d B zs p (0 + 500 + 2 + 2) _ C (by omega)).mono ?_
    rintro e u124 ⟨x, y, xy_r, rfl, C1, G⟩
    have yu124 : u123.heap.size ≤ u124.heap.size := G.size
    replace R := (R).went G (by omega)
    replace O := own_grown O G (fun k hk => by injection hk with hk; omega)
    replace GW := grown_trans GW G
    replace C := C1
    clear C1 G
    have zu124 := GW.size
    try go_wp2_with fail
    refine (area_d B zs p (0 + 500 + 2 + 2 + 8) _ C (by omega)).mono ?_
    rintro e u125 ⟨a, a_r, rfl, C1, G⟩
    have yu125 : u124.heap.size ≤ u125.heap.size := G.size
    replace R := (R).went G (by omega)
    replace O := own_grown O G (fun k hk => by injection hk with hk; omega)
    replace GW := grown_trans GW G
    replace C := C1
    clear C1 G
    have zu125 := GW.size
    have HB := below_of (Below.refl w.heap.size w) GW (fun k hk => by injection hk with hk; omega)
    clear C GW
    have b0 := R.free 0 (by simp)
    have b1 := R.free 1 (by simp)
    have a0 := R.cells 0 _ rfl
    have a1 := R.cells 1 _ rfl
    have s0 := R.there
    have HOR := Lib.hid (And.intro O R); clear O R
    go_wp2
    have Q := (HOR.out.2.set 0 (.int .i64 x)).set 1 (.int .i64 y)
    have q0 := Q.cells 0 _ rfl
    have q1 := Q.cells 1 _ rfl
    have O2 := own_far (own_far HOR.out.1 (k := w.heap.size) (by omega) 0 (.int .i64 x)) (k := w.heap.size) (by omega) 1 (.int .i64 y)
    exact bodyPost_ret (v := .tuple #[.slice (some ⟨g, 0, none⟩) L.length c, .agg #[.int .i64 x, .int .i64 y], .int .i64 a, .int .i64 d0]) (by simp [results, Try.results15, go_sem, q0, q1]) rfl ⟨L, g, c, x, y, a, d0, ⟨hl, a_r.1, a_r.2⟩, rfl, own_base O2 (by omega), below_set (below_set HB (Nat.le_refl _) _ _) (Nat.le_refl _) _ _⟩
set_option maxHeartbeats 1600000 in
theorem drawAfter (A : Option Addr) (cap : Nat) (zs : List Int) (w : World) (h : Draw.Src w A zs) : Calls Try.prog 21 #[.slice A zs.length cap] w (D5 w) := by
  have C0 := cu_at (h.below (al (Below.refl _ w) (o := .cells #[.int .i64 0, .int .i64 0] 26))) cap (p := w.heap.size + 1) (by rw [size_alloc'])
  have R0 := (Cb.new w [.int .i64 0, .int .i64 0] 26 (g := w.heap.size) rfl).alloc (.cells #[.slice A zs.length cap, .int .i64 0, .int .u64 0] 68)
  have G0 : w.grownBy ((w.alloc (.cells #[.int .i64 0, .int .i64 0] 26)).alloc (.cells #[.slice A zs.length cap, .int .i64 0, .int .u64 0] 68)) (some (w.heap.size + 1)) := grown_trans (grown_alloc w _ _) (grown_alloc _ _ _)
  have S0 : ((w.alloc (.cells #[.int .i64 0, .int .i64 0] 26)).alloc (.cells #[.slice A zs.length cap, .int .i64 0, .int .u64 0] 68)).heap.size = w.heap.size + 1 + 1 := by rw [size_alloc', size_alloc']
  have H0 := Lib.hid (And.intro C0 (And.intro R0 (And.intro G0 S0))); clear C0 R0 G0 S0
  go_enter Try.func21, Try.ntmps21
  go_wp2_with fail
  obtain ⟨C0, R, GW, sv⟩ := H0.out
  obtain ⟨B, C⟩ : ∃ B, Cu B zs (w.heap.size + 1) 0 ((w.alloc (.cells #[.int .i64 0, .int .i64 0] 26)).alloc (.cells #[.slice A zs.length cap, .int .i64 0, .int .u64 0] 68)) := ⟨_, C0⟩
  clear C0 H0
  generalize (w.alloc (.cells #[.int .i64 0, .int .i64 0] 26)).alloc (.cells #[.slice A zs.length cap, .int .i64 0, .int .u64 0] 68) = v at C R GW sv ⊢
  have zw : w.heap.size < w.heap.size + 1 := Nat.lt_succ_self _
  have zv := GW.size
  have hp := C.lt
  have hB := C.base
  generalize w.heap.size + 1 = p at *
  try go_wp2_with fail
  refine (span_d B zs p (0) _ C (by omega)).mono ?_
  rintro e u121 ⟨f, t, rfl, C1, G⟩
  have yu121 : v.heap.size ≤ u121.heap.size := G.size
  replace R := (R).went G (by omega)
  replace GW := grown_trans GW G
  replace C := C1
  clear C1 G
  have zu121 := GW.size
  try go_wp2_with fail
  refine (suns_d B zs p (0 + 4) _ C (by omega)).mono ?_
  rintro e u122 ⟨L, g, c, hl, rfl, O, C1, G⟩
  have yu122 : u121.heap.size ≤ u122.heap.size := G.size
  replace R := (R).went G (by omega)
  replace GW := grown_trans GW G
  replace C := C1
  clear C1 G
  have zu122 := GW.size
  have hg0 := own_ge O g (by simp [Value.ownBlock])
  try go_wp2_with fail
  refine (brine_d B zs p (0 + 4 + 500) _ C (by omega)).mono ?_
  rintro e u123 ⟨x, y, xy_r, rfl, C1, G⟩
  have yu123 : u122.heap.size ≤ u123.heap.size := G.size
  replace R := (R).went G (by omega)
  replace O := own_grown O G (fun k hk => by injection hk with hk; omega)
  replace GW := grown_trans GW G
  replace C := C1
  clear C1 G
  have zu123 := GW.size
  try go_wp2_with fail
  refine (area_d B zs p (0 + 4 + 500 + 8) _ C (by omega)).mono ?_
  rintro e u124 ⟨a, a_r, rfl, C1, G⟩
  have yu124 : u123.heap.size ≤ u124.heap.size := G.size
  replace R := (R).went G (by omega)
  replace O := own_grown O G (fun k hk => by injection hk with hk; omega)
  replace GW := grown_trans GW G
  replace C := C1
  clear C1 G
  have zu124 := GW.size
  have HB := below_of (Below.refl w.heap.size w) GW (fun k hk => by injection hk with hk; omega)
  clear C GW
  have b0 := R.free 0 (by simp)
  have b1 := R.free 1 (by simp)
  have a0 := R.cells 0 _ rfl
  have a1 := R.cells 1 _ rfl
  have s0 := R.there
  have HOR := Lib.hid (And.intro O R); clear O R
  go_wp2
  have Q := (HOR.out.2.set 0 (.int .i64 x)).set 1 (.int .i64 y)
  have q0 := Q.cells 0 _ rfl
  have q1 := Q.cells 1 _ rfl
  have O2 := own_far (own_far HOR.out.1 (k := w.heap.size) (by omega) 0 (.int .i64 x)) (k := w.heap.size) (by omega) 1 (.int .i64 y)
  exact bodyPost_ret (v := .tuple #[.slice (some ⟨g, 0, none⟩) L.length c, .agg #[.int .i64 x, .int .i64 y], .int .i64 a, .int .i64 f, .int .i64 t]) (by simp [results, Try.results21, go_sem, q0, q1]) rfl ⟨L, g, c, x, y, a, f, t, hl, rfl, own_base O2 (by omega), below_set (below_set HB (Nat.le_refl _) _ _) (Nat.le_refl _) _ _⟩
set_option maxHeartbeats 1600000 in
theorem drawStrong (A : Option Addr) (cap : Nat) (zs : List Int) (w : World) (h : Draw.Src w A zs) : Calls Try.prog 26 #[.slice A zs.length cap] w (D5 w) := by
  have C0 := cu_at (h.below (al (Below.refl _ w) (o := .cells #[.int .i64 0, .int .i64 0] 26))) cap (p := w.heap.size + 1) (by rw [size_alloc'])
  have R0 := (Cb.new w [.int .i64 0, .int .i64 0] 26 (g := w.heap.size) rfl).alloc (.cells #[.slice A zs.length cap, .int .i64 0, .int .u64 0] 68)
  have G0 : w.grownBy ((w.alloc (.cells #[.int .i64 0, .int .i64 0] 26)).alloc (.cells #[.slice A zs.length cap, .int .i64 0, .int .u64 0] 68)) (some (w.heap.size + 1)) := grown_trans (grown_alloc w _ _) (grown_alloc _ _ _)
  have S0 : ((w.alloc (.cells #[.int .i64 0, .int .i64 0] 26)).alloc (.cells #[.slice A zs.length cap, .int .i64 0, .int .u64 0] 68)).heap.size = w.heap.size + 1 + 1 := by rw [size_alloc', size_alloc']
  have H0 := Lib.hid (And.intro C0 (And.intro R0 (And.intro G0 S0))); clear C0 R0 G0 S0
  go_enter Try.func26, Try.ntmps26
  go_wp2_with fail
  obtain ⟨C0, R, GW, sv⟩ := H0.out
  obtain ⟨B, C⟩ : ∃ B, Cu B zs (w.heap.size + 1) 0 ((w.alloc (.cells #[.int .i64 0, .int .i64 0] 26)).alloc (.cells #[.slice A zs.length cap, .int .i64 0, .int .u64 0] 68)) := ⟨_, C0⟩
  clear C0 H0
  generalize (w.alloc (.cells #[.int .i64 0, .int .i64 0] 26)).alloc (.cells #[.slice A zs.length cap, .int .i64 0, .int .u64 0] 68) = v at C R GW sv ⊢
  have zw : w.heap.size < w.heap.size + 1 := Nat.lt_succ_self _
  have zv := GW.size
  have hp := C.lt
  have hB := C.base
  generalize w.heap.size + 1 = p at *
  try go_wp2_with fail
  refine (rate_d B zs p (0) _ C (by omega)).mono ?_
  rintro e u121 ⟨f, t, rfl, C1, G⟩
  have yu121 : v.heap.size ≤ u121.heap.size := G.size
  replace R := (R).went G (by omega)
  replace GW := grown_trans GW G
  replace C := C1
  clear C1 G
  have zu121 := GW.size
  try go_wp2_with fail
  refine (suns_d B zs p (0 + 4) _ C (by omega)).mono ?_
  rintro e u122 ⟨L, g, c, hl, rfl, O, C1, G⟩
  have yu122 : u121.heap.size ≤ u122.heap.size := G.size
  replace R := (R).went G (by omega)
  replace GW := grown_trans GW G
  replace C := C1
  clear C1 G
  have zu122 := GW.size
  have hg0 := own_ge O g (by simp [Value.ownBlock])
  try go_wp2_with fail
  refine (brine_d B zs p (0 + 4 + 500) _ C (by omega)).mono ?_
  rintro e u123 ⟨x, y, xy_r, rfl, C1, G⟩
  have yu123 : u122.heap.size ≤ u123.heap.size := G.size
  replace R := (R).went G (by omega)
  replace O := own_grown O G (fun k hk => by injection hk with hk; omega)
  replace GW := grown_trans GW G
  replace C := C1
  clear C1 G
  have zu123 := GW.size
  try go_wp2_with fail
  refine (area_d B zs p (0 + 4 + 500 + 8) _ C (by omega)).mono ?_
  rintro e u124 ⟨a, a_r, rfl, C1, G⟩
  have yu124 : u123.heap.size ≤ u124.heap.size := G.size
  replace R := (R).went G (by omega)
  replace O := own_grown O G (fun k hk => by injection hk with hk; omega)
  replace GW := grown_trans GW G
  replace C := C1
  clear C1 G
  have zu124 := GW.size
  have HB := below_of (Below.refl w.heap.size w) GW (fun k hk => by injection hk with hk; omega)
  clear C GW
  have b0 := R.free 0 (by simp)
  have b1 := R.free 1 (by simp)
  have a0 := R.cells 0 _ rfl
  have a1 := R.cells 1 _ rfl
  have s0 := R.there
  have HOR := Lib.hid (And.intro O R); clear O R
  go_wp2
  have Q := (HOR.out.2.set 0 (.int .i64 x)).set 1 (.int .i64 y)
  have q0 := Q.cells 0 _ rfl
  have q1 := Q.cells 1 _ rfl
  have O2 := own_far (own_far HOR.out.1 (k := w.heap.size) (by omega) 0 (.int .i64 x)) (k := w.heap.size) (by omega) 1 (.int .i64 y)
  exact bodyPost_ret (v := .tuple #[.slice (some ⟨g, 0, none⟩) L.length c, .agg #[.int .i64 x, .int .i64 y], .int .i64 a, .int .i64 f, .int .i64 t]) (by simp [results, Try.results26, go_sem, q0, q1]) rfl ⟨L, g, c, x, y, a, f, t, hl, rfl, own_base O2 (by omega), below_set (below_set HB (Nat.le_refl _) _ _) (Nat.le_refl _) _ _⟩
end Go.Proofs.Ytcmomccdnkligaa.DSun2
