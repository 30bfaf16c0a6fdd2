/- The draws of FnRain and FnDrySpans. -/
import Derived.Test.YtpbmncecejchjaaDShw
import Derived.Test.YtpbmncecejchjaaBrine
import Derived.Test.YtpbmncecejchjaaRegn3
namespace Go.Proofs.Ytpbmncecejchjaa.DShw2
open Go.RowKit Go.Proofs.Ytpbmncecejchjaa.Mem Go.Proofs.Ytpbmncecejchjaa.Base Go.Proofs.Ytpbmncecejchjaa.Draw Go.Proofs.Ytpbmncecejchjaa.Boxes Go.Proofs.Ytpbmncecejchjaa.Keep Go.Proofs.Ytpbmncecejchjaa.Dr Go.Proofs.Ytpbmncecejchjaa.Regn Go.Proofs.Ytpbmncecejchjaa.SShower
set_option linter.unusedVariables false
set_option maxRecDepth 100000
theorem cu_at {w : World} {A : Option Addr} {zs : List Int} (h : Src w A zs) (cap : Nat) {p : Nat} (hp : p = w.heap.size) : Cu w.heap.size zs p 0 (w.alloc (.cells #[.slice A zs.length cap, .int .i64 0, .int .u64 0] 96)) := ⟨0, Nat.le_refl _, hp ▸ cur_new h cap⟩
theorem below_of {w W V : World} {row : Option Nat} (hB : Below w.heap.size w W) (hg : W.grownBy V row) (hr : ∀ k, row = some k → w.heap.size ≤ k) : Below w.heap.size w V := bl_grown hB hg hr
theorem below_set {w W : World} (h : Below w.heap.size w W) {g : Nat} (hg : w.heap.size ≤ g) (i : Nat) (v : Value) : Below w.heap.size w (W.setCell ⟨g, i, none⟩ v) := h.setCell (p := ⟨g, i, none⟩) hg v
def DA (w : World) (e : Ending) (w' : World) : Prop :=
  ∃ (L : List R) (g c : Nat) (x y a v d : Int), (L.length ≤ 25 ∧ -1 ≤ v ∧ v ≤ 101) ∧ e = .returned (.tuple #[.slice (some ⟨g, 0, none⟩) L.length c, .agg #[.int .i64 x, .int .i64 y], .int .i64 a, .int .i64 v, .int .i64 d]) ∧ w'.ownsRow w.heap.size 54 2 (.slice (some ⟨g, 0, none⟩) L.length c) L.length (SShower.flat L) ∧ Below w.heap.size w w'
def DN (w : World) (e : Ending) (w' : World) : Prop :=
  ∃ (L : List R) (g c : Nat) (M : List SSun.R) (g2 c2 : Nat) (x y a d : Int), (L.length ≤ 25 ∧ M.length ≤ 25) ∧ e = .returned (.tuple #[.slice (some ⟨g, 0, none⟩) L.length c, .slice (some ⟨g2, 0, none⟩) M.length c2, .agg #[.int .i64 x, .int .i64 y], .int .i64 a, .int .i64 d]) ∧ w'.ownsRow w.heap.size 54 2 (.slice (some ⟨g, 0, none⟩) L.length c) L.length (SShower.flat L) ∧ w'.ownsRow w.heap.size 128 2 (.slice (some ⟨g2, 0, none⟩) M.length c2) M.length (SSun.flat M) ∧ Below w.heap.size w w'
def DR (w : World) (e : Ending) (w' : World) : Prop :=
  ∃ (L : List R) (g c : Nat) (a d : Int), L.length ≤ 25 ∧ e = .returned (.tuple #[.slice (some ⟨g, 0, none⟩) L.length c, .int .i64 a, .int .i64 d]) ∧ w'.ownsRow w.heap.size 54 2 (.slice (some ⟨g, 0, none⟩) L.length c) L.length (SShower.flat L) ∧ Below w.heap.size w w'
def DD (w : World) (e : Ending) (w' : World) : Prop :=
  ∃ (L : List R) (g c : Nat) (f t : Int), L.length ≤ 25 ∧ e = .returned (.tuple #[.slice (some ⟨g, 0, none⟩) L.length c, .int .i64 f, .int .i64 t]) ∧ w'.ownsRow w.heap.size 54 2 (.slice (some ⟨g, 0, none⟩) L.length c) L.length (SShower.flat L) ∧ Below w.heap.size w w'
def DB (w : World) (e : Ending) (w' : World) : Prop :=
  ∃ (L : List R) (g c : Nat) (a f t : Int), L.length ≤ 25 ∧ e = .returned (.tuple #[.slice (some ⟨g, 0, none⟩) L.length c, .int .i64 a, .int .i64 f, .int .i64 t]) ∧ w'.ownsRow w.heap.size 54 2 (.slice (some ⟨g, 0, none⟩) L.length c) L.length (SShower.flat L) ∧ Below w.heap.size w w'
def DW (w : World) (e : Ending) (w' : World) : Prop :=
  ∃ (L : List R) (g c : Nat), L.length ≤ 25 ∧ e = .returned (.slice (some ⟨g, 0, none⟩) L.length c) ∧ w'.ownsRow w.heap.size 54 2 (.slice (some ⟨g, 0, none⟩) L.length c) L.length (SShower.flat L) ∧ Below w.heap.size w w'
set_option maxHeartbeats 1600000 in
theorem drawAfter (A : Option Addr) (cap : Nat) (zs : List Int) (w : World) (h : Draw.Src w A zs) : Calls Try.prog 16 #[.slice A zs.length cap] w (DA w) := by
  have C0 := cu_at (h.below (al (Below.refl _ w) (o := .cells #[.int .i64 0, .int .i64 0] 26))) cap (p := w.heap.size + 1) (by rw [size_alloc'])
  have R0 := (Cb.new w [.int .i64 0, .int .i64 0] 26 (g := w.heap.size) rfl).alloc (.cells #[.slice A zs.length cap, .int .i64 0, .int .u64 0] 96)
  have G0 : w.grownBy ((w.alloc (.cells #[.int .i64 0, .int .i64 0] 26)).alloc (.cells #[.slice A zs.length cap, .int .i64 0, .int .u64 0] 96)) (some (w.heap.size + 1)) := grown_trans (grown_alloc w _ _) (grown_alloc _ _ _)
  have S0 : ((w.alloc (.cells #[.int .i64 0, .int .i64 0] 26)).alloc (.cells #[.slice A zs.length cap, .int .i64 0, .int .u64 0] 96)).heap.size = w.heap.size + 1 + 1 := by rw [size_alloc', size_alloc']
  have H0 := Lib.hid (And.intro C0 (And.intro R0 (And.intro G0 S0))); clear C0 R0 G0 S0
  go_enter Try.func16, Try.ntmps16
  go_wp2_with fail
  obtain ⟨C0, R, GW, sv⟩ := H0.out
  obtain ⟨B, C⟩ : ∃ B, Cu B zs (w.heap.size + 1) 0 ((w.alloc (.cells #[.int .i64 0, .int .i64 0] 26)).alloc (.cells #[.slice A zs.length cap, .int .i64 0, .int .u64 0] 96)) := ⟨_, C0⟩
  clear C0 H0
  generalize (w.alloc (.cells #[.int .i64 0, .int .i64 0] 26)).alloc (.cells #[.slice A zs.length cap, .int .i64 0, .int .u64 0] 96) = v at C R GW sv ⊢
  have zw : w.heap.size < w.heap.size + 1 := Nat.lt_succ_self _
  have zv := GW.size
  have hp := C.lt
  have hB := C.base
  generalize w.heap.size + 1 = p at *
  try go_wp2_with fail
  refine (DShw.showers_d B zs p (0) _ C (by omega)).mono ?_
  rintro e u121 ⟨L, g, c, hl, rfl, O, C1, G⟩
  have yu121 : v.heap.size ≤ u121.heap.size := G.size
  replace R := (R).went G (by omega)
  replace GW := grown_trans GW G
  replace C := C1
  clear C1 G
  have zu121 := GW.size
  have hg0 := own_ge O g (by simp [Value.ownBlock])
  try go_wp2_with fail
  refine (DSun.brine_d B zs p (0 + 500) _ C (by omega)).mono ?_
  rintro e u122 ⟨x, y, xy_r, rfl, C1, G⟩
  have yu122 : u121.heap.size ≤ u122.heap.size := G.size
  replace R := (R).went G (by omega)
  replace O := own_grown O G (fun k hk => by injection hk with hk; omega)
  replace GW := grown_trans GW G
  replace C := C1
  clear C1 G
  have zu122 := GW.size
  try go_wp2_with fail
  refine (DSun.area_d B zs p (0 + 500 + 8) _ C (by omega)).mono ?_
  rintro e u123 ⟨a, a_r, rfl, C1, G⟩
  have yu123 : u122.heap.size ≤ u123.heap.size := G.size
  replace R := (R).went G (by omega)
  replace O := own_grown O G (fun k hk => by injection hk with hk; omega)
  replace GW := grown_trans GW G
  replace C := C1
  clear C1 G
  have zu123 := GW.size
  try go_wp2_with fail
  refine (among_d B zs p (0 + 500 + 8 + 2) _ _ 8 [0, 0, 1, 50, 99, 100, 101, -1] (C.alloc (.cells #[.int .i64 0, .int .i64 0, .int .i64 1, .int .i64 50, .int .i64 99, .int .i64 100, .int .i64 101, .int .i64 (-1)] 3)) (by omega) (lst_at u123 _ _ (by omega)) (by omega) (by simp) (by simp)).mono ?_
  rintro e u124 ⟨v, hx, rfl, C1, G⟩
  have v_r : -1 ≤ v ∧ v ≤ 101 := by simp at hx; omega
  clear hx
  have yu124 : u123.heap.size ≤ u124.heap.size := (by have := G.size; simp only [size_alloc'] at this; omega)
  replace R := (R.alloc (.cells #[.int .i64 0, .int .i64 0, .int .i64 1, .int .i64 50, .int .i64 99, .int .i64 100, .int .i64 101, .int .i64 (-1)] 3)).went G (by omega)
  replace O := own_grown (own_keep O (al (Below.refl _ _) (o := (.cells #[.int .i64 0, .int .i64 0, .int .i64 1, .int .i64 50, .int .i64 99, .int .i64 100, .int .i64 101, .int .i64 (-1)] 3)))) G (fun k hk => by injection hk with hk; omega)
  replace GW := grown_trans (grown_trans GW (grown_alloc _ (.cells #[.int .i64 0, .int .i64 0, .int .i64 1, .int .i64 50, .int .i64 99, .int .i64 100, .int .i64 101, .int .i64 (-1)] 3) _)) G
  replace C := C1
  clear C1 G
  have zu124 := GW.size
  try go_wp2_with fail
  refine (DShw.rainDay_d B zs p (0 + 500 + 8 + 2 + 2) _ C (by omega) L _ g c O (by omega) hl).mono ?_
  rintro e u125 ⟨d, rfl, C1, G⟩
  have yu125 : u124.heap.size ≤ u125.heap.size := G.size
  replace R := (R).went G (by omega)
  replace O := own_grown O G (fun k hk => by injection hk with hk; omega)
  replace GW := grown_trans GW G
  replace C := C1
  clear C1 G
  have zu125 := GW.size
  have HB := below_of (Below.refl w.heap.size w) GW (fun k hk => by injection hk with hk; omega)
  clear C GW
  have b0 := R.free 0 (by simp)
  have b1 := R.free 1 (by simp)
  have a0 := R.cells 0 _ rfl
  have a1 := R.cells 1 _ rfl
  have s0 := R.there
  have HOR := Lib.hid (And.intro O R); clear O R
  go_wp2
  have Q := (HOR.out.2.set 0 (.int .i64 x)).set 1 (.int .i64 y)
  have q0 := Q.cells 0 _ rfl
  have q1 := Q.cells 1 _ rfl
  have Q1 := own_far (own_far HOR.out.1 (k := w.heap.size) (by omega) 0 (.int .i64 x)) (k := w.heap.size) (by omega) 1 (.int .i64 y)
  exact bodyPost_ret (v := .tuple #[.slice (some ⟨g, 0, none⟩) L.length c, .agg #[.int .i64 x, .int .i64 y], .int .i64 a, .int .i64 v, .int .i64 d]) (by simp [results, Try.results16, go_sem, q0, q1]) rfl ⟨L, g, c, x, y, a, v, d, ⟨hl, by omega, by omega⟩, rfl, own_base Q1 (by omega), below_set (below_set HB (Nat.le_refl _) _ _) (Nat.le_refl _) _ _⟩
set_option maxHeartbeats 1600000 in
theorem drawNet (A : Option Addr) (cap : Nat) (zs : List Int) (w : World) (h : Draw.Src w A zs) : Calls Try.prog 25 #[.slice A zs.length cap] w (DN w) := by
  have C0 := cu_at (h.below (al (Below.refl _ w) (o := .cells #[.int .i64 0, .int .i64 0] 26))) cap (p := w.heap.size + 1) (by rw [size_alloc'])
  have R0 := (Cb.new w [.int .i64 0, .int .i64 0] 26 (g := w.heap.size) rfl).alloc (.cells #[.slice A zs.length cap, .int .i64 0, .int .u64 0] 96)
  have G0 : w.grownBy ((w.alloc (.cells #[.int .i64 0, .int .i64 0] 26)).alloc (.cells #[.slice A zs.length cap, .int .i64 0, .int .u64 0] 96)) (some (w.heap.size + 1)) := grown_trans (grown_alloc w _ _) (grown_alloc _ _ _)
  have S0 : ((w.alloc (.cells #[.int .i64 0, .int .i64 0] 26)).alloc (.cells #[.slice A zs.length cap, .int .i64 0, .int .u64 0] 96)).heap.size = w.heap.size + 1 + 1 := by rw [size_alloc', size_alloc']
  have H0 := Lib.hid (And.intro C0 (And.intro R0 (And.intro G0 S0))); clear C0 R0 G0 S0
  go_enter Try.func25, Try.ntmps25
  go_wp2_with fail
  obtain ⟨C0, R, GW, sv⟩ := H0.out
  obtain ⟨B, C⟩ : ∃ B, Cu B zs (w.heap.size + 1) 0 ((w.alloc (.cells #[.int .i64 0, .int .i64 0] 26)).alloc (.cells #[.slice A zs.length cap, .int .i64 0, .int .u64 0] 96)) := ⟨_, C0⟩
  clear C0 H0
  generalize (w.alloc (.cells #[.int .i64 0, .int .i64 0] 26)).alloc (.cells #[.slice A zs.length cap, .int .i64 0, .int .u64 0] 96) = v at C R GW sv ⊢
  have zw : w.heap.size < w.heap.size + 1 := Nat.lt_succ_self _
  have zv := GW.size
  have hp := C.lt
  have hB := C.base
  generalize w.heap.size + 1 = p at *
  try go_wp2_with fail
  refine (DShw.showers_d B zs p (0) _ C (by omega)).mono ?_
  rintro e u121 ⟨L, g, c, hl, rfl, O, C1, G⟩
  have yu121 : v.heap.size ≤ u121.heap.size := G.size
  replace R := (R).went G (by omega)
  replace GW := grown_trans GW G
  replace C := C1
  clear C1 G
  have zu121 := GW.size
  have hg0 := own_ge O g (by simp [Value.ownBlock])
  try go_wp2_with fail
  refine (DSun.suns_d B zs p (0 + 500) _ C (by omega)).mono ?_
  rintro e u122 ⟨M, g2, c2, hl2, rfl, O2, C1, G⟩
  have yu122 : u121.heap.size ≤ u122.heap.size := G.size
  replace R := (R).went G (by omega)
  replace O := own_grown O G (fun k hk => by injection hk with hk; omega)
  replace GW := grown_trans GW G
  replace C := C1
  clear C1 G
  have zu122 := GW.size
  have hg2 := own_ge O2 g2 (by simp [Value.ownBlock])
  try go_wp2_with fail
  refine (DSun.brine_d B zs p (0 + 500 + 500) _ C (by omega)).mono ?_
  rintro e u123 ⟨x, y, xy_r, rfl, C1, G⟩
  have yu123 : u122.heap.size ≤ u123.heap.size := G.size
  replace R := (R).went G (by omega)
  replace O := own_grown O G (fun k hk => by injection hk with hk; omega)
  replace O2 := own_grown O2 G (fun k hk => by injection hk with hk; omega)
  replace GW := grown_trans GW G
  replace C := C1
  clear C1 G
  have zu123 := GW.size
  try go_wp2_with fail
  refine (DSun.area_d B zs p (0 + 500 + 500 + 8) _ C (by omega)).mono ?_
  rintro e u124 ⟨a, a_r, rfl, C1, G⟩
  have yu124 : u123.heap.size ≤ u124.heap.size := G.size
  replace R := (R).went G (by omega)
  replace O := own_grown O G (fun k hk => by injection hk with hk; omega)
  replace O2 := own_grown O2 G (fun k hk => by injection hk with hk; omega)
  replace GW := grown_trans GW G
  replace C := C1
  clear C1 G
  have zu124 := GW.size
  try go_wp2_with fail
  refine (DShw.rainDay_d B zs p (0 + 500 + 500 + 8 + 2) _ C (by omega) L _ g c O (by omega) hl).mono ?_
  rintro e u125 ⟨d, rfl, C1, G⟩
  have yu125 : u124.heap.size ≤ u125.heap.size := G.size
  replace R := (R).went G (by omega)
  replace O := own_grown O G (fun k hk => by injection hk with hk; omega)
  replace O2 := own_grown O2 G (fun k hk => by injection hk with hk; omega)
  replace GW := grown_trans GW G
  replace C := C1
  clear C1 G
  have zu125 := GW.size
  have HB := below_of (Below.refl w.heap.size w) GW (fun k hk => by injection hk with hk; omega)
  clear C GW
  have b0 := R.free 0 (by simp)
  have b1 := R.free 1 (by simp)
  have a0 := R.cells 0 _ rfl
  have a1 := R.cells 1 _ rfl
  have s0 := R.there
  have HOR := Lib.hid (And.intro O (And.intro O2 R)); clear O O2 R
  go_wp2
  have Q := (HOR.out.2.2.set 0 (.int .i64 x)).set 1 (.int .i64 y)
  have q0 := Q.cells 0 _ rfl
  have q1 := Q.cells 1 _ rfl
  have Q1 := own_far (own_far HOR.out.1 (k := w.heap.size) (by omega) 0 (.int .i64 x)) (k := w.heap.size) (by omega) 1 (.int .i64 y)
  have Q2 := own_far (own_far HOR.out.2.1 (k := w.heap.size) (by omega) 0 (.int .i64 x)) (k := w.heap.size) (by omega) 1 (.int .i64 y)
  exact bodyPost_ret (v := .tuple #[.slice (some ⟨g, 0, none⟩) L.length c, .slice (some ⟨g2, 0, none⟩) M.length c2, .agg #[.int .i64 x, .int .i64 y], .int .i64 a, .int .i64 d]) (by simp [results, Try.results25, go_sem, q0, q1]) rfl ⟨L, g, c, M, g2, c2, x, y, a, d, ⟨hl, hl2⟩, rfl, own_base Q1 (by omega), own_base Q2 (by omega), below_set (below_set HB (Nat.le_refl _) _ _) (Nat.le_refl _) _ _⟩
set_option maxHeartbeats 1600000 in
theorem drawRain (A : Option Addr) (cap : Nat) (zs : List Int) (w : World) (h : Draw.Src w A zs) : Calls Try.prog 28 #[.slice A zs.length cap] w (DR w) := by
  have C0 := cu_at h cap (p := w.heap.size) (by rfl)
  have G0 : w.grownBy (w.alloc (.cells #[.slice A zs.length cap, .int .i64 0, .int .u64 0] 96)) (some (w.heap.size)) := grown_alloc _ _ _
  have S0 : (w.alloc (.cells #[.slice A zs.length cap, .int .i64 0, .int .u64 0] 96)).heap.size = w.heap.size + 1 := by rw [size_alloc']
  have H0 := Lib.hid (And.intro C0 (And.intro G0 S0)); clear C0 G0 S0
  go_enter Try.func28, Try.ntmps28
  go_wp2_with fail
  obtain ⟨C0, GW, sv⟩ := H0.out
  obtain ⟨B, C⟩ : ∃ B, Cu B zs (w.heap.size) 0 (w.alloc (.cells #[.slice A zs.length cap, .int .i64 0, .int .u64 0] 96)) := ⟨_, C0⟩
  clear C0 H0
  generalize w.alloc (.cells #[.slice A zs.length cap, .int .i64 0, .int .u64 0] 96) = v at C GW sv ⊢
  have zv := GW.size
  have hp := C.lt
  have hB := C.base
  generalize hpp : w.heap.size = p at C GW sv zv hp hB ⊢
  have HP := Lib.hid hpp; clear hpp
  try go_wp2_with fail
  refine (DShw.showers_d B zs p (0) _ C (by omega)).mono ?_
  rintro e u121 ⟨L, g, c, hl, rfl, O, C1, G⟩
  have yu121 : v.heap.size ≤ u121.heap.size := G.size
  replace GW := grown_trans GW G
  replace C := C1
  clear C1 G
  have zu121 := GW.size
  have hg0 := own_ge O g (by simp [Value.ownBlock])
  try go_wp2_with fail
  refine (DSun.area_d B zs p (0 + 500) _ C (by omega)).mono ?_
  rintro e u122 ⟨a, a_r, rfl, C1, G⟩
  have yu122 : u121.heap.size ≤ u122.heap.size := G.size
  replace O := own_grown O G (fun k hk => by injection hk with hk; omega)
  replace GW := grown_trans GW G
  replace C := C1
  clear C1 G
  have zu122 := GW.size
  try go_wp2_with fail
  refine (DShw.rainDay_d B zs p (0 + 500 + 2) _ C (by omega) L _ g c O (by omega) hl).mono ?_
  rintro e u123 ⟨d, rfl, C1, G⟩
  have yu123 : u122.heap.size ≤ u123.heap.size := G.size
  replace O := own_grown O G (fun k hk => by injection hk with hk; omega)
  replace GW := grown_trans GW G
  replace C := C1
  clear C1 G
  have zu123 := GW.size
  have HB := Lib.hid (below_of (Below.refl w.heap.size w) GW (fun k hk => by injection hk with hk; have := HP.out; omega))
  have HO := Lib.hid (own_base O (base' := w.heap.size) (by have := HP.out; omega))
  clear C GW O
  go_wp2
  exact bodyPost_ret (v := .tuple #[.slice (some ⟨g, 0, none⟩) L.length c, .int .i64 a, .int .i64 d]) (by simp [results, Try.results28, go_sem]) rfl ⟨L, g, c, a, d, hl, rfl, HO.out, HB.out⟩
set_option maxHeartbeats 1600000 in
theorem drawDry (A : Option Addr) (cap : Nat) (zs : List Int) (w : World) (h : Draw.Src w A zs) : Calls Try.prog 30 #[.slice A zs.length cap] w (DD w) := by
  have C0 := cu_at h cap (p := w.heap.size) (by rfl)
  have G0 : w.grownBy (w.alloc (.cells #[.slice A zs.length cap, .int .i64 0, .int .u64 0] 96)) (some (w.heap.size)) := grown_alloc _ _ _
  have S0 : (w.alloc (.cells #[.slice A zs.length cap, .int .i64 0, .int .u64 0] 96)).heap.size = w.heap.size + 1 := by rw [size_alloc']
  have H0 := Lib.hid (And.intro C0 (And.intro G0 S0)); clear C0 G0 S0
  go_enter Try.func30, Try.ntmps30
  go_wp2_with fail
  obtain ⟨C0, GW, sv⟩ := H0.out
  obtain ⟨B, C⟩ : ∃ B, Cu B zs (w.heap.size) 0 (w.alloc (.cells #[.slice A zs.length cap, .int .i64 0, .int .u64 0] 96)) := ⟨_, C0⟩
  clear C0 H0
  generalize w.alloc (.cells #[.slice A zs.length cap, .int .i64 0, .int .u64 0] 96) = v at C GW sv ⊢
  have zv := GW.size
  have hp := C.lt
  have hB := C.base
  generalize hpp : w.heap.size = p at C GW sv zv hp hB ⊢
  have HP := Lib.hid hpp; clear hpp
  try go_wp2_with fail
  refine (DSun.span_d B zs p (0) _ C (by omega)).mono ?_
  rintro e u121 ⟨f, t, rfl, C1, G⟩
  have yu121 : v.heap.size ≤ u121.heap.size := G.size
  replace GW := grown_trans GW G
  replace C := C1
  clear C1 G
  have zu121 := GW.size
  try go_wp2_with fail
  refine (DShw.showers_d B zs p (0 + 4) _ C (by omega)).mono ?_
  rintro e u122 ⟨L, g, c, hl, rfl, O, C1, G⟩
  have yu122 : u121.heap.size ≤ u122.heap.size := G.size
  replace GW := grown_trans GW G
  replace C := C1
  clear C1 G
  have zu122 := GW.size
  have hg0 := own_ge O g (by simp [Value.ownBlock])
  have HB := Lib.hid (below_of (Below.refl w.heap.size w) GW (fun k hk => by injection hk with hk; have := HP.out; omega))
  have HO := Lib.hid (own_base O (base' := w.heap.size) (by have := HP.out; omega))
  clear C GW O
  go_wp2
  exact bodyPost_ret (v := .tuple #[.slice (some ⟨g, 0, none⟩) L.length c, .int .i64 f, .int .i64 t]) (by simp [results, Try.results30, go_sem]) rfl ⟨L, g, c, f, t, hl, rfl, HO.out, HB.out⟩
set_option maxHeartbeats 1600000 in
theorem drawBtw (A : Option Addr) (cap : Nat) (zs : List Int) (w : World) (h : Draw.Src w A zs) : Calls Try.prog 37 #[.slice A zs.length cap] w (DB w) := by
  have C0 := cu_at h cap (p := w.heap.size) (by rfl)
  have G0 : w.grownBy (w.alloc (.cells #[.slice A zs.length cap, .int .i64 0, .int .u64 0] 96)) (some (w.heap.size)) := grown_alloc _ _ _
  have S0 : (w.alloc (.cells #[.slice A zs.length cap, .int .i64 0, .int .u64 0] 96)).heap.size = w.heap.size + 1 := by rw [size_alloc']
  have H0 := Lib.hid (And.intro C0 (And.intro G0 S0)); clear C0 G0 S0
  go_enter Try.func37, Try.ntmps37
  go_wp2_with fail
  obtain ⟨C0, GW, sv⟩ := H0.out
  obtain ⟨B, C⟩ : ∃ B, Cu B zs (w.heap.size) 0 (w.alloc (.cells #[.slice A zs.length cap, .int .i64 0, .int .u64 0] 96)) := ⟨_, C0⟩
  clear C0 H0
  generalize w.alloc (.cells #[.slice A zs.length cap, .int .i64 0, .int .u64 0] 96) = v at C GW sv ⊢
  have zv := GW.size
  have hp := C.lt
  have hB := C.base
  generalize hpp : w.heap.size = p at C GW sv zv hp hB ⊢
  have HP := Lib.hid hpp; clear hpp
  try go_wp2_with fail
  refine (DSun.span_d B zs p (0) _ C (by omega)).mono ?_
  rintro e u121 ⟨f, t, rfl, C1, G⟩
  have yu121 : v.heap.size ≤ u121.heap.size := G.size
  replace GW := grown_trans GW G
  replace C := C1
  clear C1 G
  have zu121 := GW.size
  try go_wp2_with fail
  refine (DShw.showers_d B zs p (0 + 4) _ C (by omega)).mono ?_
  rintro e u122 ⟨L, g, c, hl, rfl, O, C1, G⟩
  have yu122 : u121.heap.size ≤ u122.heap.size := G.size
  replace GW := grown_trans GW G
  replace C := C1
  clear C1 G
  have zu122 := GW.size
  have hg0 := own_ge O g (by simp [Value.ownBlock])
  try go_wp2_with fail
  refine (DSun.area_d B zs p (0 + 4 + 500) _ C (by omega)).mono ?_
  rintro e u123 ⟨a, a_r, rfl, C1, G⟩
  have yu123 : u122.heap.size ≤ u123.heap.size := G.size
  replace O := own_grown O G (fun k hk => by injection hk with hk; omega)
  replace GW := grown_trans GW G
  replace C := C1
  clear C1 G
  have zu123 := GW.size
  have HB := Lib.hid (below_of (Below.refl w.heap.size w) GW (fun k hk => by injection hk with hk; have := HP.out; omega))
  have HO := Lib.hid (own_base O (base' := w.heap.size) (by have := HP.out; omega))
  clear C GW O
  go_wp2
  exact bodyPost_ret (v := .tuple #[.slice (some ⟨g, 0, none⟩) L.length c, .int .i64 a, .int .i64 f, .int .i64 t]) (by simp [results, Try.results37, go_sem]) rfl ⟨L, g, c, a, f, t, hl, rfl, HO.out, HB.out⟩
set_option maxHeartbeats 1600000 in
theorem drawAre (A : Option Addr) (cap : Nat) (zs : List Int) (w : World) (h : Draw.Src w A zs) : Calls Try.prog 103 #[.slice A zs.length cap] w (DW w) := by
  have C0 := cu_at h cap (p := w.heap.size) (by rfl)
  have G0 : w.grownBy (w.alloc (.cells #[.slice A zs.length cap, .int .i64 0, .int .u64 0] 96)) (some (w.heap.size)) := grown_alloc _ _ _
  have S0 : (w.alloc (.cells #[.slice A zs.length cap, .int .i64 0, .int .u64 0] 96)).heap.size = w.heap.size + 1 := by rw [size_alloc']
  have H0 := Lib.hid (And.intro C0 (And.intro G0 S0)); clear C0 G0 S0
  go_enter Try.func103, Try.ntmps103
  go_wp2_with fail
  obtain ⟨C0, GW, sv⟩ := H0.out
  obtain ⟨B, C⟩ : ∃ B, Cu B zs (w.heap.size) 0 (w.alloc (.cells #[.slice A zs.length cap, .int .i64 0, .int .u64 0] 96)) := ⟨_, C0⟩
  clear C0 H0
  generalize w.alloc (.cells #[.slice A zs.length cap, .int .i64 0, .int .u64 0] 96) = v at C GW sv ⊢
  have zv := GW.size
  have hp := C.lt
  have hB := C.base
  generalize hpp : w.heap.size = p at C GW sv zv hp hB ⊢
  have HP := Lib.hid hpp; clear hpp
  try go_wp2_with fail
  refine (DShw.showers_d B zs p (0) _ C (by omega)).mono ?_
  rintro e u121 ⟨L, g, c, hl, rfl, O, C1, G⟩
  have yu121 : v.heap.size ≤ u121.heap.size := G.size
  replace GW := grown_trans GW G
  replace C := C1
  clear C1 G
  have zu121 := GW.size
  have hg0 := own_ge O g (by simp [Value.ownBlock])
  have HB := Lib.hid (below_of (Below.refl w.heap.size w) GW (fun k hk => by injection hk with hk; have := HP.out; omega))
  have HO := Lib.hid (own_base O (base' := w.heap.size) (by have := HP.out; omega))
  clear C GW O
  go_wp2
  exact bodyPost_ret (v := .slice (some ⟨g, 0, none⟩) L.length c) (by simp [results, Try.results103, go_sem]) rfl ⟨L, g, c, hl, rfl, HO.out, HB.out⟩
theorem drawWet (A : Option Addr) (cap : Nat) (zs : List Int) (w : World) (h : Draw.Src w A zs) : Calls Try.prog 39 #[.slice A zs.length cap] w (DW w) := by
  have HD := Lib.hid (drawAre A cap zs w h); clear h
  go_enter Try.func39, Try.ntmps39
  go_wp2_with fail
  refine HD.out.mono ?_
  rintro e w1 ⟨L, g, c, hl, rfl, O, HB⟩
  go_wp2
  go_ret
  exact ⟨L, g, c, hl, rfl, O, HB⟩
end Go.Proofs.Ytpbmncecejchjaa.DShw2
