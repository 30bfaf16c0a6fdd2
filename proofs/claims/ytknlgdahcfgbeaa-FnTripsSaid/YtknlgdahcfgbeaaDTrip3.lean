/- The draws of FnTrips and FnTracks. Made by tools/mk_dtrip3.py. -/
import Derived.Test.YtknlgdahcfgbeaaDTrip2
namespace Go.Proofs.Ytknlgdahcfgbeaa.DTrip3
open Go.RowKit Go.Proofs.Ytknlgdahcfgbeaa.Mem Go.Proofs.Ytknlgdahcfgbeaa.Base Go.Proofs.Ytknlgdahcfgbeaa.Draw Go.Proofs.Ytknlgdahcfgbeaa.Boxes Go.Proofs.Ytknlgdahcfgbeaa.Keep Go.Proofs.Ytknlgdahcfgbeaa.Dr Go.Proofs.Ytknlgdahcfgbeaa.STrip Go.Proofs.Ytknlgdahcfgbeaa.DTrip0 Go.Proofs.Ytknlgdahcfgbeaa.DTrip Go.Proofs.Ytknlgdahcfgbeaa.DTrip2
set_option linter.unusedVariables false
set_option maxRecDepth 100000
theorem cu_at {w : World} {A : Option Addr} {zs : List Int} (h : Src w A zs) (cap : Nat) {p : Nat} (hp : p = w.heap.size) : Cu w.heap.size zs p 0 (w.alloc (.cells #[.slice A zs.length cap, .int .i64 0, .int .u64 0] 59)) := ⟨0, Nat.le_refl _, hp ▸ cur_new h cap⟩
theorem cu_new {w : World} {A : Option Addr} {zs : List Int} (h : Src w A zs) (cap : Nat) :
    Cu w.heap.size zs w.heap.size 0 (w.alloc (.cells #[.slice A zs.length cap, .int .i64 0, .int .u64 0] 59)) := ⟨0, Nat.le_refl _, cur_new h cap⟩
theorem below_of {w W V : World} {row : Option Nat} (hB : Below w.heap.size w W) (hg : W.grownBy V row) (hr : ∀ k, row = some k → w.heap.size ≤ k) : Below w.heap.size w V := bl_grown hB hg hr
theorem below_set {w W : World} (h : Below w.heap.size w W) {g : Nat} (hg : w.heap.size ≤ g) (i : Nat) (v : Value) : Below w.heap.size w (W.setCell ⟨g, i, none⟩ v) := h.setCell (p := ⟨g, i, none⟩) hg v
theorem lst_take {w : World} {g : Nat} {xs : List Int} (h : Lst w g (xs.map (Value.int .i64))) (m : Nat) : Lst w g ((xs.take m).map (Value.int .i64)) := by
  refine ⟨h.1, fun j v hv => h.2 j v ?_⟩
  rw [List.map_take, List.getElem?_take] at hv
  split at hv
  · exact hv
  · cases hv
def DOne (w : World) (e : Ending) (w' : World) : Prop := ∃ x : R, Sm x ∧ e = .returned (.agg #[.int .i64 x.f0, .int .i64 x.f1, .int .i64 x.f2, .int .i64 x.f3, .int .i64 x.f4]) ∧ Below w.heap.size w w'
def LTrip (w : World) (e : Ending) (w' : World) : Prop := ∃ (L : List R) (g c : Nat) (x : R), L.length ≤ 20 ∧ AllSm L ∧ Sm x ∧ e = .returned (.tuple #[.slice (some ⟨g, 0, none⟩) L.length c, .agg #[.int .i64 x.f0, .int .i64 x.f1, .int .i64 x.f2, .int .i64 x.f3, .int .i64 x.f4]]) ∧ w'.ownsRow w.heap.size 25 5 (.slice (some ⟨g, 0, none⟩) L.length c) L.length (flat L) ∧ Below w.heap.size w w'
def LId (w : World) (e : Ending) (w' : World) : Prop := ∃ (L : List R) (g c : Nat) (a : Int), L.length ≤ 20 ∧ AllSm L ∧ (-10 ≤ a ∧ a ≤ 2000) ∧ e = .returned (.tuple #[.slice (some ⟨g, 0, none⟩) L.length c, .int .i64 a]) ∧ w'.ownsRow w.heap.size 25 5 (.slice (some ⟨g, 0, none⟩) L.length c) L.length (flat L) ∧ Below w.heap.size w w'
def LId2 (w : World) (e : Ending) (w' : World) : Prop := ∃ (L : List R) (g c : Nat) (a b : Int), L.length ≤ 20 ∧ AllSm L ∧ (-10 ≤ a ∧ a ≤ 2000) ∧ (-10 ≤ b ∧ b ≤ 2000) ∧ e = .returned (.tuple #[.slice (some ⟨g, 0, none⟩) L.length c, .int .i64 a, .int .i64 b]) ∧ w'.ownsRow w.heap.size 25 5 (.slice (some ⟨g, 0, none⟩) L.length c) L.length (flat L) ∧ Below w.heap.size w w'
set_option maxHeartbeats 1600000 in
theorem drawIs (A : Option Addr) (cap : Nat) (zs : List Int) (w : World) (h : Draw.Src w A zs) : Calls Try.prog 25 #[.slice A zs.length cap] w (DOne w) := by
  have C0 := cu_at (h.below (al (Below.refl _ w) (o := .cells #[.int .i64 0, .int .i64 0, .int .i64 0, .int .i64 0, .int .i64 0] 25))) cap (p := w.heap.size + 1) (by rw [size_alloc'])
  have R0 := (Cb.new w [.int .i64 0, .int .i64 0, .int .i64 0, .int .i64 0, .int .i64 0] 25 (g := w.heap.size) rfl).alloc (.cells #[.slice A zs.length cap, .int .i64 0, .int .u64 0] 59)
  have G0 : w.grownBy ((w.alloc (.cells #[.int .i64 0, .int .i64 0, .int .i64 0, .int .i64 0, .int .i64 0] 25)).alloc (.cells #[.slice A zs.length cap, .int .i64 0, .int .u64 0] 59)) (some (w.heap.size + 1)) := grown_trans (grown_alloc w _ _) (grown_alloc _ _ _)
  have S0 : ((w.alloc (.cells #[.int .i64 0, .int .i64 0, .int .i64 0, .int .i64 0, .int .i64 0] 25)).alloc (.cells #[.slice A zs.length cap, .int .i64 0, .int .u64 0] 59)).heap.size = w.heap.size + 1 + 1 := by rw [size_alloc', size_alloc']
  have H0 := Lib.hid (And.intro C0 (And.intro R0 (And.intro G0 S0))); clear C0 R0 G0 S0
  go_enter Try.func25, Try.ntmps25
  go_upto_region 2 with fail
  obtain ⟨C0, R, GW, sv⟩ := H0.out
  obtain ⟨B, C⟩ : ∃ B, Cu B zs (w.heap.size + 1) 0 ((w.alloc (.cells #[.int .i64 0, .int .i64 0, .int .i64 0, .int .i64 0, .int .i64 0] 25)).alloc (.cells #[.slice A zs.length cap, .int .i64 0, .int .u64 0] 59)) := ⟨_, C0⟩
  clear C0 H0
  generalize (w.alloc (.cells #[.int .i64 0, .int .i64 0, .int .i64 0, .int .i64 0, .int .i64 0] 25)).alloc (.cells #[.slice A zs.length cap, .int .i64 0, .int .u64 0] 59) = v at C R GW sv ⊢
  have zw : w.heap.size < w.heap.size + 1 := Nat.lt_succ_self _
  have zv := GW.size
  have hp := C.lt
  have hB := C.base
  generalize w.heap.size + 1 = p at *
  try go_wp2_with fail
  refine (among_d B zs p (0) _ _ 3 [1, 42, 99] (C.alloc (.cells #[.int .i64 1, .int .i64 42, .int .i64 99] 3)) (by omega) (lst_at v _ _ (by omega)) (by omega) (by simp) (by simp)).mono ?_
  rintro e u121 ⟨a, hx, rfl, C1, G⟩
  have a_r : 1 ≤ a ∧ a ≤ 99 := by simp at hx; omega
  clear hx
  have yu121 : v.heap.size ≤ u121.heap.size := (by have := G.size; simp only [size_alloc'] at this; omega)
  replace R := (R.alloc (.cells #[.int .i64 1, .int .i64 42, .int .i64 99] 3)).went G (by omega)
  replace GW := grown_trans (grown_trans GW (grown_alloc _ (.cells #[.int .i64 1, .int .i64 42, .int .i64 99] 3) _)) G
  replace C := C1
  clear C1 G
  have zu121 := GW.size
  try go_wp2_with fail
  refine (trip_d B zs p (0 + 2) _ a (by omega) (by omega) C (by omega)).mono ?_
  rintro e u122 ⟨x, hsx, rfl, C1, G⟩
  have yu122 : u121.heap.size ≤ u122.heap.size := G.size
  replace R := (R).went G (by omega)
  replace GW := grown_trans GW G
  replace C := C1
  clear C1 G
  have zu122 := GW.size
  have HSX := Lib.hid hsx; clear hsx
  have HB := below_of (Below.refl w.heap.size w) GW (fun k hk => by injection hk with hk; omega)
  clear C GW
  have b0 := R.free 0 (by simp)
  have a0 := R.cells 0 _ rfl
  have b1 := R.free 1 (by simp)
  have a1 := R.cells 1 _ rfl
  have b2 := R.free 2 (by simp)
  have a2 := R.cells 2 _ rfl
  have b3 := R.free 3 (by simp)
  have a3 := R.cells 3 _ rfl
  have b4 := R.free 4 (by simp)
  have a4 := R.cells 4 _ rfl
  have s0 := R.there
  have HOR := Lib.hid R; clear R
  go_wp2
  have Q := (((((HOR.out.set 0 (.int .i64 x.f0)).set 1 (.int .i64 x.f1)).set 2 (.int .i64 x.f2)).set 3 (.int .i64 x.f3)).set 4 (.int .i64 x.f4))
  have q0 := Q.cells 0 _ rfl
  have q1 := Q.cells 1 _ rfl
  have q2 := Q.cells 2 _ rfl
  have q3 := Q.cells 3 _ rfl
  have q4 := Q.cells 4 _ rfl
  exact bodyPost_ret (v := .agg #[.int .i64 x.f0, .int .i64 x.f1, .int .i64 x.f2, .int .i64 x.f3, .int .i64 x.f4]) (by simp [results, Try.results25, go_sem, q0, q1, q2, q3, q4]) rfl ⟨x, HSX.out, rfl, (below_set (below_set (below_set (below_set (below_set HB (Nat.le_refl _) 0 (.int .i64 x.f0)) (Nat.le_refl _) 1 (.int .i64 x.f1)) (Nat.le_refl _) 2 (.int .i64 x.f2)) (Nat.le_refl _) 3 (.int .i64 x.f3)) (Nat.le_refl _) 4 (.int .i64 x.f4))⟩
set_option maxHeartbeats 1600000 in
theorem drawFirst (A : Option Addr) (cap : Nat) (zs : List Int) (w : World) (h : Draw.Src w A zs) : Calls Try.prog 12 #[.slice A zs.length cap] w (LTrip w) := by
  have C0 := cu_at (h.below (al (Below.refl _ w) (o := .cells #[.int .i64 0, .int .i64 0, .int .i64 0, .int .i64 0, .int .i64 0] 25))) cap (p := w.heap.size + 1) (by rw [size_alloc'])
  have R0 := (Cb.new w [.int .i64 0, .int .i64 0, .int .i64 0, .int .i64 0, .int .i64 0] 25 (g := w.heap.size) rfl).alloc (.cells #[.slice A zs.length cap, .int .i64 0, .int .u64 0] 59)
  have G0 : w.grownBy ((w.alloc (.cells #[.int .i64 0, .int .i64 0, .int .i64 0, .int .i64 0, .int .i64 0] 25)).alloc (.cells #[.slice A zs.length cap, .int .i64 0, .int .u64 0] 59)) (some (w.heap.size + 1)) := grown_trans (grown_alloc w _ _) (grown_alloc _ _ _)
  have S0 : ((w.alloc (.cells #[.int .i64 0, .int .i64 0, .int .i64 0, .int .i64 0, .int .i64 0] 25)).alloc (.cells #[.slice A zs.length cap, .int .i64 0, .int .u64 0] 59)).heap.size = w.heap.size + 1 + 1 := by rw [size_alloc', size_alloc']
  have H0 := Lib.hid (And.intro C0 (And.intro R0 (And.intro G0 S0))); clear C0 R0 G0 S0
  go_enter Try.func12, Try.ntmps12
  go_wp2_with fail
  obtain ⟨C0, R, GW, sv⟩ := H0.out
  obtain ⟨B, C⟩ : ∃ B, Cu B zs (w.heap.size + 1) 0 ((w.alloc (.cells #[.int .i64 0, .int .i64 0, .int .i64 0, .int .i64 0, .int .i64 0] 25)).alloc (.cells #[.slice A zs.length cap, .int .i64 0, .int .u64 0] 59)) := ⟨_, C0⟩
  clear C0 H0
  generalize (w.alloc (.cells #[.int .i64 0, .int .i64 0, .int .i64 0, .int .i64 0, .int .i64 0] 25)).alloc (.cells #[.slice A zs.length cap, .int .i64 0, .int .u64 0] 59) = v at C R GW sv ⊢
  have zw : w.heap.size < w.heap.size + 1 := Nat.lt_succ_self _
  have zv := GW.size
  have hp := C.lt
  have hB := C.base
  generalize w.heap.size + 1 = p at *
  try go_wp2_with fail
  refine (trips_d B zs p (0) _ C (by omega)).mono ?_
  rintro e u121 ⟨L, g, c, hl, hs, rfl, O, C1, G⟩
  have yu121 : v.heap.size ≤ u121.heap.size := G.size
  replace R := (R).went G (by omega)
  replace GW := grown_trans GW G
  replace C := C1
  clear C1 G
  have zu121 := GW.size
  have hg0 := own_ge O g (by simp [Value.ownBlock])
  try go_wp2_with fail
  refine (among_d B zs p (0 + 1000) _ _ 4 [50, 60, 70, 4] (C.alloc (.cells #[.int .i64 50, .int .i64 60, .int .i64 70, .int .i64 4] 3)) (by omega) (lst_at u121 _ _ (by omega)) (by omega) (by simp) (by simp)).mono ?_
  rintro e u122 ⟨a, hx, rfl, C1, G⟩
  have a_r : 4 ≤ a ∧ a ≤ 70 := by simp at hx; omega
  clear hx
  have yu122 : u121.heap.size ≤ u122.heap.size := (by have := G.size; simp only [size_alloc'] at this; omega)
  replace R := (R.alloc (.cells #[.int .i64 50, .int .i64 60, .int .i64 70, .int .i64 4] 3)).went G (by omega)
  replace O := own_grown (own_keep O (al (Below.refl _ _) (o := (.cells #[.int .i64 50, .int .i64 60, .int .i64 70, .int .i64 4] 3)))) G (fun k hk => by injection hk with hk; omega)
  replace GW := grown_trans (grown_trans GW (grown_alloc _ (.cells #[.int .i64 50, .int .i64 60, .int .i64 70, .int .i64 4] 3) _)) G
  replace C := C1
  clear C1 G
  have zu122 := GW.size
  try go_wp2_with fail
  refine (trip_d B zs p (0 + 1000 + 2) _ a (by omega) (by omega) C (by omega)).mono ?_
  rintro e u123 ⟨x, hsx, rfl, C1, G⟩
  have yu123 : u122.heap.size ≤ u123.heap.size := G.size
  replace R := (R).went G (by omega)
  replace O := own_grown O G (fun k hk => by injection hk with hk; omega)
  replace GW := grown_trans GW G
  replace C := C1
  clear C1 G
  have zu123 := GW.size
  have HSX := Lib.hid (And.intro hl (And.intro hs hsx)); clear hsx hl hs
  have HB := below_of (Below.refl w.heap.size w) GW (fun k hk => by injection hk with hk; omega)
  clear C GW
  have b0 := R.free 0 (by simp)
  have a0 := R.cells 0 _ rfl
  have b1 := R.free 1 (by simp)
  have a1 := R.cells 1 _ rfl
  have b2 := R.free 2 (by simp)
  have a2 := R.cells 2 _ rfl
  have b3 := R.free 3 (by simp)
  have a3 := R.cells 3 _ rfl
  have b4 := R.free 4 (by simp)
  have a4 := R.cells 4 _ rfl
  have s0 := R.there
  have HOR := Lib.hid (And.intro O R); clear O R
  go_wp2
  have Q := (((((HOR.out.2.set 0 (.int .i64 x.f0)).set 1 (.int .i64 x.f1)).set 2 (.int .i64 x.f2)).set 3 (.int .i64 x.f3)).set 4 (.int .i64 x.f4))
  have q0 := Q.cells 0 _ rfl
  have q1 := Q.cells 1 _ rfl
  have q2 := Q.cells 2 _ rfl
  have q3 := Q.cells 3 _ rfl
  have q4 := Q.cells 4 _ rfl
  have O2 := (own_far (own_far (own_far (own_far (own_far HOR.out.1 (k := w.heap.size) (by omega) 0 (.int .i64 x.f0)) (k := w.heap.size) (by omega) 1 (.int .i64 x.f1)) (k := w.heap.size) (by omega) 2 (.int .i64 x.f2)) (k := w.heap.size) (by omega) 3 (.int .i64 x.f3)) (k := w.heap.size) (by omega) 4 (.int .i64 x.f4))
  exact bodyPost_ret (v := .tuple #[.slice (some ⟨g, 0, none⟩) L.length c, .agg #[.int .i64 x.f0, .int .i64 x.f1, .int .i64 x.f2, .int .i64 x.f3, .int .i64 x.f4]]) (by simp [results, Try.results12, go_sem, q0, q1, q2, q3, q4]) rfl ⟨L, g, c, x, HSX.out.1, HSX.out.2.1, HSX.out.2.2, rfl, own_base O2 (by omega), (below_set (below_set (below_set (below_set (below_set HB (Nat.le_refl _) 0 (.int .i64 x.f0)) (Nat.le_refl _) 1 (.int .i64 x.f1)) (Nat.le_refl _) 2 (.int .i64 x.f2)) (Nat.le_refl _) 3 (.int .i64 x.f3)) (Nat.le_refl _) 4 (.int .i64 x.f4))⟩
set_option maxHeartbeats 1600000 in
theorem drawAdd (A : Option Addr) (cap : Nat) (zs : List Int) (w : World) (h : Draw.Src w A zs) : Calls Try.prog 16 #[.slice A zs.length cap] w (LTrip w) := by
  have C0 := cu_at (h.below (al (Below.refl _ w) (o := .cells #[.int .i64 0, .int .i64 0, .int .i64 0, .int .i64 0, .int .i64 0] 25))) cap (p := w.heap.size + 1) (by rw [size_alloc'])
  have R0 := (Cb.new w [.int .i64 0, .int .i64 0, .int .i64 0, .int .i64 0, .int .i64 0] 25 (g := w.heap.size) rfl).alloc (.cells #[.slice A zs.length cap, .int .i64 0, .int .u64 0] 59)
  have G0 : w.grownBy ((w.alloc (.cells #[.int .i64 0, .int .i64 0, .int .i64 0, .int .i64 0, .int .i64 0] 25)).alloc (.cells #[.slice A zs.length cap, .int .i64 0, .int .u64 0] 59)) (some (w.heap.size + 1)) := grown_trans (grown_alloc w _ _) (grown_alloc _ _ _)
  have S0 : ((w.alloc (.cells #[.int .i64 0, .int .i64 0, .int .i64 0, .int .i64 0, .int .i64 0] 25)).alloc (.cells #[.slice A zs.length cap, .int .i64 0, .int .u64 0] 59)).heap.size = w.heap.size + 1 + 1 := by rw [size_alloc', size_alloc']
  have H0 := Lib.hid (And.intro C0 (And.intro R0 (And.intro G0 S0))); clear C0 R0 G0 S0
  go_enter Try.func16, Try.ntmps16
  go_wp2_with fail
  obtain ⟨C0, R, GW, sv⟩ := H0.out
  obtain ⟨B, C⟩ : ∃ B, Cu B zs (w.heap.size + 1) 0 ((w.alloc (.cells #[.int .i64 0, .int .i64 0, .int .i64 0, .int .i64 0, .int .i64 0] 25)).alloc (.cells #[.slice A zs.length cap, .int .i64 0, .int .u64 0] 59)) := ⟨_, C0⟩
  clear C0 H0
  generalize (w.alloc (.cells #[.int .i64 0, .int .i64 0, .int .i64 0, .int .i64 0, .int .i64 0] 25)).alloc (.cells #[.slice A zs.length cap, .int .i64 0, .int .u64 0] 59) = v at C R GW sv ⊢
  have zw : w.heap.size < w.heap.size + 1 := Nat.lt_succ_self _
  have zv := GW.size
  have hp := C.lt
  have hB := C.base
  generalize w.heap.size + 1 = p at *
  try go_wp2_with fail
  refine (trips_d B zs p (0) _ C (by omega)).mono ?_
  rintro e u121 ⟨L, g, c, hl, hs, rfl, O, C1, G⟩
  have yu121 : v.heap.size ≤ u121.heap.size := G.size
  replace R := (R).went G (by omega)
  replace GW := grown_trans GW G
  replace C := C1
  clear C1 G
  have zu121 := GW.size
  have hg0 := own_ge O g (by simp [Value.ownBlock])
  try go_wp2_with fail
  refine (among_d B zs p (0 + 1000) _ _ 4 [4, 5, 7, 60] (C.alloc (.cells #[.int .i64 4, .int .i64 5, .int .i64 7, .int .i64 60] 3)) (by omega) (lst_at u121 _ _ (by omega)) (by omega) (by simp) (by simp)).mono ?_
  rintro e u122 ⟨a, hx, rfl, C1, G⟩
  have a_r : 4 ≤ a ∧ a ≤ 60 := by simp at hx; omega
  clear hx
  have yu122 : u121.heap.size ≤ u122.heap.size := (by have := G.size; simp only [size_alloc'] at this; omega)
  replace R := (R.alloc (.cells #[.int .i64 4, .int .i64 5, .int .i64 7, .int .i64 60] 3)).went G (by omega)
  replace O := own_grown (own_keep O (al (Below.refl _ _) (o := (.cells #[.int .i64 4, .int .i64 5, .int .i64 7, .int .i64 60] 3)))) G (fun k hk => by injection hk with hk; omega)
  replace GW := grown_trans (grown_trans GW (grown_alloc _ (.cells #[.int .i64 4, .int .i64 5, .int .i64 7, .int .i64 60] 3) _)) G
  replace C := C1
  clear C1 G
  have zu122 := GW.size
  try go_wp2_with fail
  refine (trip_d B zs p (0 + 1000 + 2) _ a (by omega) (by omega) C (by omega)).mono ?_
  rintro e u123 ⟨x, hsx, rfl, C1, G⟩
  have yu123 : u122.heap.size ≤ u123.heap.size := G.size
  replace R := (R).went G (by omega)
  replace O := own_grown O G (fun k hk => by injection hk with hk; omega)
  replace GW := grown_trans GW G
  replace C := C1
  clear C1 G
  have zu123 := GW.size
  have HSX := Lib.hid (And.intro hl (And.intro hs hsx)); clear hsx hl hs
  have HB := below_of (Below.refl w.heap.size w) GW (fun k hk => by injection hk with hk; omega)
  clear C GW
  have b0 := R.free 0 (by simp)
  have a0 := R.cells 0 _ rfl
  have b1 := R.free 1 (by simp)
  have a1 := R.cells 1 _ rfl
  have b2 := R.free 2 (by simp)
  have a2 := R.cells 2 _ rfl
  have b3 := R.free 3 (by simp)
  have a3 := R.cells 3 _ rfl
  have b4 := R.free 4 (by simp)
  have a4 := R.cells 4 _ rfl
  have s0 := R.there
  have HOR := Lib.hid (And.intro O R); clear O R
  go_wp2
  have Q := (((((HOR.out.2.set 0 (.int .i64 x.f0)).set 1 (.int .i64 x.f1)).set 2 (.int .i64 x.f2)).set 3 (.int .i64 x.f3)).set 4 (.int .i64 x.f4))
  have q0 := Q.cells 0 _ rfl
  have q1 := Q.cells 1 _ rfl
  have q2 := Q.cells 2 _ rfl
  have q3 := Q.cells 3 _ rfl
  have q4 := Q.cells 4 _ rfl
  have O2 := (own_far (own_far (own_far (own_far (own_far HOR.out.1 (k := w.heap.size) (by omega) 0 (.int .i64 x.f0)) (k := w.heap.size) (by omega) 1 (.int .i64 x.f1)) (k := w.heap.size) (by omega) 2 (.int .i64 x.f2)) (k := w.heap.size) (by omega) 3 (.int .i64 x.f3)) (k := w.heap.size) (by omega) 4 (.int .i64 x.f4))
  exact bodyPost_ret (v := .tuple #[.slice (some ⟨g, 0, none⟩) L.length c, .agg #[.int .i64 x.f0, .int .i64 x.f1, .int .i64 x.f2, .int .i64 x.f3, .int .i64 x.f4]]) (by simp [results, Try.results16, go_sem, q0, q1, q2, q3, q4]) rfl ⟨L, g, c, x, HSX.out.1, HSX.out.2.1, HSX.out.2.2, rfl, own_base O2 (by omega), (below_set (below_set (below_set (below_set (below_set HB (Nat.le_refl _) 0 (.int .i64 x.f0)) (Nat.le_refl _) 1 (.int .i64 x.f1)) (Nat.le_refl _) 2 (.int .i64 x.f2)) (Nat.le_refl _) 3 (.int .i64 x.f3)) (Nat.le_refl _) 4 (.int .i64 x.f4))⟩
set_option maxHeartbeats 800000 in
theorem drawSec (A : Option Addr) (cap : Nat) (zs : List Int) (w : World) (h : Draw.Src w A zs) : Calls Try.prog 5 #[.slice A zs.length cap] w (DOne w) := by
  have HH := Lib.hid h; clear h
  have R0 := Lib.hid (Cb.new w [.int .i64 0, .int .i64 0, .int .i64 0, .int .i64 0, .int .i64 0] 25 (g := w.heap.size) rfl)
  have HB0 := Lib.hid (al (Below.refl w.heap.size w) (o := .cells #[.int .i64 0, .int .i64 0, .int .i64 0, .int .i64 0, .int .i64 0] 25))
  go_enter Try.func5, Try.ntmps5
  go_wp2_with fail
  have R1 := R0.out; have B1 := HB0.out; have H1 := HH.out.below B1
  clear R0 HB0
  generalize w.alloc (.cells #[.int .i64 0, .int .i64 0, .int .i64 0, .int .i64 0, .int .i64 0] 25) = v at R1 B1 H1 ⊢
  refine (drawIs A cap zs v H1).mono ?_
  rintro e v1 ⟨x, hsx, rfl, hb⟩
  have HSX := Lib.hid hsx; clear hsx
  have R := R1.more hb
  have HB := be B1 hb
  clear R1 B1 H1 hb
  have b0 := R.free 0 (by simp)
  have a0 := R.cells 0 _ rfl
  have b1 := R.free 1 (by simp)
  have a1 := R.cells 1 _ rfl
  have b2 := R.free 2 (by simp)
  have a2 := R.cells 2 _ rfl
  have b3 := R.free 3 (by simp)
  have a3 := R.cells 3 _ rfl
  have b4 := R.free 4 (by simp)
  have a4 := R.cells 4 _ rfl
  have s0 := R.there
  have HOR := Lib.hid R; clear R
  go_wp2
  have Q := (((((HOR.out.set 0 (.int .i64 x.f0)).set 1 (.int .i64 x.f1)).set 2 (.int .i64 x.f2)).set 3 (.int .i64 x.f3)).set 4 (.int .i64 x.f4))
  have q0 := Q.cells 0 _ rfl
  have q1 := Q.cells 1 _ rfl
  have q2 := Q.cells 2 _ rfl
  have q3 := Q.cells 3 _ rfl
  have q4 := Q.cells 4 _ rfl
  exact bodyPost_ret (v := .agg #[.int .i64 x.f0, .int .i64 x.f1, .int .i64 x.f2, .int .i64 x.f3, .int .i64 x.f4]) (by simp [results, Try.results5, go_sem, q0, q1, q2, q3, q4]) rfl ⟨x, HSX.out, rfl, (below_set (below_set (below_set (below_set (below_set HB (Nat.le_refl _) 0 (.int .i64 x.f0)) (Nat.le_refl _) 1 (.int .i64 x.f1)) (Nat.le_refl _) 2 (.int .i64 x.f2)) (Nat.le_refl _) 3 (.int .i64 x.f3)) (Nat.le_refl _) 4 (.int .i64 x.f4))⟩
set_option maxHeartbeats 1600000 in
theorem drawWay (A : Option Addr) (cap : Nat) (zs : List Int) (w : World) (h : Src w A zs) : Calls Try.prog 19 #[.slice A zs.length cap] w (LId w) := by
  have C0 := cu_new h cap
  have HC := Lib.hid C0; clear C0
  go_enter Try.func19, Try.ntmps19
  go_wp2_with fail
  have HB : Below w.heap.size w (w.alloc (.cells #[.slice A zs.length cap, .int .i64 0, .int .u64 0] 59)) := al (Below.refl _ _)
  have C := HC.out
  have hsz : (w.alloc (.cells #[.slice A zs.length cap, .int .i64 0, .int .u64 0] 59)).heap.size = w.heap.size + 1 := size_alloc' _ _
  clear HC
  generalize w.alloc (.cells #[.slice A zs.length cap, .int .i64 0, .int .u64 0] 59) = v at HB C hsz ⊢
  refine (trips_d w.heap.size zs w.heap.size 0 v C (by omega)).mono ?_
  rintro e v1 ⟨L, g, c, hl, hs, rfl, O, C1, G⟩
  have hg := own_ge O g (by simp [Value.ownBlock])
  have HB1 := below_of HB G (fun k hk => by injection hk with hk; omega)
  have z1 : w.heap.size < v1.heap.size := C1.lt
  clear C G HB
  have T0 : Lst (v1.alloc (.cells #[.int .i64 0, .int .i64 480, .int .i64 483, .int .i64 484, .int .i64 500, .int .i64 1440, .int .i64 (-1), .int .i64 1441] 3)) v1.heap.size (([0, 480, 483, 484, 500, 1440, -1, 1441] : List Int).map (Value.int .i64)) := lst_at v1 _ _ rfl
  go_wp2_with fail
  refine (pick_d w.heap.size zs w.heap.size _ _ 24 (C1.alloc (.cells #[.int .i64 0, .int .i64 480, .int .i64 483, .int .i64 484, .int .i64 500, .int .i64 1440, .int .i64 (-1), .int .i64 1441] 3)) (by omega) (by omega) (by omega)).mono ?_
  rintro e p0 ⟨z0, zr0, rfl, D0, G0⟩
  replace T0 := T0.went G0 (by omega)
  have P0 := own_grownN (own_keep O (al (Below.refl _ _) (o := (.cells #[.int .i64 0, .int .i64 480, .int .i64 483, .int .i64 484, .int .i64 500, .int .i64 1440, .int .i64 (-1), .int .i64 1441] 3)))) G0 (fun k hk => by injection hk with hk; omega)
  have hP0 := below_of (al HB1 (o := (.cells #[.int .i64 0, .int .i64 480, .int .i64 483, .int .i64 484, .int .i64 500, .int .i64 1440, .int .i64 (-1), .int .i64 1441] 3))) G0 (fun k hk => by injection hk with hk; omega)
  clear C1 O HB1 G0
  have t0 : Int.tdiv z0 11 = z0 / 11 := Int.tdiv_eq_ediv_of_nonneg zr0.1
  have w0 : IntKind.i64.wrap (6 + z0 / 11) = 6 + z0 / 11 := IntWalk.i64_in _ (by omega)
  obtain ⟨xs0, hm0, hx0t⟩ : ∃ xs : List Int, 6 + z0 / 11 = (xs.length : Int) ∧ xs = ([0, 480, 483, 484, 500, 1440, -1, 1441] : List Int).take (6 + z0 / 11).toNat := ⟨_, by rw [List.length_take]; simp; omega, rfl⟩
  have b0 : 6 ≤ xs0.length ∧ xs0.length ≤ 8 := by omega
  replace T0 : Lst p0 v1.heap.size (xs0.map (Value.int .i64)) := by rw [hx0t]; exact lst_take T0 _
  have HX0 := Lib.hid hx0t; have HM0 := Lib.hid hm0; clear hx0t hm0 w0
  have w0 : IntKind.i64.wrap (6 + z0 / 11) = 6 + z0 / 11 := IntWalk.i64_in _ (by omega)
  have v00 : 0 ≤ 6 + z0 / 11 := by omega
  have v01 : 6 + z0 / 11 ≤ 8 := by omega
  go_wp2_with fail
  rw [show (6 + z0 / 11).toNat = xs0.length by have := HM0.out; omega]
  refine (among_d w.heap.size zs w.heap.size _ p0 _ 8 xs0 D0 (by omega) T0 (by omega) (by omega) (by omega)).mono ?_
  rintro e q0 ⟨a, hx0, rfl, E0, G0⟩
  have ra : -10 ≤ a ∧ a ≤ 2000 := by rw [HX0.out] at hx0; have := List.mem_of_mem_take hx0; simp at this; omega
  have Q0 := own_grownN P0 G0 (fun k hk => by injection hk with hk; omega)
  have hQ0 := below_of hP0 G0 (fun k hk => by injection hk with hk; omega)
  have y0 : w.heap.size < q0.heap.size := E0.lt
  clear P0 hP0 D0 G0 T0 hx0
  go_wp2
  go_ret2
  exact ⟨L, g, c, a, hl, hs, ra, rfl, own_base Q0 (by omega), hQ0⟩
end Go.Proofs.Ytknlgdahcfgbeaa.DTrip3
