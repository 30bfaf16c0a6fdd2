/- The draws of chapter 8, and what their rows are compared by. Made by tools/mk_dser2.py. -/
import Derived.Test.YtciohcipmkhneaaDSer
namespace Go.Proofs.Ytciohcipmkhneaa.DSer2
open Go.RowKit Go.Proofs.Ytciohcipmkhneaa.Mem Go.Proofs.Ytciohcipmkhneaa.Base Go.Proofs.Ytciohcipmkhneaa.Draw Go.Proofs.Ytciohcipmkhneaa.Boxes Go.Proofs.Ytciohcipmkhneaa.Keep Go.Proofs.Ytciohcipmkhneaa.Dr Go.Proofs.Ytciohcipmkhneaa.DSer
open Go.Proofs.Ytciohcipmkhneaa.SBasin hiding RPost rpost
set_option linter.unusedVariables false
set_option maxRecDepth 100000
theorem cu_at {w : World} {A : Option Addr} {zs : List Int} (h : Src w A zs) (cap : Nat) {p : Nat} (hp : p = w.heap.size) : Cu w.heap.size zs p 0 (w.alloc (.cells #[.slice A zs.length cap, .int .i64 0, .int .u64 0] 94)) := ⟨0, Nat.le_refl _, hp ▸ cur_new h cap⟩
theorem below_of {w W : World} {p : Nat} (h : w.grownBy W (some p)) (hp : w.heap.size ≤ p) : Below w.heap.size w W := (Below.refl _ w).grown h (Nat.le_refl _) (fun k hk => by injection hk with hk; omega)
def D0 (w : World) (e : Ending) (w' : World) : Prop := ∃ (L : List R) (g c : Nat), L.length ≤ 9 ∧ e = .returned (.slice (some ⟨g, 0, none⟩) L.length c) ∧ w'.ownsRow w.heap.size 50 3 (.slice (some ⟨g, 0, none⟩) L.length c) L.length (flat L) ∧ Below w.heap.size w w'
def D1 (w : World) (e : Ending) (w' : World) : Prop := ∃ (L : List R) (g c : Nat) (r : Int), L.length ≤ 9 ∧ e = .returned (.tuple #[.slice (some ⟨g, 0, none⟩) L.length c, .int .i64 r]) ∧ w'.ownsRow w.heap.size 50 3 (.slice (some ⟨g, 0, none⟩) L.length c) L.length (flat L) ∧ Below w.heap.size w w'
theorem lit3 (w : World) {base : Nat} (hb : base ≤ w.heap.size) (x y z : R) : (w.alloc (.cells #[.int .i64 x.f0, .int .i64 x.f1, .int .i64 x.f2, .int .i64 y.f0, .int .i64 y.f1, .int .i64 y.f2, .int .i64 z.f0, .int .i64 z.f1, .int .i64 z.f2] 50)).ownsRow base 50 3 (.slice (some ⟨w.heap.size, 0, none⟩) 3 3) 3 (flat [x, y, z]) := by
  have := World.ownsRow_lit w #[.int .i64 x.f0, .int .i64 x.f1, .int .i64 x.f2, .int .i64 y.f0, .int .i64 y.f1, .int .i64 y.f2, .int .i64 z.f0, .int .i64 z.f1, .int .i64 z.f2] 3 (e := 50) (size := 3) (base := base) hb (by unfold maxLen; omega) rfl
  simpa [flat, R.cells] using this
set_option maxHeartbeats 1600000 in
theorem drawIs (A : Option Addr) (cap : Nat) (zs : List Int) (w : World) (h : Draw.Src w A zs) : Calls Try.prog 95 #[.slice A zs.length cap] w (D0 w) := by
  have C0 := cu_at h cap (p := w.heap.size) rfl
  have G0 : w.grownBy (w.alloc (.cells #[.slice A zs.length cap, .int .i64 0, .int .u64 0] 94)) (some w.heap.size) := grown_alloc w _ _
  have S0 : (w.alloc (.cells #[.slice A zs.length cap, .int .i64 0, .int .u64 0] 94)).heap.size = w.heap.size + 1 := size_alloc' _ _
  have H0 := Lib.hid (And.intro C0 (And.intro G0 S0)); clear C0 G0 S0 h
  go_enter Try.func95, Try.ntmps95
  go_wp2_with fail
  obtain ⟨C0, GW, sv⟩ := H0.out
  clear H0
  generalize w.alloc (.cells #[.slice A zs.length cap, .int .i64 0, .int .u64 0] 94) = v at C0 GW sv ⊢
  obtain ⟨p, hpp⟩ : ∃ p, w.heap.size = p := ⟨_, rfl⟩
  rw [hpp] at C0 GW sv ⊢
  obtain ⟨B, hBB, C⟩ : ∃ B, B = p ∧ Cu B zs p 0 v := ⟨_, rfl, C0⟩
  clear C0
  have zv := GW.size
  have hp := C.lt
  have hB := C.base
  try go_wp2_with fail
  refine (series_d B zs p (0) _ C (by omega)).mono ?_
  rintro e u121 ⟨L, g, c, hl, rfl, O, C1, G⟩
  have yu121 : v.heap.size ≤ u121.heap.size := G.size
  replace GW := grown_trans GW G
  replace C := C1
  clear C1 G
  have zu121 := GW.size
  have hg0 := own_ge O g (by simp [Value.ownBlock])
  have HB := Lib.hid (below_of GW (by omega))
  have HO := Lib.hid (own_base O (base' := w.heap.size) (by omega))
  clear C GW O
  go_wp2
  go_ret
  exact ⟨L, g, c, hl, rfl, HO.out, HB.out⟩
theorem drawBest (A : Option Addr) (cap : Nat) (zs : List Int) (w : World) (h : Draw.Src w A zs) : Calls Try.prog 38 #[.slice A zs.length cap] w (D0 w) := by
  have H := Lib.hid (drawIs A cap zs w h); clear h
  go_enter Try.func38, Try.ntmps38
  go_wp2_with fail
  refine H.out.mono ?_
  rintro e w1 ⟨L, g, c, hl, rfl, O, HB⟩
  go_wp2
  go_ret
  exact ⟨L, g, c, hl, rfl, O, HB⟩
theorem drawDepth (A : Option Addr) (cap : Nat) (zs : List Int) (w : World) (h : Draw.Src w A zs) : Calls Try.prog 45 #[.slice A zs.length cap] w (D0 w) := by
  have H := Lib.hid (drawIs A cap zs w h); clear h
  go_enter Try.func45, Try.ntmps45
  go_wp2_with fail
  refine H.out.mono ?_
  rintro e w1 ⟨L, g, c, hl, rfl, O, HB⟩
  go_wp2
  go_ret
  exact ⟨L, g, c, hl, rfl, O, HB⟩
theorem drawSum (A : Option Addr) (cap : Nat) (zs : List Int) (w : World) (h : Draw.Src w A zs) : Calls Try.prog 33 #[.slice A zs.length cap] w (D0 w) := by
  have H := Lib.hid (drawIs A cap zs w h); clear h
  go_enter Try.func33, Try.ntmps33
  go_wp2_with fail
  refine H.out.mono ?_
  rintro e w1 ⟨L, g, c, hl, rfl, O, HB⟩
  go_wp2
  go_ret
  exact ⟨L, g, c, hl, rfl, O, HB⟩
set_option maxHeartbeats 1600000 in
theorem drawSun (A : Option Addr) (cap : Nat) (zs : List Int) (w : World) (h : Draw.Src w A zs) : Calls Try.prog 35 #[.slice A zs.length cap] w (D1 w) := by
  have C0 := cu_at h cap (p := w.heap.size) rfl
  have G0 : w.grownBy (w.alloc (.cells #[.slice A zs.length cap, .int .i64 0, .int .u64 0] 94)) (some w.heap.size) := grown_alloc w _ _
  have S0 : (w.alloc (.cells #[.slice A zs.length cap, .int .i64 0, .int .u64 0] 94)).heap.size = w.heap.size + 1 := size_alloc' _ _
  have H0 := Lib.hid (And.intro C0 (And.intro G0 S0)); clear C0 G0 S0 h
  go_enter Try.func35, Try.ntmps35
  go_wp2_with fail
  obtain ⟨C0, GW, sv⟩ := H0.out
  clear H0
  generalize w.alloc (.cells #[.slice A zs.length cap, .int .i64 0, .int .u64 0] 94) = v at C0 GW sv ⊢
  obtain ⟨p, hpp⟩ : ∃ p, w.heap.size = p := ⟨_, rfl⟩
  rw [hpp] at C0 GW sv ⊢
  obtain ⟨B, hBB, C⟩ : ∃ B, B = p ∧ Cu B zs p 0 v := ⟨_, rfl, C0⟩
  clear C0
  have zv := GW.size
  have hp := C.lt
  have hB := C.base
  try go_wp2_with fail
  refine (series_d B zs p (0) _ C (by omega)).mono ?_
  rintro e u121 ⟨L, g, c, hl, rfl, O, C1, G⟩
  have yu121 : v.heap.size ≤ u121.heap.size := G.size
  replace GW := grown_trans GW G
  replace C := C1
  clear C1 G
  have zu121 := GW.size
  have hg0 := own_ge O g (by simp [Value.ownBlock])
  try go_wp2_with fail
  refine (among_d B zs p (0 + 300) _ _ 7 [0, 1000, 5000, 7500, 20000, 20001, -1] (C.alloc (.cells #[.int .i64 0, .int .i64 1000, .int .i64 5000, .int .i64 7500, .int .i64 20000, .int .i64 20001, .int .i64 (-1)] 3)) (by omega) (lst_at u121 _ _ (by omega)) (by omega) (by simp) (by simp)).mono ?_
  rintro e u122 ⟨r, hx, rfl, C1, G⟩
  have r_r : -1 ≤ r ∧ r ≤ 20001 := by simp at hx; omega
  clear hx
  have yu122 : u121.heap.size ≤ u122.heap.size := (by have := G.size; simp only [size_alloc'] at this; omega)
  replace O := own_grown (own_keep O (al (Below.refl _ _) (o := (.cells #[.int .i64 0, .int .i64 1000, .int .i64 5000, .int .i64 7500, .int .i64 20000, .int .i64 20001, .int .i64 (-1)] 3)))) G (fun k hk => by injection hk with hk; omega)
  replace GW := grown_trans (grown_trans GW (grown_alloc _ (.cells #[.int .i64 0, .int .i64 1000, .int .i64 5000, .int .i64 7500, .int .i64 20000, .int .i64 20001, .int .i64 (-1)] 3) _)) G
  replace C := C1
  clear C1 G
  have zu122 := GW.size
  have HB := Lib.hid (below_of GW (by omega))
  have HO := Lib.hid (own_base O (base' := w.heap.size) (by omega))
  clear C GW O
  go_wp2
  go_ret2
  exact ⟨L, g, c, r, hl, rfl, HO.out, HB.out⟩
set_option maxHeartbeats 1600000 in
theorem drawRise (A : Option Addr) (cap : Nat) (zs : List Int) (w : World) (h : Draw.Src w A zs) : Calls Try.prog 42 #[.slice A zs.length cap] w (D0 w) := by
  have C0 := cu_at h cap (p := w.heap.size) rfl
  have G0 : w.grownBy (w.alloc (.cells #[.slice A zs.length cap, .int .i64 0, .int .u64 0] 94)) (some w.heap.size) := grown_alloc w _ _
  have S0 : (w.alloc (.cells #[.slice A zs.length cap, .int .i64 0, .int .u64 0] 94)).heap.size = w.heap.size + 1 := size_alloc' _ _
  have H0 := Lib.hid (And.intro C0 (And.intro G0 S0)); clear C0 G0 S0 h
  go_enter Try.func42, Try.ntmps42
  go_wp2_with fail
  obtain ⟨C0, GW, sv⟩ := H0.out
  clear H0
  generalize w.alloc (.cells #[.slice A zs.length cap, .int .i64 0, .int .u64 0] 94) = v at C0 GW sv ⊢
  obtain ⟨p, hpp⟩ : ∃ p, w.heap.size = p := ⟨_, rfl⟩
  rw [hpp] at C0 GW sv ⊢
  obtain ⟨B, hBB, C⟩ : ∃ B, B = p ∧ Cu B zs p 0 v := ⟨_, rfl, C0⟩
  clear C0
  have zv := GW.size
  have hp := C.lt
  have hB := C.base
  try go_wp2_with fail
  refine (series_d B zs p (0) _ C (by omega)).mono ?_
  rintro e u121 ⟨L, g, c, hl, rfl, O, C1, G⟩
  have yu121 : v.heap.size ≤ u121.heap.size := G.size
  replace GW := grown_trans GW G
  replace C := C1
  clear C1 G
  have zu121 := GW.size
  have hg0 := own_ge O g (by simp [Value.ownBlock])
  try go_wp2_with fail
  refine (one_d B zs p (0 + 300) _ 2 C (by omega) (by omega) (by omega)).mono ?_
  rintro e u122 ⟨q, rfl, C1, G⟩
  have yu122 : u121.heap.size ≤ u122.heap.size := G.size
  replace O := own_grown O G (fun k hk => by injection hk with hk; omega)
  replace GW := grown_trans GW G
  replace C := C1
  clear C1 G
  have zu122 := GW.size
  cases q
  · skip
    have HB := Lib.hid (below_of GW (by omega))
    have HO := Lib.hid (own_base O (base' := w.heap.size) (by omega))
    clear C GW O
    go_wp2
    go_ret
    exact ⟨L, g, c, hl, rfl, HO.out, HB.out⟩
  · try go_wp2_with fail
    refine (among_d B zs p (0 + 300 + 2) _ _ 3 [0, 5, 10] (C.alloc (.cells #[.int .i64 0, .int .i64 5, .int .i64 10] 3)) (by omega) (lst_at u122 _ _ (by omega)) (by omega) (by simp) (by simp)).mono ?_
    rintro e u123 ⟨a, hx, rfl, C1, G⟩
    have a_r : 0 ≤ a ∧ a ≤ 10 := by simp at hx; omega
    clear hx
    have yu123 : u122.heap.size ≤ u123.heap.size := (by have := G.size; simp only [size_alloc'] at this; omega)
    replace O := own_grown (own_keep O (al (Below.refl _ _) (o := (.cells #[.int .i64 0, .int .i64 5, .int .i64 10] 3)))) G (fun k hk => by injection hk with hk; omega)
    replace GW := grown_trans (grown_trans GW (grown_alloc _ (.cells #[.int .i64 0, .int .i64 5, .int .i64 10] 3) _)) G
    replace C := C1
    clear C1 G
    have zu123 := GW.size
    try go_wp2_with fail
    refine (among_d B zs p (0 + 300 + 2 + 2) _ _ 3 [0, 90, 180] (C.alloc (.cells #[.int .i64 0, .int .i64 90, .int .i64 180] 3)) (by omega) (lst_at u123 _ _ (by omega)) (by omega) (by simp) (by simp)).mono ?_
    rintro e u124 ⟨b, hx, rfl, C1, G⟩
    have b_r : 0 ≤ b ∧ b ≤ 180 := by simp at hx; omega
    clear hx
    have yu124 : u123.heap.size ≤ u124.heap.size := (by have := G.size; simp only [size_alloc'] at this; omega)
    replace O := own_grown (own_keep O (al (Below.refl _ _) (o := (.cells #[.int .i64 0, .int .i64 90, .int .i64 180] 3)))) G (fun k hk => by injection hk with hk; omega)
    replace GW := grown_trans (grown_trans GW (grown_alloc _ (.cells #[.int .i64 0, .int .i64 90, .int .i64 180] 3) _)) G
    replace C := C1
    clear C1 G
    have zu124 := GW.size
    try go_wp2_with fail
    refine (among_d B zs p (0 + 300 + 2 + 2 + 2) _ _ 3 [0, 10, 20] (C.alloc (.cells #[.int .i64 0, .int .i64 10, .int .i64 20] 3)) (by omega) (lst_at u124 _ _ (by omega)) (by omega) (by simp) (by simp)).mono ?_
    rintro e u125 ⟨d, hx, rfl, C1, G⟩
    have d_r : 0 ≤ d ∧ d ≤ 20 := by simp at hx; omega
    clear hx
    have yu125 : u124.heap.size ≤ u125.heap.size := (by have := G.size; simp only [size_alloc'] at this; omega)
    replace O := own_grown (own_keep O (al (Below.refl _ _) (o := (.cells #[.int .i64 0, .int .i64 10, .int .i64 20] 3)))) G (fun k hk => by injection hk with hk; omega)
    replace GW := grown_trans (grown_trans GW (grown_alloc _ (.cells #[.int .i64 0, .int .i64 10, .int .i64 20] 3) _)) G
    replace C := C1
    clear C1 G
    have zu125 := GW.size
    try go_wp2_with fail
    refine (among_d B zs p (0 + 300 + 2 + 2 + 2 + 2) _ _ 3 [5, 10, 30] (C.alloc (.cells #[.int .i64 5, .int .i64 10, .int .i64 30] 3)) (by omega) (lst_at u125 _ _ (by omega)) (by omega) (by simp) (by simp)).mono ?_
    rintro e u126 ⟨k, hx, rfl, C1, G⟩
    have k_r : 5 ≤ k ∧ k ≤ 30 := by simp at hx; omega
    clear hx
    have yu126 : u125.heap.size ≤ u126.heap.size := (by have := G.size; simp only [size_alloc'] at this; omega)
    replace O := own_grown (own_keep O (al (Below.refl _ _) (o := (.cells #[.int .i64 5, .int .i64 10, .int .i64 30] 3)))) G (fun k hk => by injection hk with hk; omega)
    replace GW := grown_trans (grown_trans GW (grown_alloc _ (.cells #[.int .i64 5, .int .i64 10, .int .i64 30] 3) _)) G
    replace C := C1
    clear C1 G
    have zu126 := GW.size
    have HB := Lib.hid (below_of (grown_trans GW (grown_alloc _ (.cells #[.int .i64 1, .int .i64 90, .int .i64 a, .int .i64 1, .int .i64 b, .int .i64 d, .int .i64 1, .int .i64 50, .int .i64 k] 50) _)) (by omega))
    have HO := Lib.hid (lit3 u126 (base := w.heap.size) (by omega) ⟨1, 90, a⟩ ⟨1, b, d⟩ ⟨1, 50, k⟩)
    clear C GW O
    go_wp2
    go_ret
    exact ⟨[⟨1, 90, a⟩, ⟨1, b, d⟩, ⟨1, 50, k⟩], _, 3, by simp, rfl, HO.out, HB.out⟩
set_option maxHeartbeats 800000 in
theorem vbasins_any (A A' : Option Addr) (c c' : Nat) (l : List R) (w : World) (hr : Rd w w.heap.size A (flat l)) (hr' : Rd w w.heap.size A' (flat l)) (hn : l.length ≤ 1048576) :
    Calls Try.prog 20 #[.slice A l.length c, .slice A' l.length c'] w fun e w' => e = .returned (.bool true) ∧ Drawn w w' := by
  have HR := Lib.hid hr; clear hr
  have HR' := Lib.hid hr'; clear hr'
  go_enter Try.func20, Try.ntmps20
  go_wp2
  go_loopw [5] (fun i wr => ∃ k : Nat, k ≤ l.length ∧ i = .int .i64 k ∧ Drawn w wr) (fun i _ => l.length - (intOf i).toNat)
  case atStart => exact ⟨0, Nat.zero_le _, rfl, Drawn.refl _⟩
  case round =>
    obtain ⟨k, hk, rfl, hw⟩ := hrel
    have HW := Lib.hid hw; clear hw
    by_cases hlt : k < l.length
    · obtain ⟨b, o, rfl, hb, hc⟩ := HR.out.at (k := k * 3) (by rw [flat_n]; omega)
      obtain ⟨b', o', rfl, hb', hc'⟩ := HR'.out.at (k := k * 3) (by rw [flat_n]; omega)
      have h0 : wr.cell? ⟨b, o + k * 3, none⟩ = some (.int .i64 l[k].f0) := (HW.out.cell _ _).trans (hc _ _ (flat_0 l k hlt))
      have h1 : wr.cell? ⟨b, o + k * 3 + 1, none⟩ = some (.int .i64 l[k].f1) := by rw [Nat.add_assoc]; exact (HW.out.cell _ _).trans (hc _ _ (flat_1 l k hlt))
      have h2 : wr.cell? ⟨b, o + k * 3 + 2, none⟩ = some (.int .i64 l[k].f2) := by rw [Nat.add_assoc]; exact (HW.out.cell _ _).trans (hc _ _ (flat_2 l k hlt))
      have h3 : wr.cell? ⟨b', o' + k * 3, none⟩ = some (.int .i64 l[k].f0) := (HW.out.cell _ _).trans (hc' _ _ (flat_0 l k hlt))
      have h4 : wr.cell? ⟨b', o' + k * 3 + 1, none⟩ = some (.int .i64 l[k].f1) := by rw [Nat.add_assoc]; exact (HW.out.cell _ _).trans (hc' _ _ (flat_1 l k hlt))
      have h5 : wr.cell? ⟨b', o' + k * 3 + 2, none⟩ = some (.int .i64 l[k].f2) := by rw [Nat.add_assoc]; exact (HW.out.cell _ _).trans (hc' _ _ (flat_2 l k hlt))
      have e3 : IntKind.i64.wrap ((k : Int) + 1) = k + 1 := IntWalk.i64_in _ (by omega)
      clear hc hc'
      generalize l[k].f0 = p0 at h0 h3
      generalize l[k].f1 = p1 at h1 h4
      generalize l[k].f2 = p2 at h2 h5
      go_wp2_with fail
      go_quiet (fail)
      generalize nq = q1
      go_wp2
      exact ⟨⟨k + 1, hlt, by go_num, HW.out.more _⟩, by simp [intOf]; omega⟩
    · go_wp2
      go_ret
      exact ⟨rfl, HW.out⟩
end Go.Proofs.Ytciohcipmkhneaa.DSer2
