/- The draws of FnLadders and FnRungs, and what rows are compared by. Made by tools/mk_dlad2.py. -/
import Derived.Test.YtngominkeammiaaDLad
import Derived.Test.YtngominkeammiaaDSerI
import Derived.Test.YtngominkeammiaaLadFacts
import Derived.Test.YtngominkeammiaaRegn3
import Derived.Deep.Cut
import Derived.Deep.CutBlock
import Derived.Deep.CutRange
import Derived.Deep.DeepCutAuto
namespace Go.Proofs.Ytngominkeammiaa.DLad2
open Go.RowKit Go.Proofs.Ytngominkeammiaa.Mem Go.Proofs.Ytngominkeammiaa.Base Go.Proofs.Ytngominkeammiaa.Draw Go.Proofs.Ytngominkeammiaa.Boxes Go.Proofs.Ytngominkeammiaa.Keep Go.Proofs.Ytngominkeammiaa.Dr Go.Proofs.Ytngominkeammiaa.Regn Go.Proofs.Ytngominkeammiaa.DLad
open Go.Proofs.Ytngominkeammiaa.SRung hiding RPost rpost
set_option linter.unusedVariables false
set_option linter.unusedSimpArgs false
set_option maxRecDepth 100000
theorem cu_at {w : World} {A : Option Addr} {zs : List Int} (h : Src w A zs) (cap : Nat) {p : Nat} (hp : p = w.heap.size) : Cu w.heap.size zs p 0 (w.alloc (.cells #[.slice A zs.length cap, .int .i64 0, .int .u64 0] 78)) := ⟨0, Nat.le_refl _, hp ▸ cur_new h cap⟩
theorem below_of {w W : World} {p : Nat} (h : w.grownBy W (some p)) (hp : w.heap.size ≤ p) : Below w.heap.size w W := (Below.refl _ w).grown h (Nat.le_refl _) (fun k hk => by injection hk with hk; omega)
theorem below_set {w W : World} (h : Below w.heap.size w W) {g : Nat} (hg : w.heap.size ≤ g) (i : Nat) (v : Value) : Below w.heap.size w (W.setCell ⟨g, i, none⟩ v) := h.setCell (p := ⟨g, i, none⟩) hg v
def Rw (w w' : World) (l : List R) (g c : Nat) : Prop := l.length ≤ 10 ∧ w'.ownsRow w.heap.size 54 2 (.slice (some ⟨g, 0, none⟩) l.length c) l.length (flat l)
def D0 (w : World) (e : Ending) (w' : World) : Prop := ∃ (l : List R) (g c : Nat), e = .returned (.slice (some ⟨g, 0, none⟩) l.length c) ∧ Rw w w' l g c ∧ Below w.heap.size w w'
def D2 (w : World) (e : Ending) (w' : World) : Prop := ∃ (l : List R) (g c : Nat) (x y : Int), (-1 ≤ x ∧ x ≤ 1000001 ∧ -1 ≤ y ∧ y ≤ 1000001) ∧ e = .returned (.tuple #[.slice (some ⟨g, 0, none⟩) l.length c, .agg #[.int .i64 x, .int .i64 y]]) ∧ Rw w w' l g c ∧ Below w.heap.size w w'
def D3 (w : World) (e : Ending) (w' : World) : Prop := ∃ (l : List R) (g c : Nat) (i x y : Int), (-1 ≤ x ∧ x ≤ 1000001 ∧ -1 ≤ y ∧ y ≤ 1000001) ∧ e = .returned (.tuple #[.slice (some ⟨g, 0, none⟩) l.length c, .int .i64 i, .agg #[.int .i64 x, .int .i64 y]]) ∧ Rw w w' l g c ∧ Below w.heap.size w w'
def D4 (w : World) (e : Ending) (w' : World) : Prop := ∃ (l : List R) (g c : Nat) (m : List R) (g' c' : Nat), e = .returned (.tuple #[.slice (some ⟨g, 0, none⟩) l.length c, .slice (some ⟨g', 0, none⟩) m.length c']) ∧ Rw w w' l g c ∧ Rw w w' m g' c' ∧ Below w.heap.size w w'
def D5 (w : World) (e : Ending) (w' : World) : Prop := ∃ (l : List R) (g c : Nat) (s : List SBasin.R) (g' c' : Nat), e = .returned (.tuple #[.slice (some ⟨g, 0, none⟩) l.length c, .slice (some ⟨g', 0, none⟩) s.length c']) ∧ Rw w w' l g c ∧ s.length ≤ 9 ∧ w'.ownsRow w.heap.size 94 3 (.slice (some ⟨g', 0, none⟩) s.length c') s.length (SBasin.flat s) ∧ Below w.heap.size w w'
def D6 (w : World) (e : Ending) (w' : World) : Prop := ∃ a b c : Int, e = .returned (.tuple #[.int .i64 a, .int .i64 b, .int .i64 c]) ∧ Below w.heap.size w w'
set_option maxHeartbeats 8000000 in
theorem drawIs (A : Option Addr) (cap : Nat) (zs : List Int) (w : World) (h : Draw.Src w A zs) : Calls Try.prog 83 #[.slice A zs.length cap] w (D0 w) := by
  have C0 := cu_at h cap (p := w.heap.size) rfl
  have G0 : w.grownBy (w.alloc (.cells #[.slice A zs.length cap, .int .i64 0, .int .u64 0] 78)) (some w.heap.size) := grown_alloc w _ _
  have S0 : (w.alloc (.cells #[.slice A zs.length cap, .int .i64 0, .int .u64 0] 78)).heap.size = w.heap.size + 1 := size_alloc' _ _
  have H0 := Lib.hid (And.intro C0 (And.intro G0 S0)); clear C0 G0 S0 h
  go_enter Try.func83, Try.ntmps83
  go_wp2_with fail
  obtain ⟨C0, GW, sv⟩ := H0.out
  clear H0
  generalize w.alloc (.cells #[.slice A zs.length cap, .int .i64 0, .int .u64 0] 78) = v at C0 GW sv ⊢
  obtain ⟨p, hpp⟩ : ∃ p, w.heap.size = p := ⟨_, rfl⟩
  rw [hpp] at C0 GW sv ⊢
  obtain ⟨B, hBB, C⟩ : ∃ B, B = p ∧ Cu B zs p 0 v := ⟨_, rfl, C0⟩
  clear C0
  have zv := GW.size
  have hp := C.lt
  have hB := C.base
  try go_wp2_with fail
  refine (pick_d B zs p (0) _ 5 C (by omega) (by omega) (by omega)).mono ?_
  rintro e u121 ⟨n0, n0_r, rfl, C1, G⟩
  have yu121 : v.heap.size ≤ u121.heap.size := G.size
  replace GW := grown_trans GW G
  replace C := C1
  clear C1 G
  have zu121 := GW.size
  obtain ⟨m, rfl⟩ : ∃ m : Nat, n0 = m := ⟨n0.toNat, by omega⟩
  obtain ⟨q, hq⟩ : ∃ q : Nat, q = m + 1 := ⟨_, rfl⟩
  have e1 : IntKind.i64.wrap (1 + (m : Int)) = (q : Int) := (IntWalk.i64_in _ (by omega)).trans (by omega)
  have hq9 : q ≤ 5 := by omega
  have HQ := Lib.hid hq; clear hq
  try go_wp2_with fail
  refine (ladder_d B zs p (0 + 2) _ q (by omega) C (by omega)).mono ?_
  rintro e u122 ⟨l, g, c, hl, rfl, O, C1, G⟩
  have yu122 : u121.heap.size ≤ u122.heap.size := G.size
  replace GW := grown_trans GW G
  replace C := C1
  clear C1 G
  have zu122 := GW.size
  have hg0 := own_ge O g (by simp [Value.ownBlock])
  have HB := Lib.hid (below_of GW (by omega))
  have HO := Lib.hid (own_base O (base' := w.heap.size) (by omega))
  clear C GW O
  go_wp2
  go_ret
  exact ⟨l, g, c, rfl, ⟨hl, HO.out⟩, HB.out⟩
theorem drawWid (A : Option Addr) (cap : Nat) (zs : List Int) (w : World) (h : Draw.Src w A zs) : Calls Try.prog 39 #[.slice A zs.length cap] w (D0 w) := by
  have H := Lib.hid (drawIs A cap zs w h); clear h
  go_enter Try.func39, Try.ntmps39
  go_wp2_with fail
  refine H.out.mono ?_
  rintro e w1 ⟨l, g, c, rfl, O, HB⟩
  go_wp2
  go_ret
  exact ⟨l, g, c, rfl, O, HB⟩
set_option maxHeartbeats 8000000 in
theorem drawJoin (A : Option Addr) (cap : Nat) (zs : List Int) (w : World) (h : Draw.Src w A zs) : Calls Try.prog 15 #[.slice A zs.length cap] w (D4 w) := by
  have C0 := cu_at h cap (p := w.heap.size) rfl
  have G0 : w.grownBy (w.alloc (.cells #[.slice A zs.length cap, .int .i64 0, .int .u64 0] 78)) (some w.heap.size) := grown_alloc w _ _
  have S0 : (w.alloc (.cells #[.slice A zs.length cap, .int .i64 0, .int .u64 0] 78)).heap.size = w.heap.size + 1 := size_alloc' _ _
  have H0 := Lib.hid (And.intro C0 (And.intro G0 S0)); clear C0 G0 S0 h
  go_enter Try.func15, Try.ntmps15
  go_wp2_with fail
  obtain ⟨C0, GW, sv⟩ := H0.out
  clear H0
  generalize w.alloc (.cells #[.slice A zs.length cap, .int .i64 0, .int .u64 0] 78) = v at C0 GW sv ⊢
  obtain ⟨p, hpp⟩ : ∃ p, w.heap.size = p := ⟨_, rfl⟩
  rw [hpp] at C0 GW sv ⊢
  obtain ⟨B, hBB, C⟩ : ∃ B, B = p ∧ Cu B zs p 0 v := ⟨_, rfl, C0⟩
  clear C0
  have zv := GW.size
  have hp := C.lt
  have hB := C.base
  try go_wp2_with fail
  refine (pick_d B zs p (0) _ 4 C (by omega) (by omega) (by omega)).mono ?_
  rintro e u121 ⟨n0, n0_r, rfl, C1, G⟩
  have yu121 : v.heap.size ≤ u121.heap.size := G.size
  replace GW := grown_trans GW G
  replace C := C1
  clear C1 G
  have zu121 := GW.size
  obtain ⟨m, rfl⟩ : ∃ m : Nat, n0 = m := ⟨n0.toNat, by omega⟩
  obtain ⟨q, hq⟩ : ∃ q : Nat, q = m + 1 := ⟨_, rfl⟩
  have e1 : IntKind.i64.wrap (1 + (m : Int)) = (q : Int) := (IntWalk.i64_in _ (by omega)).trans (by omega)
  have hq9 : q ≤ 4 := by omega
  have HQ := Lib.hid hq; clear hq
  try go_wp2_with fail
  refine (one_d B zs p (0 + 2) _ 8 C (by omega) (by omega) (by omega)).mono ?_
  rintro e u122 ⟨t, rfl, C1, G⟩
  have yu122 : u121.heap.size ≤ u122.heap.size := G.size
  replace GW := grown_trans GW G
  replace C := C1
  clear C1 G
  have zu122 := GW.size
  cases t
  · have hq99 := hq9
    try go_wp2_with fail
    refine (ladder_d B zs p (0 + 2 + 2) _ q (by omega) C (by omega)).mono ?_
    rintro e u123 ⟨l, g, c, hl, rfl, O, C1, G⟩
    have yu123 : u122.heap.size ≤ u123.heap.size := G.size
    replace GW := grown_trans GW G
    replace C := C1
    clear C1 G
    have zu123 := GW.size
    have hg0 := own_ge O g (by simp [Value.ownBlock])
    try go_wp2_with fail
    refine (ladder_d B zs p (0 + 2 + 2 + 100) _ q (by omega) C (by omega)).mono ?_
    rintro e u124 ⟨m2, g2, c2, hl2, rfl, O2, C1, G⟩
    have yu124 : u123.heap.size ≤ u124.heap.size := G.size
    replace O := own_grown O G (fun k hk => by injection hk with hk; omega)
    replace GW := grown_trans GW G
    replace C := C1
    clear C1 G
    have zu124 := GW.size
    have hg2 := own_ge O2 g2 (by simp [Value.ownBlock])
    have HB := Lib.hid (below_of GW (by omega))
    have HO := Lib.hid (own_base O (base' := w.heap.size) (by omega))
    have HO2 := Lib.hid (own_base O2 (base' := w.heap.size) (by omega))
    clear C GW O O2
    go_wp2
    go_ret2
    exact ⟨l, g, c, m2, g2, c2, rfl, ⟨hl, HO.out⟩, ⟨hl2, HO2.out⟩, HB.out⟩
  · obtain ⟨q2, hq2⟩ : ∃ q2 : Nat, q2 = q + 1 := ⟨_, rfl⟩
    have e2 : IntKind.i64.wrap ((q : Int) + 1) = (q2 : Int) := (IntWalk.i64_in _ (by omega)).trans (by omega)
    have hq9' : q2 ≤ 5 := by omega
    have HQ2 := Lib.hid hq2; clear hq2
    try go_wp2_with fail
    refine (ladder_d B zs p (0 + 2 + 2) _ q (by omega) C (by omega)).mono ?_
    rintro e u123 ⟨l, g, c, hl, rfl, O, C1, G⟩
    have yu123 : u122.heap.size ≤ u123.heap.size := G.size
    replace GW := grown_trans GW G
    replace C := C1
    clear C1 G
    have zu123 := GW.size
    have hg0 := own_ge O g (by simp [Value.ownBlock])
    try go_wp2_with fail
    refine (ladder_d B zs p (0 + 2 + 2 + 100) _ q2 (by omega) C (by omega)).mono ?_
    rintro e u124 ⟨m2, g2, c2, hl2, rfl, O2, C1, G⟩
    have yu124 : u123.heap.size ≤ u124.heap.size := G.size
    replace O := own_grown O G (fun k hk => by injection hk with hk; omega)
    replace GW := grown_trans GW G
    replace C := C1
    clear C1 G
    have zu124 := GW.size
    have hg2 := own_ge O2 g2 (by simp [Value.ownBlock])
    have HB := Lib.hid (below_of GW (by omega))
    have HO := Lib.hid (own_base O (base' := w.heap.size) (by omega))
    have HO2 := Lib.hid (own_base O2 (base' := w.heap.size) (by omega))
    clear C GW O O2
    go_wp2
    go_ret2
    exact ⟨l, g, c, m2, g2, c2, rfl, ⟨hl, HO.out⟩, ⟨hl2, HO2.out⟩, HB.out⟩
set_option maxHeartbeats 8000000 in
theorem drawKeep (A : Option Addr) (cap : Nat) (zs : List Int) (w : World) (h : Draw.Src w A zs) : Calls Try.prog 26 #[.slice A zs.length cap] w (D5 w) := by
  have C0 := cu_at h cap (p := w.heap.size) rfl
  have G0 : w.grownBy (w.alloc (.cells #[.slice A zs.length cap, .int .i64 0, .int .u64 0] 78)) (some w.heap.size) := grown_alloc w _ _
  have S0 : (w.alloc (.cells #[.slice A zs.length cap, .int .i64 0, .int .u64 0] 78)).heap.size = w.heap.size + 1 := size_alloc' _ _
  have H0 := Lib.hid (And.intro C0 (And.intro G0 S0)); clear C0 G0 S0 h
  go_enter Try.func26, Try.ntmps26
  go_wp2_with fail
  obtain ⟨C0, GW, sv⟩ := H0.out
  clear H0
  generalize w.alloc (.cells #[.slice A zs.length cap, .int .i64 0, .int .u64 0] 78) = v at C0 GW sv ⊢
  obtain ⟨p, hpp⟩ : ∃ p, w.heap.size = p := ⟨_, rfl⟩
  rw [hpp] at C0 GW sv ⊢
  obtain ⟨B, hBB, C⟩ : ∃ B, B = p ∧ Cu B zs p 0 v := ⟨_, rfl, C0⟩
  clear C0
  have zv := GW.size
  have hp := C.lt
  have hB := C.base
  try go_wp2_with fail
  refine (DSerI.series_d B zs p (0) _ C (by omega)).mono ?_
  rintro e u121 ⟨s, g', c', hs, rfl, OS, C1, G⟩
  have yu121 : v.heap.size ≤ u121.heap.size := G.size
  replace GW := grown_trans GW G
  replace C := C1
  clear C1 G
  have zu121 := GW.size
  have hgs := own_ge OS g' (by simp [Value.ownBlock])
  try go_wp2_with fail
  refine (ladder_d B zs p (0 + 300) _ s.length hs C (by omega)).mono ?_
  rintro e u122 ⟨l, g, c, hl, rfl, O, C1, G⟩
  have yu122 : u121.heap.size ≤ u122.heap.size := G.size
  replace OS := own_grown OS G (fun k hk => by injection hk with hk; omega)
  replace GW := grown_trans GW G
  replace C := C1
  clear C1 G
  have zu122 := GW.size
  have hg0 := own_ge O g (by simp [Value.ownBlock])
  have HB := Lib.hid (below_of GW (by omega))
  have HO := Lib.hid (own_base O (base' := w.heap.size) (by omega))
  have HOS := Lib.hid (own_base OS (base' := w.heap.size) (by omega))
  clear C GW O OS
  go_wp2
  go_ret2
  exact ⟨l, g, c, s, g', c', rfl, ⟨hl, HO.out⟩, hs, HOS.out, HB.out⟩
set_option maxHeartbeats 8000000 in
theorem drawEven (A : Option Addr) (cap : Nat) (zs : List Int) (w : World) (h : Draw.Src w A zs) : Calls Try.prog 36 #[.slice A zs.length cap] w (D6 w) := by
  have C0 := cu_at h cap (p := w.heap.size) rfl
  have G0 : w.grownBy (w.alloc (.cells #[.slice A zs.length cap, .int .i64 0, .int .u64 0] 78)) (some w.heap.size) := grown_alloc w _ _
  have S0 : (w.alloc (.cells #[.slice A zs.length cap, .int .i64 0, .int .u64 0] 78)).heap.size = w.heap.size + 1 := size_alloc' _ _
  have H0 := Lib.hid (And.intro C0 (And.intro G0 S0)); clear C0 G0 S0 h
  go_enter Try.func36, Try.ntmps36
  go_wp2_with fail
  obtain ⟨C0, GW, sv⟩ := H0.out
  clear H0
  generalize w.alloc (.cells #[.slice A zs.length cap, .int .i64 0, .int .u64 0] 78) = v at C0 GW sv ⊢
  obtain ⟨p, hpp⟩ : ∃ p, w.heap.size = p := ⟨_, rfl⟩
  rw [hpp] at C0 GW sv ⊢
  obtain ⟨B, hBB, C⟩ : ∃ B, B = p ∧ Cu B zs p 0 v := ⟨_, rfl, C0⟩
  clear C0
  have zv := GW.size
  have hp := C.lt
  have hB := C.base
  try go_wp2_with fail
  refine (among_d B zs p (0) _ _ 5 [0, 10, 35, 1000, -1] (C.alloc (.cells #[.int .i64 0, .int .i64 10, .int .i64 35, .int .i64 1000, .int .i64 (-1)] 3)) (by omega) (lst_at v _ _ (by omega)) (by omega) (by simp) (by simp)).mono ?_
  rintro e u121 ⟨lo, hx, rfl, C1, G⟩
  have lo_r : -1 ≤ lo ∧ lo ≤ 1000 := by simp at hx; omega
  clear hx
  have yu121 : v.heap.size ≤ u121.heap.size := (by have := G.size; simp only [size_alloc'] at this; omega)
  replace GW := grown_trans (grown_trans GW (grown_alloc _ (.cells #[.int .i64 0, .int .i64 10, .int .i64 35, .int .i64 1000, .int .i64 (-1)] 3) _)) G
  replace C := C1
  clear C1 G
  have zu121 := GW.size
  try go_wp2_with fail
  refine (among_d B zs p (0 + 2) _ _ 7 [1, 2, 3, 5, 8, 0, 9] (C.alloc (.cells #[.int .i64 1, .int .i64 2, .int .i64 3, .int .i64 5, .int .i64 8, .int .i64 0, .int .i64 9] 3)) (by omega) (lst_at u121 _ _ (by omega)) (by omega) (by simp) (by simp)).mono ?_
  rintro e u122 ⟨n, hx, rfl, C1, G⟩
  have n_r : 0 ≤ n ∧ n ≤ 9 := by simp at hx; omega
  clear hx
  have yu122 : u121.heap.size ≤ u122.heap.size := (by have := G.size; simp only [size_alloc'] at this; omega)
  replace GW := grown_trans (grown_trans GW (grown_alloc _ (.cells #[.int .i64 1, .int .i64 2, .int .i64 3, .int .i64 5, .int .i64 8, .int .i64 0, .int .i64 9] 3) _)) G
  replace C := C1
  clear C1 G
  have zu122 := GW.size
  try go_wp2_with fail
  refine (among_d B zs p (0 + 2 + 2) _ _ 6 [0, 7, 100, 965, 1000, -1] (C.alloc (.cells #[.int .i64 0, .int .i64 7, .int .i64 100, .int .i64 965, .int .i64 1000, .int .i64 (-1)] 3)) (by omega) (lst_at u122 _ _ (by omega)) (by omega) (by simp) (by simp)).mono ?_
  rintro e u123 ⟨d, hx, rfl, C1, G⟩
  have d_r : -1 ≤ d ∧ d ≤ 1000 := by simp at hx; omega
  clear hx
  have yu123 : u122.heap.size ≤ u123.heap.size := (by have := G.size; simp only [size_alloc'] at this; omega)
  replace GW := grown_trans (grown_trans GW (grown_alloc _ (.cells #[.int .i64 0, .int .i64 7, .int .i64 100, .int .i64 965, .int .i64 1000, .int .i64 (-1)] 3) _)) G
  replace C := C1
  clear C1 G
  have zu123 := GW.size
  have HB := Lib.hid (below_of GW (by omega))
  clear C GW
  have e1 : IntKind.i64.wrap (lo + d) = lo + d := IntWalk.i64_in _ (by omega)
  go_wp2
  go_ret3
  exact ⟨n, lo, lo + d, rfl, HB.out⟩
set_option maxHeartbeats 8000000 in
theorem drawFor (A : Option Addr) (cap : Nat) (zs : List Int) (w : World) (h : Draw.Src w A zs) : Calls Try.prog 21 #[.slice A zs.length cap] w (D2 w) := by
  have C0 := cu_at (h.below (al (Below.refl _ w) (o := .cells #[.int .i64 0, .int .i64 0] 32))) cap (p := w.heap.size + 1) (by rw [size_alloc'])
  have R0 := (Cb.new w [.int .i64 0, .int .i64 0] 32 (g := w.heap.size) rfl).alloc (.cells #[.slice A zs.length cap, .int .i64 0, .int .u64 0] 78)
  have G0 : w.grownBy ((w.alloc (.cells #[.int .i64 0, .int .i64 0] 32)).alloc (.cells #[.slice A zs.length cap, .int .i64 0, .int .u64 0] 78)) (some (w.heap.size + 1)) := grown_trans (grown_alloc w _ _) (grown_alloc _ _ _)
  have S0 : ((w.alloc (.cells #[.int .i64 0, .int .i64 0] 32)).alloc (.cells #[.slice A zs.length cap, .int .i64 0, .int .u64 0] 78)).heap.size = w.heap.size + 1 + 1 := by rw [size_alloc', size_alloc']
  have H0 := Lib.hid (And.intro C0 (And.intro R0 (And.intro G0 S0))); clear C0 R0 G0 S0
  go_enter Try.func21, Try.ntmps21
  go_wp2_with fail
  obtain ⟨C0, R, GW, sv⟩ := H0.out
  obtain ⟨B, C⟩ : ∃ B, Cu B zs (w.heap.size + 1) 0 ((w.alloc (.cells #[.int .i64 0, .int .i64 0] 32)).alloc (.cells #[.slice A zs.length cap, .int .i64 0, .int .u64 0] 78)) := ⟨_, C0⟩
  clear C0 H0
  generalize (w.alloc (.cells #[.int .i64 0, .int .i64 0] 32)).alloc (.cells #[.slice A zs.length cap, .int .i64 0, .int .u64 0] 78) = v at C R GW sv ⊢
  have zw : w.heap.size < w.heap.size + 1 := Nat.lt_succ_self _
  have zv := GW.size
  have hp := C.lt
  have hB := C.base
  generalize w.heap.size + 1 = p at *
  try go_wp2_with fail
  refine (pick_d B zs p (0) _ 5 C (by omega) (by omega) (by omega)).mono ?_
  rintro e u121 ⟨n0, n0_r, rfl, C1, G⟩
  have yu121 : v.heap.size ≤ u121.heap.size := G.size
  replace R := (R).went G (by omega)
  replace GW := grown_trans GW G
  replace C := C1
  clear C1 G
  have zu121 := GW.size
  obtain ⟨m, rfl⟩ : ∃ m : Nat, n0 = m := ⟨n0.toNat, by omega⟩
  obtain ⟨q, hq⟩ : ∃ q : Nat, q = m + 1 := ⟨_, rfl⟩
  have e1 : IntKind.i64.wrap (1 + (m : Int)) = (q : Int) := (IntWalk.i64_in _ (by omega)).trans (by omega)
  have hq9 : q ≤ 5 := by omega
  have HQ := Lib.hid hq; clear hq
  try go_wp2_with fail
  refine (ladder_d B zs p (0 + 2) _ q (by omega) C (by omega)).mono ?_
  rintro e u122 ⟨l, g, c, hl, rfl, O, C1, G⟩
  have yu122 : u121.heap.size ≤ u122.heap.size := G.size
  replace R := (R).went G (by omega)
  replace GW := grown_trans GW G
  replace C := C1
  clear C1 G
  have zu122 := GW.size
  have hg0 := own_ge O g (by simp [Value.ownBlock])
  try go_wp2_with fail
  refine (brine_d B zs p (0 + 2 + 100) _ C (by omega)).mono ?_
  rintro e u123 ⟨x, y, xy_r, rfl, C1, G⟩
  have yu123 : u122.heap.size ≤ u123.heap.size := G.size
  replace R := (R).went G (by omega)
  replace O := own_grown O G (fun k hk => by injection hk with hk; omega)
  replace GW := grown_trans GW G
  replace C := C1
  clear C1 G
  have zu123 := GW.size
  have HB := Lib.hid (below_of GW (by omega))
  clear C GW
  have b0 := R.free 0 (by simp)
  have b1 := R.free 1 (by simp)
  have a0 := R.cells 0 _ rfl
  have a1 := R.cells 1 _ rfl
  have s0 := R.there
  have HOR := Lib.hid (And.intro O R); clear O R
  go_wp2
  have Q := (HOR.out.2.set 0 (.int .i64 x)).set 1 (.int .i64 y)
  have q0 := Q.cells 0 _ rfl
  have q1 := Q.cells 1 _ rfl
  have O2 := own_far (own_far HOR.out.1 (k := w.heap.size) (by omega) 0 (.int .i64 x)) (k := w.heap.size) (by omega) 1 (.int .i64 y)
  exact bodyPost_ret (v := .tuple #[.slice (some ⟨g, 0, none⟩) l.length c, .agg #[.int .i64 x, .int .i64 y]]) (by simp [results, Try.results21, go_sem, q0, q1]) rfl ⟨l, g, c, x, y, xy_r, rfl, ⟨hl, own_base O2 (by omega)⟩, below_set (below_set HB.out (Nat.le_refl _) _ _) (Nat.le_refl _) _ _⟩
set_option maxHeartbeats 8000000 in
theorem drawRoom (A : Option Addr) (cap : Nat) (zs : List Int) (w : World) (h : Draw.Src w A zs) : Calls Try.prog 31 #[.slice A zs.length cap] w (D3 w) := by
  have C0 := cu_at (h.below (al (Below.refl _ w) (o := .cells #[.int .i64 0, .int .i64 0] 32))) cap (p := w.heap.size + 1) (by rw [size_alloc'])
  have R0 := (Cb.new w [.int .i64 0, .int .i64 0] 32 (g := w.heap.size) rfl).alloc (.cells #[.slice A zs.length cap, .int .i64 0, .int .u64 0] 78)
  have G0 : w.grownBy ((w.alloc (.cells #[.int .i64 0, .int .i64 0] 32)).alloc (.cells #[.slice A zs.length cap, .int .i64 0, .int .u64 0] 78)) (some (w.heap.size + 1)) := grown_trans (grown_alloc w _ _) (grown_alloc _ _ _)
  have S0 : ((w.alloc (.cells #[.int .i64 0, .int .i64 0] 32)).alloc (.cells #[.slice A zs.length cap, .int .i64 0, .int .u64 0] 78)).heap.size = w.heap.size + 1 + 1 := by rw [size_alloc', size_alloc']
  have H0 := Lib.hid (And.intro C0 (And.intro R0 (And.intro G0 S0))); clear C0 R0 G0 S0
  go_enter Try.func31, Try.ntmps31
  go_wp2_with fail
  obtain ⟨C0, R, GW, sv⟩ := H0.out
  obtain ⟨B, C⟩ : ∃ B, Cu B zs (w.heap.size + 1) 0 ((w.alloc (.cells #[.int .i64 0, .int .i64 0] 32)).alloc (.cells #[.slice A zs.length cap, .int .i64 0, .int .u64 0] 78)) := ⟨_, C0⟩
  clear C0 H0
  generalize (w.alloc (.cells #[.int .i64 0, .int .i64 0] 32)).alloc (.cells #[.slice A zs.length cap, .int .i64 0, .int .u64 0] 78) = v at C R GW sv ⊢
  have zw : w.heap.size < w.heap.size + 1 := Nat.lt_succ_self _
  have zv := GW.size
  have hp := C.lt
  have hB := C.base
  generalize w.heap.size + 1 = p at *
  try go_wp2_with fail
  refine (pick_d B zs p (0) _ 5 C (by omega) (by omega) (by omega)).mono ?_
  rintro e u121 ⟨n0, n0_r, rfl, C1, G⟩
  have yu121 : v.heap.size ≤ u121.heap.size := G.size
  replace R := (R).went G (by omega)
  replace GW := grown_trans GW G
  replace C := C1
  clear C1 G
  have zu121 := GW.size
  obtain ⟨m, rfl⟩ : ∃ m : Nat, n0 = m := ⟨n0.toNat, by omega⟩
  obtain ⟨q, hq⟩ : ∃ q : Nat, q = m + 1 := ⟨_, rfl⟩
  have e1 : IntKind.i64.wrap (1 + (m : Int)) = (q : Int) := (IntWalk.i64_in _ (by omega)).trans (by omega)
  have hq9 : q ≤ 5 := by omega
  have HQ := Lib.hid hq; clear hq
  try go_wp2_with fail
  refine (ladder_d B zs p (0 + 2) _ q (by omega) C (by omega)).mono ?_
  rintro e u122 ⟨l, g, c, hl, rfl, O, C1, G⟩
  have yu122 : u121.heap.size ≤ u122.heap.size := G.size
  replace R := (R).went G (by omega)
  replace GW := grown_trans GW G
  replace C := C1
  clear C1 G
  have zu122 := GW.size
  have hg0 := own_ge O g (by simp [Value.ownBlock])
  try go_wp2_with fail
  refine (brine_d B zs p (0 + 2 + 100) _ C (by omega)).mono ?_
  rintro e u123 ⟨x, y, xy_r, rfl, C1, G⟩
  have yu123 : u122.heap.size ≤ u123.heap.size := G.size
  replace R := (R).went G (by omega)
  replace O := own_grown O G (fun k hk => by injection hk with hk; omega)
  replace GW := grown_trans GW G
  replace C := C1
  clear C1 G
  have zu123 := GW.size
  go_upto_region 4 with fail
  have X := Cb.new u123 [.int .i64 x, .int .i64 y] 32 (g := u123.heap.size) rfl
  replace R := (R.alloc (.cells #[.int .i64 x, .int .i64 y] 32))
  replace C := (C.alloc (.cells #[.int .i64 x, .int .i64 y] 32))
  replace GW := (grown_trans GW (grown_alloc _ (.cells #[.int .i64 x, .int .i64 y] 32) _))
  replace O := own_keep O (al (Below.refl _ _) (o := (.cells #[.int .i64 x, .int .i64 y] 32)))
  have su124 : (u123.alloc (.cells #[.int .i64 x, .int .i64 y] 32)).heap.size = u123.heap.size + 1 := by simp only [size_alloc']
  generalize (u123.alloc (.cells #[.int .i64 x, .int .i64 y] 32)) = u124 at X R O GW C su124 ⊢
  have zu124 := GW.size
  have hgx : p < u123.heap.size ∧ u123.heap.size ≠ w.heap.size := by omega
  have hgl := own_lt O
  obtain ⟨bO, hbO⟩ : ∃ bO, bO = p + 1 := ⟨_, rfl⟩
  replace O := own_base O (base' := bO) (by omega)
  have hgr : g ≠ w.heap.size := by omega
  generalize u123.heap.size = gx at *
  obtain ⟨hgx1, hgx2⟩ := hgx
  have hff := LadW.for_spec (some ⟨g, 0, none⟩) c l x y u124 (Rd.of_own O) (by omega)
  have hm : (LadP.forL l x y).length ≤ 10 := by
    unfold LadP.forL
    split
    · exact Nat.le_trans (LadP.pick_len _ _) hl
    · simp
  obtain ⟨M, hM⟩ : ∃ M, LadP.forL l x y = M := ⟨_, rfl⟩
  rw [hM] at hff hm
  obtain ⟨fo, hfo⟩ : ∃ fo, LadP.forOk l x y = fo := ⟨_, rfl⟩
  rw [hfo] at hff
  have HFF := Lib.hid hff
  clear hff hM hfo
  have X_0 := X.cells 0 _ rfl
  have X_1 := X.cells 1 _ rfl
  have X_f0 := X.free 0 (by simp)
  have X_f1 := X.free 1 (by simp)
  have X_t := X.there
  go_wp2_with fail
  refine HFF.out.mono ?_
  clear X_0 X_1 X_f0 X_f1 X_t
  rintro e V1 ⟨A9, c9, rfl, O9, hv⟩
  have z9 := hv.size
  replace C := C.more hv
  replace R := R.more hv
  replace X := X.more hv
  replace O := own_keep O hv
  replace GW := grown_more GW hv
  obtain ⟨b9, hb9⟩ : ∃ b9, b9 = p + 1 := ⟨_, rfl⟩
  replace O9 := own_base O9 (base' := b9) (by omega)
  clear hv
  have zV1 := GW.size
  clear HFF
  cases fo
  · go_upto_region 7 with fail
    obtain ⟨K0, hK0, hK1⟩ : ∃ K0 : Nat, K0 ≤ 600000000 ∧ 0 + 2 + 100 + 8 = K0 := ⟨_, by omega, rfl⟩
    rw [hK1] at C
    clear hK1
    refine wp_region_rel [46, 47, 48, 49, 50, 51, 2, 3] (fun L f w' => (¬ L 8 → Cb w.heap.size [.int .i64 0, .int .i64 0] w') ∧ (Cb gx [.int .i64 x, .int .i64 y] w') ∧ (¬ L 4 → Cu B zs p K0 w') ∧ (w.grownBy w' (some p)) ∧ (w'.ownsRow bO 54 2 (.slice (some ⟨g, 0, none⟩) l.length c) l.length (flat l)) ∧ (L 0 → f 46 = .slice (some ⟨g, 0, none⟩) l.length c) ∧ (L 1 → f 47 = .pointer (some ⟨p, 0, none⟩)) ∧ (L 2 → f 48 = .slice (some ⟨g, 0, none⟩) l.length c) ∧ (L 3 → f 49 = .int .i64 (l.length : Int)) ∧ (L 4 → ∃ i, f 50 = .int .i64 i) ∧ (L 5 → f 51 = .agg #[.int .i64 x, .int .i64 y]) ∧ (L 6 → f 2 = .slice (some ⟨g, 0, none⟩) l.length c) ∧ (L 7 → ∃ i, f 3 = .int .i64 i) ∧ (L 8 → Cb w.heap.size [.int .i64 x, .int .i64 y] w')) (by kernel_rfl) (by kernel_rfl) (by kernel_rfl) (fun f => ⟨fun _ => R.more (Below.refl _ _).drew, X.more (Below.refl _ _).drew, fun _ => C.more (Below.refl _ _).drew, grown_more GW (Below.refl _ _).drew, own_keep O (Below.refl _ _).drew, fun h => h.elim, fun h => h.elim, fun h => h.elim, fun h => h.elim, fun h => h.elim, fun h => h.elim, fun h => h.elim, fun h => h.elim, fun h => h.elim⟩) ?_ ?_
    · apply RelH.op2
      · intro L f u K hN hS hK
        simp only [puts, Act.put, List.setIfInBounds_toArray, List.set_cons_zero, List.set_cons_succ, upd, Nat.reduceEqDiff, ↓reduceIte, if_true, if_false] at hK ⊢
        have HS9 := Lib.hid hS
        obtain ⟨qR, qX, qC, qGW, qO, c0, c1, c2, c3, c4, c5, c6, c7, c8⟩ := hS
        clear qR qC c0 c1 c2 c3 c4 c5 c6 c7 c8
        go_simp
        obtain ⟨qR, qX, qC, qGW, qO, c0, c1, c2, c3, c4, c5, c6, c7, c8⟩ := HS9.out
        exact hK.out _ _ ⟨fun z9 => qR (fun z => z9 (.inl z)), qX, fun z9 => qC (fun z => z9 (.inl z)), qGW, qO, fun _ => rfl, fun h => c1 (h.resolve_right (by decide)), fun h => c2 (h.resolve_right (by decide)), fun h => c3 (h.resolve_right (by decide)), fun h => c4 (h.resolve_right (by decide)), fun h => c5 (h.resolve_right (by decide)), fun h => c6 (h.resolve_right (by decide)), fun h => c7 (h.resolve_right (by decide)), fun h => c8 (h.resolve_right (by decide))⟩ _ rfl
      apply RelH.op2
      · intro L f u K hN hS hK
        simp only [puts, Act.put, List.setIfInBounds_toArray, List.set_cons_zero, List.set_cons_succ, upd, Nat.reduceEqDiff, ↓reduceIte, if_true, if_false] at hK ⊢
        have HS9 := Lib.hid hS
        obtain ⟨qR, qX, qC, qGW, qO, c0, c1, c2, c3, c4, c5, c6, c7, c8⟩ := hS
        clear qR qC c0 c1 c2 c3 c4 c5 c6 c7 c8
        go_simp
        obtain ⟨qR, qX, qC, qGW, qO, c0, c1, c2, c3, c4, c5, c6, c7, c8⟩ := HS9.out
        exact hK.out _ _ ⟨fun z9 => qR (fun z => z9 (.inl z)), qX, fun z9 => qC (fun z => z9 (.inl z)), qGW, qO, fun h => c0 (h.resolve_right (by decide)), fun _ => rfl, fun h => c2 (h.resolve_right (by decide)), fun h => c3 (h.resolve_right (by decide)), fun h => c4 (h.resolve_right (by decide)), fun h => c5 (h.resolve_right (by decide)), fun h => c6 (h.resolve_right (by decide)), fun h => c7 (h.resolve_right (by decide)), fun h => c8 (h.resolve_right (by decide))⟩ _ rfl
      apply RelH.op2
      · intro L f u K hN hS hK
        simp only [puts, Act.put, List.setIfInBounds_toArray, List.set_cons_zero, List.set_cons_succ, upd, Nat.reduceEqDiff, ↓reduceIte, if_true, if_false] at hK ⊢
        have HS9 := Lib.hid hS
        obtain ⟨qR, qX, qC, qGW, qO, c0, c1, c2, c3, c4, c5, c6, c7, c8⟩ := hS
        clear qR qC c0 c1 c2 c3 c4 c5 c6 c7 c8
        go_simp
        obtain ⟨qR, qX, qC, qGW, qO, c0, c1, c2, c3, c4, c5, c6, c7, c8⟩ := HS9.out
        exact hK.out _ _ ⟨fun z9 => qR (fun z => z9 (.inl z)), qX, fun z9 => qC (fun z => z9 (.inl z)), qGW, qO, fun h => c0 (h.resolve_right (by decide)), fun h => c1 (h.resolve_right (by decide)), fun _ => rfl, fun h => c3 (h.resolve_right (by decide)), fun h => c4 (h.resolve_right (by decide)), fun h => c5 (h.resolve_right (by decide)), fun h => c6 (h.resolve_right (by decide)), fun h => c7 (h.resolve_right (by decide)), fun h => c8 (h.resolve_right (by decide))⟩ _ rfl
      apply RelH.op2
      · intro L f u K hN hS hK
        simp only [puts, Act.put, List.setIfInBounds_toArray, List.set_cons_zero, List.set_cons_succ, upd, Nat.reduceEqDiff, ↓reduceIte, if_true, if_false] at hK ⊢
        have HS9 := Lib.hid hS
        obtain ⟨qR, qX, qC, qGW, qO, c0, c1, c2, c3, c4, c5, c6, c7, c8⟩ := hS
        have e2 := c2 (hN.out.2 2 (by decide +kernel))
        clear qR qC c0 c1 c2 c3 c4 c5 c6 c7 c8
        go_simp
        obtain ⟨qR, qX, qC, qGW, qO, c0, c1, c2, c3, c4, c5, c6, c7, c8⟩ := HS9.out
        exact hK.out _ _ ⟨fun z9 => qR (fun z => z9 (.inl z)), qX, fun z9 => qC (fun z => z9 (.inl z)), qGW, qO, fun h => c0 (h.resolve_right (by decide)), fun h => c1 (h.resolve_right (by decide)), fun h => c2 (h.resolve_right (by decide)), fun _ => rfl, fun h => c4 (h.resolve_right (by decide)), fun h => c5 (h.resolve_right (by decide)), fun h => c6 (h.resolve_right (by decide)), fun h => c7 (h.resolve_right (by decide)), fun h => c8 (h.resolve_right (by decide))⟩ _ (by simp only [e2] <;> rfl)
      apply RelH.op2
      · intro L f u K hN hS hK
        simp only [puts, Act.put, List.setIfInBounds_toArray, List.set_cons_zero, List.set_cons_succ, upd, Nat.reduceEqDiff, ↓reduceIte, if_true, if_false] at hK ⊢
        have HS9 := Lib.hid hS
        obtain ⟨qR, qX, qC, qGW, qO, c0, c1, c2, c3, c4, c5, c6, c7, c8⟩ := hS
        have e1 := c1 (hN.out.2 1 (by decide +kernel))
        have e3 := c3 (hN.out.2 3 (by decide +kernel))
        have HCON := Lib.hid (index_d B zs p K0 u l.length (by omega) (qC (hN.out.1 4 (by decide +kernel))) (by omega))
        clear qR qC c0 c1 c2 c3 c4 c5 c6 c7 c8
        go_simp
        go_at_call 75
        refine HCON.out.mono ?_
        rintro e uw1 ⟨i8, rfl, C9, G⟩
        go_wp2_with fail
        obtain ⟨qR, qX, qC, qGW, qO, c0, c1, c2, c3, c4, c5, c6, c7, c8⟩ := HS9.out
        exact hK.out _ _ ⟨fun z9 => (qR (fun z => z9 (.inl z))).went G (by omega), qX.went G (by omega), fun z9 => (z9 (by simp)).elim, grown_trans qGW G, own_grown qO G (fun k hk => by injection hk with hk; omega), fun h => c0 (h.resolve_right (by decide)), fun h => c1 (h.resolve_right (by decide)), fun h => c2 (h.resolve_right (by decide)), fun h => c3 (h.resolve_right (by decide)), fun _ => ⟨i8, rfl⟩, fun h => c5 (h.resolve_right (by decide)), fun h => c6 (h.resolve_right (by decide)), fun h => c7 (h.resolve_right (by decide)), fun h => ((c8 (h.resolve_right (by decide)))).went G (by omega)⟩ _ (by simp only [e1, e3] <;> rfl)
      apply RelH.op2
      · intro L f u K hN hS hK
        simp only [puts, Act.put, List.setIfInBounds_toArray, List.set_cons_zero, List.set_cons_succ, upd, Nat.reduceEqDiff, ↓reduceIte, if_true, if_false] at hK ⊢
        have HS9 := Lib.hid hS
        obtain ⟨qR, qX, qC, qGW, qO, c0, c1, c2, c3, c4, c5, c6, c7, c8⟩ := hS
        have X_0 := qX.cells 0 _ rfl
        have X_1 := qX.cells 1 _ rfl
        clear qR qC c0 c1 c2 c3 c4 c5 c6 c7 c8
        go_simp
        obtain ⟨qR, qX, qC, qGW, qO, c0, c1, c2, c3, c4, c5, c6, c7, c8⟩ := HS9.out
        exact hK.out _ _ ⟨fun z9 => qR (fun z => z9 (.inl z)), qX, fun z9 => qC (fun z => z9 (.inl z)), qGW, qO, fun h => c0 (h.resolve_right (by decide)), fun h => c1 (h.resolve_right (by decide)), fun h => c2 (h.resolve_right (by decide)), fun h => c3 (h.resolve_right (by decide)), fun h => c4 (h.resolve_right (by decide)), fun _ => rfl, fun h => c6 (h.resolve_right (by decide)), fun h => c7 (h.resolve_right (by decide)), fun h => c8 (h.resolve_right (by decide))⟩ _ rfl
      apply RelH.op2
      · intro L f u K hN hS hK
        simp only [puts, Act.put, List.setIfInBounds_toArray, List.set_cons_zero, List.set_cons_succ, upd, Nat.reduceEqDiff, ↓reduceIte, if_true, if_false] at hK ⊢
        have HS9 := Lib.hid hS
        obtain ⟨qR, qX, qC, qGW, qO, c0, c1, c2, c3, c4, c5, c6, c7, c8⟩ := hS
        have e0 := c0 (hN.out.2 0 (by decide +kernel))
        clear qR qC c0 c1 c2 c3 c4 c5 c6 c7 c8
        go_simp
        obtain ⟨qR, qX, qC, qGW, qO, c0, c1, c2, c3, c4, c5, c6, c7, c8⟩ := HS9.out
        exact hK.out _ _ ⟨fun z9 => qR (fun z => z9 (.inl z)), qX, fun z9 => qC (fun z => z9 (.inl z)), qGW, qO, fun h => c0 (h.resolve_right (by decide)), fun h => c1 (h.resolve_right (by decide)), fun h => c2 (h.resolve_right (by decide)), fun h => c3 (h.resolve_right (by decide)), fun h => c4 (h.resolve_right (by decide)), fun h => c5 (h.resolve_right (by decide)), fun _ => rfl, fun h => c7 (h.resolve_right (by decide)), fun h => c8 (h.resolve_right (by decide))⟩ _ (by simp only [e0] <;> rfl)
      apply RelH.op2
      · intro L f u K hN hS hK
        simp only [puts, Act.put, List.setIfInBounds_toArray, List.set_cons_zero, List.set_cons_succ, upd, Nat.reduceEqDiff, ↓reduceIte, if_true, if_false] at hK ⊢
        have HS9 := Lib.hid hS
        obtain ⟨qR, qX, qC, qGW, qO, c0, c1, c2, c3, c4, c5, c6, c7, c8⟩ := hS
        obtain ⟨i, e4⟩ := c4 (hN.out.2 4 (by decide +kernel))
        clear qR qC c0 c1 c2 c3 c4 c5 c6 c7 c8
        go_simp
        obtain ⟨qR, qX, qC, qGW, qO, c0, c1, c2, c3, c4, c5, c6, c7, c8⟩ := HS9.out
        exact hK.out _ _ ⟨fun z9 => qR (fun z => z9 (.inl z)), qX, fun z9 => qC (fun z => z9 (.inl z)), qGW, qO, fun h => c0 (h.resolve_right (by decide)), fun h => c1 (h.resolve_right (by decide)), fun h => c2 (h.resolve_right (by decide)), fun h => c3 (h.resolve_right (by decide)), fun h => c4 (h.resolve_right (by decide)), fun h => c5 (h.resolve_right (by decide)), fun h => c6 (h.resolve_right (by decide)), fun _ => ⟨i, rfl⟩, fun h => c8 (h.resolve_right (by decide))⟩ _ (by simp only [e4] <;> rfl)
      apply RelH.op2
      · intro L f u K hN hS hK
        simp only [puts, Act.put, List.setIfInBounds_toArray, List.set_cons_zero, List.set_cons_succ, upd, Nat.reduceEqDiff, ↓reduceIte, if_true, if_false] at hK ⊢
        have HS9 := Lib.hid hS
        obtain ⟨qR, qX, qC, qGW, qO, c0, c1, c2, c3, c4, c5, c6, c7, c8⟩ := hS
        have e5 := c5 (hN.out.2 5 (by decide +kernel))
        have qR1 := qR (hN.out.1 8 (by decide +kernel))
        have R_0 := qR1.cells 0 _ rfl
        have R_1 := qR1.cells 1 _ rfl
        have R_f0 := qR1.free 0 (by simp)
        have R_f1 := qR1.free 1 (by simp)
        clear qR qC c0 c1 c2 c3 c4 c5 c6 c7 c8
        go_simp
        obtain ⟨qR, qX, qC, qGW, qO, c0, c1, c2, c3, c4, c5, c6, c7, c8⟩ := HS9.out
        exact hK.out undef _ ⟨fun z9 => (z9 (by simp)).elim, ((qX.far (k := w.heap.size) (by omega) 0 (.int .i64 x)).far (k := w.heap.size) (by omega) 1 (.int .i64 y)), fun z9 => (z9 (.inl (hN.out.2 4 (by decide +kernel)))).elim, (grown_set (grown_set qGW (Nat.le_refl _) 0 (.int .i64 x)) (Nat.le_refl _) 1 (.int .i64 y)), (own_far (own_far qO (k := w.heap.size) (by omega) 0 (.int .i64 x)) (k := w.heap.size) (by omega) 1 (.int .i64 y)), fun h => c0 (h.resolve_right (by decide)), fun h => c1 (h.resolve_right (by decide)), fun h => c2 (h.resolve_right (by decide)), fun h => c3 (h.resolve_right (by decide)), fun h => c4 (h.resolve_right (by decide)), fun h => c5 (h.resolve_right (by decide)), fun h => c6 (h.resolve_right (by decide)), fun h => c7 (h.resolve_right (by decide)), fun _ => ((qR1.set 0 (.int .i64 x)).set 1 (.int .i64 y))⟩ _ (by simp only [e5] <;> rfl)
      exact RelH.done
    intro L f V0 hL hS
    simp only [puts, Act.put, List.setIfInBounds_toArray, List.set_cons_zero, List.set_cons_succ]
    obtain ⟨qR, qX, qC, qGW, qO, c0, c1, c2, c3, c4, c5, c6, c7, c8⟩ := hS
    have R9 := c8 (hL 8 (by decide))
    have HB := below_of qGW (by omega)
    have e6 := c6 (hL 6 (by decide))
    obtain ⟨i9, e7⟩ := c7 (hL 7 (by decide))
    simp only [e6, e7]
    clear c0 c1 c2 c3 c4 c5 c6 c7 c8 hL e6 e7 qC qX qR
    have q0 := R9.cells 0 _ rfl
    have q1 := R9.cells 1 _ rfl
    go_wp2
    exact bodyPost_ret (v := .tuple #[.slice (some ⟨g, 0, none⟩) l.length c, .int .i64 i9, .agg #[.int .i64 x, .int .i64 y]]) (by simp [results, Try.results31, go_sem, q0, q1]) rfl ⟨l, g, c, i9, x, y, xy_r, rfl, ⟨hl, own_base qO (by omega)⟩, HB⟩
  by_cases hpos : 0 < M.length
  · have hp0 : decide ((0 : Int) < (M.length : Int)) = true := decide_eq_true (by omega)
    obtain ⟨g9, cq, hA9⟩ := own_some0 O9 (fun e => by injection e with _ e2 _; omega)
    obtain ⟨rfl, hcq⟩ : A9 = some ⟨g9, 0, none⟩ ∧ c9 = cq := by injection hA9 with h1 _ h3; exact ⟨h1, h3⟩
    clear hA9 hcq
    have hg9 := own_ge O9 g9 (by simp [Value.ownBlock])
    try go_wp2_with fail
    refine (one_d B zs p (0 + 2 + 100 + 8) _ 6 C (by omega) (by omega) (by omega)).mono ?_
    rintro e u145 ⟨t, rfl, C1, G⟩
    have yu145 : V1.heap.size ≤ u145.heap.size := G.size
    replace R := (R).went G (by omega)
    replace X := (X).went G (by omega)
    replace O := own_grown O G (fun k hk => by injection hk with hk; omega)
    replace O9 := own_grown O9 G (fun k hk => by injection hk with hk; omega)
    replace GW := grown_trans GW G
    replace C := C1
    clear C1 G
    have zu145 := GW.size
    cases t
    · go_upto_region 6 with fail
      obtain ⟨K0, hK0, hK1⟩ : ∃ K0 : Nat, K0 ≤ 600000000 ∧ 0 + 2 + 100 + 8 + 2 = K0 := ⟨_, by omega, rfl⟩
      rw [hK1] at C
      clear hK1
      refine wp_region_rel [37, 38, 39, 40, 41, 42, 43, 44, 45, 2, 3] (fun L f w' => (¬ L 11 → Cb w.heap.size [.int .i64 0, .int .i64 0] w') ∧ (Cb gx [.int .i64 x, .int .i64 y] w') ∧ (¬ L 5 → Cu B zs p K0 w') ∧ (w.grownBy w' (some p)) ∧ (w'.ownsRow bO 54 2 (.slice (some ⟨g, 0, none⟩) l.length c) l.length (flat l)) ∧ (w'.ownsRow b9 3 1 (.slice (some ⟨g9, 0, none⟩) M.length c9) M.length (SInt.iv M)) ∧ (L 0 → f 37 = .slice (some ⟨g, 0, none⟩) l.length c) ∧ (L 1 → f 38 = .slice (some ⟨g9, 0, none⟩) M.length c9) ∧ (L 2 → f 39 = .pointer (some ⟨p, 0, none⟩)) ∧ (L 3 → f 40 = .slice (some ⟨g9, 0, none⟩) M.length c9) ∧ (L 4 → f 41 = .int .i64 (M.length : Int)) ∧ (L 5 → ∃ k : Nat, f 42 = .int .i64 (k : Int) ∧ k < M.length) ∧ (L 6 → ∃ k : Nat, f 43 = .pointer (some ⟨g9, k, none⟩) ∧ k < M.length) ∧ (L 7 → ∃ i, f 44 = .int .i64 i) ∧ (L 8 → f 45 = .agg #[.int .i64 x, .int .i64 y]) ∧ (L 9 → f 2 = .slice (some ⟨g, 0, none⟩) l.length c) ∧ (L 10 → ∃ i, f 3 = .int .i64 i) ∧ (L 11 → Cb w.heap.size [.int .i64 x, .int .i64 y] w')) (by kernel_rfl) (by kernel_rfl) (by kernel_rfl) (fun f => ⟨fun _ => R.more (Below.refl _ _).drew, X.more (Below.refl _ _).drew, fun _ => C.more (Below.refl _ _).drew, grown_more GW (Below.refl _ _).drew, own_keep O (Below.refl _ _).drew, own_keep O9 (Below.refl _ _).drew, fun h => h.elim, fun h => h.elim, fun h => h.elim, fun h => h.elim, fun h => h.elim, fun h => h.elim, fun h => h.elim, fun h => h.elim, fun h => h.elim, fun h => h.elim, fun h => h.elim, fun h => h.elim⟩) ?_ ?_
      · apply RelH.op2
        · intro L f u K hN hS hK
          simp only [puts, Act.put, List.setIfInBounds_toArray, List.set_cons_zero, List.set_cons_succ, upd, Nat.reduceEqDiff, ↓reduceIte, if_true, if_false] at hK ⊢
          have HS9 := Lib.hid hS
          obtain ⟨qR, qX, qC, qGW, qO, qO9, c0, c1, c2, c3, c4, c5, c6, c7, c8, c9, c10, c11⟩ := hS
          clear qR qC c0 c1 c2 c3 c4 c5 c6 c7 c8 c9 c10 c11
          go_simp
          obtain ⟨qR, qX, qC, qGW, qO, qO9, c0, c1, c2, c3, c4, c5, c6, c7, c8, c9, c10, c11⟩ := HS9.out
          exact hK.out _ _ ⟨fun z9 => qR (fun z => z9 (.inl z)), qX, fun z9 => qC (fun z => z9 (.inl z)), qGW, qO, qO9, fun _ => rfl, fun h => c1 (h.resolve_right (by decide)), fun h => c2 (h.resolve_right (by decide)), fun h => c3 (h.resolve_right (by decide)), fun h => c4 (h.resolve_right (by decide)), fun h => c5 (h.resolve_right (by decide)), fun h => c6 (h.resolve_right (by decide)), fun h => c7 (h.resolve_right (by decide)), fun h => c8 (h.resolve_right (by decide)), fun h => c9 (h.resolve_right (by decide)), fun h => c10 (h.resolve_right (by decide)), fun h => c11 (h.resolve_right (by decide))⟩ _ rfl
        apply RelH.op2
        · intro L f u K hN hS hK
          simp only [puts, Act.put, List.setIfInBounds_toArray, List.set_cons_zero, List.set_cons_succ, upd, Nat.reduceEqDiff, ↓reduceIte, if_true, if_false] at hK ⊢
          have HS9 := Lib.hid hS
          obtain ⟨qR, qX, qC, qGW, qO, qO9, c0, c1, c2, c3, c4, c5, c6, c7, c8, c9, c10, c11⟩ := hS
          clear qR qC c0 c1 c2 c3 c4 c5 c6 c7 c8 c9 c10 c11
          go_simp
          obtain ⟨qR, qX, qC, qGW, qO, qO9, c0, c1, c2, c3, c4, c5, c6, c7, c8, c9, c10, c11⟩ := HS9.out
          exact hK.out _ _ ⟨fun z9 => qR (fun z => z9 (.inl z)), qX, fun z9 => qC (fun z => z9 (.inl z)), qGW, qO, qO9, fun h => c0 (h.resolve_right (by decide)), fun _ => rfl, fun h => c2 (h.resolve_right (by decide)), fun h => c3 (h.resolve_right (by decide)), fun h => c4 (h.resolve_right (by decide)), fun h => c5 (h.resolve_right (by decide)), fun h => c6 (h.resolve_right (by decide)), fun h => c7 (h.resolve_right (by decide)), fun h => c8 (h.resolve_right (by decide)), fun h => c9 (h.resolve_right (by decide)), fun h => c10 (h.resolve_right (by decide)), fun h => c11 (h.resolve_right (by decide))⟩ _ rfl
        apply RelH.op2
        · intro L f u K hN hS hK
          simp only [puts, Act.put, List.setIfInBounds_toArray, List.set_cons_zero, List.set_cons_succ, upd, Nat.reduceEqDiff, ↓reduceIte, if_true, if_false] at hK ⊢
          have HS9 := Lib.hid hS
          obtain ⟨qR, qX, qC, qGW, qO, qO9, c0, c1, c2, c3, c4, c5, c6, c7, c8, c9, c10, c11⟩ := hS
          clear qR qC c0 c1 c2 c3 c4 c5 c6 c7 c8 c9 c10 c11
          go_simp
          obtain ⟨qR, qX, qC, qGW, qO, qO9, c0, c1, c2, c3, c4, c5, c6, c7, c8, c9, c10, c11⟩ := HS9.out
          exact hK.out _ _ ⟨fun z9 => qR (fun z => z9 (.inl z)), qX, fun z9 => qC (fun z => z9 (.inl z)), qGW, qO, qO9, fun h => c0 (h.resolve_right (by decide)), fun h => c1 (h.resolve_right (by decide)), fun _ => rfl, fun h => c3 (h.resolve_right (by decide)), fun h => c4 (h.resolve_right (by decide)), fun h => c5 (h.resolve_right (by decide)), fun h => c6 (h.resolve_right (by decide)), fun h => c7 (h.resolve_right (by decide)), fun h => c8 (h.resolve_right (by decide)), fun h => c9 (h.resolve_right (by decide)), fun h => c10 (h.resolve_right (by decide)), fun h => c11 (h.resolve_right (by decide))⟩ _ rfl
        apply RelH.op2
        · intro L f u K hN hS hK
          simp only [puts, Act.put, List.setIfInBounds_toArray, List.set_cons_zero, List.set_cons_succ, upd, Nat.reduceEqDiff, ↓reduceIte, if_true, if_false] at hK ⊢
          have HS9 := Lib.hid hS
          obtain ⟨qR, qX, qC, qGW, qO, qO9, c0, c1, c2, c3, c4, c5, c6, c7, c8, c9, c10, c11⟩ := hS
          clear qR qC c0 c1 c2 c3 c4 c5 c6 c7 c8 c9 c10 c11
          go_simp
          obtain ⟨qR, qX, qC, qGW, qO, qO9, c0, c1, c2, c3, c4, c5, c6, c7, c8, c9, c10, c11⟩ := HS9.out
          exact hK.out _ _ ⟨fun z9 => qR (fun z => z9 (.inl z)), qX, fun z9 => qC (fun z => z9 (.inl z)), qGW, qO, qO9, fun h => c0 (h.resolve_right (by decide)), fun h => c1 (h.resolve_right (by decide)), fun h => c2 (h.resolve_right (by decide)), fun _ => rfl, fun h => c4 (h.resolve_right (by decide)), fun h => c5 (h.resolve_right (by decide)), fun h => c6 (h.resolve_right (by decide)), fun h => c7 (h.resolve_right (by decide)), fun h => c8 (h.resolve_right (by decide)), fun h => c9 (h.resolve_right (by decide)), fun h => c10 (h.resolve_right (by decide)), fun h => c11 (h.resolve_right (by decide))⟩ _ rfl
        apply RelH.op2
        · intro L f u K hN hS hK
          simp only [puts, Act.put, List.setIfInBounds_toArray, List.set_cons_zero, List.set_cons_succ, upd, Nat.reduceEqDiff, ↓reduceIte, if_true, if_false] at hK ⊢
          have HS9 := Lib.hid hS
          obtain ⟨qR, qX, qC, qGW, qO, qO9, c0, c1, c2, c3, c4, c5, c6, c7, c8, c9, c10, c11⟩ := hS
          have e3 := c3 (hN.out.2 3 (by decide +kernel))
          clear qR qC c0 c1 c2 c3 c4 c5 c6 c7 c8 c9 c10 c11
          go_simp
          obtain ⟨qR, qX, qC, qGW, qO, qO9, c0, c1, c2, c3, c4, c5, c6, c7, c8, c9, c10, c11⟩ := HS9.out
          exact hK.out _ _ ⟨fun z9 => qR (fun z => z9 (.inl z)), qX, fun z9 => qC (fun z => z9 (.inl z)), qGW, qO, qO9, fun h => c0 (h.resolve_right (by decide)), fun h => c1 (h.resolve_right (by decide)), fun h => c2 (h.resolve_right (by decide)), fun h => c3 (h.resolve_right (by decide)), fun _ => rfl, fun h => c5 (h.resolve_right (by decide)), fun h => c6 (h.resolve_right (by decide)), fun h => c7 (h.resolve_right (by decide)), fun h => c8 (h.resolve_right (by decide)), fun h => c9 (h.resolve_right (by decide)), fun h => c10 (h.resolve_right (by decide)), fun h => c11 (h.resolve_right (by decide))⟩ _ (by simp only [e3] <;> rfl)
        apply RelH.op2
        · intro L f u K hN hS hK
          simp only [puts, Act.put, List.setIfInBounds_toArray, List.set_cons_zero, List.set_cons_succ, upd, Nat.reduceEqDiff, ↓reduceIte, if_true, if_false] at hK ⊢
          have HS9 := Lib.hid hS
          obtain ⟨qR, qX, qC, qGW, qO, qO9, c0, c1, c2, c3, c4, c5, c6, c7, c8, c9, c10, c11⟩ := hS
          have e2 := c2 (hN.out.2 2 (by decide +kernel))
          have e4 := c4 (hN.out.2 4 (by decide +kernel))
          have HCON := Lib.hid (pick_d B zs p K0 u (M.length : Int) (qC (hN.out.1 5 (by decide +kernel))) (by omega) (by omega) (by omega))
          clear qR qC c0 c1 c2 c3 c4 c5 c6 c7 c8 c9 c10 c11
          go_simp
          go_at_call 55
          refine HCON.out.mono ?_
          rintro e uw1 ⟨n9, n9_r, rfl, C9, G⟩
          obtain ⟨k, rfl⟩ : ∃ k : Nat, n9 = k := ⟨n9.toNat, by omega⟩
          go_wp2_with fail
          obtain ⟨qR, qX, qC, qGW, qO, qO9, c0, c1, c2, c3, c4, c5, c6, c7, c8, c9, c10, c11⟩ := HS9.out
          exact hK.out _ _ ⟨fun z9 => (qR (fun z => z9 (.inl z))).went G (by omega), qX.went G (by omega), fun z9 => (z9 (by simp)).elim, grown_trans qGW G, own_grown qO G (fun k hk => by injection hk with hk; omega), own_grown qO9 G (fun k hk => by injection hk with hk; omega), fun h => c0 (h.resolve_right (by decide)), fun h => c1 (h.resolve_right (by decide)), fun h => c2 (h.resolve_right (by decide)), fun h => c3 (h.resolve_right (by decide)), fun h => c4 (h.resolve_right (by decide)), fun _ => ⟨k, rfl, by omega⟩, fun h => c6 (h.resolve_right (by decide)), fun h => c7 (h.resolve_right (by decide)), fun h => c8 (h.resolve_right (by decide)), fun h => c9 (h.resolve_right (by decide)), fun h => c10 (h.resolve_right (by decide)), fun h => ((c11 (h.resolve_right (by decide)))).went G (by omega)⟩ _ (by simp only [e2, e4] <;> rfl)
        apply RelH.op2
        · intro L f u K hN hS hK
          simp only [puts, Act.put, List.setIfInBounds_toArray, List.set_cons_zero, List.set_cons_succ, upd, Nat.reduceEqDiff, ↓reduceIte, if_true, if_false] at hK ⊢
          have HS9 := Lib.hid hS
          obtain ⟨qR, qX, qC, qGW, qO, qO9, c0, c1, c2, c3, c4, c5, c6, c7, c8, c9, c10, c11⟩ := hS
          have e1 := c1 (hN.out.2 1 (by decide +kernel))
          obtain ⟨k, e5, k1⟩ := c5 (hN.out.2 5 (by decide +kernel))
          have k2 : (k : Int) < M.length := by omega
          clear qR qC c0 c1 c2 c3 c4 c5 c6 c7 c8 c9 c10 c11
          go_simp
          obtain ⟨qR, qX, qC, qGW, qO, qO9, c0, c1, c2, c3, c4, c5, c6, c7, c8, c9, c10, c11⟩ := HS9.out
          exact hK.out _ _ ⟨fun z9 => qR (fun z => z9 (.inl z)), qX, fun z9 => qC (fun z => z9 (.inl z)), qGW, qO, qO9, fun h => c0 (h.resolve_right (by decide)), fun h => c1 (h.resolve_right (by decide)), fun h => c2 (h.resolve_right (by decide)), fun h => c3 (h.resolve_right (by decide)), fun h => c4 (h.resolve_right (by decide)), fun h => c5 (h.resolve_right (by decide)), fun _ => ⟨k, rfl, k1⟩, fun h => c7 (h.resolve_right (by decide)), fun h => c8 (h.resolve_right (by decide)), fun h => c9 (h.resolve_right (by decide)), fun h => c10 (h.resolve_right (by decide)), fun h => c11 (h.resolve_right (by decide))⟩ _ (by simp only [e1, e5] <;> rfl)
        apply RelH.op2
        · intro L f u K hN hS hK
          simp only [puts, Act.put, List.setIfInBounds_toArray, List.set_cons_zero, List.set_cons_succ, upd, Nat.reduceEqDiff, ↓reduceIte, if_true, if_false] at hK ⊢
          have HS9 := Lib.hid hS
          obtain ⟨qR, qX, qC, qGW, qO, qO9, c0, c1, c2, c3, c4, c5, c6, c7, c8, c9, c10, c11⟩ := hS
          obtain ⟨k, e6, k1⟩ := c6 (hN.out.2 6 (by decide +kernel))
          have k3 : u.cell? ⟨g9, k, none⟩ = some (.int .i64 M[k]) := (qO9.cellAt k (by omega)).trans (SInt.iv_get M k k1)
          clear qR qC c0 c1 c2 c3 c4 c5 c6 c7 c8 c9 c10 c11
          go_simp
          obtain ⟨qR, qX, qC, qGW, qO, qO9, c0, c1, c2, c3, c4, c5, c6, c7, c8, c9, c10, c11⟩ := HS9.out
          exact hK.out _ _ ⟨fun z9 => qR (fun z => z9 (.inl z)), qX, fun z9 => qC (fun z => z9 (.inl z)), qGW, qO, qO9, fun h => c0 (h.resolve_right (by decide)), fun h => c1 (h.resolve_right (by decide)), fun h => c2 (h.resolve_right (by decide)), fun h => c3 (h.resolve_right (by decide)), fun h => c4 (h.resolve_right (by decide)), fun h => c5 (h.resolve_right (by decide)), fun h => c6 (h.resolve_right (by decide)), fun _ => ⟨_, rfl⟩, fun h => c8 (h.resolve_right (by decide)), fun h => c9 (h.resolve_right (by decide)), fun h => c10 (h.resolve_right (by decide)), fun h => c11 (h.resolve_right (by decide))⟩ _ (by simp only [e6] <;> rfl)
        apply RelH.op2
        · intro L f u K hN hS hK
          simp only [puts, Act.put, List.setIfInBounds_toArray, List.set_cons_zero, List.set_cons_succ, upd, Nat.reduceEqDiff, ↓reduceIte, if_true, if_false] at hK ⊢
          have HS9 := Lib.hid hS
          obtain ⟨qR, qX, qC, qGW, qO, qO9, c0, c1, c2, c3, c4, c5, c6, c7, c8, c9, c10, c11⟩ := hS
          have X_0 := qX.cells 0 _ rfl
          have X_1 := qX.cells 1 _ rfl
          clear qR qC c0 c1 c2 c3 c4 c5 c6 c7 c8 c9 c10 c11
          go_simp
          obtain ⟨qR, qX, qC, qGW, qO, qO9, c0, c1, c2, c3, c4, c5, c6, c7, c8, c9, c10, c11⟩ := HS9.out
          exact hK.out _ _ ⟨fun z9 => qR (fun z => z9 (.inl z)), qX, fun z9 => qC (fun z => z9 (.inl z)), qGW, qO, qO9, fun h => c0 (h.resolve_right (by decide)), fun h => c1 (h.resolve_right (by decide)), fun h => c2 (h.resolve_right (by decide)), fun h => c3 (h.resolve_right (by decide)), fun h => c4 (h.resolve_right (by decide)), fun h => c5 (h.resolve_right (by decide)), fun h => c6 (h.resolve_right (by decide)), fun h => c7 (h.resolve_right (by decide)), fun _ => rfl, fun h => c9 (h.resolve_right (by decide)), fun h => c10 (h.resolve_right (by decide)), fun h => c11 (h.resolve_right (by decide))⟩ _ rfl
        apply RelH.op2
        · intro L f u K hN hS hK
          simp only [puts, Act.put, List.setIfInBounds_toArray, List.set_cons_zero, List.set_cons_succ, upd, Nat.reduceEqDiff, ↓reduceIte, if_true, if_false] at hK ⊢
          have HS9 := Lib.hid hS
          obtain ⟨qR, qX, qC, qGW, qO, qO9, c0, c1, c2, c3, c4, c5, c6, c7, c8, c9, c10, c11⟩ := hS
          have e0 := c0 (hN.out.2 0 (by decide +kernel))
          clear qR qC c0 c1 c2 c3 c4 c5 c6 c7 c8 c9 c10 c11
          go_simp
          obtain ⟨qR, qX, qC, qGW, qO, qO9, c0, c1, c2, c3, c4, c5, c6, c7, c8, c9, c10, c11⟩ := HS9.out
          exact hK.out _ _ ⟨fun z9 => qR (fun z => z9 (.inl z)), qX, fun z9 => qC (fun z => z9 (.inl z)), qGW, qO, qO9, fun h => c0 (h.resolve_right (by decide)), fun h => c1 (h.resolve_right (by decide)), fun h => c2 (h.resolve_right (by decide)), fun h => c3 (h.resolve_right (by decide)), fun h => c4 (h.resolve_right (by decide)), fun h => c5 (h.resolve_right (by decide)), fun h => c6 (h.resolve_right (by decide)), fun h => c7 (h.resolve_right (by decide)), fun h => c8 (h.resolve_right (by decide)), fun _ => rfl, fun h => c10 (h.resolve_right (by decide)), fun h => c11 (h.resolve_right (by decide))⟩ _ (by simp only [e0] <;> rfl)
        apply RelH.op2
        · intro L f u K hN hS hK
          simp only [puts, Act.put, List.setIfInBounds_toArray, List.set_cons_zero, List.set_cons_succ, upd, Nat.reduceEqDiff, ↓reduceIte, if_true, if_false] at hK ⊢
          have HS9 := Lib.hid hS
          obtain ⟨qR, qX, qC, qGW, qO, qO9, c0, c1, c2, c3, c4, c5, c6, c7, c8, c9, c10, c11⟩ := hS
          obtain ⟨i, e7⟩ := c7 (hN.out.2 7 (by decide +kernel))
          clear qR qC c0 c1 c2 c3 c4 c5 c6 c7 c8 c9 c10 c11
          go_simp
          obtain ⟨qR, qX, qC, qGW, qO, qO9, c0, c1, c2, c3, c4, c5, c6, c7, c8, c9, c10, c11⟩ := HS9.out
          exact hK.out _ _ ⟨fun z9 => qR (fun z => z9 (.inl z)), qX, fun z9 => qC (fun z => z9 (.inl z)), qGW, qO, qO9, fun h => c0 (h.resolve_right (by decide)), fun h => c1 (h.resolve_right (by decide)), fun h => c2 (h.resolve_right (by decide)), fun h => c3 (h.resolve_right (by decide)), fun h => c4 (h.resolve_right (by decide)), fun h => c5 (h.resolve_right (by decide)), fun h => c6 (h.resolve_right (by decide)), fun h => c7 (h.resolve_right (by decide)), fun h => c8 (h.resolve_right (by decide)), fun h => c9 (h.resolve_right (by decide)), fun _ => ⟨i, rfl⟩, fun h => c11 (h.resolve_right (by decide))⟩ _ (by simp only [e7] <;> rfl)
        apply RelH.op2
        · intro L f u K hN hS hK
          simp only [puts, Act.put, List.setIfInBounds_toArray, List.set_cons_zero, List.set_cons_succ, upd, Nat.reduceEqDiff, ↓reduceIte, if_true, if_false] at hK ⊢
          have HS9 := Lib.hid hS
          obtain ⟨qR, qX, qC, qGW, qO, qO9, c0, c1, c2, c3, c4, c5, c6, c7, c8, c9, c10, c11⟩ := hS
          have e8 := c8 (hN.out.2 8 (by decide +kernel))
          have qR1 := qR (hN.out.1 11 (by decide +kernel))
          have R_0 := qR1.cells 0 _ rfl
          have R_1 := qR1.cells 1 _ rfl
          have R_f0 := qR1.free 0 (by simp)
          have R_f1 := qR1.free 1 (by simp)
          clear qR qC c0 c1 c2 c3 c4 c5 c6 c7 c8 c9 c10 c11
          go_simp
          obtain ⟨qR, qX, qC, qGW, qO, qO9, c0, c1, c2, c3, c4, c5, c6, c7, c8, c9, c10, c11⟩ := HS9.out
          exact hK.out undef _ ⟨fun z9 => (z9 (by simp)).elim, ((qX.far (k := w.heap.size) (by omega) 0 (.int .i64 x)).far (k := w.heap.size) (by omega) 1 (.int .i64 y)), fun z9 => (z9 (.inl (hN.out.2 5 (by decide +kernel)))).elim, (grown_set (grown_set qGW (Nat.le_refl _) 0 (.int .i64 x)) (Nat.le_refl _) 1 (.int .i64 y)), (own_far (own_far qO (k := w.heap.size) (by omega) 0 (.int .i64 x)) (k := w.heap.size) (by omega) 1 (.int .i64 y)), (own_far (own_far qO9 (k := w.heap.size) (by omega) 0 (.int .i64 x)) (k := w.heap.size) (by omega) 1 (.int .i64 y)), fun h => c0 (h.resolve_right (by decide)), fun h => c1 (h.resolve_right (by decide)), fun h => c2 (h.resolve_right (by decide)), fun h => c3 (h.resolve_right (by decide)), fun h => c4 (h.resolve_right (by decide)), fun h => c5 (h.resolve_right (by decide)), fun h => c6 (h.resolve_right (by decide)), fun h => c7 (h.resolve_right (by decide)), fun h => c8 (h.resolve_right (by decide)), fun h => c9 (h.resolve_right (by decide)), fun h => c10 (h.resolve_right (by decide)), fun _ => ((qR1.set 0 (.int .i64 x)).set 1 (.int .i64 y))⟩ _ (by simp only [e8] <;> rfl)
        exact RelH.done
      intro L f V0 hL hS
      simp only [puts, Act.put, List.setIfInBounds_toArray, List.set_cons_zero, List.set_cons_succ]
      obtain ⟨qR, qX, qC, qGW, qO, qO9, c0, c1, c2, c3, c4, c5, c6, c7, c8, c9, c10, c11⟩ := hS
      have R9 := c11 (hL 11 (by decide))
      have HB := below_of qGW (by omega)
      have e9 := c9 (hL 9 (by decide))
      obtain ⟨i9, e10⟩ := c10 (hL 10 (by decide))
      simp only [e9, e10]
      clear c0 c1 c2 c3 c4 c5 c6 c7 c8 c9 c10 c11 hL e9 e10 qC qX qR
      have q0 := R9.cells 0 _ rfl
      have q1 := R9.cells 1 _ rfl
      go_wp2
      exact bodyPost_ret (v := .tuple #[.slice (some ⟨g, 0, none⟩) l.length c, .int .i64 i9, .agg #[.int .i64 x, .int .i64 y]]) (by simp [results, Try.results31, go_sem, q0, q1]) rfl ⟨l, g, c, i9, x, y, xy_r, rfl, ⟨hl, own_base qO (by omega)⟩, HB⟩
    · go_upto_region 7 with fail
      obtain ⟨K0, hK0, hK1⟩ : ∃ K0 : Nat, K0 ≤ 600000000 ∧ 0 + 2 + 100 + 8 + 2 = K0 := ⟨_, by omega, rfl⟩
      rw [hK1] at C
      clear hK1
      refine wp_region_rel [46, 47, 48, 49, 50, 51, 2, 3] (fun L f w' => (¬ L 8 → Cb w.heap.size [.int .i64 0, .int .i64 0] w') ∧ (Cb gx [.int .i64 x, .int .i64 y] w') ∧ (¬ L 4 → Cu B zs p K0 w') ∧ (w.grownBy w' (some p)) ∧ (w'.ownsRow bO 54 2 (.slice (some ⟨g, 0, none⟩) l.length c) l.length (flat l)) ∧ (L 0 → f 46 = .slice (some ⟨g, 0, none⟩) l.length c) ∧ (L 1 → f 47 = .pointer (some ⟨p, 0, none⟩)) ∧ (L 2 → f 48 = .slice (some ⟨g, 0, none⟩) l.length c) ∧ (L 3 → f 49 = .int .i64 (l.length : Int)) ∧ (L 4 → ∃ i, f 50 = .int .i64 i) ∧ (L 5 → f 51 = .agg #[.int .i64 x, .int .i64 y]) ∧ (L 6 → f 2 = .slice (some ⟨g, 0, none⟩) l.length c) ∧ (L 7 → ∃ i, f 3 = .int .i64 i) ∧ (L 8 → Cb w.heap.size [.int .i64 x, .int .i64 y] w')) (by kernel_rfl) (by kernel_rfl) (by kernel_rfl) (fun f => ⟨fun _ => R.more (Below.refl _ _).drew, X.more (Below.refl _ _).drew, fun _ => C.more (Below.refl _ _).drew, grown_more GW (Below.refl _ _).drew, own_keep O (Below.refl _ _).drew, fun h => h.elim, fun h => h.elim, fun h => h.elim, fun h => h.elim, fun h => h.elim, fun h => h.elim, fun h => h.elim, fun h => h.elim, fun h => h.elim⟩) ?_ ?_
      · apply RelH.op2
        · intro L f u K hN hS hK
          simp only [puts, Act.put, List.setIfInBounds_toArray, List.set_cons_zero, List.set_cons_succ, upd, Nat.reduceEqDiff, ↓reduceIte, if_true, if_false] at hK ⊢
          have HS9 := Lib.hid hS
          obtain ⟨qR, qX, qC, qGW, qO, c0, c1, c2, c3, c4, c5, c6, c7, c8⟩ := hS
          clear qR qC c0 c1 c2 c3 c4 c5 c6 c7 c8
          go_simp
          obtain ⟨qR, qX, qC, qGW, qO, c0, c1, c2, c3, c4, c5, c6, c7, c8⟩ := HS9.out
          exact hK.out _ _ ⟨fun z9 => qR (fun z => z9 (.inl z)), qX, fun z9 => qC (fun z => z9 (.inl z)), qGW, qO, fun _ => rfl, fun h => c1 (h.resolve_right (by decide)), fun h => c2 (h.resolve_right (by decide)), fun h => c3 (h.resolve_right (by decide)), fun h => c4 (h.resolve_right (by decide)), fun h => c5 (h.resolve_right (by decide)), fun h => c6 (h.resolve_right (by decide)), fun h => c7 (h.resolve_right (by decide)), fun h => c8 (h.resolve_right (by decide))⟩ _ rfl
        apply RelH.op2
        · intro L f u K hN hS hK
          simp only [puts, Act.put, List.setIfInBounds_toArray, List.set_cons_zero, List.set_cons_succ, upd, Nat.reduceEqDiff, ↓reduceIte, if_true, if_false] at hK ⊢
          have HS9 := Lib.hid hS
          obtain ⟨qR, qX, qC, qGW, qO, c0, c1, c2, c3, c4, c5, c6, c7, c8⟩ := hS
          clear qR qC c0 c1 c2 c3 c4 c5 c6 c7 c8
          go_simp
          obtain ⟨qR, qX, qC, qGW, qO, c0, c1, c2, c3, c4, c5, c6, c7, c8⟩ := HS9.out
          exact hK.out _ _ ⟨fun z9 => qR (fun z => z9 (.inl z)), qX, fun z9 => qC (fun z => z9 (.inl z)), qGW, qO, fun h => c0 (h.resolve_right (by decide)), fun _ => rfl, fun h => c2 (h.resolve_right (by decide)), fun h => c3 (h.resolve_right (by decide)), fun h => c4 (h.resolve_right (by decide)), fun h => c5 (h.resolve_right (by decide)), fun h => c6 (h.resolve_right (by decide)), fun h => c7 (h.resolve_right (by decide)), fun h => c8 (h.resolve_right (by decide))⟩ _ rfl
        apply RelH.op2
        · intro L f u K hN hS hK
          simp only [puts, Act.put, List.setIfInBounds_toArray, List.set_cons_zero, List.set_cons_succ, upd, Nat.reduceEqDiff, ↓reduceIte, if_true, if_false] at hK ⊢
          have HS9 := Lib.hid hS
          obtain ⟨qR, qX, qC, qGW, qO, c0, c1, c2, c3, c4, c5, c6, c7, c8⟩ := hS
          clear qR qC c0 c1 c2 c3 c4 c5 c6 c7 c8
          go_simp
          obtain ⟨qR, qX, qC, qGW, qO, c0, c1, c2, c3, c4, c5, c6, c7, c8⟩ := HS9.out
          exact hK.out _ _ ⟨fun z9 => qR (fun z => z9 (.inl z)), qX, fun z9 => qC (fun z => z9 (.inl z)), qGW, qO, fun h => c0 (h.resolve_right (by decide)), fun h => c1 (h.resolve_right (by decide)), fun _ => rfl, fun h => c3 (h.resolve_right (by decide)), fun h => c4 (h.resolve_right (by decide)), fun h => c5 (h.resolve_right (by decide)), fun h => c6 (h.resolve_right (by decide)), fun h => c7 (h.resolve_right (by decide)), fun h => c8 (h.resolve_right (by decide))⟩ _ rfl
        apply RelH.op2
        · intro L f u K hN hS hK
          simp only [puts, Act.put, List.setIfInBounds_toArray, List.set_cons_zero, List.set_cons_succ, upd, Nat.reduceEqDiff, ↓reduceIte, if_true, if_false] at hK ⊢
          have HS9 := Lib.hid hS
          obtain ⟨qR, qX, qC, qGW, qO, c0, c1, c2, c3, c4, c5, c6, c7, c8⟩ := hS
          have e2 := c2 (hN.out.2 2 (by decide +kernel))
          clear qR qC c0 c1 c2 c3 c4 c5 c6 c7 c8
          go_simp
          obtain ⟨qR, qX, qC, qGW, qO, c0, c1, c2, c3, c4, c5, c6, c7, c8⟩ := HS9.out
          exact hK.out _ _ ⟨fun z9 => qR (fun z => z9 (.inl z)), qX, fun z9 => qC (fun z => z9 (.inl z)), qGW, qO, fun h => c0 (h.resolve_right (by decide)), fun h => c1 (h.resolve_right (by decide)), fun h => c2 (h.resolve_right (by decide)), fun _ => rfl, fun h => c4 (h.resolve_right (by decide)), fun h => c5 (h.resolve_right (by decide)), fun h => c6 (h.resolve_right (by decide)), fun h => c7 (h.resolve_right (by decide)), fun h => c8 (h.resolve_right (by decide))⟩ _ (by simp only [e2] <;> rfl)
        apply RelH.op2
        · intro L f u K hN hS hK
          simp only [puts, Act.put, List.setIfInBounds_toArray, List.set_cons_zero, List.set_cons_succ, upd, Nat.reduceEqDiff, ↓reduceIte, if_true, if_false] at hK ⊢
          have HS9 := Lib.hid hS
          obtain ⟨qR, qX, qC, qGW, qO, c0, c1, c2, c3, c4, c5, c6, c7, c8⟩ := hS
          have e1 := c1 (hN.out.2 1 (by decide +kernel))
          have e3 := c3 (hN.out.2 3 (by decide +kernel))
          have HCON := Lib.hid (index_d B zs p K0 u l.length (by omega) (qC (hN.out.1 4 (by decide +kernel))) (by omega))
          clear qR qC c0 c1 c2 c3 c4 c5 c6 c7 c8
          go_simp
          go_at_call 75
          refine HCON.out.mono ?_
          rintro e uw1 ⟨i8, rfl, C9, G⟩
          go_wp2_with fail
          obtain ⟨qR, qX, qC, qGW, qO, c0, c1, c2, c3, c4, c5, c6, c7, c8⟩ := HS9.out
          exact hK.out _ _ ⟨fun z9 => (qR (fun z => z9 (.inl z))).went G (by omega), qX.went G (by omega), fun z9 => (z9 (by simp)).elim, grown_trans qGW G, own_grown qO G (fun k hk => by injection hk with hk; omega), fun h => c0 (h.resolve_right (by decide)), fun h => c1 (h.resolve_right (by decide)), fun h => c2 (h.resolve_right (by decide)), fun h => c3 (h.resolve_right (by decide)), fun _ => ⟨i8, rfl⟩, fun h => c5 (h.resolve_right (by decide)), fun h => c6 (h.resolve_right (by decide)), fun h => c7 (h.resolve_right (by decide)), fun h => ((c8 (h.resolve_right (by decide)))).went G (by omega)⟩ _ (by simp only [e1, e3] <;> rfl)
        apply RelH.op2
        · intro L f u K hN hS hK
          simp only [puts, Act.put, List.setIfInBounds_toArray, List.set_cons_zero, List.set_cons_succ, upd, Nat.reduceEqDiff, ↓reduceIte, if_true, if_false] at hK ⊢
          have HS9 := Lib.hid hS
          obtain ⟨qR, qX, qC, qGW, qO, c0, c1, c2, c3, c4, c5, c6, c7, c8⟩ := hS
          have X_0 := qX.cells 0 _ rfl
          have X_1 := qX.cells 1 _ rfl
          clear qR qC c0 c1 c2 c3 c4 c5 c6 c7 c8
          go_simp
          obtain ⟨qR, qX, qC, qGW, qO, c0, c1, c2, c3, c4, c5, c6, c7, c8⟩ := HS9.out
          exact hK.out _ _ ⟨fun z9 => qR (fun z => z9 (.inl z)), qX, fun z9 => qC (fun z => z9 (.inl z)), qGW, qO, fun h => c0 (h.resolve_right (by decide)), fun h => c1 (h.resolve_right (by decide)), fun h => c2 (h.resolve_right (by decide)), fun h => c3 (h.resolve_right (by decide)), fun h => c4 (h.resolve_right (by decide)), fun _ => rfl, fun h => c6 (h.resolve_right (by decide)), fun h => c7 (h.resolve_right (by decide)), fun h => c8 (h.resolve_right (by decide))⟩ _ rfl
        apply RelH.op2
        · intro L f u K hN hS hK
          simp only [puts, Act.put, List.setIfInBounds_toArray, List.set_cons_zero, List.set_cons_succ, upd, Nat.reduceEqDiff, ↓reduceIte, if_true, if_false] at hK ⊢
          have HS9 := Lib.hid hS
          obtain ⟨qR, qX, qC, qGW, qO, c0, c1, c2, c3, c4, c5, c6, c7, c8⟩ := hS
          have e0 := c0 (hN.out.2 0 (by decide +kernel))
          clear qR qC c0 c1 c2 c3 c4 c5 c6 c7 c8
          go_simp
          obtain ⟨qR, qX, qC, qGW, qO, c0, c1, c2, c3, c4, c5, c6, c7, c8⟩ := HS9.out
          exact hK.out _ _ ⟨fun z9 => qR (fun z => z9 (.inl z)), qX, fun z9 => qC (fun z => z9 (.inl z)), qGW, qO, fun h => c0 (h.resolve_right (by decide)), fun h => c1 (h.resolve_right (by decide)), fun h => c2 (h.resolve_right (by decide)), fun h => c3 (h.resolve_right (by decide)), fun h => c4 (h.resolve_right (by decide)), fun h => c5 (h.resolve_right (by decide)), fun _ => rfl, fun h => c7 (h.resolve_right (by decide)), fun h => c8 (h.resolve_right (by decide))⟩ _ (by simp only [e0] <;> rfl)
        apply RelH.op2
        · intro L f u K hN hS hK
          simp only [puts, Act.put, List.setIfInBounds_toArray, List.set_cons_zero, List.set_cons_succ, upd, Nat.reduceEqDiff, ↓reduceIte, if_true, if_false] at hK ⊢
          have HS9 := Lib.hid hS
          obtain ⟨qR, qX, qC, qGW, qO, c0, c1, c2, c3, c4, c5, c6, c7, c8⟩ := hS
          obtain ⟨i, e4⟩ := c4 (hN.out.2 4 (by decide +kernel))
          clear qR qC c0 c1 c2 c3 c4 c5 c6 c7 c8
          go_simp
          obtain ⟨qR, qX, qC, qGW, qO, c0, c1, c2, c3, c4, c5, c6, c7, c8⟩ := HS9.out
          exact hK.out _ _ ⟨fun z9 => qR (fun z => z9 (.inl z)), qX, fun z9 => qC (fun z => z9 (.inl z)), qGW, qO, fun h => c0 (h.resolve_right (by decide)), fun h => c1 (h.resolve_right (by decide)), fun h => c2 (h.resolve_right (by decide)), fun h => c3 (h.resolve_right (by decide)), fun h => c4 (h.resolve_right (by decide)), fun h => c5 (h.resolve_right (by decide)), fun h => c6 (h.resolve_right (by decide)), fun _ => ⟨i, rfl⟩, fun h => c8 (h.resolve_right (by decide))⟩ _ (by simp only [e4] <;> rfl)
        apply RelH.op2
        · intro L f u K hN hS hK
          simp only [puts, Act.put, List.setIfInBounds_toArray, List.set_cons_zero, List.set_cons_succ, upd, Nat.reduceEqDiff, ↓reduceIte, if_true, if_false] at hK ⊢
          have HS9 := Lib.hid hS
          obtain ⟨qR, qX, qC, qGW, qO, c0, c1, c2, c3, c4, c5, c6, c7, c8⟩ := hS
          have e5 := c5 (hN.out.2 5 (by decide +kernel))
          have qR1 := qR (hN.out.1 8 (by decide +kernel))
          have R_0 := qR1.cells 0 _ rfl
          have R_1 := qR1.cells 1 _ rfl
          have R_f0 := qR1.free 0 (by simp)
          have R_f1 := qR1.free 1 (by simp)
          clear qR qC c0 c1 c2 c3 c4 c5 c6 c7 c8
          go_simp
          obtain ⟨qR, qX, qC, qGW, qO, c0, c1, c2, c3, c4, c5, c6, c7, c8⟩ := HS9.out
          exact hK.out undef _ ⟨fun z9 => (z9 (by simp)).elim, ((qX.far (k := w.heap.size) (by omega) 0 (.int .i64 x)).far (k := w.heap.size) (by omega) 1 (.int .i64 y)), fun z9 => (z9 (.inl (hN.out.2 4 (by decide +kernel)))).elim, (grown_set (grown_set qGW (Nat.le_refl _) 0 (.int .i64 x)) (Nat.le_refl _) 1 (.int .i64 y)), (own_far (own_far qO (k := w.heap.size) (by omega) 0 (.int .i64 x)) (k := w.heap.size) (by omega) 1 (.int .i64 y)), fun h => c0 (h.resolve_right (by decide)), fun h => c1 (h.resolve_right (by decide)), fun h => c2 (h.resolve_right (by decide)), fun h => c3 (h.resolve_right (by decide)), fun h => c4 (h.resolve_right (by decide)), fun h => c5 (h.resolve_right (by decide)), fun h => c6 (h.resolve_right (by decide)), fun h => c7 (h.resolve_right (by decide)), fun _ => ((qR1.set 0 (.int .i64 x)).set 1 (.int .i64 y))⟩ _ (by simp only [e5] <;> rfl)
        exact RelH.done
      intro L f V0 hL hS
      simp only [puts, Act.put, List.setIfInBounds_toArray, List.set_cons_zero, List.set_cons_succ]
      obtain ⟨qR, qX, qC, qGW, qO, c0, c1, c2, c3, c4, c5, c6, c7, c8⟩ := hS
      have R9 := c8 (hL 8 (by decide))
      have HB := below_of qGW (by omega)
      have e6 := c6 (hL 6 (by decide))
      obtain ⟨i9, e7⟩ := c7 (hL 7 (by decide))
      simp only [e6, e7]
      clear c0 c1 c2 c3 c4 c5 c6 c7 c8 hL e6 e7 qC qX qR
      have q0 := R9.cells 0 _ rfl
      have q1 := R9.cells 1 _ rfl
      go_wp2
      exact bodyPost_ret (v := .tuple #[.slice (some ⟨g, 0, none⟩) l.length c, .int .i64 i9, .agg #[.int .i64 x, .int .i64 y]]) (by simp [results, Try.results31, go_sem, q0, q1]) rfl ⟨l, g, c, i9, x, y, xy_r, rfl, ⟨hl, own_base qO (by omega)⟩, HB⟩
  · have hp0 : decide ((0 : Int) < (M.length : Int)) = false := decide_eq_false (by omega)
    go_upto_region 7 with fail
    obtain ⟨K0, hK0, hK1⟩ : ∃ K0 : Nat, K0 ≤ 600000000 ∧ 0 + 2 + 100 + 8 = K0 := ⟨_, by omega, rfl⟩
    rw [hK1] at C
    clear hK1
    refine wp_region_rel [46, 47, 48, 49, 50, 51, 2, 3] (fun L f w' => (¬ L 8 → Cb w.heap.size [.int .i64 0, .int .i64 0] w') ∧ (Cb gx [.int .i64 x, .int .i64 y] w') ∧ (¬ L 4 → Cu B zs p K0 w') ∧ (w.grownBy w' (some p)) ∧ (w'.ownsRow bO 54 2 (.slice (some ⟨g, 0, none⟩) l.length c) l.length (flat l)) ∧ (L 0 → f 46 = .slice (some ⟨g, 0, none⟩) l.length c) ∧ (L 1 → f 47 = .pointer (some ⟨p, 0, none⟩)) ∧ (L 2 → f 48 = .slice (some ⟨g, 0, none⟩) l.length c) ∧ (L 3 → f 49 = .int .i64 (l.length : Int)) ∧ (L 4 → ∃ i, f 50 = .int .i64 i) ∧ (L 5 → f 51 = .agg #[.int .i64 x, .int .i64 y]) ∧ (L 6 → f 2 = .slice (some ⟨g, 0, none⟩) l.length c) ∧ (L 7 → ∃ i, f 3 = .int .i64 i) ∧ (L 8 → Cb w.heap.size [.int .i64 x, .int .i64 y] w')) (by kernel_rfl) (by kernel_rfl) (by kernel_rfl) (fun f => ⟨fun _ => R.more (Below.refl _ _).drew, X.more (Below.refl _ _).drew, fun _ => C.more (Below.refl _ _).drew, grown_more GW (Below.refl _ _).drew, own_keep O (Below.refl _ _).drew, fun h => h.elim, fun h => h.elim, fun h => h.elim, fun h => h.elim, fun h => h.elim, fun h => h.elim, fun h => h.elim, fun h => h.elim, fun h => h.elim⟩) ?_ ?_
    · apply RelH.op2
      · intro L f u K hN hS hK
        simp only [puts, Act.put, List.setIfInBounds_toArray, List.set_cons_zero, List.set_cons_succ, upd, Nat.reduceEqDiff, ↓reduceIte, if_true, if_false] at hK ⊢
        have HS9 := Lib.hid hS
        obtain ⟨qR, qX, qC, qGW, qO, c0, c1, c2, c3, c4, c5, c6, c7, c8⟩ := hS
        clear qR qC c0 c1 c2 c3 c4 c5 c6 c7 c8
        go_simp
        obtain ⟨qR, qX, qC, qGW, qO, c0, c1, c2, c3, c4, c5, c6, c7, c8⟩ := HS9.out
        exact hK.out _ _ ⟨fun z9 => qR (fun z => z9 (.inl z)), qX, fun z9 => qC (fun z => z9 (.inl z)), qGW, qO, fun _ => rfl, fun h => c1 (h.resolve_right (by decide)), fun h => c2 (h.resolve_right (by decide)), fun h => c3 (h.resolve_right (by decide)), fun h => c4 (h.resolve_right (by decide)), fun h => c5 (h.resolve_right (by decide)), fun h => c6 (h.resolve_right (by decide)), fun h => c7 (h.resolve_right (by decide)), fun h => c8 (h.resolve_right (by decide))⟩ _ rfl
      apply RelH.op2
      · intro L f u K hN hS hK
        simp only [puts, Act.put, List.setIfInBounds_toArray, List.set_cons_zero, List.set_cons_succ, upd, Nat.reduceEqDiff, ↓reduceIte, if_true, if_false] at hK ⊢
        have HS9 := Lib.hid hS
        obtain ⟨qR, qX, qC, qGW, qO, c0, c1, c2, c3, c4, c5, c6, c7, c8⟩ := hS
        clear qR qC c0 c1 c2 c3 c4 c5 c6 c7 c8
        go_simp
        obtain ⟨qR, qX, qC, qGW, qO, c0, c1, c2, c3, c4, c5, c6, c7, c8⟩ := HS9.out
        exact hK.out _ _ ⟨fun z9 => qR (fun z => z9 (.inl z)), qX, fun z9 => qC (fun z => z9 (.inl z)), qGW, qO, fun h => c0 (h.resolve_right (by decide)), fun _ => rfl, fun h => c2 (h.resolve_right (by decide)), fun h => c3 (h.resolve_right (by decide)), fun h => c4 (h.resolve_right (by decide)), fun h => c5 (h.resolve_right (by decide)), fun h => c6 (h.resolve_right (by decide)), fun h => c7 (h.resolve_right (by decide)), fun h => c8 (h.resolve_right (by decide))⟩ _ rfl
      apply RelH.op2
      · intro L f u K hN hS hK
        simp only [puts, Act.put, List.setIfInBounds_toArray, List.set_cons_zero, List.set_cons_succ, upd, Nat.reduceEqDiff, ↓reduceIte, if_true, if_false] at hK ⊢
        have HS9 := Lib.hid hS
        obtain ⟨qR, qX, qC, qGW, qO, c0, c1, c2, c3, c4, c5, c6, c7, c8⟩ := hS
        clear qR qC c0 c1 c2 c3 c4 c5 c6 c7 c8
        go_simp
        obtain ⟨qR, qX, qC, qGW, qO, c0, c1, c2, c3, c4, c5, c6, c7, c8⟩ := HS9.out
        exact hK.out _ _ ⟨fun z9 => qR (fun z => z9 (.inl z)), qX, fun z9 => qC (fun z => z9 (.inl z)), qGW, qO, fun h => c0 (h.resolve_right (by decide)), fun h => c1 (h.resolve_right (by decide)), fun _ => rfl, fun h => c3 (h.resolve_right (by decide)), fun h => c4 (h.resolve_right (by decide)), fun h => c5 (h.resolve_right (by decide)), fun h => c6 (h.resolve_right (by decide)), fun h => c7 (h.resolve_right (by decide)), fun h => c8 (h.resolve_right (by decide))⟩ _ rfl
      apply RelH.op2
      · intro L f u K hN hS hK
        simp only [puts, Act.put, List.setIfInBounds_toArray, List.set_cons_zero, List.set_cons_succ, upd, Nat.reduceEqDiff, ↓reduceIte, if_true, if_false] at hK ⊢
        have HS9 := Lib.hid hS
        obtain ⟨qR, qX, qC, qGW, qO, c0, c1, c2, c3, c4, c5, c6, c7, c8⟩ := hS
        have e2 := c2 (hN.out.2 2 (by decide +kernel))
        clear qR qC c0 c1 c2 c3 c4 c5 c6 c7 c8
        go_simp
        obtain ⟨qR, qX, qC, qGW, qO, c0, c1, c2, c3, c4, c5, c6, c7, c8⟩ := HS9.out
        exact hK.out _ _ ⟨fun z9 => qR (fun z => z9 (.inl z)), qX, fun z9 => qC (fun z => z9 (.inl z)), qGW, qO, fun h => c0 (h.resolve_right (by decide)), fun h => c1 (h.resolve_right (by decide)), fun h => c2 (h.resolve_right (by decide)), fun _ => rfl, fun h => c4 (h.resolve_right (by decide)), fun h => c5 (h.resolve_right (by decide)), fun h => c6 (h.resolve_right (by decide)), fun h => c7 (h.resolve_right (by decide)), fun h => c8 (h.resolve_right (by decide))⟩ _ (by simp only [e2] <;> rfl)
      apply RelH.op2
      · intro L f u K hN hS hK
        simp only [puts, Act.put, List.setIfInBounds_toArray, List.set_cons_zero, List.set_cons_succ, upd, Nat.reduceEqDiff, ↓reduceIte, if_true, if_false] at hK ⊢
        have HS9 := Lib.hid hS
        obtain ⟨qR, qX, qC, qGW, qO, c0, c1, c2, c3, c4, c5, c6, c7, c8⟩ := hS
        have e1 := c1 (hN.out.2 1 (by decide +kernel))
        have e3 := c3 (hN.out.2 3 (by decide +kernel))
        have HCON := Lib.hid (index_d B zs p K0 u l.length (by omega) (qC (hN.out.1 4 (by decide +kernel))) (by omega))
        clear qR qC c0 c1 c2 c3 c4 c5 c6 c7 c8
        go_simp
        go_at_call 75
        refine HCON.out.mono ?_
        rintro e uw1 ⟨i8, rfl, C9, G⟩
        go_wp2_with fail
        obtain ⟨qR, qX, qC, qGW, qO, c0, c1, c2, c3, c4, c5, c6, c7, c8⟩ := HS9.out
        exact hK.out _ _ ⟨fun z9 => (qR (fun z => z9 (.inl z))).went G (by omega), qX.went G (by omega), fun z9 => (z9 (by simp)).elim, grown_trans qGW G, own_grown qO G (fun k hk => by injection hk with hk; omega), fun h => c0 (h.resolve_right (by decide)), fun h => c1 (h.resolve_right (by decide)), fun h => c2 (h.resolve_right (by decide)), fun h => c3 (h.resolve_right (by decide)), fun _ => ⟨i8, rfl⟩, fun h => c5 (h.resolve_right (by decide)), fun h => c6 (h.resolve_right (by decide)), fun h => c7 (h.resolve_right (by decide)), fun h => ((c8 (h.resolve_right (by decide)))).went G (by omega)⟩ _ (by simp only [e1, e3] <;> rfl)
      apply RelH.op2
      · intro L f u K hN hS hK
        simp only [puts, Act.put, List.setIfInBounds_toArray, List.set_cons_zero, List.set_cons_succ, upd, Nat.reduceEqDiff, ↓reduceIte, if_true, if_false] at hK ⊢
        have HS9 := Lib.hid hS
        obtain ⟨qR, qX, qC, qGW, qO, c0, c1, c2, c3, c4, c5, c6, c7, c8⟩ := hS
        have X_0 := qX.cells 0 _ rfl
        have X_1 := qX.cells 1 _ rfl
        clear qR qC c0 c1 c2 c3 c4 c5 c6 c7 c8
        go_simp
        obtain ⟨qR, qX, qC, qGW, qO, c0, c1, c2, c3, c4, c5, c6, c7, c8⟩ := HS9.out
        exact hK.out _ _ ⟨fun z9 => qR (fun z => z9 (.inl z)), qX, fun z9 => qC (fun z => z9 (.inl z)), qGW, qO, fun h => c0 (h.resolve_right (by decide)), fun h => c1 (h.resolve_right (by decide)), fun h => c2 (h.resolve_right (by decide)), fun h => c3 (h.resolve_right (by decide)), fun h => c4 (h.resolve_right (by decide)), fun _ => rfl, fun h => c6 (h.resolve_right (by decide)), fun h => c7 (h.resolve_right (by decide)), fun h => c8 (h.resolve_right (by decide))⟩ _ rfl
      apply RelH.op2
      · intro L f u K hN hS hK
        simp only [puts, Act.put, List.setIfInBounds_toArray, List.set_cons_zero, List.set_cons_succ, upd, Nat.reduceEqDiff, ↓reduceIte, if_true, if_false] at hK ⊢
        have HS9 := Lib.hid hS
        obtain ⟨qR, qX, qC, qGW, qO, c0, c1, c2, c3, c4, c5, c6, c7, c8⟩ := hS
        have e0 := c0 (hN.out.2 0 (by decide +kernel))
        clear qR qC c0 c1 c2 c3 c4 c5 c6 c7 c8
        go_simp
        obtain ⟨qR, qX, qC, qGW, qO, c0, c1, c2, c3, c4, c5, c6, c7, c8⟩ := HS9.out
        exact hK.out _ _ ⟨fun z9 => qR (fun z => z9 (.inl z)), qX, fun z9 => qC (fun z => z9 (.inl z)), qGW, qO, fun h => c0 (h.resolve_right (by decide)), fun h => c1 (h.resolve_right (by decide)), fun h => c2 (h.resolve_right (by decide)), fun h => c3 (h.resolve_right (by decide)), fun h => c4 (h.resolve_right (by decide)), fun h => c5 (h.resolve_right (by decide)), fun _ => rfl, fun h => c7 (h.resolve_right (by decide)), fun h => c8 (h.resolve_right (by decide))⟩ _ (by simp only [e0] <;> rfl)
      apply RelH.op2
      · intro L f u K hN hS hK
        simp only [puts, Act.put, List.setIfInBounds_toArray, List.set_cons_zero, List.set_cons_succ, upd, Nat.reduceEqDiff, ↓reduceIte, if_true, if_false] at hK ⊢
        have HS9 := Lib.hid hS
        obtain ⟨qR, qX, qC, qGW, qO, c0, c1, c2, c3, c4, c5, c6, c7, c8⟩ := hS
        obtain ⟨i, e4⟩ := c4 (hN.out.2 4 (by decide +kernel))
        clear qR qC c0 c1 c2 c3 c4 c5 c6 c7 c8
        go_simp
        obtain ⟨qR, qX, qC, qGW, qO, c0, c1, c2, c3, c4, c5, c6, c7, c8⟩ := HS9.out
        exact hK.out _ _ ⟨fun z9 => qR (fun z => z9 (.inl z)), qX, fun z9 => qC (fun z => z9 (.inl z)), qGW, qO, fun h => c0 (h.resolve_right (by decide)), fun h => c1 (h.resolve_right (by decide)), fun h => c2 (h.resolve_right (by decide)), fun h => c3 (h.resolve_right (by decide)), fun h => c4 (h.resolve_right (by decide)), fun h => c5 (h.resolve_right (by decide)), fun h => c6 (h.resolve_right (by decide)), fun _ => ⟨i, rfl⟩, fun h => c8 (h.resolve_right (by decide))⟩ _ (by simp only [e4] <;> rfl)
      apply RelH.op2
      · intro L f u K hN hS hK
        simp only [puts, Act.put, List.setIfInBounds_toArray, List.set_cons_zero, List.set_cons_succ, upd, Nat.reduceEqDiff, ↓reduceIte, if_true, if_false] at hK ⊢
        have HS9 := Lib.hid hS
        obtain ⟨qR, qX, qC, qGW, qO, c0, c1, c2, c3, c4, c5, c6, c7, c8⟩ := hS
        have e5 := c5 (hN.out.2 5 (by decide +kernel))
        have qR1 := qR (hN.out.1 8 (by decide +kernel))
        have R_0 := qR1.cells 0 _ rfl
        have R_1 := qR1.cells 1 _ rfl
        have R_f0 := qR1.free 0 (by simp)
        have R_f1 := qR1.free 1 (by simp)
        clear qR qC c0 c1 c2 c3 c4 c5 c6 c7 c8
        go_simp
        obtain ⟨qR, qX, qC, qGW, qO, c0, c1, c2, c3, c4, c5, c6, c7, c8⟩ := HS9.out
        exact hK.out undef _ ⟨fun z9 => (z9 (by simp)).elim, ((qX.far (k := w.heap.size) (by omega) 0 (.int .i64 x)).far (k := w.heap.size) (by omega) 1 (.int .i64 y)), fun z9 => (z9 (.inl (hN.out.2 4 (by decide +kernel)))).elim, (grown_set (grown_set qGW (Nat.le_refl _) 0 (.int .i64 x)) (Nat.le_refl _) 1 (.int .i64 y)), (own_far (own_far qO (k := w.heap.size) (by omega) 0 (.int .i64 x)) (k := w.heap.size) (by omega) 1 (.int .i64 y)), fun h => c0 (h.resolve_right (by decide)), fun h => c1 (h.resolve_right (by decide)), fun h => c2 (h.resolve_right (by decide)), fun h => c3 (h.resolve_right (by decide)), fun h => c4 (h.resolve_right (by decide)), fun h => c5 (h.resolve_right (by decide)), fun h => c6 (h.resolve_right (by decide)), fun h => c7 (h.resolve_right (by decide)), fun _ => ((qR1.set 0 (.int .i64 x)).set 1 (.int .i64 y))⟩ _ (by simp only [e5] <;> rfl)
      exact RelH.done
    intro L f V0 hL hS
    simp only [puts, Act.put, List.setIfInBounds_toArray, List.set_cons_zero, List.set_cons_succ]
    obtain ⟨qR, qX, qC, qGW, qO, c0, c1, c2, c3, c4, c5, c6, c7, c8⟩ := hS
    have R9 := c8 (hL 8 (by decide))
    have HB := below_of qGW (by omega)
    have e6 := c6 (hL 6 (by decide))
    obtain ⟨i9, e7⟩ := c7 (hL 7 (by decide))
    simp only [e6, e7]
    clear c0 c1 c2 c3 c4 c5 c6 c7 c8 hL e6 e7 qC qX qR
    have q0 := R9.cells 0 _ rfl
    have q1 := R9.cells 1 _ rfl
    go_wp2
    exact bodyPost_ret (v := .tuple #[.slice (some ⟨g, 0, none⟩) l.length c, .int .i64 i9, .agg #[.int .i64 x, .int .i64 y]]) (by simp [results, Try.results31, go_sem, q0, q1]) rfl ⟨l, g, c, i9, x, y, xy_r, rfl, ⟨hl, own_base qO (by omega)⟩, HB⟩
set_option maxHeartbeats 800000 in
theorem vrungs_any (A A' : Option Addr) (c c' : Nat) (l : List R) (w : World) (hr : Rd w w.heap.size A (flat l)) (hr' : Rd w w.heap.size A' (flat l)) (hn : l.length ≤ 1048576) :
    Calls Try.prog 18 #[.slice A l.length c, .slice A' l.length c'] w fun e w' => e = .returned (.bool true) ∧ Drawn w w' := by
  have HR := Lib.hid hr; clear hr
  have HR' := Lib.hid hr'; clear hr'
  go_enter Try.func18, Try.ntmps18
  go_wp2
  go_loopw [5] (fun i wr => ∃ k : Nat, k ≤ l.length ∧ i = .int .i64 k ∧ Drawn w wr) (fun i _ => l.length - (intOf i).toNat)
  case atStart => exact ⟨0, Nat.zero_le _, rfl, Drawn.refl _⟩
  case round =>
    obtain ⟨k, hk, rfl, hw⟩ := hrel
    have HW := Lib.hid hw; clear hw
    by_cases hlt : k < l.length
    · obtain ⟨b, o, rfl, hb, hc⟩ := HR.out.at (k := k * 2) (by rw [flat_n]; omega)
      obtain ⟨b', o', rfl, hb', hc'⟩ := HR'.out.at (k := k * 2) (by rw [flat_n]; omega)
      have h0 : wr.cell? ⟨b, o + k * 2, none⟩ = some (.int .i64 l[k].f0) := (HW.out.cell _ _).trans (hc _ _ (flat_0 l k hlt))
      have h1 : wr.cell? ⟨b, o + k * 2 + 1, none⟩ = some (.int .i64 l[k].f1) := by rw [Nat.add_assoc]; exact (HW.out.cell _ _).trans (hc _ _ (flat_1 l k hlt))
      have h3 : wr.cell? ⟨b', o' + k * 2, none⟩ = some (.int .i64 l[k].f0) := (HW.out.cell _ _).trans (hc' _ _ (flat_0 l k hlt))
      have h4 : wr.cell? ⟨b', o' + k * 2 + 1, none⟩ = some (.int .i64 l[k].f1) := by rw [Nat.add_assoc]; exact (HW.out.cell _ _).trans (hc' _ _ (flat_1 l k hlt))
      have e3 : IntKind.i64.wrap ((k : Int) + 1) = k + 1 := IntWalk.i64_in _ (by omega)
      clear hc hc'
      generalize l[k].f0 = p0 at h0 h3
      generalize l[k].f1 = p1 at h1 h4
      go_wp2_with fail
      go_quiet (fail)
      generalize nq = q1
      go_wp2
      exact ⟨⟨k + 1, hlt, by go_num, HW.out.more _⟩, by simp [intOf]; omega⟩
    · go_wp2
      go_ret
      exact ⟨rfl, HW.out⟩
set_option maxHeartbeats 800000 in
theorem vints_same (A A' : Option Addr) (c c' : Nat) (l : List Int) (w : World) (hr : Rd w w.heap.size A (SInt.iv l)) (hr' : Rd w w.heap.size A' (SInt.iv l)) (hn : l.length ≤ 1048576) :
    Calls Try.prog 24 #[.slice A l.length c, .slice A' l.length c'] w fun e w' => e = .returned (.bool true) ∧ Drawn w w' := by
  have HR := Lib.hid hr; clear hr
  have HR' := Lib.hid hr'; clear hr'
  go_enter Try.func24, Try.ntmps24
  go_wp2
  go_loopw [5] (fun i wr => ∃ k : Nat, k ≤ l.length ∧ i = .int .i64 k ∧ Drawn w wr) (fun i _ => l.length - (intOf i).toNat)
  case atStart => exact ⟨0, Nat.zero_le _, rfl, Drawn.refl _⟩
  case round =>
    obtain ⟨k, hk, rfl, hw⟩ := hrel
    have HW := Lib.hid hw; clear hw
    by_cases hlt : k < l.length
    · obtain ⟨b, o, rfl, hb, hc⟩ := HR.out.at (k := k) (by rw [SInt.iv_len]; exact hlt)
      obtain ⟨b', o', rfl, hb', hc'⟩ := HR'.out.at (k := k) (by rw [SInt.iv_len]; exact hlt)
      have h0 : wr.cell? ⟨b, o + k, none⟩ = some (.int .i64 l[k]) := (HW.out.cell _ _).trans (hc _ _ (SInt.iv_get l k hlt))
      have h1 : wr.cell? ⟨b', o' + k, none⟩ = some (.int .i64 l[k]) := (HW.out.cell _ _).trans (hc' _ _ (SInt.iv_get l k hlt))
      have e3 : IntKind.i64.wrap ((k : Int) + 1) = k + 1 := IntWalk.i64_in _ (by omega)
      clear hc hc'
      generalize l[k] = p0 at h0 h1
      go_wp2_with fail
      go_quiet (fail)
      generalize nq = q1
      go_wp2
      exact ⟨⟨k + 1, hlt, by go_num, HW.out.more _⟩, by simp [intOf]; omega⟩
    · go_wp2
      go_ret
      exact ⟨rfl, HW.out⟩
theorem has_end {l : List Int} {k : Nat} (x : Int) (h : l.length ≤ k) : LadFacts.hasI (l.drop k) x = false := by rw [List.drop_eq_nil_of_le h]; rfl
theorem has_here {l : List Int} {k : Nat} {x : Int} (h : k < l.length) (hx : l[k] = x) : LadFacts.hasI (l.drop k) x = true := by
  rw [List.drop_eq_getElem_cons h]; unfold LadFacts.hasI; rw [List.any_cons, hx]; simp
theorem has_next {l : List Int} {k : Nat} {x : Int} (h : k < l.length) (hx : ¬ l[k] = x) : LadFacts.hasI (l.drop k) x = LadFacts.hasI (l.drop (k + 1)) x := by
  rw [List.drop_eq_getElem_cons h]; unfold LadFacts.hasI; rw [List.any_cons, beq_eq_false_iff_ne.2 hx, Bool.false_or]
set_option maxHeartbeats 800000 in
theorem vhas_any (A : Option Addr) (c : Nat) (l : List Int) (x : Int) (w : World) (hr : Rd w w.heap.size A (SInt.iv l)) (hn : l.length ≤ 1048576) :
    Calls Try.prog 25 #[.slice A l.length c, .int .i64 x] w fun e w' => e = .returned (.bool (LadFacts.hasI l x)) ∧ Drawn w w' := by
  have HR := Lib.hid hr; clear hr
  go_enter Try.func25, Try.ntmps25
  go_wp2
  go_loopw [5] (fun i wr => ∃ k : Nat, k ≤ l.length ∧ i = .int .i64 k ∧ Hid (LadFacts.hasI l x = LadFacts.hasI (l.drop k) x) ∧ wr = w) (fun i _ => l.length - (intOf i).toNat)
  case atStart => exact ⟨0, Nat.zero_le _, rfl, Lib.hid (by rw [List.drop_zero]), rfl⟩
  case round =>
    obtain ⟨k, hk, rfl, HH, rfl⟩ := hrel
    by_cases hlt : k < l.length
    · obtain ⟨b, o, rfl, hb, hc⟩ := HR.out.at (k := k) (by rw [SInt.iv_len]; exact hlt)
      have h0 : wr.cell? ⟨b, o + k, none⟩ = some (.int .i64 l[k]) := hc _ _ (SInt.iv_get l k hlt)
      have HL := Lib.hid hlt
      by_cases he : l[k] = x
      · have HV := Lib.hid (HH.out.trans (has_here hlt he))
        have he' : (l[k] == x) = true := beq_iff_eq.2 he
        generalize l[k] = p0 at h0 he'
        clear hc he
        go_wp2
        go_ret
        exact ⟨by rw [HV.out] <;> rfl, Drawn.refl _⟩
      · have HV := Lib.hid (HH.out.trans (has_next hlt he))
        have he' : (l[k] == x) = false := beq_eq_false_iff_ne.2 he
        generalize l[k] = p0 at h0 he'
        clear hc he
        go_wp2
        go_roundw
        case rel => exact ⟨k + 1, HL.out, by go_num, HV, trivial⟩
        case measure => have := HL.out; simp [intOf]; omega
    · have HV := Lib.hid (HH.out.trans (has_end x (by omega)))
      go_wp2
      go_ret
      exact ⟨by rw [HV.out] <;> rfl, Drawn.refl _⟩
end Go.Proofs.Ytngominkeammiaa.DLad2
