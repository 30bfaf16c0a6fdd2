/- The draws of chapter 4. -/
import Derived.Test.YtbbnbkdglihhhaaDTide
namespace Go.Proofs.Ytbbnbkdglihhhaa.DTide2
open Go.RowKit Go.Proofs.Ytbbnbkdglihhhaa.Mem Go.Proofs.Ytbbnbkdglihhhaa.Base Go.Proofs.Ytbbnbkdglihhhaa.Draw Go.Proofs.Ytbbnbkdglihhhaa.Boxes Go.Proofs.Ytbbnbkdglihhhaa.Keep Go.Proofs.Ytbbnbkdglihhhaa.Dr Go.Proofs.Ytbbnbkdglihhhaa.SMark Go.Proofs.Ytbbnbkdglihhhaa.MClone Go.Proofs.Ytbbnbkdglihhhaa.RMark Go.Proofs.Ytbbnbkdglihhhaa.DTide
set_option linter.unusedVariables false
set_option maxRecDepth 100000
theorem below_of {w W V : World} {row : Option Nat} (h : Below w.heap.size w W) (hg : W.grownBy V row) (hr : ∀ k, row = some k → w.heap.size ≤ k) : Below w.heap.size w V := bl_grown h hg hr
theorem cu_new {w : World} {A : Option Addr} {zs : List Int} (h : Src w A zs) (cap : Nat) : Cu w.heap.size zs w.heap.size 0 (w.alloc (.cells #[.slice A zs.length cap, .int .i64 0, .int .u64 0] 70)) := ⟨0, Nat.le_refl _, cur_new h cap⟩
def OL (L : List R) (g c : Nat) (w w' : World) : Prop := 1 ≤ L.length ∧ L.length ≤ 20 ∧ w'.ownsRow w.heap.size 95 2 (.slice (some ⟨g, 0, none⟩) L.length c) L.length (flat L) ∧ Below w.heap.size w w'
def T1 (w : World) (e : Ending) (w' : World) : Prop := ∃ (L : List R) (g c : Nat), e = .returned (.slice (some ⟨g, 0, none⟩) L.length c) ∧ OL L g c w w'
def T2 (w : World) (e : Ending) (w' : World) : Prop := ∃ (L : List R) (g c : Nat) (x : Int), e = .returned (.tuple #[.slice (some ⟨g, 0, none⟩) L.length c, .int .i64 x]) ∧ OL L g c w w'
def T3 (w : World) (e : Ending) (w' : World) : Prop := ∃ (L : List R) (g c : Nat) (x y : Int), e = .returned (.tuple #[.slice (some ⟨g, 0, none⟩) L.length c, .int .i64 x, .int .i64 y]) ∧ OL L g c w w'
set_option maxHeartbeats 800000 in
theorem drawIs (A : Option Addr) (cap : Nat) (zs : List Int) (w : World) (h : Src w A zs) : Calls Try.prog 98 #[.slice A zs.length cap] w (T1 w) := by
  have C0 := cu_new h cap
  have HC := Lib.hid C0; clear C0
  go_enter Try.func98, Try.ntmps98
  go_wp2_with fail
  have HB : Below w.heap.size w (w.alloc (.cells #[.slice A zs.length cap, .int .i64 0, .int .u64 0] 70)) := al (Below.refl _ _)
  have C := HC.out
  have hsz : (w.alloc (.cells #[.slice A zs.length cap, .int .i64 0, .int .u64 0] 70)).heap.size = w.heap.size + 1 := size_alloc' _ _
  clear HC
  generalize w.alloc (.cells #[.slice A zs.length cap, .int .i64 0, .int .u64 0] 70) = v at HB C hsz ⊢
  refine (tide_d w.heap.size zs w.heap.size 0 v C (by omega)).mono ?_
  rintro e v1 ⟨L, g, c, hl0, hl, rfl, O, C1, G⟩
  have hg := own_ge O g (by simp [Value.ownBlock])
  have HB1 := below_of HB G (fun k hk => by injection hk with hk; omega)
  have z1 : w.heap.size < v1.heap.size := C1.lt
  clear C G HB
  have O1 := own_base O (base' := w.heap.size) (by omega)
  go_wp2
  go_ret
  exact ⟨L, g, c, rfl, hl0, hl, O1, HB1⟩
set_option maxHeartbeats 800000 in
theorem drawHigh (A : Option Addr) (cap : Nat) (zs : List Int) (w : World) (h : Src w A zs) : Calls Try.prog 51 #[.slice A zs.length cap] w (T1 w) := by
  go_enter Try.func51, Try.ntmps51
  go_wp2_with fail
  refine (drawIs A cap zs w h).mono ?_
  rintro e v ⟨L, g, c, rfl, H⟩
  go_wp2
  go_ret
  exact ⟨L, g, c, rfl, H⟩
set_option maxHeartbeats 800000 in
theorem drawTurns (A : Option Addr) (cap : Nat) (zs : List Int) (w : World) (h : Src w A zs) : Calls Try.prog 53 #[.slice A zs.length cap] w (T1 w) := by
  go_enter Try.func53, Try.ntmps53
  go_wp2_with fail
  refine (drawIs A cap zs w h).mono ?_
  rintro e v ⟨L, g, c, rfl, H⟩
  go_wp2
  go_ret
  exact ⟨L, g, c, rfl, H⟩
set_option maxHeartbeats 800000 in
theorem drawMin (A : Option Addr) (cap : Nat) (zs : List Int) (w : World) (h : Src w A zs) : Calls Try.prog 29 #[.slice A zs.length cap] w (T3 w) := by
  have C0 := cu_new h cap
  have HC := Lib.hid C0; clear C0
  go_enter Try.func29, Try.ntmps29
  go_wp2_with fail
  have HB : Below w.heap.size w (w.alloc (.cells #[.slice A zs.length cap, .int .i64 0, .int .u64 0] 70)) := al (Below.refl _ _)
  have C := HC.out
  have hsz : (w.alloc (.cells #[.slice A zs.length cap, .int .i64 0, .int .u64 0] 70)).heap.size = w.heap.size + 1 := size_alloc' _ _
  clear HC
  generalize w.alloc (.cells #[.slice A zs.length cap, .int .i64 0, .int .u64 0] 70) = v at HB C hsz ⊢
  refine (tide_d w.heap.size zs w.heap.size 0 v C (by omega)).mono ?_
  rintro e v1 ⟨L, g, c, hl0, hl, rfl, O, C1, G⟩
  have hg := own_ge O g (by simp [Value.ownBlock])
  have HB1 := below_of HB G (fun k hk => by injection hk with hk; omega)
  have z1 : w.heap.size < v1.heap.size := C1.lt
  clear C G HB
  go_wp2_with fail
  refine (height_d w.heap.size zs w.heap.size _ v1 C1 (by omega)).mono ?_
  rintro e v2 ⟨x, xr, rfl, C2, G2⟩
  have O2 := own_grownN (O) G2 (fun k hk => by injection hk with hk; omega)
  have HB2 := below_of (HB1) G2 (fun k hk => by injection hk with hk; omega)
  have z2 : w.heap.size < v2.heap.size := C2.lt
  go_wp2_with fail
  refine (height_d w.heap.size zs w.heap.size _ v2 C2 (by omega)).mono ?_
  rintro e v3 ⟨y, yr, rfl, C3, G3⟩
  have O3 := own_grownN (O2) G3 (fun k hk => by injection hk with hk; omega)
  have HB3 := below_of (HB2) G3 (fun k hk => by injection hk with hk; omega)
  have z3 : w.heap.size < v3.heap.size := C3.lt
  have O9 := own_base O3 (base' := w.heap.size) (by omega)
  go_wp2
  go_ret3
  exact ⟨L, g, c, x, y, rfl, hl0, hl, O9, HB3⟩
set_option maxHeartbeats 800000 in
theorem drawArea (A : Option Addr) (cap : Nat) (zs : List Int) (w : World) (h : Src w A zs) : Calls Try.prog 48 #[.slice A zs.length cap] w (T2 w) := by
  have C0 := cu_new h cap
  have HC := Lib.hid C0; clear C0
  go_enter Try.func48, Try.ntmps48
  go_wp2_with fail
  have HB : Below w.heap.size w (w.alloc (.cells #[.slice A zs.length cap, .int .i64 0, .int .u64 0] 70)) := al (Below.refl _ _)
  have C := HC.out
  have hsz : (w.alloc (.cells #[.slice A zs.length cap, .int .i64 0, .int .u64 0] 70)).heap.size = w.heap.size + 1 := size_alloc' _ _
  clear HC
  generalize w.alloc (.cells #[.slice A zs.length cap, .int .i64 0, .int .u64 0] 70) = v at HB C hsz ⊢
  refine (tide_d w.heap.size zs w.heap.size 0 v C (by omega)).mono ?_
  rintro e v1 ⟨L, g, c, hl0, hl, rfl, O, C1, G⟩
  have hg := own_ge O g (by simp [Value.ownBlock])
  have HB1 := below_of HB G (fun k hk => by injection hk with hk; omega)
  have z1 : w.heap.size < v1.heap.size := C1.lt
  clear C G HB
  go_wp2_with fail
  refine (height_d w.heap.size zs w.heap.size _ v1 C1 (by omega)).mono ?_
  rintro e v2 ⟨x, xr, rfl, C2, G2⟩
  have O2 := own_grownN (O) G2 (fun k hk => by injection hk with hk; omega)
  have HB2 := below_of (HB1) G2 (fun k hk => by injection hk with hk; omega)
  have z2 : w.heap.size < v2.heap.size := C2.lt
  have O9 := own_base O2 (base' := w.heap.size) (by omega)
  go_wp2
  go_ret2
  exact ⟨L, g, c, x, rfl, hl0, hl, O9, HB2⟩
set_option maxHeartbeats 800000 in
theorem drawShift (A : Option Addr) (cap : Nat) (zs : List Int) (w : World) (h : Src w A zs) : Calls Try.prog 43 #[.slice A zs.length cap] w (T2 w) := by
  have C0 := cu_new h cap
  have HC := Lib.hid C0; clear C0
  go_enter Try.func43, Try.ntmps43
  go_wp2_with fail
  have HB : Below w.heap.size w (w.alloc (.cells #[.slice A zs.length cap, .int .i64 0, .int .u64 0] 70)) := al (Below.refl _ _)
  have C := HC.out
  have hsz : (w.alloc (.cells #[.slice A zs.length cap, .int .i64 0, .int .u64 0] 70)).heap.size = w.heap.size + 1 := size_alloc' _ _
  clear HC
  generalize w.alloc (.cells #[.slice A zs.length cap, .int .i64 0, .int .u64 0] 70) = v at HB C hsz ⊢
  refine (tide_d w.heap.size zs w.heap.size 0 v C (by omega)).mono ?_
  rintro e v1 ⟨L, g, c, hl0, hl, rfl, O, C1, G⟩
  have hg := own_ge O g (by simp [Value.ownBlock])
  have HB1 := below_of HB G (fun k hk => by injection hk with hk; omega)
  have z1 : w.heap.size < v1.heap.size := C1.lt
  clear C G HB
  go_wp2_with fail
  refine (among_d w.heap.size zs w.heap.size _ (v1.alloc (.cells #[.int .i64 0, .int .i64 1, .int .i64 50, .int .i64 (-100), .int .i64 400, .int .i64 1000, .int .i64 1001, .int .i64 (-1001)] 3)) _ 8 [0, 1, 50, -100, 400, 1000, 1001, -1001] (C1.alloc (.cells #[.int .i64 0, .int .i64 1, .int .i64 50, .int .i64 (-100), .int .i64 400, .int .i64 1000, .int .i64 1001, .int .i64 (-1001)] 3)) (by omega) (lst_at v1 _ _ rfl) (by omega) (by simp) (by simp)).mono ?_
  rintro e v2 ⟨x, hx, rfl, C2, G2⟩
  have O2 := own_grownN (own_keep O (al (Below.refl _ _) (o := (.cells #[.int .i64 0, .int .i64 1, .int .i64 50, .int .i64 (-100), .int .i64 400, .int .i64 1000, .int .i64 1001, .int .i64 (-1001)] 3)))) G2 (fun k hk => by injection hk with hk; omega)
  have HB2 := below_of (al HB1 (o := (.cells #[.int .i64 0, .int .i64 1, .int .i64 50, .int .i64 (-100), .int .i64 400, .int .i64 1000, .int .i64 1001, .int .i64 (-1001)] 3))) G2 (fun k hk => by injection hk with hk; omega)
  have O9 := own_base O2 (base' := w.heap.size) (by omega)
  go_wp2
  go_ret2
  exact ⟨L, g, c, x, rfl, hl0, hl, O9, HB2⟩
set_option maxHeartbeats 800000 in
theorem drawAt (A : Option Addr) (cap : Nat) (zs : List Int) (w : World) (h : Src w A zs) : Calls Try.prog 39 #[.slice A zs.length cap] w (T2 w) := by
  have C0 := cu_new h cap
  have HC := Lib.hid C0; clear C0
  go_enter Try.func39, Try.ntmps39
  go_wp2_with fail
  have HB : Below w.heap.size w (w.alloc (.cells #[.slice A zs.length cap, .int .i64 0, .int .u64 0] 70)) := al (Below.refl _ _)
  have C := HC.out
  have hsz : (w.alloc (.cells #[.slice A zs.length cap, .int .i64 0, .int .u64 0] 70)).heap.size = w.heap.size + 1 := size_alloc' _ _
  clear HC
  generalize w.alloc (.cells #[.slice A zs.length cap, .int .i64 0, .int .u64 0] 70) = v at HB C hsz ⊢
  refine (tide_d w.heap.size zs w.heap.size 0 v C (by omega)).mono ?_
  rintro e v1 ⟨L, g, c, hl0, hl, rfl, O, C1, G⟩
  have hg := own_ge O g (by simp [Value.ownBlock])
  have HB1 := below_of HB G (fun k hk => by injection hk with hk; omega)
  have z1 : w.heap.size < v1.heap.size := C1.lt
  clear C G HB
  obtain ⟨q, hq⟩ : ∃ q, L.length / 2 = q := ⟨_, rfl⟩
  have hql : q < L.length := by omega
  have d1 : (L.length : Int).tdiv 2 = (q : Int) := by rw [Int.tdiv_eq_ediv_of_nonneg (by omega)]; omega
  have d2 : (L.length : Int) / 2 = (q : Int) := by omega
  have d3 : IntKind.i64.wrap (q : Int) = q := IntWalk.i64_in _ (by omega)
  obtain ⟨m, hm⟩ : ∃ m, (L[q]).f0 = m := ⟨_, rfl⟩
  have c0 : v1.cell? ⟨g, q * 2, none⟩ = some (.int .i64 m) := by rw [O.cellAt (q * 2) (by omega), flat_0 L q hql, hm]
  have HQ := Lib.hid hq; clear hq hm
  go_wp2_with fail
  refine (among_d w.heap.size zs w.heap.size _ (v1.alloc (.cells #[.int .i64 0, .int .i64 1, .int .i64 60, .int .i64 61, .int .i64 359, .int .i64 720, .int .i64 1440, .int .i64 1441, .int .i64 (-1), .int .i64 m] 3)) _ 10 [0, 1, 60, 61, 359, 720, 1440, 1441, -1, m] (C1.alloc (.cells #[.int .i64 0, .int .i64 1, .int .i64 60, .int .i64 61, .int .i64 359, .int .i64 720, .int .i64 1440, .int .i64 1441, .int .i64 (-1), .int .i64 m] 3)) (by omega) (lst_at v1 _ _ rfl) (by omega) (by simp) (by simp)).mono ?_
  rintro e v2 ⟨x, hx, rfl, C2, G2⟩
  have O2 := own_grownN (own_keep O (al (Below.refl _ _) (o := (.cells #[.int .i64 0, .int .i64 1, .int .i64 60, .int .i64 61, .int .i64 359, .int .i64 720, .int .i64 1440, .int .i64 1441, .int .i64 (-1), .int .i64 m] 3)))) G2 (fun k hk => by injection hk with hk; omega)
  have HB2 := below_of (al HB1 (o := (.cells #[.int .i64 0, .int .i64 1, .int .i64 60, .int .i64 61, .int .i64 359, .int .i64 720, .int .i64 1440, .int .i64 1441, .int .i64 (-1), .int .i64 m] 3))) G2 (fun k hk => by injection hk with hk; omega)
  have O9 := own_base O2 (base' := w.heap.size) (by omega)
  go_wp2
  go_ret2
  exact ⟨L, g, c, x, rfl, hl0, hl, O9, HB2⟩
end Go.Proofs.Ytbbnbkdglihhhaa.DTide2
