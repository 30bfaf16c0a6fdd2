/- The draws of the laws on workers. -/
import Derived.Test.YtdikekecbapcaaaDWork2
namespace Go.Proofs.Ytdikekecbapcaaa.DWork3
open Go.RowKit Go.Proofs.Ytdikekecbapcaaa.Mem Go.Proofs.Ytdikekecbapcaaa.Base Go.Proofs.Ytdikekecbapcaaa.Draw Go.Proofs.Ytdikekecbapcaaa.Boxes Go.Proofs.Ytdikekecbapcaaa.Keep Go.Proofs.Ytdikekecbapcaaa.Dr Go.Proofs.Ytdikekecbapcaaa.SWorker Go.Proofs.Ytdikekecbapcaaa.DWork Go.Proofs.Ytdikekecbapcaaa.DWork2
set_option linter.unusedVariables false
set_option maxRecDepth 100000
theorem cu_new {w : World} {A : Option Addr} {zs : List Int} (h : Draw.Src w A zs) (cap : Nat) :
    Cu w.heap.size zs w.heap.size 0 (w.alloc (.cells #[.slice A zs.length cap, .int .i64 0, .int .u64 0] 69)) := ⟨0, Nat.le_refl _, cur_new h cap⟩
theorem below_of {w W V : World} {row : Option Nat} (hB : Below w.heap.size w W) (hg : W.grownBy V row) (hr : ∀ k, row = some k → w.heap.size ≤ k) : Below w.heap.size w V := bl_grown hB hg hr
def W0 (w : World) (e : Ending) (w' : World) : Prop :=
  ∃ (L : List R) (g c : Nat), L.length ≤ 20 ∧ e = .returned (.slice (some ⟨g, 0, none⟩) L.length c) ∧ w'.ownsRow w.heap.size 50 5 (.slice (some ⟨g, 0, none⟩) L.length c) L.length (flat L) ∧ Below w.heap.size w w'
def W1 (w : World) (e : Ending) (w' : World) : Prop :=
  ∃ (L : List R) (g c : Nat) (x : Int), L.length ≤ 20 ∧ e = .returned (.tuple #[.slice (some ⟨g, 0, none⟩) L.length c, .int .i64 x]) ∧ w'.ownsRow w.heap.size 50 5 (.slice (some ⟨g, 0, none⟩) L.length c) L.length (flat L) ∧ Below w.heap.size w w'
def W2 (w : World) (e : Ending) (w' : World) : Prop :=
  ∃ (L : List R) (g c : Nat) (x y : Int), L.length ≤ 20 ∧ e = .returned (.tuple #[.slice (some ⟨g, 0, none⟩) L.length c, .int .i64 x, .int .i64 y]) ∧ w'.ownsRow w.heap.size 50 5 (.slice (some ⟨g, 0, none⟩) L.length c) L.length (flat L) ∧ Below w.heap.size w w'
def W3 (w : World) (e : Ending) (w' : World) : Prop :=
  ∃ (L : List R) (g c : Nat) (x y z : Int), L.length ≤ 20 ∧ e = .returned (.tuple #[.slice (some ⟨g, 0, none⟩) L.length c, .int .i64 x, .int .i64 y, .int .i64 z]) ∧ w'.ownsRow w.heap.size 50 5 (.slice (some ⟨g, 0, none⟩) L.length c) L.length (flat L) ∧ Below w.heap.size w w'
set_option maxHeartbeats 1600000 in
theorem drawAre (A : Option Addr) (cap : Nat) (zs : List Int) (w : World) (h : Draw.Src w A zs) : Calls Try.prog 83 #[.slice A zs.length cap] w (W0 w) := by
  have C0 := cu_new h cap
  have HC := Lib.hid C0; clear C0
  go_enter Try.func83, Try.ntmps83
  go_wp2_with fail
  have HB : Below w.heap.size w (w.alloc (.cells #[.slice A zs.length cap, .int .i64 0, .int .u64 0] 69)) := al (Below.refl _ _)
  have C := HC.out
  have hsz : (w.alloc (.cells #[.slice A zs.length cap, .int .i64 0, .int .u64 0] 69)).heap.size = w.heap.size + 1 := size_alloc' _ _
  clear HC
  generalize w.alloc (.cells #[.slice A zs.length cap, .int .i64 0, .int .u64 0] 69) = v at HB C hsz ⊢
  refine (workers_d w.heap.size zs w.heap.size 0 v C (by omega)).mono ?_
  rintro e v0 ⟨L, g, c, hl, rfl, O0, C0, G⟩
  have hg := own_ge O0 g (by simp [Value.ownBlock])
  have HB0 := below_of HB G (fun k hk => by injection hk with hk; omega)
  have z0 : w.heap.size < v0.heap.size := C0.lt
  clear C G HB
  have O9 := own_base O0 (base' := w.heap.size) (by omega)
  clear O0 C0
  go_wp2
  go_ret
  exact ⟨L, g, c, hl, rfl, O9, HB0⟩
theorem drawSizes (A : Option Addr) (cap : Nat) (zs : List Int) (w : World) (h : Draw.Src w A zs) : Calls Try.prog 38 #[.slice A zs.length cap] w (W0 w) := by
  go_enter Try.func38, Try.ntmps38
  go_wp2_with fail
  refine (drawAre A cap zs w h).mono ?_
  rintro e v ⟨L, g, c, hl, rfl, O, HB⟩
  go_wp2
  go_ret
  exact ⟨L, g, c, hl, rfl, O, HB⟩
set_option maxHeartbeats 1600000 in
theorem drawWeek (A : Option Addr) (cap : Nat) (zs : List Int) (w : World) (h : Draw.Src w A zs) : Calls Try.prog 17 #[.slice A zs.length cap] w (W1 w) := by
  have C0 := cu_new h cap
  have HC := Lib.hid C0; clear C0
  go_enter Try.func17, Try.ntmps17
  go_wp2_with fail
  have HB : Below w.heap.size w (w.alloc (.cells #[.slice A zs.length cap, .int .i64 0, .int .u64 0] 69)) := al (Below.refl _ _)
  have C := HC.out
  have hsz : (w.alloc (.cells #[.slice A zs.length cap, .int .i64 0, .int .u64 0] 69)).heap.size = w.heap.size + 1 := size_alloc' _ _
  clear HC
  generalize w.alloc (.cells #[.slice A zs.length cap, .int .i64 0, .int .u64 0] 69) = v at HB C hsz ⊢
  refine (workers_d w.heap.size zs w.heap.size 0 v C (by omega)).mono ?_
  rintro e v0 ⟨L, g, c, hl, rfl, O0, C0, G⟩
  have hg := own_ge O0 g (by simp [Value.ownBlock])
  have HB0 := below_of HB G (fun k hk => by injection hk with hk; omega)
  have z0 : w.heap.size < v0.heap.size := C0.lt
  clear C G HB
  go_wp2_with fail
  refine (gang5_d w.heap.size zs w.heap.size _ v0 C0 (by omega)).mono ?_
  rintro e v1 ⟨x1, rfl, C1, G⟩
  have HB1 := below_of HB0 G (fun k hk => by injection hk with hk; omega)
  have O1 := own_grownN O0 G (fun k hk => by injection hk with hk; omega)
  have z1 : w.heap.size < v1.heap.size := C1.lt
  clear C0 O0 HB0 G
  have O9 := own_base O1 (base' := w.heap.size) (by omega)
  clear O1 C1
  go_wp2
  go_ret2
  exact ⟨L, g, c, x1, hl, rfl, O9, HB1⟩
set_option maxHeartbeats 1600000 in
theorem drawChange (A : Option Addr) (cap : Nat) (zs : List Int) (w : World) (h : Draw.Src w A zs) : Calls Try.prog 25 #[.slice A zs.length cap] w (W1 w) := by
  have C0 := cu_new h cap
  have HC := Lib.hid C0; clear C0
  go_enter Try.func25, Try.ntmps25
  go_wp2_with fail
  have HB : Below w.heap.size w (w.alloc (.cells #[.slice A zs.length cap, .int .i64 0, .int .u64 0] 69)) := al (Below.refl _ _)
  have C := HC.out
  have hsz : (w.alloc (.cells #[.slice A zs.length cap, .int .i64 0, .int .u64 0] 69)).heap.size = w.heap.size + 1 := size_alloc' _ _
  clear HC
  generalize w.alloc (.cells #[.slice A zs.length cap, .int .i64 0, .int .u64 0] 69) = v at HB C hsz ⊢
  refine (workers_d w.heap.size zs w.heap.size 0 v C (by omega)).mono ?_
  rintro e v0 ⟨L, g, c, hl, rfl, O0, C0, G⟩
  have hg := own_ge O0 g (by simp [Value.ownBlock])
  have HB0 := below_of HB G (fun k hk => by injection hk with hk; omega)
  have z0 : w.heap.size < v0.heap.size := C0.lt
  clear C G HB
  go_wp2_with fail
  refine (workerId_d w.heap.size zs w.heap.size _ v0 _ g c L C0 (by omega) O0 (by omega) hl).mono ?_
  rintro e v1 ⟨x1, rfl, C1, G⟩
  have HB1 := below_of HB0 G (fun k hk => by injection hk with hk; omega)
  have O1 := own_grownN O0 G (fun k hk => by injection hk with hk; omega)
  have z1 : w.heap.size < v1.heap.size := C1.lt
  clear C0 O0 HB0 G
  have O9 := own_base O1 (base' := w.heap.size) (by omega)
  clear O1 C1
  go_wp2
  go_ret2
  exact ⟨L, g, c, x1, hl, rfl, O9, HB1⟩
set_option maxHeartbeats 1600000 in
theorem drawOn (A : Option Addr) (cap : Nat) (zs : List Int) (w : World) (h : Draw.Src w A zs) : Calls Try.prog 32 #[.slice A zs.length cap] w (W2 w) := by
  have C0 := cu_new h cap
  have HC := Lib.hid C0; clear C0
  go_enter Try.func32, Try.ntmps32
  go_wp2_with fail
  have HB : Below w.heap.size w (w.alloc (.cells #[.slice A zs.length cap, .int .i64 0, .int .u64 0] 69)) := al (Below.refl _ _)
  have C := HC.out
  have hsz : (w.alloc (.cells #[.slice A zs.length cap, .int .i64 0, .int .u64 0] 69)).heap.size = w.heap.size + 1 := size_alloc' _ _
  clear HC
  generalize w.alloc (.cells #[.slice A zs.length cap, .int .i64 0, .int .u64 0] 69) = v at HB C hsz ⊢
  refine (workers_d w.heap.size zs w.heap.size 0 v C (by omega)).mono ?_
  rintro e v0 ⟨L, g, c, hl, rfl, O0, C0, G⟩
  have hg := own_ge O0 g (by simp [Value.ownBlock])
  have HB0 := below_of HB G (fun k hk => by injection hk with hk; omega)
  have z0 : w.heap.size < v0.heap.size := C0.lt
  clear C G HB
  go_wp2_with fail
  refine (gang5_d w.heap.size zs w.heap.size _ v0 C0 (by omega)).mono ?_
  rintro e v1 ⟨x1, rfl, C1, G⟩
  have HB1 := below_of HB0 G (fun k hk => by injection hk with hk; omega)
  have O1 := own_grownN O0 G (fun k hk => by injection hk with hk; omega)
  have z1 : w.heap.size < v1.heap.size := C1.lt
  clear C0 O0 HB0 G
  go_wp2_with fail
  refine (day5_d w.heap.size zs w.heap.size _ v1 C1 (by omega)).mono ?_
  rintro e v2 ⟨x2, rfl, C2, G⟩
  have HB2 := below_of HB1 G (fun k hk => by injection hk with hk; omega)
  have O2 := own_grownN O1 G (fun k hk => by injection hk with hk; omega)
  have z2 : w.heap.size < v2.heap.size := C2.lt
  clear C1 O1 HB1 G
  have O9 := own_base O2 (base' := w.heap.size) (by omega)
  clear O2 C2
  go_wp2
  go_ret3
  exact ⟨L, g, c, x1, x2, hl, rfl, O9, HB2⟩
theorem drawSpare (A : Option Addr) (cap : Nat) (zs : List Int) (w : World) (h : Draw.Src w A zs) : Calls Try.prog 34 #[.slice A zs.length cap] w (W2 w) := by
  go_enter Try.func34, Try.ntmps34
  go_wp2_with fail
  refine (drawOn A cap zs w h).mono ?_
  rintro e v ⟨L, g, c, x, y, hl, rfl, O, HB⟩
  go_wp2
  go_ret3
  exact ⟨L, g, c, x, y, hl, rfl, O, HB⟩
set_option maxHeartbeats 1600000 in
theorem drawPut (A : Option Addr) (cap : Nat) (zs : List Int) (w : World) (h : Draw.Src w A zs) : Calls Try.prog 43 #[.slice A zs.length cap] w (W2 w) := by
  have C0 := cu_new h cap
  have HC := Lib.hid C0; clear C0
  go_enter Try.func43, Try.ntmps43
  go_wp2_with fail
  have HB : Below w.heap.size w (w.alloc (.cells #[.slice A zs.length cap, .int .i64 0, .int .u64 0] 69)) := al (Below.refl _ _)
  have C := HC.out
  have hsz : (w.alloc (.cells #[.slice A zs.length cap, .int .i64 0, .int .u64 0] 69)).heap.size = w.heap.size + 1 := size_alloc' _ _
  clear HC
  generalize w.alloc (.cells #[.slice A zs.length cap, .int .i64 0, .int .u64 0] 69) = v at HB C hsz ⊢
  refine (workers_d w.heap.size zs w.heap.size 0 v C (by omega)).mono ?_
  rintro e v0 ⟨L, g, c, hl, rfl, O0, C0, G⟩
  have hg := own_ge O0 g (by simp [Value.ownBlock])
  have HB0 := below_of HB G (fun k hk => by injection hk with hk; omega)
  have z0 : w.heap.size < v0.heap.size := C0.lt
  clear C G HB
  go_wp2_with fail
  refine (workerId_d w.heap.size zs w.heap.size _ v0 _ g c L C0 (by omega) O0 (by omega) hl).mono ?_
  rintro e v1 ⟨x1, rfl, C1, G⟩
  have HB1 := below_of HB0 G (fun k hk => by injection hk with hk; omega)
  have O1 := own_grownN O0 G (fun k hk => by injection hk with hk; omega)
  have z1 : w.heap.size < v1.heap.size := C1.lt
  clear C0 O0 HB0 G
  have T0 : Lst (v1.alloc (.cells #[.int .i64 0, .int .i64 1, .int .i64 2, .int .i64 5, .int .i64 (-1), .int .i64 6] 3)) v1.heap.size (([0, 1, 2, 5, -1, 6] : List Int).map (Value.int .i64)) := lst_at v1 _ _ rfl
  go_wp2_with fail
  refine (pick_d w.heap.size zs w.heap.size _ _ 24 (C1.alloc (.cells #[.int .i64 0, .int .i64 1, .int .i64 2, .int .i64 5, .int .i64 (-1), .int .i64 6] 3)) (by omega) (by omega) (by omega)).mono ?_
  rintro e p0 ⟨u0, zr0, rfl, D0, G0⟩
  replace T0 := T0.went G0 (by omega)
  have P0 := own_grownN (own_keep O1 (al (Below.refl _ _) (o := (.cells #[.int .i64 0, .int .i64 1, .int .i64 2, .int .i64 5, .int .i64 (-1), .int .i64 6] 3)))) G0 (fun k hk => by injection hk with hk; omega)
  have hP0 := below_of (al HB1 (o := (.cells #[.int .i64 0, .int .i64 1, .int .i64 2, .int .i64 5, .int .i64 (-1), .int .i64 6] 3))) G0 (fun k hk => by injection hk with hk; omega)
  clear C1 O1 HB1 G0
  have t0 : Int.tdiv u0 11 = u0 / 11 := Int.tdiv_eq_ediv_of_nonneg zr0.1
  obtain ⟨xs0, hm0, hx0t⟩ : ∃ xs : List Int, 4 + u0 / 11 = (xs.length : Int) ∧ xs = ([0, 1, 2, 5, -1, 6] : List Int).take (4 + u0 / 11).toNat := ⟨_, by rw [List.length_take]; simp; omega, rfl⟩
  have b0 : 4 ≤ xs0.length ∧ xs0.length ≤ 6 := by omega
  replace T0 : Lst p0 v1.heap.size (xs0.map (Value.int .i64)) := by rw [hx0t]; exact lst_take T0 _
  have HM0 := Lib.hid hm0; clear hx0t hm0
  have w0 : IntKind.i64.wrap (4 + u0 / 11) = 4 + u0 / 11 := IntWalk.i64_in _ (by omega)
  have v00 : 0 ≤ 4 + u0 / 11 := by omega
  have v01 : 4 + u0 / 11 ≤ 6 := by omega
  go_wp2_with fail
  rw [show (4 + u0 / 11).toNat = xs0.length by have := HM0.out; omega]
  refine (among_d w.heap.size zs w.heap.size _ p0 _ 6 xs0 D0 (by omega) T0 (by omega) (by omega) (by omega)).mono ?_
  rintro e v2 ⟨x2, hx0, rfl, C2, G0⟩
  have O2 := own_grownN P0 G0 (fun k hk => by injection hk with hk; omega)
  have HB2 := below_of hP0 G0 (fun k hk => by injection hk with hk; omega)
  have z2 : w.heap.size < v2.heap.size := C2.lt
  clear P0 hP0 D0 G0 T0 hx0
  have O9 := own_base O2 (base' := w.heap.size) (by omega)
  clear O2 C2
  go_wp2
  go_ret3
  exact ⟨L, g, c, x1, x2, hl, rfl, O9, HB2⟩
set_option maxHeartbeats 1600000 in
theorem drawDays (A : Option Addr) (cap : Nat) (zs : List Int) (w : World) (h : Draw.Src w A zs) : Calls Try.prog 29 #[.slice A zs.length cap] w (W3 w) := by
  have C0 := cu_new h cap
  have HC := Lib.hid C0; clear C0
  go_enter Try.func29, Try.ntmps29
  go_wp2_with fail
  have HB : Below w.heap.size w (w.alloc (.cells #[.slice A zs.length cap, .int .i64 0, .int .u64 0] 69)) := al (Below.refl _ _)
  have C := HC.out
  have hsz : (w.alloc (.cells #[.slice A zs.length cap, .int .i64 0, .int .u64 0] 69)).heap.size = w.heap.size + 1 := size_alloc' _ _
  clear HC
  generalize w.alloc (.cells #[.slice A zs.length cap, .int .i64 0, .int .u64 0] 69) = v at HB C hsz ⊢
  refine (workers_d w.heap.size zs w.heap.size 0 v C (by omega)).mono ?_
  rintro e v0 ⟨L, g, c, hl, rfl, O0, C0, G⟩
  have hg := own_ge O0 g (by simp [Value.ownBlock])
  have HB0 := below_of HB G (fun k hk => by injection hk with hk; omega)
  have z0 : w.heap.size < v0.heap.size := C0.lt
  clear C G HB
  go_wp2_with fail
  refine (gang5_d w.heap.size zs w.heap.size _ v0 C0 (by omega)).mono ?_
  rintro e v1 ⟨x1, rfl, C1, G⟩
  have HB1 := below_of HB0 G (fun k hk => by injection hk with hk; omega)
  have O1 := own_grownN O0 G (fun k hk => by injection hk with hk; omega)
  have z1 : w.heap.size < v1.heap.size := C1.lt
  clear C0 O0 HB0 G
  go_wp2_with fail
  refine (day5_d w.heap.size zs w.heap.size _ v1 C1 (by omega)).mono ?_
  rintro e v2 ⟨x2, rfl, C2, G⟩
  have HB2 := below_of HB1 G (fun k hk => by injection hk with hk; omega)
  have O2 := own_grownN O1 G (fun k hk => by injection hk with hk; omega)
  have z2 : w.heap.size < v2.heap.size := C2.lt
  clear C1 O1 HB1 G
  have T0 : Lst (v2.alloc (.cells #[.int .i64 1, .int .i64 24, .int .i64 100, .int .i64 300, .int .i64 10000, .int .i64 0, .int .i64 10001] 3)) v2.heap.size (([1, 24, 100, 300, 10000, 0, 10001] : List Int).map (Value.int .i64)) := lst_at v2 _ _ rfl
  go_wp2_with fail
  refine (pick_d w.heap.size zs w.heap.size _ _ 24 (C2.alloc (.cells #[.int .i64 1, .int .i64 24, .int .i64 100, .int .i64 300, .int .i64 10000, .int .i64 0, .int .i64 10001] 3)) (by omega) (by omega) (by omega)).mono ?_
  rintro e p0 ⟨u0, zr0, rfl, D0, G0⟩
  replace T0 := T0.went G0 (by omega)
  have P0 := own_grownN (own_keep O2 (al (Below.refl _ _) (o := (.cells #[.int .i64 1, .int .i64 24, .int .i64 100, .int .i64 300, .int .i64 10000, .int .i64 0, .int .i64 10001] 3)))) G0 (fun k hk => by injection hk with hk; omega)
  have hP0 := below_of (al HB2 (o := (.cells #[.int .i64 1, .int .i64 24, .int .i64 100, .int .i64 300, .int .i64 10000, .int .i64 0, .int .i64 10001] 3))) G0 (fun k hk => by injection hk with hk; omega)
  clear C2 O2 HB2 G0
  have t0 : Int.tdiv u0 11 = u0 / 11 := Int.tdiv_eq_ediv_of_nonneg zr0.1
  obtain ⟨xs0, hm0, hx0t⟩ : ∃ xs : List Int, 5 + u0 / 11 = (xs.length : Int) ∧ xs = ([1, 24, 100, 300, 10000, 0, 10001] : List Int).take (5 + u0 / 11).toNat := ⟨_, by rw [List.length_take]; simp; omega, rfl⟩
  have b0 : 5 ≤ xs0.length ∧ xs0.length ≤ 7 := by omega
  replace T0 : Lst p0 v2.heap.size (xs0.map (Value.int .i64)) := by rw [hx0t]; exact lst_take T0 _
  have HM0 := Lib.hid hm0; clear hx0t hm0
  have w0 : IntKind.i64.wrap (5 + u0 / 11) = 5 + u0 / 11 := IntWalk.i64_in _ (by omega)
  have v00 : 0 ≤ 5 + u0 / 11 := by omega
  have v01 : 5 + u0 / 11 ≤ 7 := by omega
  go_wp2_with fail
  rw [show (5 + u0 / 11).toNat = xs0.length by have := HM0.out; omega]
  refine (among_d w.heap.size zs w.heap.size _ p0 _ 7 xs0 D0 (by omega) T0 (by omega) (by omega) (by omega)).mono ?_
  rintro e v3 ⟨x3, hx0, rfl, C3, G0⟩
  have O3 := own_grownN P0 G0 (fun k hk => by injection hk with hk; omega)
  have HB3 := below_of hP0 G0 (fun k hk => by injection hk with hk; omega)
  have z3 : w.heap.size < v3.heap.size := C3.lt
  clear P0 hP0 D0 G0 T0 hx0
  have O9 := own_base O3 (base' := w.heap.size) (by omega)
  clear O3 C3
  go_wp2
  exact bodyPost_ret (v := .tuple #[.slice (some ⟨g, 0, none⟩) L.length c, .int .i64 x1, .int .i64 x2, .int .i64 x3]) (by simp [results, Try.results29, go_sem]) rfl ⟨L, g, c, x1, x2, x3, hl, rfl, O9, HB3⟩
end Go.Proofs.Ytdikekecbapcaaa.DWork3
