/- The draw of one worker for a law. -/
import Derived.Test.YtdikekecbapcaaaDWork3
namespace Go.Proofs.Ytdikekecbapcaaa.DWork4
open Go.RowKit Go.Proofs.Ytdikekecbapcaaa.Mem Go.Proofs.Ytdikekecbapcaaa.Base Go.Proofs.Ytdikekecbapcaaa.Draw Go.Proofs.Ytdikekecbapcaaa.Boxes Go.Proofs.Ytdikekecbapcaaa.Keep Go.Proofs.Ytdikekecbapcaaa.Dr Go.Proofs.Ytdikekecbapcaaa.SWorker Go.Proofs.Ytdikekecbapcaaa.DWork Go.Proofs.Ytdikekecbapcaaa.DWork2 Go.Proofs.Ytdikekecbapcaaa.DWork3
set_option linter.unusedVariables false
set_option maxRecDepth 100000
set_option maxHeartbeats 1600000 in
theorem drawIs (A : Option Addr) (cap : Nat) (zs : List Int) (w : World) (h : Draw.Src w A zs) : Calls Try.prog 46 #[.slice A zs.length cap] w fun e w' => ∃ x : R, e = .returned (.agg #[.int .i64 x.f0, .int .i64 x.f1, .int .i64 x.f2, .bool x.f3, .int .i64 x.f4]) ∧ Below w.heap.size w w' := by
  have B := Box.new (Below.refl _ w) [.int .i64 0, .int .i64 0, .int .i64 0, .bool false, .int .i64 0] 50 (g := w.heap.size) rfl
  dsimp only [List.toArray] at B
  have C := cu_new (h.below (al (Below.refl _ _) (o := .cells #[.int .i64 0, .int .i64 0, .int .i64 0, .bool false, .int .i64 0] 50))) cap
  have hs1 : (w.alloc (.cells #[.int .i64 0, .int .i64 0, .int .i64 0, .bool false, .int .i64 0] 50)).heap.size = w.heap.size + 1 := size_alloc' _ _
  rw [hs1] at C
  replace B := B.alloc (.cells #[.slice A zs.length cap, .int .i64 0, .int .u64 0] 69)
  have HB := B.below
  have HC := Lib.hid C; clear C
  have HBX := Lib.hid B; clear B
  go_enter Try.func46, Try.ntmps46
  go_wp2_with fail
  have C := HC.out
  have B := HBX.out
  have T0 : Lst (((w.alloc (.cells #[.int .i64 0, .int .i64 0, .int .i64 0, .bool false, .int .i64 0] 50)).alloc (.cells #[.slice A zs.length cap, .int .i64 0, .int .u64 0] 69)).alloc (.cells #[.int .i64 1, .int .i64 42, .int .i64 99] 3)) (w.heap.size + 2) (([1, 42, 99] : List Int).map (Value.int .i64)) := lst_at _ _ _ (by simp only [size_alloc'])
  replace C := C.alloc (.cells #[.int .i64 1, .int .i64 42, .int .i64 99] 3)
  replace B := B.alloc (.cells #[.int .i64 1, .int .i64 42, .int .i64 99] 3)
  replace HB := al HB (o := .cells #[.int .i64 1, .int .i64 42, .int .i64 99] 3)
  clear HC HBX hs1
  generalize ((w.alloc (.cells #[.int .i64 0, .int .i64 0, .int .i64 0, .bool false, .int .i64 0] 50)).alloc (.cells #[.slice A zs.length cap, .int .i64 0, .int .u64 0] 69)).alloc (.cells #[.int .i64 1, .int .i64 42, .int .i64 99] 3) = V at T0 B C HB ⊢
  refine (among_d (w.heap.size + 1) zs (w.heap.size + 1) _ V (w.heap.size + 2) 3 [1, 42, 99] C (by omega) T0 (by omega) (by simp) (by simp)).mono ?_
  rintro e v1 ⟨i, _, rfl, C1, G⟩
  replace B := B.grown G (fun k hk => by injection hk with hk; omega)
  clear C T0 G
  go_wp2_with fail
  refine (worker_d (w.heap.size + 1) zs (w.heap.size + 1) _ v1 i C1 (by omega)).mono ?_
  rintro e v2 ⟨x, rfl, C2, G⟩
  replace B := B.grown G (fun k hk => by injection hk with hk; omega)
  clear C1 C2 G HB
  have m0 := B.at0; have m1 := B.at1; have m2 := B.at2; have m3 := B.at3; have m4 := B.at4
  have f0 := B.free 0 (by simp); have f1 := B.free 1 (by simp); have f2 := B.free 2 (by simp); have f3 := B.free 3 (by simp); have f4 := B.free 4 (by simp)
  have ht := B.there
  go_wp2
  have B5 := ((((B.set 0 (.int .i64 x.f0)).set 1 (.int .i64 x.f1)).set 2 (.int .i64 x.f2)).set 3 (.bool x.f3)).set 4 (.int .i64 x.f4)
  simp only [List.set_cons_zero, List.set_cons_succ] at B5
  have n0 := B5.at0; have n1 := B5.at1; have n2 := B5.at2; have n3 := B5.at3; have n4 := B5.at4
  exact bodyPost_ret (v := .agg #[.int .i64 x.f0, .int .i64 x.f1, .int .i64 x.f2, .bool x.f3, .int .i64 x.f4]) (by simp [results, Try.results46, go_sem, n0, n1, n2, n3, n4]) rfl ⟨x, rfl, B5.below⟩
end Go.Proofs.Ytdikekecbapcaaa.DWork4
