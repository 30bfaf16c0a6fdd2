/- The draws of the law on chains. -/
import Derived.Test.YtncdkfkihfhcgaaDPond3
namespace Go.Proofs.Ytncdkfkihfhcgaa.CDraw
open Go.RowKit Go.Proofs.Ytncdkfkihfhcgaa.Mem Go.Proofs.Ytncdkfkihfhcgaa.Base Go.Proofs.Ytncdkfkihfhcgaa.Draw Go.Proofs.Ytncdkfkihfhcgaa.Boxes Go.Proofs.Ytncdkfkihfhcgaa.Keep Go.Proofs.Ytncdkfkihfhcgaa.Dr Go.Proofs.Ytncdkfkihfhcgaa.SPond Go.Proofs.Ytncdkfkihfhcgaa.DPond Go.Proofs.Ytncdkfkihfhcgaa.DPond2 Go.Proofs.Ytncdkfkihfhcgaa.DPond3
set_option linter.unusedVariables false
set_option maxRecDepth 100000
theorem drawChain (A : Option Addr) (cap : Nat) (zs : List Int) (w : World) (h : Draw.Src w A zs) : Calls Try.prog 6 #[.slice A zs.length cap] w (LId2 w) := by
  go_enter Try.func6, Try.ntmps6
  go_wp2_with fail
  refine (drawBankOf A cap zs w h).mono ?_
  rintro e v ⟨L, g, c, a, b, hl, hs, ha, hb, rfl, O, HB⟩
  go_wp2
  go_ret3
  exact ⟨L, g, c, a, b, hl, hs, ha, hb, rfl, O, HB⟩
theorem drawJoin (A : Option Addr) (cap : Nat) (zs : List Int) (w : World) (h : Draw.Src w A zs) : Calls Try.prog 14 #[.slice A zs.length cap] w (LId2 w) := by
  go_enter Try.func14, Try.ntmps14
  go_wp2_with fail
  refine (drawBankOf A cap zs w h).mono ?_
  rintro e v ⟨L, g, c, a, b, hl, hs, ha, hb, rfl, O, HB⟩
  go_wp2
  go_ret3
  exact ⟨L, g, c, a, b, hl, hs, ha, hb, rfl, O, HB⟩
set_option maxHeartbeats 800000 in
theorem drawCut (A : Option Addr) (cap : Nat) (zs : List Int) (w : World) (h : Draw.Src w A zs) : Calls Try.prog 18 #[.slice A zs.length cap] w (LId2 w) := by
  have C0 := cu_new h cap
  have HC := Lib.hid C0; clear C0
  go_enter Try.func18, Try.ntmps18
  go_wp2_with fail
  have HB : Below w.heap.size w (w.alloc (.cells #[.slice A zs.length cap, .int .i64 0, .int .u64 0] 67)) := al (Below.refl _ _)
  have C := HC.out
  have hsz : (w.alloc (.cells #[.slice A zs.length cap, .int .i64 0, .int .u64 0] 67)).heap.size = w.heap.size + 1 := size_alloc' _ _
  clear HC
  generalize w.alloc (.cells #[.slice A zs.length cap, .int .i64 0, .int .u64 0] 67) = v at HB C hsz ⊢
  refine (ponds_d w.heap.size zs w.heap.size 0 v C (by omega)).mono ?_
  rintro e v1 ⟨L, g, c, hl, hs, rfl, O, C1, G⟩
  have hg := own_ge O g (by simp [Value.ownBlock])
  have HB1 := below_of HB G (fun k hk => by injection hk with hk; omega)
  clear C G HB
  go_wp2_with fail
  refine (pondId_d w.heap.size zs w.heap.size _ v1 _ g c L C1 (by omega) O (by omega) hl hs).mono ?_
  rintro e v2 ⟨x, hx, rfl, C2, G2⟩
  have HB2 := below_of HB1 G2 (fun k hk => by injection hk with hk; omega)
  have O2 := own_grownN O G2 (fun k hk => by injection hk with hk; omega)
  have z2 : w.heap.size < v2.heap.size := C2.lt
  clear O C1 G2 HB1
  have T0 : Lst (v2.alloc (.cells #[.int .i64 1, .int .i64 2, .int .i64 3, .int .i64 3, .int .i64 19, .int .i64 0, .int .i64 20] 3)) v2.heap.size (([1, 2, 3, 3, 19, 0, 20] : List Int).map (Value.int .i64)) := lst_at v2 _ _ rfl
  go_wp2_with fail
  refine (among_d w.heap.size zs w.heap.size _ _ _ 7 [1, 2, 3, 3, 19, 0, 20] (C2.alloc (.cells #[.int .i64 1, .int .i64 2, .int .i64 3, .int .i64 3, .int .i64 19, .int .i64 0, .int .i64 20] 3)) (by omega) T0 (by omega) (by simp) (by simp)).mono ?_
  rintro e v3 ⟨y, hy, rfl, C3, G3⟩
  have hy2 : -1000 ≤ y ∧ y ≤ 1000 := by simp at hy; omega
  have HB3 := below_of (al HB2 (o := .cells #[.int .i64 1, .int .i64 2, .int .i64 3, .int .i64 3, .int .i64 19, .int .i64 0, .int .i64 20] 3)) G3 (fun k hk => by injection hk with hk; omega)
  have O3 := own_base (own_grownN (own_keep O2 (al (Below.refl _ _) (o := .cells #[.int .i64 1, .int .i64 2, .int .i64 3, .int .i64 3, .int .i64 19, .int .i64 0, .int .i64 20] 3))) G3 (fun k hk => by injection hk with hk; omega)) (base' := w.heap.size) (by omega)
  clear O2 C2 C3 G3 HB2 T0 hy
  go_wp2
  go_ret3
  exact ⟨L, g, c, x, y, hl, hs, hx, hy2, rfl, O3, HB3⟩
end Go.Proofs.Ytncdkfkihfhcgaa.CDraw
