/- The draws of PondAt and IsPond. -/
import Derived.Test.YtfngglnjdeajfaaDPond3
namespace Go.Proofs.Ytfngglnjdeajfaa.DPond4
open Go.RowKit Go.Proofs.Ytfngglnjdeajfaa.Mem Go.Proofs.Ytfngglnjdeajfaa.Base Go.Proofs.Ytfngglnjdeajfaa.Draw Go.Proofs.Ytfngglnjdeajfaa.Boxes Go.Proofs.Ytfngglnjdeajfaa.Keep Go.Proofs.Ytfngglnjdeajfaa.Dr Go.Proofs.Ytfngglnjdeajfaa.SPond Go.Proofs.Ytfngglnjdeajfaa.DPond Go.Proofs.Ytfngglnjdeajfaa.DPond2 Go.Proofs.Ytfngglnjdeajfaa.DPond3 Go.Proofs.Ytfngglnjdeajfaa.Cut Go.Proofs.Ytfngglnjdeajfaa.PClone
set_option linter.unusedVariables false
set_option maxRecDepth 100000
theorem lst_take {w : World} {g : Nat} {xs : List Int} (h : Lst w g (xs.map (Value.int .i64))) (m : Nat) : Lst w g ((xs.take m).map (Value.int .i64)) := by
  refine ⟨h.1, fun j v hv => h.2 j v ?_⟩
  rw [List.map_take, List.getElem?_take] at hv
  split at hv
  · exact hv
  · cases hv
set_option maxHeartbeats 1600000 in
theorem drawPondAt (A : Option Addr) (cap : Nat) (zs : List Int) (w : World) (h : Src w A zs) : Calls Try.prog 30 #[.slice A zs.length cap] w (LId2 w) := by
  have C0 := cu_new h cap
  have HC := Lib.hid C0; clear C0
  go_enter Try.func30, Try.ntmps30
  go_wp2_with fail
  have HB : Below w.heap.size w (w.alloc (.cells #[.slice A zs.length cap, .int .i64 0, .int .u64 0] 66)) := al (Below.refl _ _)
  have C := HC.out
  have hsz : (w.alloc (.cells #[.slice A zs.length cap, .int .i64 0, .int .u64 0] 66)).heap.size = w.heap.size + 1 := size_alloc' _ _
  clear HC
  generalize w.alloc (.cells #[.slice A zs.length cap, .int .i64 0, .int .u64 0] 66) = v at HB C hsz ⊢
  refine (ponds_d w.heap.size zs w.heap.size 0 v C (by omega)).mono ?_
  rintro e v1 ⟨L, g, c, hl, hs, rfl, O, C1, G⟩
  have hg := own_ge O g (by simp [Value.ownBlock])
  have HB1 := below_of HB G (fun k hk => by injection hk with hk; omega)
  have z1 : w.heap.size < v1.heap.size := C1.lt
  clear C G HB
  have T0 : Lst (v1.alloc (.cells #[.int .i64 0, .int .i64 3, .int .i64 4, .int .i64 7, .int .i64 11, .int .i64 49, .int .i64 (-1), .int .i64 50] 3)) v1.heap.size (([0, 3, 4, 7, 11, 49, -1, 50] : List Int).map (Value.int .i64)) := lst_at v1 _ _ rfl
  go_wp2_with fail
  refine (pick_d w.heap.size zs w.heap.size _ _ 24 (C1.alloc (.cells #[.int .i64 0, .int .i64 3, .int .i64 4, .int .i64 7, .int .i64 11, .int .i64 49, .int .i64 (-1), .int .i64 50] 3)) (by omega) (by omega) (by omega)).mono ?_
  rintro e p0 ⟨z0, zr0, rfl, D0, G0⟩
  replace T0 := T0.went G0 (by omega)
  have P0 := own_grownN (own_keep O (al (Below.refl _ _) (o := (.cells #[.int .i64 0, .int .i64 3, .int .i64 4, .int .i64 7, .int .i64 11, .int .i64 49, .int .i64 (-1), .int .i64 50] 3)))) G0 (fun k hk => by injection hk with hk; omega)
  have hP0 := below_of (al HB1 (o := (.cells #[.int .i64 0, .int .i64 3, .int .i64 4, .int .i64 7, .int .i64 11, .int .i64 49, .int .i64 (-1), .int .i64 50] 3))) G0 (fun k hk => by injection hk with hk; omega)
  clear C1 O HB1 G0
  have t0 : Int.tdiv z0 11 = z0 / 11 := Int.tdiv_eq_ediv_of_nonneg zr0.1
  have w0 : IntKind.i64.wrap (6 + z0 / 11) = 6 + z0 / 11 := IntWalk.i64_in _ (by omega)
  obtain ⟨xs0, hm0, hx0t⟩ : ∃ xs : List Int, 6 + z0 / 11 = (xs.length : Int) ∧ xs = ([0, 3, 4, 7, 11, 49, -1, 50] : List Int).take (6 + z0 / 11).toNat := ⟨_, by rw [List.length_take]; simp; omega, rfl⟩
  have b0 : 6 ≤ xs0.length ∧ xs0.length ≤ 8 := by omega
  replace T0 : Lst p0 v1.heap.size (xs0.map (Value.int .i64)) := by rw [hx0t]; exact lst_take T0 _
  have HX0 := Lib.hid hx0t; have HM0 := Lib.hid hm0; clear hx0t hm0 w0
  have w0 : IntKind.i64.wrap (6 + z0 / 11) = 6 + z0 / 11 := IntWalk.i64_in _ (by omega)
  have v00 : 0 ≤ 6 + z0 / 11 := by omega
  have v01 : 6 + z0 / 11 ≤ 8 := by omega
  go_wp2_with fail
  rw [show (6 + z0 / 11).toNat = xs0.length by have := HM0.out; omega]
  refine (among_d w.heap.size zs w.heap.size _ p0 _ 8 xs0 D0 (by omega) T0 (by omega) (by omega) (by omega)).mono ?_
  rintro e q0 ⟨a, hx0, rfl, E0, G0⟩
  have ra : -1000 ≤ a ∧ a ≤ 1000 := by rw [HX0.out] at hx0; have := List.mem_of_mem_take hx0; simp at this; omega
  have Q0 := own_grownN P0 G0 (fun k hk => by injection hk with hk; omega)
  have hQ0 := below_of hP0 G0 (fun k hk => by injection hk with hk; omega)
  have y0 : w.heap.size < q0.heap.size := E0.lt
  clear P0 hP0 D0 G0 T0 hx0
  have T1 : Lst (q0.alloc (.cells #[.int .i64 0, .int .i64 2, .int .i64 3, .int .i64 8, .int .i64 30, .int .i64 49, .int .i64 (-1), .int .i64 50] 3)) q0.heap.size (([0, 2, 3, 8, 30, 49, -1, 50] : List Int).map (Value.int .i64)) := lst_at q0 _ _ rfl
  go_wp2_with fail
  refine (pick_d w.heap.size zs w.heap.size _ _ 24 (E0.alloc (.cells #[.int .i64 0, .int .i64 2, .int .i64 3, .int .i64 8, .int .i64 30, .int .i64 49, .int .i64 (-1), .int .i64 50] 3)) (by omega) (by omega) (by omega)).mono ?_
  rintro e p1 ⟨z1, zr1, rfl, D1, G1⟩
  replace T1 := T1.went G1 (by omega)
  have P1 := own_grownN (own_keep Q0 (al (Below.refl _ _) (o := (.cells #[.int .i64 0, .int .i64 2, .int .i64 3, .int .i64 8, .int .i64 30, .int .i64 49, .int .i64 (-1), .int .i64 50] 3)))) G1 (fun k hk => by injection hk with hk; omega)
  have hP1 := below_of (al hQ0 (o := (.cells #[.int .i64 0, .int .i64 2, .int .i64 3, .int .i64 8, .int .i64 30, .int .i64 49, .int .i64 (-1), .int .i64 50] 3))) G1 (fun k hk => by injection hk with hk; omega)
  clear E0 Q0 hQ0 G1
  have t1 : Int.tdiv z1 11 = z1 / 11 := Int.tdiv_eq_ediv_of_nonneg zr1.1
  have w1 : IntKind.i64.wrap (6 + z1 / 11) = 6 + z1 / 11 := IntWalk.i64_in _ (by omega)
  obtain ⟨xs1, hm1, hx1t⟩ : ∃ xs : List Int, 6 + z1 / 11 = (xs.length : Int) ∧ xs = ([0, 2, 3, 8, 30, 49, -1, 50] : List Int).take (6 + z1 / 11).toNat := ⟨_, by rw [List.length_take]; simp; omega, rfl⟩
  have b1 : 6 ≤ xs1.length ∧ xs1.length ≤ 8 := by omega
  replace T1 : Lst p1 q0.heap.size (xs1.map (Value.int .i64)) := by rw [hx1t]; exact lst_take T1 _
  have HX1 := Lib.hid hx1t; have HM1 := Lib.hid hm1; clear hx1t hm1 w1
  have w1 : IntKind.i64.wrap (6 + z1 / 11) = 6 + z1 / 11 := IntWalk.i64_in _ (by omega)
  have v10 : 0 ≤ 6 + z1 / 11 := by omega
  have v11 : 6 + z1 / 11 ≤ 8 := by omega
  go_wp2_with fail
  rw [show (6 + z1 / 11).toNat = xs1.length by have := HM1.out; omega]
  refine (among_d w.heap.size zs w.heap.size _ p1 _ 8 xs1 D1 (by omega) T1 (by omega) (by omega) (by omega)).mono ?_
  rintro e q1 ⟨b, hx1, rfl, E1, G1⟩
  have rb : -1000 ≤ b ∧ b ≤ 1000 := by rw [HX1.out] at hx1; have := List.mem_of_mem_take hx1; simp at this; omega
  have Q1 := own_grownN P1 G1 (fun k hk => by injection hk with hk; omega)
  have hQ1 := below_of hP1 G1 (fun k hk => by injection hk with hk; omega)
  have y1 : w.heap.size < q1.heap.size := E1.lt
  clear P1 hP1 D1 G1 T1 hx1
  go_wp2
  go_ret3
  exact ⟨L, g, c, a, b, hl, hs, ra, rb, rfl, own_base Q1 (by omega), hQ1⟩
def DOne (w : World) (e : Ending) (w' : World) : Prop := ∃ x : R, Sm x ∧ e = .returned (.agg #[.int .i64 x.f0, .int .i64 x.f1, .int .i64 x.f2, .int .i64 x.f3, .int .i64 x.f4, .int .i64 x.f5]) ∧ Below w.heap.size w w'
set_option maxHeartbeats 800000 in
theorem drawIsPond (A : Option Addr) (cap : Nat) (zs : List Int) (w : World) (h : Src w A zs) : Calls Try.prog 33 #[.slice A zs.length cap] w (DOne w) := by
  have C0 := cu_new (h.below (al (Below.refl _ w) (o := (.cells #[.int .i64 0, .int .i64 0, .int .i64 0, .int .i64 0, .int .i64 0, .int .i64 0] 34)))) cap
  have HC := Lib.hid C0; clear C0
  have X0 := Cb.new w [.int .i64 0, .int .i64 0, .int .i64 0, .int .i64 0, .int .i64 0, .int .i64 0] 34 (g := w.heap.size) rfl
  have HX := Lib.hid X0; clear X0
  go_enter Try.func33, Try.ntmps33
  go_wp2_with fail
  have HB : Below w.heap.size w (((w.alloc (.cells #[.int .i64 0, .int .i64 0, .int .i64 0, .int .i64 0, .int .i64 0, .int .i64 0] 34)).alloc (.cells #[.slice A zs.length cap, .int .i64 0, .int .u64 0] 66)).alloc (.cells #[.int .i64 1, .int .i64 42, .int .i64 99] 3)) := al (al (al (Below.refl _ _)))
  have C := HC.out.alloc (.cells #[.int .i64 1, .int .i64 42, .int .i64 99] 3)
  rw [size_alloc'] at C
  have X := (HX.out.alloc (.cells #[.slice A zs.length cap, .int .i64 0, .int .u64 0] 66)).alloc (.cells #[.int .i64 1, .int .i64 42, .int .i64 99] 3)
  have T : Lst (((w.alloc (.cells #[.int .i64 0, .int .i64 0, .int .i64 0, .int .i64 0, .int .i64 0, .int .i64 0] 34)).alloc (.cells #[.slice A zs.length cap, .int .i64 0, .int .u64 0] 66)).alloc (.cells #[.int .i64 1, .int .i64 42, .int .i64 99] 3)) (w.heap.size + 1 + 1) (([1, 42, 99] : List Int).map (Value.int .i64)) := lst_at _ _ _ (by simp only [size_alloc'])
  have hsz : (((w.alloc (.cells #[.int .i64 0, .int .i64 0, .int .i64 0, .int .i64 0, .int .i64 0, .int .i64 0] 34)).alloc (.cells #[.slice A zs.length cap, .int .i64 0, .int .u64 0] 66)).alloc (.cells #[.int .i64 1, .int .i64 42, .int .i64 99] 3)).heap.size = w.heap.size + 3 := by simp only [size_alloc']
  clear HC HX
  generalize ((w.alloc (.cells #[.int .i64 0, .int .i64 0, .int .i64 0, .int .i64 0, .int .i64 0, .int .i64 0] 34)).alloc (.cells #[.slice A zs.length cap, .int .i64 0, .int .u64 0] 66)).alloc (.cells #[.int .i64 1, .int .i64 42, .int .i64 99] 3) = v at HB C X T hsz ⊢
  refine (among_d _ zs _ 0 v _ 3 [1, 42, 99] C (by omega) T (by omega) (by simp) (by simp)).mono ?_
  rintro e v1 ⟨a, ha, rfl, C1, G⟩
  have ra : 1 ≤ a ∧ a ≤ 99 := by simp at ha; omega
  have X1 := X.went G (by omega)
  have B1 := below_of HB G (fun k hk => by injection hk with hk; omega)
  clear ha C X G HB T
  go_wp2_with fail
  refine (pond_d _ zs _ _ v1 a (by omega) (by omega) C1 (by omega)).mono ?_
  rintro e v2 ⟨x, hsx, rfl, C2, G2⟩
  have X2 := X1.went G2 (by omega)
  have B2 := below_of B1 G2 (fun k hk => by injection hk with hk; omega)
  clear C1 X1 G2 B1 C2
  have HSX := Lib.hid hsx; clear hsx
  have c0 := X2.cells 0 _ rfl; have c1 := X2.cells 1 _ rfl; have c2 := X2.cells 2 _ rfl; have c3 := X2.cells 3 _ rfl; have c4 := X2.cells 4 _ rfl; have c5 := X2.cells 5 _ rfl
  have f0 := X2.free 0 (by simp); have f1 := X2.free 1 (by simp); have f2 := X2.free 2 (by simp); have f3 := X2.free 3 (by simp); have f4 := X2.free 4 (by simp); have f5 := X2.free 5 (by simp)
  go_wp2
  have Q := (((((X2.set 0 (.int .i64 x.f0)).set 1 (.int .i64 x.f1)).set 2 (.int .i64 x.f2)).set 3 (.int .i64 x.f3)).set 4 (.int .i64 x.f4)).set 5 (.int .i64 x.f5)
  have hb := ((((((B2.setCell (p := ⟨w.heap.size, 0, none⟩) (Nat.le_refl _) (.int .i64 x.f0)).setCell (p := ⟨w.heap.size, 1, none⟩) (Nat.le_refl _) (.int .i64 x.f1)).setCell (p := ⟨w.heap.size, 2, none⟩) (Nat.le_refl _) (.int .i64 x.f2)).setCell (p := ⟨w.heap.size, 3, none⟩) (Nat.le_refl _) (.int .i64 x.f3)).setCell (p := ⟨w.heap.size, 4, none⟩) (Nat.le_refl _) (.int .i64 x.f4)).setCell (p := ⟨w.heap.size, 5, none⟩) (Nat.le_refl _) (.int .i64 x.f5))
  generalize (((((v2.setCell ⟨w.heap.size, 0, none⟩ (.int .i64 x.f0)).setCell ⟨w.heap.size, 1, none⟩ (.int .i64 x.f1)).setCell ⟨w.heap.size, 2, none⟩ (.int .i64 x.f2)).setCell ⟨w.heap.size, 3, none⟩ (.int .i64 x.f3)).setCell ⟨w.heap.size, 4, none⟩ (.int .i64 x.f4)).setCell ⟨w.heap.size, 5, none⟩ (.int .i64 x.f5) = U at Q hb ⊢
  clear c0 c1 c2 c3 c4 c5 f0 f1 f2 f3 f4 f5 X2 B2
  have q0 := Q.cells 0 _ rfl; have q1 := Q.cells 1 _ rfl; have q2 := Q.cells 2 _ rfl; have q3 := Q.cells 3 _ rfl; have q4 := Q.cells 4 _ rfl; have q5 := Q.cells 5 _ rfl
  exact bodyPost_ret (v := .agg #[.int .i64 x.f0, .int .i64 x.f1, .int .i64 x.f2, .int .i64 x.f3, .int .i64 x.f4, .int .i64 x.f5]) (by simp [results, Try.results33, go_sem, q0, q1, q2, q3, q4, q5]) rfl ⟨x, HSX.out, rfl, hb⟩
end Go.Proofs.Ytfngglnjdeajfaa.DPond4
