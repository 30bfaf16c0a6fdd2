/- JoinPonds: the program's. -/
import Derived.Test.YtncdkfkihfhcgaaJPond2
import Derived.Test.YtncdkfkihfhcgaaPDel
namespace Go.Proofs.Ytncdkfkihfhcgaa.JPond3
open Go.RowKit Go.Proofs.Ytncdkfkihfhcgaa.Mem Go.Proofs.Ytncdkfkihfhcgaa.Base Go.Proofs.Ytncdkfkihfhcgaa.Within Go.Proofs.Ytncdkfkihfhcgaa.SPond Go.Proofs.Ytncdkfkihfhcgaa.Regn Go.Proofs.Ytncdkfkihfhcgaa.Boxes Go.Proofs.Ytncdkfkihfhcgaa.Pond Go.Proofs.Ytncdkfkihfhcgaa.Pond2 Go.Proofs.Ytncdkfkihfhcgaa.Pond3 Go.Proofs.Ytncdkfkihfhcgaa.Pond4 Go.Proofs.Ytncdkfkihfhcgaa.IPond Go.Proofs.Ytncdkfkihfhcgaa.IPond2 Go.Proofs.Ytncdkfkihfhcgaa.Pond6 Go.Proofs.Ytncdkfkihfhcgaa.Pond7 Go.Proofs.Ytncdkfkihfhcgaa.Keep Go.Proofs.Ytncdkfkihfhcgaa.PClone Go.Proofs.Ytncdkfkihfhcgaa.Cut Go.Proofs.Ytncdkfkihfhcgaa.JPond Go.Proofs.Ytncdkfkihfhcgaa.JPond2 Go.Proofs.Ytncdkfkihfhcgaa.PDel
set_option linter.unusedVariables false
set_option maxRecDepth 100000
set_option maxHeartbeats 1600000 in
theorem join_impl (P : Option Addr) (cap : Nat) (l : List R) (a b : Int) (w : World) (hr : Rd w w.heap.size P (flat l)) (hcap : l.length ≤ cap) (hn : l.length ≤ 1048576) :
    Calls Try.prog 15 #[.slice P l.length cap, .int .i64 a, .int .i64 b] w (JPost (joinL l a b) (joinOk l a b) w) := by
  have HR := Lib.hid hr; clear hr
  go_enter Try.func15, Try.ntmps15
  go_wp2_with fail
  refine (two_impl P cap l a b w HR.out hcap hn).mono ?_
  rintro e w1 ⟨rfl, HB⟩
  by_cases h : Two l a b
  · obtain ⟨i, hi, hil, hia, hg⟩ := find_ok h.1
    obtain ⟨k, hk, hkl, _, _⟩ := find_ok h.2.1
    have hg1 := (good_all hg).1
    have hne : i ≠ k := fun e => h.2.2 ((two_ne hi hk).1 e)
    obtain ⟨x, hx⟩ : ∃ x, l[i] = x := ⟨_, rfl⟩
    obtain ⟨y, hy⟩ : ∃ y, l[k] = y := ⟨_, rfl⟩
    have hxa : x.f0 = a := by rw [← hx]; exact hia
    have HIN := Lib.hid (jok_in h hi hk hil hkl hx hy)
    have HXA := Lib.hid hxa; clear hxa
    rw [twoV_yes h hi hk]; clear hi hk h
    have hox := (good_all hg).2 i hil; rw [hx] at hox
    have hoy := (good_all hg).2 k hkl; rw [hy] at hoy
    obtain ⟨o1, o, rfl, hb, hc⟩ := HR.out.at (k := i * 6) (by rw [flat_n]; omega)
    obtain ⟨x0, x1, x2, x3, x4, x5⟩ := cells6 (Below.refl _ w) hb hc hil hx
    obtain ⟨y0, y1, y2, y3, y4, y5⟩ := cells6 (Below.refl _ w) hb hc hkl hy
    have HOX := Lib.hid hox; have HOY := Lib.hid hoy; clear hc hox hoy hx hy hg hia
    have x0_c := ((bcell HB).1 _ _ hb).trans x0
    have x1_c := ((bcell HB).1 _ _ hb).trans x1
    have x2_c := ((bcell HB).1 _ _ hb).trans x2
    have x3_c := ((bcell HB).1 _ _ hb).trans x3
    have x4_c := ((bcell HB).1 _ _ hb).trans x4
    have x5_c := ((bcell HB).1 _ _ hb).trans x5
    have y0_c := ((bcell HB).1 _ _ hb).trans y0
    have y1_c := ((bcell HB).1 _ _ hb).trans y1
    have y2_c := ((bcell HB).1 _ _ hb).trans y2
    have y3_c := ((bcell HB).1 _ _ hb).trans y3
    have y4_c := ((bcell HB).1 _ _ hb).trans y4
    have y5_c := ((bcell HB).1 _ _ hb).trans y5
    have hb1 : o1 < w1.heap.size := Nat.lt_of_lt_of_le hb HB.size
    go_upto_region 4 with fail
    go_cut [11] (fun p wx => ∃ d, p = .pointer (some ⟨d, 0, none⟩) ∧ Box d [.int .i64 x.f0, .int .i64 (oL x y), .int .i64 (oT x y), .int .i64 (oW x y), .int .i64 (oH x y), .int .i64 (oD x y)] w wx)
    case first =>
      go_region_with (go_at_call 41; (with_reducible refine (around_any x y HOX.out HOY.out _).mono ?_); rintro e w3 ⟨rfl, hv3⟩; first | (have D3 : Box w1.heap.size [.int .i64 0, .int .i64 0, .int .i64 0, .int .i64 0, .int .i64 0, .int .i64 0] w w3 := (Box.new HB [.int .i64 0, .int .i64 0, .int .i64 0, .int .i64 0, .int .i64 0, .int .i64 0] 54 rfl).drew.more hv3; have c0 := D3.cells 0 _ rfl; have c1 := D3.cells 1 _ rfl; have c2 := D3.cells 2 _ rfl; have c3 := D3.cells 3 _ rfl; have c4 := D3.cells 4 _ rfl; have c5 := D3.cells 5 _ rfl; have f0 := D3.free 0 (by simp); have f1 := D3.free 1 (by simp); have f2 := D3.free 2 (by simp); have f3 := D3.free 3 (by simp); have f4 := D3.free 4 (by simp); have f5 := D3.free 5 (by simp); go_wp2_with fail) | go_wp2_with fail)
      all_goals (go_wp2_with fail)
      all_goals go_meet
      all_goals (refine ⟨_, rfl, ?_⟩; first | with_reducible exact box_six D3 rfl rfl rfl rfl rfl rfl | exact Box.new (be HB.drew hv3) _ _ rfl)
    case rest =>
      obtain ⟨d, rfl, D0⟩ := hcut
      clear HB hb1 x0_c x1_c x2_c x3_c x4_c x5_c y0_c y1_c y2_c y3_c y4_c y5_c
      obtain ⟨p, hp⟩ : ∃ p, around a x y = p := ⟨_, rfl⟩
      have D : Box d [.int .i64 p.f0, .int .i64 p.f1, .int .i64 p.f2, .int .i64 p.f3, .int .i64 p.f4, .int .i64 p.f5] w wc := by rw [← hp, ← HXA.out]; exact D0
      clear D0
      obtain ⟨_, _, _, _, hw1, hw2, hh1, hh2, _, _, _, _⟩ := around_bd HOX.out HOY.out
      have hp3 : p.f3 = oW x y := by rw [← hp]; rfl
      have hp4 : p.f4 = oH x y := by rw [← hp]; rfl
      rw [← hp3] at hw1 hw2
      rw [← hp4] at hh1 hh2
      have HF := Lib.hid (show fills x y = decide (p.f3 * p.f4 = x.f3 * x.f4 + y.f3 * y.f4) by rw [hp3, hp4]; rfl)
      have HIN2 := Lib.hid (show joinOk l a b = (fills x y && good (joinRow l i k p)) by rw [HIN.out.1, hp])
      have HYES := Lib.hid (show joinOk l a b = true → joinL l a b = joinRow l i k p from fun h => by rw [HIN.out.2 h, hp])
      obtain ⟨_, _, a1, a2, a3, a4, a5, a6, a7, a8, _, _, _, _⟩ := okP_true HOX.out
      obtain ⟨_, _, b1, b2, b3, b4, b5, b6, b7, b8, _, _, _, _⟩ := okP_true HOY.out
      have AX := Lib.hid (fun u => area_any x (by omega) (by omega) (by omega) (by omega) u)
      have AY := Lib.hid (fun u => area_any y (by omega) (by omega) (by omega) (by omega) u)
      have AP := Lib.hid (fun u => area_any p (by omega) (by omega) (by omega) (by omega) u)
      have m0 : 0 ≤ x.f3 * x.f4 := Int.mul_nonneg (by omega) (by omega)
      have m1 : x.f3 * x.f4 ≤ 20 * 20 := Int.mul_le_mul a6 a8 (by omega) (by omega)
      have m2 : 0 ≤ y.f3 * y.f4 := Int.mul_nonneg (by omega) (by omega)
      have m3 : y.f3 * y.f4 ≤ 20 * 20 := Int.mul_le_mul b6 b8 (by omega) (by omega)
      have z4 : IntKind.i64.wrap (x.f3 * x.f4 + y.f3 * y.f4) = x.f3 * x.f4 + y.f3 * y.f4 := IntWalk.i64_in _ (by omega)
      clear m0 m1 m2 m3 a1 a2 a3 a4 a5 a6 a7 a8 b1 b2 b3 b4 b5 b6 b7 b8 hp hp3 hp4 hw1 hw2 hh1 hh2 HIN HXA
      have HB := D.below
      have x0_c := ((bcell D.below).1 _ _ hb).trans x0
      have x1_c := ((bcell D.below).1 _ _ hb).trans x1
      have x2_c := ((bcell D.below).1 _ _ hb).trans x2
      have x3_c := ((bcell D.below).1 _ _ hb).trans x3
      have x4_c := ((bcell D.below).1 _ _ hb).trans x4
      have x5_c := ((bcell D.below).1 _ _ hb).trans x5
      have y0_c := ((bcell D.below).1 _ _ hb).trans y0
      have y1_c := ((bcell D.below).1 _ _ hb).trans y1
      have y2_c := ((bcell D.below).1 _ _ hb).trans y2
      have y3_c := ((bcell D.below).1 _ _ hb).trans y3
      have y4_c := ((bcell D.below).1 _ _ hb).trans y4
      have y5_c := ((bcell D.below).1 _ _ hb).trans y5
      have D_0 := D.cells 0 _ rfl
      have D_1 := D.cells 1 _ rfl
      have D_2 := D.cells 2 _ rfl
      have D_3 := D.cells 3 _ rfl
      have D_4 := D.cells 4 _ rfl
      have D_5 := D.cells 5 _ rfl
      have D_f0 := D.free 0 (by simp)
      have D_f1 := D.free 1 (by simp)
      have D_f2 := D.free 2 (by simp)
      have D_f3 := D.free 3 (by simp)
      have D_f4 := D.free 4 (by simp)
      have D_f5 := D.free 5 (by simp)
      have D_t := D.there
      clear HB
      go_upto_region 5 with fail
      refine wp_region_text (fun w' => Box (d) [.int .i64 p.f0, .int .i64 p.f1, .int .i64 p.f2, .int .i64 p.f3, .int .i64 p.f4, .int .i64 p.f5] w w') (by kernel_rfl) (by kernel_rfl) (D.drew) ?_
      clear D_0 D_1 D_2 D_3 D_4 D_5 D_f0 D_f1 D_f2 D_f3 D_f4 D_f5 D_t
      clear x0_c
      clear x1_c
      clear x2_c
      clear x3_c
      clear x4_c
      clear x5_c
      clear y0_c
      clear y1_c
      clear y2_c
      clear y3_c
      clear y4_c
      clear y5_c
      iterate 14 (
        apply SeqH.one
        · intro uw K hS hK
          have qD := hS
          have qD_0 := qD.cells 0 _ rfl
          have qD_1 := qD.cells 1 _ rfl
          have qD_2 := qD.cells 2 _ rfl
          have qD_3 := qD.cells 3 _ rfl
          have qD_4 := qD.cells 4 _ rfl
          have qD_5 := qD.cells 5 _ rfl
          have qx0_c := ((bcell qD.below).1 _ _ hb).trans x0
          have qx1_c := ((bcell qD.below).1 _ _ hb).trans x1
          have qx2_c := ((bcell qD.below).1 _ _ hb).trans x2
          have qx3_c := ((bcell qD.below).1 _ _ hb).trans x3
          have qx4_c := ((bcell qD.below).1 _ _ hb).trans x4
          have qx5_c := ((bcell qD.below).1 _ _ hb).trans x5
          have qy0_c := ((bcell qD.below).1 _ _ hb).trans y0
          have qy1_c := ((bcell qD.below).1 _ _ hb).trans y1
          have qy2_c := ((bcell qD.below).1 _ _ hb).trans y2
          have qy3_c := ((bcell qD.below).1 _ _ hb).trans y3
          have qy4_c := ((bcell qD.below).1 _ _ hb).trans y4
          have qy5_c := ((bcell qD.below).1 _ _ hb).trans y5
          first
            | (go_simp; exact hK.out _ qD)
            | (go_simp; go_at_call 37; (with_reducible refine (AP.out _).mono ?_); rintro e uw1 ⟨rfl, hv⟩; go_wp2_with fail; exact hK.out _ (qD.more hv))
            | (go_simp; go_at_call 37; (with_reducible refine (AX.out _).mono ?_); rintro e uw1 ⟨rfl, hv⟩; go_wp2_with fail; exact hK.out _ (qD.more hv))
            | (go_simp; go_at_call 37; (with_reducible refine (AY.out _).mono ?_); rintro e uw1 ⟨rfl, hv⟩; go_wp2_with fail; exact hK.out _ (qD.more hv))
        try simp only [Act.put, List.setIfInBounds_toArray, List.set_cons_zero, List.set_cons_succ])
      refine SeqH.end' rfl ?_
      intro v1 hS
      clear D
      have D := hS; clear hS
      have D_0 := D.cells 0 _ rfl
      have D_1 := D.cells 1 _ rfl
      have D_2 := D.cells 2 _ rfl
      have D_3 := D.cells 3 _ rfl
      have D_4 := D.cells 4 _ rfl
      have D_5 := D.cells 5 _ rfl
      have D_f0 := D.free 0 (by simp)
      have D_f1 := D.free 1 (by simp)
      have D_f2 := D.free 2 (by simp)
      have D_f3 := D.free 3 (by simp)
      have D_f4 := D.free 4 (by simp)
      have D_f5 := D.free 5 (by simp)
      have D_t := D.there
      have x0_c := ((bcell D.below).1 _ _ hb).trans x0
      have x1_c := ((bcell D.below).1 _ _ hb).trans x1
      have x2_c := ((bcell D.below).1 _ _ hb).trans x2
      have x3_c := ((bcell D.below).1 _ _ hb).trans x3
      have x4_c := ((bcell D.below).1 _ _ hb).trans x4
      have x5_c := ((bcell D.below).1 _ _ hb).trans x5
      have y0_c := ((bcell D.below).1 _ _ hb).trans y0
      have y1_c := ((bcell D.below).1 _ _ hb).trans y1
      have y2_c := ((bcell D.below).1 _ _ hb).trans y2
      have y3_c := ((bcell D.below).1 _ _ hb).trans y3
      have y4_c := ((bcell D.below).1 _ _ hb).trans y4
      have y5_c := ((bcell D.below).1 _ _ hb).trans y5
      clear x0_c
      clear x1_c
      clear x2_c
      clear x3_c
      clear x4_c
      clear x5_c
      clear y0_c
      clear y1_c
      clear y2_c
      clear y3_c
      clear y4_c
      clear y5_c
      clear x0 x1 x2 x3 x4 x5 y0 y1 y2 y3 y4 y5 z4
      by_cases hfl : p.f3 * p.f4 = x.f3 * x.f4 + y.f3 * y.f4
      · have hq2 : (p.f3 * p.f4 != x.f3 * x.f4 + y.f3 * y.f4) = false := by simp [hfl]
        have HIN1 := Lib.hid (show joinOk l a b = good (joinRow l i k p) by rw [HIN2.out, HF.out, decide_eq_true hfl]; rfl)
        clear hfl
        go_wp2_with fail
        refine (clone_any (some ⟨o1, o, none⟩) cap l v1 (rd_keep HR.out D.below) hn).mono ?_
        rintro e V2 ⟨A, c, rfl, O, hv⟩
        obtain ⟨g, c2, rfl, rfl⟩ := own_some O (by omega)
        have hgd : g ≠ d := by have := own_ge O g (by simp [Value.ownBlock]); have := D.there; omega
        have hgw : w.heap.size ≤ g := by have := own_ge O g (by simp [Value.ownBlock]); have := D.below.size; omega
        replace O := own_base O (base' := w.heap.size) D.below.size
        clear D_0 D_1 D_2 D_3 D_4 D_5 D_f0 D_f1 D_f2 D_f3 D_f4 D_f5 D_t
        replace D := D.more hv
        clear hv
        have D_0 := D.cells 0 _ rfl
        have D_1 := D.cells 1 _ rfl
        have D_2 := D.cells 2 _ rfl
        have D_3 := D.cells 3 _ rfl
        have D_4 := D.cells 4 _ rfl
        have D_5 := D.cells 5 _ rfl
        have D_f0 := D.free 0 (by simp)
        have D_f1 := D.free 1 (by simp)
        have D_f2 := D.free 2 (by simp)
        have D_f3 := D.free 3 (by simp)
        have D_f4 := D.free 4 (by simp)
        have D_f5 := D.free 5 (by simp)
        have D_t := D.there
        obtain ⟨q0, hq0⟩ : ∃ u, l[i] = u := ⟨_, rfl⟩
        obtain ⟨c0, c1, c2, c3, c4, c5⟩ := own6 O hil hq0
        have g0 := O.frozenAt (i * 6); have g1 := O.frozenAt (i * 6 + 1); have g2 := O.frozenAt (i * 6 + 2); have g3 := O.frozenAt (i * 6 + 3); have g4 := O.frozenAt (i * 6 + 4); have g5 := O.frozenAt (i * 6 + 5)
        clear hq0
        go_upto_region 9 with fail
        have hB : Below w.heap.size w _ := ((((((D.far hgw hgd (i * 6) (.int .i64 p.f0)).far hgw hgd (i * 6 + 1) (.int .i64 p.f1)).far hgw hgd (i * 6 + 2) (.int .i64 p.f2)).far hgw hgd (i * 6 + 3) (.int .i64 p.f3)).far hgw hgd (i * 6 + 4) (.int .i64 p.f4)).far hgw hgd (i * 6 + 5) (.int .i64 p.f5)).below
        have O1 : (((((((V2.setCell ⟨g, i * 6, none⟩ (.int .i64 p.f0)).setCell ⟨g, i * 6 + 1, none⟩ (.int .i64 p.f1)).setCell ⟨g, i * 6 + 2, none⟩ (.int .i64 p.f2)).setCell ⟨g, i * 6 + 3, none⟩ (.int .i64 p.f3)).setCell ⟨g, i * 6 + 4, none⟩ (.int .i64 p.f4)).setCell ⟨g, i * 6 + 5, none⟩ (.int .i64 p.f5))).ownsRow w.heap.size 54 6 (.slice (some ⟨g, 0, none⟩) l.length c) l.length (flat (l.set i p)) := by
          have := ((((((O.stored (i * 6) (.int .i64 p.f0)).1.stored (i * 6 + 1) (.int .i64 p.f1)).1.stored (i * 6 + 2) (.int .i64 p.f2)).1.stored (i * 6 + 3) (.int .i64 p.f3)).1.stored (i * 6 + 4) (.int .i64 p.f4)).1.stored (i * 6 + 5) (.int .i64 p.f5)).1
          rw [flat_set l i p hil] at this
          exact this
        generalize ((((((V2.setCell ⟨g, i * 6, none⟩ (.int .i64 p.f0)).setCell ⟨g, i * 6 + 1, none⟩ (.int .i64 p.f1)).setCell ⟨g, i * 6 + 2, none⟩ (.int .i64 p.f2)).setCell ⟨g, i * 6 + 3, none⟩ (.int .i64 p.f3)).setCell ⟨g, i * 6 + 4, none⟩ (.int .i64 p.f4)).setCell ⟨g, i * 6 + 5, none⟩ (.int .i64 p.f5)) = V3 at hB O1 ⊢
        clear D_0 D_1 D_2 D_3 D_4 D_5 D_f0 D_f1 D_f2 D_f3 D_f4 D_f5 D_t
        clear c0 c1 c2 c3 c4 c5 g0 g1 g2 g3 g4 g5 O D
        have hML : l.length = (l.set i p).length := by rw [List.length_set]
        have hkM : k < (l.set i p).length := by omega
        have hlM : (l.set i p).length ≤ 1000 := by omega
        have hEL : (joinRow l i k p).length = (l.set i p).length - 1 := by rw [join_len l i k p hkl, hML]
        have hJ : (l.set i p).eraseIdx k = joinRow l i k p := rfl
        rw [hML] at O1 ⊢
        generalize l.set i p = M at O1 hkM hlM hEL hJ ⊢
        have hkw : IntKind.i64.wrap ((k : Int) + 1) = (k : Int) + 1 := IntWalk.i64_in _ (by omega)
        go_wp2_with fail
        refine (delete_any g c w.heap.size M k (k + 1) (Lib.hid rfl) hkM hlM V3 O1).mono ?_
        rintro e V4 ⟨rfl, O2, hg2⟩
        replace hB := bl_grown hB hg2 (fun q hq => by injection hq with hq; omega)
        rw [hJ, ← hEL] at O2
        rw [← hEL]
        clear O1 hg2 hJ
        have hlen : (joinRow l i k p).length ≤ 1048576 := by omega
        clear hEL hML
        go_wp2_with fail
        refine (are_impl _ c (joinRow l i k p) V4 (Rd.of_own O2) (own_cap O2) hlen).mono ?_
        rintro e V5 ⟨rfl, hv5⟩
        have O3 := own_keep O2 hv5
        replace hB := be hB hv5
        clear O2 hv5
        have hok := HIN1.out
        cases hgc : good (joinRow l i k p)
        · rw [hgc] at hok
          go_wp2
          go_ret2
          exact j_mk (join_no hok) hok rfl (empty_own hB) (al hB)
        · rw [hgc] at hok
          have HOK := Lib.hid hok; clear hok hgc
          go_wp2
          go_ret2
          exact j_mk (HYES.out HOK.out) HOK.out rfl O3 hB
      · have hq2 : (p.f3 * p.f4 != x.f3 * x.f4 + y.f3 * y.f4) = true := by simp [hfl]
        have HNO := Lib.hid (show joinOk l a b = false by rw [HIN2.out, HF.out, decide_eq_false hfl]; rfl)
        clear hfl
        go_wp2
        go_ret2
        exact j_mk (join_no HNO.out) HNO.out rfl (empty_own D.below) (al D.below)
  · have HNO := Lib.hid (jok_two h)
    rw [twoV_no h]
    clear h
    go_wp2
    go_ret2
    exact j_mk (join_no HNO.out) HNO.out rfl (empty_own HB) (al HB)
end Go.Proofs.Ytncdkfkihfhcgaa.JPond3
