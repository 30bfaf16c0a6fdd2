/- OuterBank, FreeCells: the model's and the program's. -/
import Derived.Test.YtfngglnjdeajfaaPond7
namespace Go.Proofs.Ytfngglnjdeajfaa.Pond8
open Go.RowKit Go.Proofs.Ytfngglnjdeajfaa.Mem Go.Proofs.Ytfngglnjdeajfaa.Base Go.Proofs.Ytfngglnjdeajfaa.Within Go.Proofs.Ytfngglnjdeajfaa.SPond Go.Proofs.Ytfngglnjdeajfaa.Regn Go.Proofs.Ytfngglnjdeajfaa.Boxes Go.Proofs.Ytfngglnjdeajfaa.Pond Go.Proofs.Ytfngglnjdeajfaa.Pond2 Go.Proofs.Ytfngglnjdeajfaa.Pond3 Go.Proofs.Ytfngglnjdeajfaa.Pond4 Go.Proofs.Ytfngglnjdeajfaa.IPond Go.Proofs.Ytfngglnjdeajfaa.IPond2 Go.Proofs.Ytfngglnjdeajfaa.Pond6
set_option linter.unusedVariables false
set_option maxRecDepth 100000
def banks (x : R) (l : List R) : Int := (l.map (bank x)).sum
theorem banks_snoc (x : R) (l : List R) (k : Nat) (h : k < l.length) : banks x (l.take (k + 1)) = banks x (l.take k) + bank x l[k] := by
  unfold banks; rw [List.take_succ_eq_append_getElem h, List.map_append, List.sum_append]; simp
theorem bank_self {x : R} (hx : okP x = true) : bank x x = 0 := by
  obtain ⟨_, _, a1, a2, a3, a4, a5, a6, a7, a8, _, _, _, _⟩ := okP_true hx
  unfold bank
  rw [if_neg (by omega), if_neg (by omega)]
def outV (l : List R) (id : Int) : Value := if 0 ≤ find l id then .tuple #[.int .i64 (2 * ((at_ l (find l id)).f3 + (at_ l (find l id)).f4) - banks (at_ l (find l id)) l), .bool true] else .tuple #[.int .i64 0, .bool false]
theorem out_no {l : List R} {id : Int} (h : find l id < 0) : outV l id = .tuple #[.int .i64 0, .bool false] := by unfold outV; rw [if_neg (by omega)]
theorem out_yes {l : List R} {id : Int} {k : Nat} {x : R} {s : Int} (h : find l id = k) (hk : k < l.length) (hx : l[k] = x) (hs : s = 2 * (x.f3 + x.f4) - banks x l) : outV l id = .tuple #[.int .i64 s, .bool true] := by
  unfold outV at_; rw [if_pos (by omega), h, Int.toNat_natCast, getD_at hk, hx, hs]
set_option maxHeartbeats 1000000 in
theorem outer_spec (P : Option Addr) (cap : Nat) (l : List R) (id : Int) (w : World) (hr : Rd w w.heap.size P (flat l)) (hn : l.length ≤ 1048576) :
    Calls Try.prog 19 #[.slice P l.length cap, .int .i64 id] w (RPost (outV l id) w) := by
  have HR := Lib.hid hr; clear hr
  go_enter Try.func19, Try.ntmps19
  go_wp2_with fail
  refine (find_spec P cap l id w HR.out hn).mono ?_
  rintro e w1 ⟨rfl, HB⟩
  by_cases h0 : 0 ≤ find l id
  · obtain ⟨i, hi, hil, _, hg⟩ := find_ok h0
    obtain ⟨x, hx⟩ : ∃ x, l[i] = x := ⟨_, rfl⟩
    have HG := Lib.hid (good_all hg)
    have HV := Lib.hid (fun s (hs : s = 2 * (x.f3 + x.f4) - banks x l) => out_yes hi hil hx hs)
    have hox := HG.out.2 i hil; rw [hx] at hox
    obtain ⟨b, o, rfl, hb, hc⟩ := HR.out.at (k := i * 6) (by rw [flat_n]; omega)
    obtain ⟨x0, x1, x2, x3, x4, x5⟩ := cells6 (Below.refl _ w) hb hc hil hx
    obtain ⟨_, _, _, _, _, _, a5, a6, a7, a8, _, _, a9, a10⟩ := okP_true hox
    have y1 : IntKind.i64.wrap (x.f3 + x.f4) = x.f3 + x.f4 := IntWalk.i64_in _ (by omega)
    have y2 : IntKind.i64.wrap (2 * (x.f3 + x.f4)) = 2 * (x.f3 + x.f4) := IntWalk.i64_in _ (by omega)
    have HS := Lib.hid (show 4 ≤ 2 * (x.f3 + x.f4) ∧ 2 * (x.f3 + x.f4) ≤ 80 by omega)
    rw [hi]; clear hi h0 a5 a6 a7 a8 a9 a10
    have HX := Lib.hid hx; have HOX := Lib.hid hox; have HC := Lib.hid hc; clear hx hox hc hg
    have x0_c := ((bcell HB).1 _ _ hb).trans x0
    have x1_c := ((bcell HB).1 _ _ hb).trans x1
    have x2_c := ((bcell HB).1 _ _ hb).trans x2
    have x3_c := ((bcell HB).1 _ _ hb).trans x3
    have x4_c := ((bcell HB).1 _ _ hb).trans x4
    have x5_c := ((bcell HB).1 _ _ hb).trans x5
    go_wp2_with fail
    refine wp_region_last 12 (fun w' => Below w.heap.size w w') (by kernel_rfl) (by kernel_rfl) (by kernel_rfl) (be HB (Below.refl _ _).drew) ?_
    clear x0_c
    clear x1_c
    clear x2_c
    clear x3_c
    clear x4_c
    clear x5_c
    simp only [List.take_succ_cons, List.take_zero]
    iterate 12 (
      apply SeqH.one
      · intro uw K hS hK
        have qHB := hS
        have qx0_c := ((bcell qHB).1 _ _ hb).trans x0
        have qx1_c := ((bcell qHB).1 _ _ hb).trans x1
        have qx2_c := ((bcell qHB).1 _ _ hb).trans x2
        have qx3_c := ((bcell qHB).1 _ _ hb).trans x3
        have qx4_c := ((bcell qHB).1 _ _ hb).trans x4
        have qx5_c := ((bcell qHB).1 _ _ hb).trans x5
        first
          | (go_simp; exact hK.out _ qHB)
      try simp only [Act.put, List.setIfInBounds_toArray, List.set_cons_zero, List.set_cons_succ])
    refine SeqH.rest rfl ?_
    intro v1 hS
    clear HB
    have HB := hS; clear hS
    simp only [List.drop_succ_cons, List.drop_zero]
    have x0_c := ((bcell HB).1 _ _ hb).trans x0
    have x1_c := ((bcell HB).1 _ _ hb).trans x1
    have x2_c := ((bcell HB).1 _ _ hb).trans x2
    have x3_c := ((bcell HB).1 _ _ hb).trans x3
    have x4_c := ((bcell HB).1 _ _ hb).trans x4
    have x5_c := ((bcell HB).1 _ _ hb).trans x5
    clear y1 y2
    generalize 2 * (x.f3 + x.f4) = S at *
    go_wp2
    go_loopw [7, 8] (fun s i wr => ∃ (k : Nat) (t : Int), k ≤ l.length ∧ i = .int .i64 k ∧ s = .int .i64 t ∧ Hid (t = S - banks x (l.take k)) ∧ S - 20 * k ≤ t ∧ t ≤ S ∧ Below w.heap.size w wr) (fun _ i _ => l.length - (intOf i).toNat)
    case atStart => exact ⟨0, S, Nat.zero_le _, rfl, rfl, Lib.hid (by simp [banks]), by omega, by omega, HB⟩
    case round =>
      clear x0_c
      clear x1_c
      clear x2_c
      clear x3_c
      clear x4_c
      clear x5_c
      clear HB
      obtain ⟨k, t, hk, rfl, rfl, HT, t0, t1, HB⟩ := hrel
      by_cases hlt : k < l.length
      · obtain ⟨y, hy⟩ : ∃ y, l[k] = y := ⟨_, rfl⟩
        obtain ⟨y0, y1, y2, y3, y4, y5⟩ := cells6 (Below.refl _ w) hb HC.out hlt hy
        have hoy := HG.out.2 k hlt; rw [hy] at hoy
        have hbd := bank_bd HOX.out hoy
        have HN := Lib.hid (show t - bank x y = S - banks x (l.take (k + 1)) by rw [banks_snoc x l k hlt, HT.out, hy]; omega)
        have HCY := Lib.hid (fun u => bank_spec x y HOX.out hoy u)
        have HSK := Lib.hid (fun h : k = i => show bank x y = 0 by subst h; rw [← hy]; exact (congrArg (bank x) HX.out).trans (bank_self HOX.out))
        have HK := Lib.hid HG.out.1
        have HL := Lib.hid hlt
        clear hy hoy
        have y6 : IntKind.i64.wrap (t - bank x y) = t - bank x y := IntWalk.i64_in _ (by have := HK.out; have := HS.out; omega)
        have HBD := Lib.hid hbd; clear hbd
        generalize bank x y = c at *
        by_cases he : k = i
        · have hc0 := HSK.out he
          subst hc0
          subst he
          have hq : ((k : Int) == (k : Int)) = true := by simp
          have HN1 := Lib.hid (show t = S - banks x (l.take (k + 1)) by have := HN.out; omega)
          go_wp2
          go_roundw
          case rel => exact ⟨k + 1, t, HL.out, by go_num, rfl, HN1, by omega, t1, HB⟩
          case measure => have := HL.out; simp [intOf]; omega
        have hq : ((k : Int) == (i : Int)) = false := by simp; omega
        clear he
        have x0_c := ((bcell HB).1 _ _ hb).trans x0
        have x1_c := ((bcell HB).1 _ _ hb).trans x1
        have x2_c := ((bcell HB).1 _ _ hb).trans x2
        have x3_c := ((bcell HB).1 _ _ hb).trans x3
        have x4_c := ((bcell HB).1 _ _ hb).trans x4
        have x5_c := ((bcell HB).1 _ _ hb).trans x5
        have y0_c := ((bcell HB).1 _ _ hb).trans y0
        have y1_c := ((bcell HB).1 _ _ hb).trans y1
        have y2_c := ((bcell HB).1 _ _ hb).trans y2
        have y3_c := ((bcell HB).1 _ _ hb).trans y3
        have y4_c := ((bcell HB).1 _ _ hb).trans y4
        have y5_c := ((bcell HB).1 _ _ hb).trans y5
        go_wp2_with fail
        refine wp_region_last 11 (fun w' => Below w.heap.size w w') (by kernel_rfl) (by kernel_rfl) (by kernel_rfl) (be HB (Below.refl _ _).drew) ?_
        clear x0_c
        clear x1_c
        clear x2_c
        clear x3_c
        clear x4_c
        clear x5_c
        clear y0_c
        clear y1_c
        clear y2_c
        clear y3_c
        clear y4_c
        clear y5_c
        simp only [List.take_succ_cons, List.take_zero]
        iterate 11 (
          apply SeqH.one
          · intro uw K hS hK
            have qHB := hS
            have qx0_c := ((bcell qHB).1 _ _ hb).trans x0
            have qx1_c := ((bcell qHB).1 _ _ hb).trans x1
            have qx2_c := ((bcell qHB).1 _ _ hb).trans x2
            have qx3_c := ((bcell qHB).1 _ _ hb).trans x3
            have qx4_c := ((bcell qHB).1 _ _ hb).trans x4
            have qx5_c := ((bcell qHB).1 _ _ hb).trans x5
            have qy0_c := ((bcell qHB).1 _ _ hb).trans y0
            have qy1_c := ((bcell qHB).1 _ _ hb).trans y1
            have qy2_c := ((bcell qHB).1 _ _ hb).trans y2
            have qy3_c := ((bcell qHB).1 _ _ hb).trans y3
            have qy4_c := ((bcell qHB).1 _ _ hb).trans y4
            have qy5_c := ((bcell qHB).1 _ _ hb).trans y5
            first
              | (go_simp; exact hK.out _ qHB)
              | (go_simp; go_at_call 62; (with_reducible refine (HCY.out _).mono ?_); rintro e uw1 ⟨rfl, hv⟩; go_wp2_with fail; exact hK.out _ (be qHB hv))
          try simp only [Act.put, List.setIfInBounds_toArray, List.set_cons_zero, List.set_cons_succ])
        refine SeqH.rest rfl ?_
        intro v2 hS
        clear HB
        have HB := hS; clear hS
        simp only [List.drop_succ_cons, List.drop_zero]
        have x0_c := ((bcell HB).1 _ _ hb).trans x0
        have x1_c := ((bcell HB).1 _ _ hb).trans x1
        have x2_c := ((bcell HB).1 _ _ hb).trans x2
        have x3_c := ((bcell HB).1 _ _ hb).trans x3
        have x4_c := ((bcell HB).1 _ _ hb).trans x4
        have x5_c := ((bcell HB).1 _ _ hb).trans x5
        have y0_c := ((bcell HB).1 _ _ hb).trans y0
        have y1_c := ((bcell HB).1 _ _ hb).trans y1
        have y2_c := ((bcell HB).1 _ _ hb).trans y2
        have y3_c := ((bcell HB).1 _ _ hb).trans y3
        have y4_c := ((bcell HB).1 _ _ hb).trans y4
        have y5_c := ((bcell HB).1 _ _ hb).trans y5
        go_wp2
        go_roundw
        case rel => exact ⟨k + 1, _, HL.out, by go_num, rfl, HN, by have := HBD.out; omega, by have := HBD.out; omega, HB⟩
        case measure => have := HL.out; simp [intOf]; omega
      · have HV2 := Lib.hid (HV.out t (by have := HT.out; rwa [List.take_of_length_le (by omega)] at this))
        go_wp2
        go_ret2
        exact rpost (by rw [HV2.out] <;> rfl) HB
  · have HV := Lib.hid (out_no (l := l) (id := id) (by omega))
    have hneg : decide (find l id < 0) = true := decide_eq_true (by omega)
    clear h0
    go_wp2
    go_ret2
    exact rpost (by rw [HV.out] <;> rfl) HB
set_option maxHeartbeats 1000000 in
theorem outer_impl (P : Option Addr) (cap : Nat) (l : List R) (id : Int) (w : World) (hr : Rd w w.heap.size P (flat l)) (hcap : l.length ≤ cap) (hn : l.length ≤ 1048576) :
    Calls Try.prog 18 #[.slice P l.length cap, .int .i64 id] w (RPost (outV l id) w) := by
  have HR := Lib.hid hr; clear hr
  go_enter Try.func18, Try.ntmps18
  go_wp2_with fail
  refine (find_impl P cap l id w HR.out hcap hn).mono ?_
  rintro e w1 ⟨rfl, HB⟩
  by_cases h0 : 0 ≤ find l id
  · obtain ⟨i, hi, hil, _, hg⟩ := find_ok h0
    obtain ⟨x, hx⟩ : ∃ x, l[i] = x := ⟨_, rfl⟩
    have HG := Lib.hid (good_all hg)
    have HV := Lib.hid (fun s (hs : s = 2 * (x.f3 + x.f4) - banks x l) => out_yes hi hil hx hs)
    have hox := HG.out.2 i hil; rw [hx] at hox
    obtain ⟨b, o, rfl, hb, hc⟩ := HR.out.at (k := i * 6) (by rw [flat_n]; omega)
    obtain ⟨x0, x1, x2, x3, x4, x5⟩ := cells6 (Below.refl _ w) hb hc hil hx
    obtain ⟨_, _, _, _, _, _, a5, a6, a7, a8, _, _, a9, a10⟩ := okP_true hox
    have y1 : IntKind.i64.wrap (x.f3 + x.f4) = x.f3 + x.f4 := IntWalk.i64_in _ (by omega)
    have y2 : IntKind.i64.wrap (2 * (x.f3 + x.f4)) = 2 * (x.f3 + x.f4) := IntWalk.i64_in _ (by omega)
    have HS := Lib.hid (show 4 ≤ 2 * (x.f3 + x.f4) ∧ 2 * (x.f3 + x.f4) ≤ 80 by omega)
    rw [findV_yes hi]; clear hi h0 a5 a6 a7 a8 a9 a10
    have HX := Lib.hid hx; have HOX := Lib.hid hox; have HC := Lib.hid hc; clear hx hox hc hg
    have x0_c := ((bcell HB).1 _ _ hb).trans x0
    have x1_c := ((bcell HB).1 _ _ hb).trans x1
    have x2_c := ((bcell HB).1 _ _ hb).trans x2
    have x3_c := ((bcell HB).1 _ _ hb).trans x3
    have x4_c := ((bcell HB).1 _ _ hb).trans x4
    have x5_c := ((bcell HB).1 _ _ hb).trans x5
    go_wp2_with fail
    refine wp_region_last 12 (fun w' => Below w.heap.size w w') (by kernel_rfl) (by kernel_rfl) (by kernel_rfl) (be HB (Below.refl _ _).drew) ?_
    clear x0_c
    clear x1_c
    clear x2_c
    clear x3_c
    clear x4_c
    clear x5_c
    simp only [List.take_succ_cons, List.take_zero]
    iterate 12 (
      apply SeqH.one
      · intro uw K hS hK
        have qHB := hS
        have qx0_c := ((bcell qHB).1 _ _ hb).trans x0
        have qx1_c := ((bcell qHB).1 _ _ hb).trans x1
        have qx2_c := ((bcell qHB).1 _ _ hb).trans x2
        have qx3_c := ((bcell qHB).1 _ _ hb).trans x3
        have qx4_c := ((bcell qHB).1 _ _ hb).trans x4
        have qx5_c := ((bcell qHB).1 _ _ hb).trans x5
        first
          | (go_simp; exact hK.out _ qHB)
      try simp only [Act.put, List.setIfInBounds_toArray, List.set_cons_zero, List.set_cons_succ])
    refine SeqH.rest rfl ?_
    intro v1 hS
    clear HB
    have HB := hS; clear hS
    simp only [List.drop_succ_cons, List.drop_zero]
    have x0_c := ((bcell HB).1 _ _ hb).trans x0
    have x1_c := ((bcell HB).1 _ _ hb).trans x1
    have x2_c := ((bcell HB).1 _ _ hb).trans x2
    have x3_c := ((bcell HB).1 _ _ hb).trans x3
    have x4_c := ((bcell HB).1 _ _ hb).trans x4
    have x5_c := ((bcell HB).1 _ _ hb).trans x5
    clear y1 y2
    generalize 2 * (x.f3 + x.f4) = S at *
    go_wp2
    go_loopw [8, 33] (fun s i wr => ∃ (k : Nat) (t : Int), k ≤ l.length ∧ i = .int .i64 k ∧ s = .int .i64 t ∧ Hid (t = S - banks x (l.take k)) ∧ S - 20 * k ≤ t ∧ t ≤ S ∧ Below w.heap.size w wr) (fun _ i _ => l.length - (intOf i).toNat)
    case atStart => exact ⟨0, S, Nat.zero_le _, rfl, rfl, Lib.hid (by simp [banks]), by omega, by omega, HB⟩
    case round =>
      clear x0_c
      clear x1_c
      clear x2_c
      clear x3_c
      clear x4_c
      clear x5_c
      clear HB
      obtain ⟨k, t, hk, rfl, rfl, HT, t0, t1, HB⟩ := hrel
      by_cases hlt : k < l.length
      · obtain ⟨y, hy⟩ : ∃ y, l[k] = y := ⟨_, rfl⟩
        obtain ⟨y0, y1, y2, y3, y4, y5⟩ := cells6 (Below.refl _ w) hb HC.out hlt hy
        have hoy := HG.out.2 k hlt; rw [hy] at hoy
        have hbd := bank_bd HOX.out hoy
        have HN := Lib.hid (show t - bank x y = S - banks x (l.take (k + 1)) by rw [banks_snoc x l k hlt, HT.out, hy]; omega)
        have HCY := Lib.hid (fun u => between_any x y HOX.out hoy u)
        have HK := Lib.hid HG.out.1
        have HL := Lib.hid hlt
        clear hy hoy
        have y6 : IntKind.i64.wrap (t - bank x y) = t - bank x y := IntWalk.i64_in _ (by have := HK.out; have := HS.out; omega)
        have HBD := Lib.hid hbd; clear hbd
        generalize bank x y = c at *
        have x0_c := ((bcell HB).1 _ _ hb).trans x0
        have x1_c := ((bcell HB).1 _ _ hb).trans x1
        have x2_c := ((bcell HB).1 _ _ hb).trans x2
        have x3_c := ((bcell HB).1 _ _ hb).trans x3
        have x4_c := ((bcell HB).1 _ _ hb).trans x4
        have x5_c := ((bcell HB).1 _ _ hb).trans x5
        have z0 := ((bcell HB).1 _ _ hb).trans y0; have z1 := ((bcell HB).1 _ _ hb).trans y1; have z2 := ((bcell HB).1 _ _ hb).trans y2; have z3 := ((bcell HB).1 _ _ hb).trans y3; have z4 := ((bcell HB).1 _ _ hb).trans y4; have z5 := ((bcell HB).1 _ _ hb).trans y5
        clear y0 y1 y2 y3 y4 y5
        go_wp2_with fail
        have B := Box.new HB [.int .i64 y.f0, .int .i64 y.f1, .int .i64 y.f2, .int .i64 y.f3, .int .i64 y.f4, .int .i64 y.f5] 34 (g := wr.heap.size) rfl
        replace HB := be HB (al (Below.refl _ _) (o := (.cells #[.int .i64 y.f0, .int .i64 y.f1, .int .i64 y.f2, .int .i64 y.f3, .int .i64 y.f4, .int .i64 y.f5] 34)))
        generalize (wr.alloc (.cells #[.int .i64 y.f0, .int .i64 y.f1, .int .i64 y.f2, .int .i64 y.f3, .int .i64 y.f4, .int .i64 y.f5] 34)) = W2 at B HB ⊢
        clear x0_c
        clear x1_c
        clear x2_c
        clear x3_c
        clear x4_c
        clear x5_c
        have B_0 := B.cells 0 _ rfl
        have B_1 := B.cells 1 _ rfl
        have B_2 := B.cells 2 _ rfl
        have B_3 := B.cells 3 _ rfl
        have B_4 := B.cells 4 _ rfl
        have B_5 := B.cells 5 _ rfl
        have B_f0 := B.free 0 (by simp)
        have B_f1 := B.free 1 (by simp)
        have B_f2 := B.free 2 (by simp)
        have B_f3 := B.free 3 (by simp)
        have B_f4 := B.free 4 (by simp)
        have B_f5 := B.free 5 (by simp)
        have B_t := B.there
        have x0_c := ((bcell B.below).1 _ _ hb).trans x0
        have x1_c := ((bcell B.below).1 _ _ hb).trans x1
        have x2_c := ((bcell B.below).1 _ _ hb).trans x2
        have x3_c := ((bcell B.below).1 _ _ hb).trans x3
        have x4_c := ((bcell B.below).1 _ _ hb).trans x4
        have x5_c := ((bcell B.below).1 _ _ hb).trans x5
        clear z0 z1 z2 z3 z4 z5
        refine wp_region_last 8 (fun w' => Box (wr.heap.size) [.int .i64 y.f0, .int .i64 y.f1, .int .i64 y.f2, .int .i64 y.f3, .int .i64 y.f4, .int .i64 y.f5] w w' ∧ Below w.heap.size w w') (by kernel_rfl) (by kernel_rfl) (by kernel_rfl) ⟨B.drew, be HB (Below.refl _ _).drew⟩ ?_
        clear B_0 B_1 B_2 B_3 B_4 B_5 B_f0 B_f1 B_f2 B_f3 B_f4 B_f5 B_t
        clear x0_c
        clear x1_c
        clear x2_c
        clear x3_c
        clear x4_c
        clear x5_c
        simp only [List.take_succ_cons, List.take_zero]
        iterate 8 (
          apply SeqH.one
          · intro uw K hS hK
            obtain ⟨qB, qHB⟩ := hS
            have qB_0 := qB.cells 0 _ rfl
            have qB_1 := qB.cells 1 _ rfl
            have qB_2 := qB.cells 2 _ rfl
            have qB_3 := qB.cells 3 _ rfl
            have qB_4 := qB.cells 4 _ rfl
            have qB_5 := qB.cells 5 _ rfl
            have qx0_c := ((bcell qB.below).1 _ _ hb).trans x0
            have qx1_c := ((bcell qB.below).1 _ _ hb).trans x1
            have qx2_c := ((bcell qB.below).1 _ _ hb).trans x2
            have qx3_c := ((bcell qB.below).1 _ _ hb).trans x3
            have qx4_c := ((bcell qB.below).1 _ _ hb).trans x4
            have qx5_c := ((bcell qB.below).1 _ _ hb).trans x5
            first
              | (go_simp; exact hK.out _ ⟨qB, qHB⟩)
              | (go_simp; go_at_call 60; (with_reducible refine (HCY.out _).mono ?_); rintro e uw1 ⟨rfl, hv⟩; go_wp2_with fail; exact hK.out _ ⟨qB.more hv, be qHB hv⟩)
          try simp only [Act.put, List.setIfInBounds_toArray, List.set_cons_zero, List.set_cons_succ])
        refine SeqH.rest rfl ?_
        intro v3 hS
        clear B HB
        obtain ⟨B, HB⟩ := hS
        simp only [List.drop_succ_cons, List.drop_zero]
        have B_0 := B.cells 0 _ rfl
        have B_1 := B.cells 1 _ rfl
        have B_2 := B.cells 2 _ rfl
        have B_3 := B.cells 3 _ rfl
        have B_4 := B.cells 4 _ rfl
        have B_5 := B.cells 5 _ rfl
        have B_f0 := B.free 0 (by simp)
        have B_f1 := B.free 1 (by simp)
        have B_f2 := B.free 2 (by simp)
        have B_f3 := B.free 3 (by simp)
        have B_f4 := B.free 4 (by simp)
        have B_f5 := B.free 5 (by simp)
        have B_t := B.there
        have x0_c := ((bcell B.below).1 _ _ hb).trans x0
        have x1_c := ((bcell B.below).1 _ _ hb).trans x1
        have x2_c := ((bcell B.below).1 _ _ hb).trans x2
        have x3_c := ((bcell B.below).1 _ _ hb).trans x3
        have x4_c := ((bcell B.below).1 _ _ hb).trans x4
        have x5_c := ((bcell B.below).1 _ _ hb).trans x5
        go_wp2
        go_roundw
        case rel => exact ⟨k + 1, _, HL.out, by go_num, rfl, HN, by have := HBD.out; omega, by have := HBD.out; omega, HB⟩
        case measure => have := HL.out; simp [intOf]; omega
      · have HV2 := Lib.hid (HV.out t (by have := HT.out; rwa [List.take_of_length_le (by omega)] at this))
        go_wp2
        go_ret2
        exact rpost (by rw [HV2.out] <;> rfl) HB
  · have HV := Lib.hid (out_no (l := l) (id := id) (by omega))
    rw [findV_no (find_neg h0)]
    clear h0
    go_wp2
    go_ret2
    exact rpost (by rw [HV.out] <;> rfl) HB
set_option maxHeartbeats 400000 in
theorem free_impl (P : Option Addr) (cap : Nat) (l : List R) (w : World) (hr : Rd w w.heap.size P (flat l)) (hcap : l.length ≤ cap) (hn : l.length ≤ 1048576) :
    Calls Try.prog 39 #[.slice P l.length cap] w (RPost (freeV l) w) := by
  have HR := Lib.hid hr; clear hr
  go_enter Try.func39, Try.ntmps39
  go_wp2_with fail
  refine (are_impl P cap l w HR.out hcap hn).mono ?_
  rintro e w1 ⟨rfl, HB⟩
  cases hg : good l
  · have HV := Lib.hid (show freeV l = .tuple #[.int .i64 0, .bool false] by unfold freeV; rw [hg]; rfl)
    go_wp2
    go_ret2
    exact rpost (by rw [HV.out] <;> rfl) HB
  · have HG := Lib.hid (good_all hg)
    have HV := Lib.hid (show freeV l = .tuple #[.int .i64 (2500 - area l), .bool true] by unfold freeV; rw [if_pos hg])
    clear hg
    go_wp2
    go_loopw [4, 12] (fun n i wr => ∃ (k : Nat) (s : Int), k ≤ l.length ∧ i = .int .i64 k ∧ n = .int .i64 s ∧ Hid (s = 2500 - area (l.take k)) ∧ 2500 - 400 * k ≤ s ∧ s ≤ 2500 ∧ Below w.heap.size w wr) (fun _ i _ => l.length - (intOf i).toNat)
    case atStart => exact ⟨0, 2500, Nat.zero_le _, rfl, rfl, Lib.hid (by simp [area]), by omega, by omega, HB⟩
    case round =>
      clear HB
      obtain ⟨k, s, hk, rfl, rfl, HS, s0, s1, HB⟩ := hrel
      by_cases hlt : k < l.length
      · obtain ⟨b, o, rfl, hb, hc⟩ := HR.out.at (k := k * 6) (by rw [flat_n]; omega)
        have hox := HG.out.2 k hlt
        obtain ⟨x, hx⟩ : ∃ x, l[k] = x := ⟨_, rfl⟩
        rw [hx] at hox
        obtain ⟨_, _, _, _, _, _, a5, a6, a7, a8, _, _, a9, a10⟩ := okP_true hox
        obtain ⟨h0, h1, h2, h3, h4, h5⟩ := cells6 HB hb hc hlt hx
        have HN := Lib.hid (show s - x.f3 * x.f4 = 2500 - area (l.take (k + 1)) by rw [area_snoc l k hlt, HS.out, hx]; omega)
        have HK := Lib.hid HG.out.1
        have HA := Lib.hid (fun u => area_any x (by omega) (by omega) (by omega) (by omega) u)
        clear hc hx hox
        have m0 : 0 ≤ x.f3 * x.f4 := Int.mul_nonneg (by omega) (by omega)
        have m1 : x.f3 * x.f4 ≤ 20 * 20 := Int.mul_le_mul a6 a8 (by omega) (by omega)
        have y2 : IntKind.i64.wrap (s - x.f3 * x.f4) = s - x.f3 * x.f4 := IntWalk.i64_in _ (by have := HK.out; omega)
        have HM := Lib.hid (And.intro m0 m1)
        have HL := Lib.hid hlt
        clear m0 m1 a5 a6 a7 a8 a9 a10
        go_wp2_with fail
        have B := Box.new HB [.int .i64 x.f0, .int .i64 x.f1, .int .i64 x.f2, .int .i64 x.f3, .int .i64 x.f4, .int .i64 x.f5] 34 (g := wr.heap.size) rfl
        replace HB := be HB (al (Below.refl _ _) (o := (.cells #[.int .i64 x.f0, .int .i64 x.f1, .int .i64 x.f2, .int .i64 x.f3, .int .i64 x.f4, .int .i64 x.f5] 34)))
        generalize (wr.alloc (.cells #[.int .i64 x.f0, .int .i64 x.f1, .int .i64 x.f2, .int .i64 x.f3, .int .i64 x.f4, .int .i64 x.f5] 34)) = W1 at B HB ⊢
        have B_0 := B.cells 0 _ rfl
        have B_1 := B.cells 1 _ rfl
        have B_2 := B.cells 2 _ rfl
        have B_3 := B.cells 3 _ rfl
        have B_4 := B.cells 4 _ rfl
        have B_5 := B.cells 5 _ rfl
        have B_f0 := B.free 0 (by simp)
        have B_f1 := B.free 1 (by simp)
        have B_f2 := B.free 2 (by simp)
        have B_f3 := B.free 3 (by simp)
        have B_f4 := B.free 4 (by simp)
        have B_f5 := B.free 5 (by simp)
        have B_t := B.there
        clear h0 h1 h2 h3 h4 h5
        go_wp2_with fail
        refine (HA.out _).mono ?_
        rintro e v2 ⟨rfl, hv2⟩
        clear B_0 B_1 B_2 B_3 B_4 B_5 B_f0 B_f1 B_f2 B_f3 B_f4 B_f5 B_t
        replace B := B.more hv2
        replace HB := be HB hv2
        have zhv2 := hv2.size
        clear hv2
        have B_0 := B.cells 0 _ rfl
        have B_1 := B.cells 1 _ rfl
        have B_2 := B.cells 2 _ rfl
        have B_3 := B.cells 3 _ rfl
        have B_4 := B.cells 4 _ rfl
        have B_5 := B.cells 5 _ rfl
        have B_f0 := B.free 0 (by simp)
        have B_f1 := B.free 1 (by simp)
        have B_f2 := B.free 2 (by simp)
        have B_f3 := B.free 3 (by simp)
        have B_f4 := B.free 4 (by simp)
        have B_f5 := B.free 5 (by simp)
        have B_t := B.there
        go_wp2
        go_roundw
        case rel => exact ⟨k + 1, _, HL.out, by go_num, rfl, HN, by have := HM.out; omega, by have := HM.out; omega, B.below⟩
        case measure => have := HL.out; simp [intOf]; omega
      · have HE := Lib.hid (show s = 2500 - area l by have := HS.out; rwa [List.take_of_length_le (by omega)] at this)
        go_wp2
        go_ret2
        exact rpost (by rw [HV.out, HE.out] <;> rfl) HB
end Go.Proofs.Ytfngglnjdeajfaa.Pond8
