/- The program's sea of all minutes. -/
import Derived.Test.YtbbnbkdglihhhaaSSpan2
import Derived.Test.YtbbnbkdglihhhaaTide3
import Derived.Deep.WholeRow
import Derived.Deep.MidRow
namespace Go.Proofs.Ytbbnbkdglihhhaa.Sea
open Go.RowKit Go.Proofs.Ytbbnbkdglihhhaa.Mem Go.Proofs.Ytbbnbkdglihhhaa.Base Go.Proofs.Ytbbnbkdglihhhaa.SMark Go.Proofs.Ytbbnbkdglihhhaa.Regn Go.Proofs.Ytbbnbkdglihhhaa.Boxes Go.Proofs.Ytbbnbkdglihhhaa.Tide Go.Proofs.Ytbbnbkdglihhhaa.Tide2 Go.Proofs.Ytbbnbkdglihhhaa.Tide3 Go.Proofs.Ytbbnbkdglihhhaa.Flow Go.Proofs.Ytbbnbkdglihhhaa.Span
set_option linter.unusedVariables false
set_option maxRecDepth 100000
def pair (l : List R) (m : Int) : R := ⟨num l m, den l m⟩
def seaTo (l : List R) (n : Nat) : List R := (List.range 1441).map fun m => if m < n then pair l m else zero
def sea (l : List R) : List R := seaTo l 1441
theorem seaTo_len (l : List R) (n : Nat) : (seaTo l n).length = 1441 := by simp [seaTo]
theorem seaTo_zero (l : List R) : seaTo l 0 = List.replicate 1441 zero := by
  unfold seaTo
  apply List.ext_getElem
  · rw [List.length_map, List.length_range, List.length_replicate]
  · intro i h1 h2; rw [List.getElem_map, List.getElem_range, List.getElem_replicate, if_neg (by omega)]
theorem seaTo_set (l : List R) (n : Nat) (h : n < 1441) : (seaTo l n).set n (pair l n) = seaTo l (n + 1) := by
  apply List.ext_getElem
  · simp [seaTo]
  · intro i h1 h2
    rw [List.getElem_set]
    by_cases hi : n = i
    · subst hi; simp [seaTo]
    · rw [if_neg hi]
      simp only [seaTo, List.getElem_map, List.getElem_range]
      by_cases h3 : i < n
      · rw [if_pos h3, if_pos (by omega)]
      · rw [if_neg h3, if_neg (by omega)]
theorem sea_at (l : List R) (n : Nat) (h : n < 1441) : (sea l)[n]? = some (pair l n) := by
  unfold sea seaTo
  rw [List.getElem?_map, List.getElem?_range h, Option.map_some, if_pos h]
theorem info_sea : (Try.prog.info? 87).map (fun i => (i.zero, i.size)) = some (some (.agg (flat (List.replicate 1441 zero)).toArray), 2882) := by kernel_rfl
theorem info_flows : (Try.prog.info? 84).map (fun i => (i.zero, i.size)) = some (some (.agg (List.replicate 1441 (Value.bool false)).toArray), 1441) := by kernel_rfl
theorem flat_one (l : List R) : ∀ u ∈ flat l, u.oneCell' = true := by
  intro u hu
  unfold flat at hu
  rw [List.mem_flatMap] at hu
  obtain ⟨x, _, hx⟩ := hu
  simp [R.cells] at hx
  rcases hx with rfl | rfl <;> rfl
theorem B0len {l : List R} (Z : List Value) (h : flat (seaTo l 0) = Z) : Z.length = 2882 := by rw [← h, flat_n, seaTo_len]
theorem below_cells {B b : Nat} {a : World} (hb : B ≤ b) : ∀ (vs : List Value) (o : Nat) (w : World), Below B a w → Below B a (w.setCells b o vs)
  | [], _, _, h => h
  | v :: r, o, w, h => below_cells hb r (o + 1) _ (h.setCell (p := ⟨b, o, none⟩) hb v)
set_option maxHeartbeats 400000 in
theorem line_impl (x y : R) (m : Int) (h0 : x.f0 ≤ m) (h1 : m ≤ y.f0) (hx : 0 ≤ x.f0) (hy : y.f0 ≤ 1440) (ha : -500 ≤ x.f1) (ha' : x.f1 ≤ 500) (hb : -500 ≤ y.f1) (hb' : y.f1 ≤ 500) (w : World) :
    Calls Try.prog 102 #[.agg #[.int .i64 x.f0, .int .i64 x.f1], .agg #[.int .i64 y.f0, .int .i64 y.f1], .int .i64 m] w (RPost (.agg #[.int .i64 (numA x y m), .int .i64 (y.f0 - x.f0)]) w) := by
  have z1 := mul_bd (x := x.f1) (y := y.f0 - x.f0) (a := 500) (b := 1440) (by omega) (by omega) (by omega) (by omega) (by omega)
  have z2 := mul_bd (x := y.f1 - x.f1) (y := m - x.f0) (a := 1000) (b := 1440) (by omega) (by omega) (by omega) (by omega) (by omega)
  have y1 : IntKind.i64.wrap (y.f0 - x.f0) = y.f0 - x.f0 := IntWalk.i64_in _ (by omega)
  have y2 : IntKind.i64.wrap (y.f1 - x.f1) = y.f1 - x.f1 := IntWalk.i64_in _ (by omega)
  have y3 : IntKind.i64.wrap (m - x.f0) = m - x.f0 := IntWalk.i64_in _ (by omega)
  have y4 : IntKind.i64.wrap ((y.f1 - x.f1) * (m - x.f0)) = (y.f1 - x.f1) * (m - x.f0) := IntWalk.i64_in _ (by omega)
  have y5 : IntKind.i64.wrap (x.f1 * (y.f0 - x.f0)) = x.f1 * (y.f0 - x.f0) := IntWalk.i64_in _ (by omega)
  have y6 : IntKind.i64.wrap (x.f1 * (y.f0 - x.f0) + (y.f1 - x.f1) * (m - x.f0)) = x.f1 * (y.f0 - x.f0) + (y.f1 - x.f1) * (m - x.f0) := IntWalk.i64_in _ (by omega)
  have HL := Lib.hid (num_line x y m)
  clear z1 z2 h0 h1 hx hy ha ha' hb hb'
  go_enter Try.func102, Try.ntmps102
  go_wp2
  rw [HL.out]
  exact bodyPost_ret (v := .agg #[.int .i64 (numA x y m), .int .i64 (y.f0 - x.f0)]) (by simp [results, Try.results102, go_sem]) rfl (rpost rfl (al (al (al (Below.refl _ _)))))
theorem higher_impl (n d h : Int) (hd : 0 ≤ d) (hd' : d ≤ 1440) (hh : -500 ≤ h) (hh' : h ≤ 500) (w : World) :
    Calls Try.prog 84 #[.agg #[.int .i64 n, .int .i64 d], .int .i64 h] w (RPost (.bool (decide (h * d < n))) w) := by
  have z1 := mul_bd (x := h) (y := d) (a := 500) (b := 1440) (by omega) (by omega) (by omega) (by omega) (by omega)
  have y1 : IntKind.i64.wrap (h * d) = h * d := IntWalk.i64_in _ (by omega)
  clear z1 hd hd' hh hh'
  go_enter Try.func84, Try.ntmps84
  go_wp2
  go_ret
  exact rpost rfl (al (Below.refl _ _))
theorem lower_impl (n d h : Int) (hd : 0 ≤ d) (hd' : d ≤ 1440) (hh : -500 ≤ h) (hh' : h ≤ 500) (w : World) :
    Calls Try.prog 90 #[.agg #[.int .i64 n, .int .i64 d], .int .i64 h] w (RPost (.bool (decide (n < h * d))) w) := by
  have z1 := mul_bd (x := h) (y := d) (a := 500) (b := 1440) (by omega) (by omega) (by omega) (by omega) (by omega)
  have y1 : IntKind.i64.wrap (h * d) = h * d := IntWalk.i64_in _ (by omega)
  clear z1 hd hd' hh hh'
  go_enter Try.func90, Try.ntmps90
  go_wp2
  go_ret
  exact rpost rfl (al (Below.refl _ _))
set_option maxHeartbeats 1000000 in
theorem sea_impl (P : Option Addr) (cap : Nat) (l : List R) (w : World) (hr : Rd w w.heap.size P (flat l)) (hcap : l.length ≤ cap) (hg : good l = true) :
    Calls Try.prog 83 #[.slice P l.length cap] w (RPost (.agg (flat (sea l)).toArray) w) := by
  obtain ⟨hv87, hi87⟩ := zero_of_info info_sea
  have HG := Lib.hid hg; clear hg
  obtain ⟨b, o, rfl, hb, hc⟩ := rd2 hr (k := 0) (by have := (good_true HG.out).1; omega)
  have HC := Lib.hid hc; clear hc hr
  have HI := Lib.hid hi87; clear hi87
  obtain ⟨Z, hZ⟩ : ∃ Z : List Value, Z = flat (List.replicate 1441 zero) := ⟨_, rfl⟩
  rw [← hZ] at hv87
  have HZ := Lib.hid (show flat (seaTo l 0) = Z by rw [seaTo_zero, hZ]); clear hZ
  have hl2 := (good_true HG.out).1
  have hl12 := (good_true HG.out).2.1
  have p1 : 1 ≤ l.length := by omega
  have p2 : 1 ≤ cap := by omega
  have p5 : ¬ cap = 1 := by omega
  go_enter Try.func83, Try.ntmps83
  go_wp2
  go_step3
  go_wp2
  go_step3
  go_wp2
  go_loopw [7] (fun i wr => ∃ n : Nat, n ≤ 1441 ∧ i = .int .i64 n ∧ Box w.heap.size Z w wr ∧ Box (w.heap.size + 1) (flat (seaTo l n)) w wr) (fun i _ => 1441 - (intOf i).toNat)
  case atStart =>
    refine ⟨0, by omega, rfl, ?_, ?_⟩
    · exact (Box.new (Below.refl _ _) Z 87 rfl).alloc _
    · rw [HZ.out]; exact Box.new (al (Below.refl _ _)) Z 87 (by simp only [size_alloc'])
  case round =>
    clear hv87
    obtain ⟨n, hn, rfl, B0, B⟩ := hrel
    by_cases hlt : n < 1441
    · obtain ⟨k, HS⟩ := seg_ok HG.out (m := n) (by omega) (by omega)
      have HK := Lib.hid HS; clear HS
      have hk1 := HK.out.one
      have hkl := HK.out.lt
      have hlti : (n : Int) < 1441 := by omega
      go_wp2
      go_loopw [13] (fun j wr => ∃ q : Nat, q + 1 ≤ k ∧ j = .int .i64 q ∧ Box w.heap.size Z w wr ∧ Box (w.heap.size + 1) (flat (seaTo l n)) w wr) (fun j _ => k - (intOf j).toNat)
      case atStart => exact ⟨0, hk1, rfl, B0, B⟩
      case round =>
        clear B0 B
        obtain ⟨q, hq, rfl, B0, B⟩ := hrel
        obtain ⟨y, hy⟩ : ∃ y, at_ l (q + 1) = y := ⟨_, rfl⟩
        obtain ⟨m0, m1⟩ := tail2 HC.out (k := q) (by omega)
        rw [hy] at m0 m1
        have g0 := ((bcell B.below).1 _ _ hb).trans m0
        have g1 := ((bcell B.below).1 _ _ hb).trans m1
        clear m0 m1
        have q1 : q < l.length - 1 := by omega
        rcases Nat.lt_or_ge (q + 1) k with hlt2 | hge
        · have hl := HK.out.late (q + 1) (by omega) hlt2
          rw [hy] at hl
          have c1 : ¬ (n : Int) ≤ y.f0 := by omega
          clear hy
          go_wp2
          go_roundw
          case rel => exact ⟨q + 1, hlt2, by go_num, B0.alloc _, B.alloc _⟩
          case measure => simp [intOf]; omega
        · obtain rfl : k = q + 1 := by omega
          obtain ⟨x, hx⟩ : ∃ x, at_ l q = x := ⟨_, rfl⟩
          obtain ⟨x0, x1⟩ := HC.out q (by omega)
          have hlo := HK.out.lo; have hhi := HK.out.hi
          have hm := (good_true HG.out).2.2.2.2
          have m1 := hm q (by omega); have m2 := hm (q + 1) hkl
          have e1 := good_minute HG.out (show q < l.length by omega); have e2 := good_minute HG.out hkl
          have d1 := num_is HK.out; have d2 := den_is HK.out
          rw [Nat.add_sub_cancel] at hlo d1 d2
          rw [hx] at x0 x1 hlo m1 e1 d1 d2
          rw [hy] at hhi m2 e2 d1 d2
          have HP := Lib.hid (show pair l n = ⟨numA x y n, y.f0 - x.f0⟩ by unfold pair; rw [d1, d2])
          have HLN := Lib.hid (fun u => line_impl x y n hlo hhi e1.1 e2.2 m1.1 m1.2.1 m2.1 m2.2.1 u)
          have c1 : (n : Int) ≤ y.f0 := hhi
          have q3 : q < l.length := by omega
          clear hx hy hlo hm m1 m2 e1 e2 d1 d2 hhi
          have HB := B.below
          have x0_c := ((bcell HB).1 _ _ hb).trans x0
          have x1_c := ((bcell HB).1 _ _ hb).trans x1
          go_wp2_with fail
          have Y := Box.new HB [.int .i64 y.f0, .int .i64 y.f1] 95 (g := wr.heap.size) rfl
          replace B0 := Box.more B0 (al (Below.refl _ _) (o := (.cells #[.int .i64 y.f0, .int .i64 y.f1] 95)))
          replace B := Box.more B (al (Below.refl _ _) (o := (.cells #[.int .i64 y.f0, .int .i64 y.f1] 95)))
          replace HB := be HB (al (Below.refl _ _) (o := (.cells #[.int .i64 y.f0, .int .i64 y.f1] 95)))
          generalize (wr.alloc (.cells #[.int .i64 y.f0, .int .i64 y.f1] 95)) = W1 at Y B0 B HB ⊢
          clear x0_c
          clear x1_c
          have Y_0 := Y.cells 0 _ rfl
          have Y_1 := Y.cells 1 _ rfl
          have Y_f0 := Y.free 0 (by simp)
          have Y_f1 := Y.free 1 (by simp)
          have Y_t := Y.there
          have x0_c := ((bcell Y.below).1 _ _ hb).trans x0
          have x1_c := ((bcell Y.below).1 _ _ hb).trans x1
          refine wp_region_last 9 (fun w' => Box (wr.heap.size) [.int .i64 y.f0, .int .i64 y.f1] w w' ∧ Box (w.heap.size) (Z) w w' ∧ Box (w.heap.size + 1) (flat (seaTo l n)) w w' ∧ Below w.heap.size w w') (by kernel_rfl) (by kernel_rfl) (by kernel_rfl) ⟨Y.drew, Box.more B0 (Below.refl _ _).drew, Box.more B (Below.refl _ _).drew, be HB (Below.refl _ _).drew⟩ ?_
          clear Y_0 Y_1 Y_f0 Y_f1 Y_t
          clear x0_c
          clear x1_c
          simp only [List.take_succ_cons, List.take_zero]
          iterate 9 (
            apply SeqH.one
            · intro uw K hS hK
              obtain ⟨qY, qB0, qB, qHB⟩ := hS
              have qY_0 := qY.cells 0 _ rfl
              have qY_1 := qY.cells 1 _ rfl
              have qx0_c := ((bcell qY.below).1 _ _ hb).trans x0
              have qx1_c := ((bcell qY.below).1 _ _ hb).trans x1
              first
                | (go_simp; exact hK.out _ ⟨qY, qB0, qB, qHB⟩)
                | (go_simp; go_at_call 102; (with_reducible refine (HLN.out _).mono ?_); rintro e uw1 ⟨rfl, hv⟩; go_wp2_with fail; exact hK.out _ ⟨qY.more hv, Box.more qB0 hv, Box.more qB hv, be qHB hv⟩)
            try simp only [Act.put, List.setIfInBounds_toArray, List.set_cons_zero, List.set_cons_succ])
          refine SeqH.rest rfl ?_
          intro v2 hS
          clear Y B0 B HB
          obtain ⟨Y, B0, B, HB⟩ := hS
          simp only [List.drop_succ_cons, List.drop_zero]
          have Y_0 := Y.cells 0 _ rfl
          have Y_1 := Y.cells 1 _ rfl
          have Y_f0 := Y.free 0 (by simp)
          have Y_f1 := Y.free 1 (by simp)
          have Y_t := Y.there
          have x0_c := ((bcell Y.below).1 _ _ hb).trans x0
          have x1_c := ((bcell Y.below).1 _ _ hb).trans x1
          have hsl := seaTo_len l n
          have s0 := B.cells (n * 2) _ (flat_0 (seaTo l n) n (by omega))
          have s1 := B.cells (n * 2 + 1) _ (flat_1 (seaTo l n) n (by omega))
          have f0 := B.free (n * 2) (by rw [flat_n]; omega)
          have f1 := B.free (n * 2 + 1) (by rw [flat_n]; omega)
          have hnat : n < 1441 := hlt
          have B2 := ((B.set (n * 2) (.int .i64 (numA x y n))).set (n * 2 + 1) (.int .i64 (y.f0 - x.f0)))
          have e := flat_set (seaTo l n) n (pair l n) (by omega)
          rw [seaTo_set l n hlt, HP.out] at e
          rw [e] at B2
          have B02 := (B0.far B.base (by omega) (n * 2) (.int .i64 (numA x y n))).far B.base (by omega) (n * 2 + 1) (.int .i64 (y.f0 - x.f0))
          clear e HP
          go_wp2
          go_roundw
          case rel => exact ⟨n + 1, by omega, by go_num, B02, B2⟩
          case measure => simp [intOf]; omega
    · obtain rfl : n = 1441 := by omega
      have hc0 : wr.rangeAt (w.heap.size + 1) 0 (flat (seaTo l 1441)) := fun j v hv => by rw [Nat.zero_add]; exact B.cells j v hv
      have hsz : (flat (seaTo l 1441)).length = 2882 := by rw [flat_n, seaTo_len]
      have HSZ := Lib.hid hsz; clear hsz
      go_wp2
      refine wp_load_mid 87 _ rfl (w.heap.size + 1) 0 rfl (flat (seaTo l 1441)) _ hc0 Try.underlying87 rfl (by rw [HI.out, HSZ.out]) ?_
      obtain ⟨L, hL⟩ : ∃ L, flat (seaTo l 1441) = L := ⟨_, rfl⟩
      have HL := Lib.hid (show flat (sea l) = L from hL)
      have hone : ∀ v ∈ L, v.oneCell' = true := by rw [← hL]; exact flat_one _
      have hzl := B0len Z HZ.out
      rw [hL] at HSZ ⊢
      have hst := run_storeCells_cells (P := Try.prog) w.heap.size 0 L 0 wr (fun j hj => by rw [Nat.add_zero, Nat.zero_add, B0.cells j _ (List.getElem?_eq_getElem (by rw [hzl, ← HSZ.out]; exact hj))]; rfl) (fun j hj => by rw [Nat.add_zero, Nat.zero_add]; exact B0.free j (by rw [hzl, ← HSZ.out]; exact hj)) hone
      have hth : wr.there w.heap.size 0 L.length := fun j hj => by
        rw [Nat.zero_add]
        exact ⟨by rw [B0.cells j _ (List.getElem?_eq_getElem (by rw [hzl, ← HSZ.out]; exact hj))]; rfl, B0.free j (by rw [hzl, ← HSZ.out]; exact hj)⟩
      have hra := World.rangeAt_setCells_same wr w.heap.size 0 L hth
      have HB : Below w.heap.size w (wr.setCells w.heap.size 0 L) := below_cells (Nat.le_refl _) L 0 wr B.below
      have hrd := fun (w' : World) (hc : w'.rangeAt w.heap.size 0 L) => run_loadVar_mid (P := Try.prog) w' w.heap.size 0 87 L _ hc Try.underlying87 rfl (by rw [HI.out, HSZ.out])
      replace hrd := hrd _ hra
      have HRD := Lib.hid hrd
      clear hra hth hone hzl hrd hL
      go_wp2
      clear hst
      generalize wr.setCells w.heap.size 0 L = wz at HRD HB ⊢
      rw [Exit.noGoto_ret]
      refine bodyPost_ret (v := .agg L.toArray) ?_ rfl (rpost (by rw [HL.out]) HB)
      simp [results, Try.results83, asAddr, Result.andThen, HRD.out]
end Go.Proofs.Ytbbnbkdglihhhaa.Sea
