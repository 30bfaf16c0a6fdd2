/- Series: StrongestBasin. -/
import Derived.Test.YtciohcipmkhneaaSerC
namespace Go.Proofs.Ytciohcipmkhneaa.SerB
open Go.RowKit Go.Proofs.Ytciohcipmkhneaa.Mem Go.Proofs.Ytciohcipmkhneaa.Base Go.Proofs.Ytciohcipmkhneaa.Within Go.Proofs.Ytciohcipmkhneaa.Brine Go.Proofs.Ytciohcipmkhneaa.Brine2 Go.Proofs.Ytciohcipmkhneaa.Brine5 Go.Proofs.Ytciohcipmkhneaa.Brine6 Go.Proofs.Ytciohcipmkhneaa.Regn Go.Proofs.Ytciohcipmkhneaa.Boxes Go.Proofs.Ytciohcipmkhneaa.Keep Go.Proofs.Ytciohcipmkhneaa.Ser Go.Proofs.Ytciohcipmkhneaa.SerG Go.Proofs.Ytciohcipmkhneaa.SerC
open Go.Proofs.Ytciohcipmkhneaa.SBasin hiding RPost rpost
set_option linter.unusedVariables false
set_option maxRecDepth 100000
def bI : Option Nat → Int
  | none => -1
  | some b => b
def bZ : Option Nat → Int
  | none => 0
  | some b => b
theorem strong_form (a b c d : Int) : ∃ p q, strongV a b c d = .tuple #[.bool p, .bool q] := by
  unfold strongV
  split
  · exact ⟨_, _, rfl⟩
  · exact ⟨_, _, rfl⟩
set_option maxHeartbeats 1600000 in
theorem best_spec (P : Option Addr) (cap : Nat) (l : List R) (w : World) (hr : Rd w w.heap.size P (flat l)) (hn : l.length ≤ 1048576) :
    Calls Try.prog 40 #[.slice P l.length cap] w (RPost (bestV l) w) := by
  have HR := Lib.hid hr; clear hr
  go_enter Try.func40, Try.ntmps40
  go_wp2_with fail
  refine (good_spec P cap l w HR.out hn).mono ?_
  rintro e w1 ⟨rfl, HB0⟩
  cases hg : good l
  · go_wp2
    go_ret2
    exact rpost (bestV_no hg).symm HB0
  have HG := Lib.hid hg; clear hg
  go_wp2
  go_loopw [4, 5] (fun s i wr => ∃ (k : Nat) (v : Option Nat), k ≤ l.length ∧ i = .int .i64 k ∧ s = .int .i64 (bI v) ∧ Hid (bestK l k = v) ∧ Below w.heap.size w wr) (fun _ i _ => l.length - (intOf i).toNat)
  case atStart => exact ⟨0, none, Nat.zero_le _, rfl, rfl, Lib.hid rfl, HB0⟩
  case round =>
    clear HB0
    obtain ⟨k, v, hk, rfl, rfl, HV, HB⟩ := hrel
    by_cases hlt : k < l.length
    · obtain ⟨b, o, rfl, hb, hc⟩ := HR.out.at (k := k * 3) (by rw [flat_n]; omega)
      obtain ⟨x, hx⟩ : ∃ x, l[k] = x := ⟨_, rfl⟩
      obtain ⟨h0, h1, h2⟩ := cells3 (Below.refl _ _) hb hc hlt hx
      have hoa := good_get HG.out hlt hx
      have hox := okA_brine hoa
      obtain ⟨_, _, hu0, hu1, hv0, hv1⟩ := okA_true hoa
      have HX := Lib.hid hx
      have HL := Lib.hid hlt
      have HC := Lib.hid hc
      clear hc hx hoa h0
      have h1_c := ((bcell HB).1 _ _ hb).trans h1
      have h2_c := ((bcell HB).1 _ _ hb).trans h2
      by_cases hm : 0 < x.f1 + x.f2
      · have hm' : decide (0 < x.f1 + x.f2) = true := decide_eq_true hm
        have HM := Lib.hid hm; clear hm
        cases v with
        | none =>
          have HN := Lib.hid (best_first HL.out HX.out HM.out HV.out)
          simp only [bI]
          go_wp2_with fail
          refine wp_region_text (fun w' => Below w.heap.size w w') (by kernel_rfl) (by kernel_rfl) (be HB (Below.refl _ _).drew) ?_
          clear h1_c
          clear h2_c
          iterate 24 (
            apply SeqH.one
            · intro uw K hS hK
              have qHB := hS
              have qh1_c := ((bcell qHB).1 _ _ hb).trans h1
              have qh2_c := ((bcell qHB).1 _ _ hb).trans h2
              first
                | (go_simp; exact hK.out _ qHB)
                | (go_simp; go_at_call 92; (with_reducible refine (mass_spec x.f1 x.f2 hu0 hu1 hv0 hv1 _).mono ?_); rintro e uw1 ⟨rfl, hv⟩; go_wp2_with fail; exact hK.out _ (be qHB hv))
            try simp only [Act.put, List.setIfInBounds_toArray, List.set_cons_zero, List.set_cons_succ])
          refine SeqH.end' rfl ?_
          intro v1 hS
          clear HB
          have HB := hS; clear hS
          have h1_c := ((bcell HB).1 _ _ hb).trans h1
          have h2_c := ((bcell HB).1 _ _ hb).trans h2
          go_wp2
          go_roundw
          case rel => exact ⟨k + 1, some k, HL.out, by go_num, rfl, HN, HB⟩
          case measure => have := HL.out; simp [intOf]; omega
        | some d =>
          have hdk := best_lt HV.out
          have hdl : d < l.length := by omega
          obtain ⟨y, hy⟩ : ∃ y, l[d] = y := ⟨_, rfl⟩
          obtain ⟨k0, k1, k2⟩ := cells3 (Below.refl _ _) hb HC.out hdl hy
          have hoy := okA_brine (good_get HG.out hdl hy)
          have e1 : decide ((d : Int) < 0) = false := decide_eq_false (by omega)
          have e2 : (d : Int) < l.length := by omega
          have HY := Lib.hid hy
          clear k0 hy
          have k1_c := ((bcell HB).1 _ _ hb).trans k1
          have k2_c := ((bcell HB).1 _ _ hb).trans k2
          by_cases hs : x.f2 * y.f1 > y.f2 * x.f1
          · have HN := Lib.hid (best_new HL.out HX.out HM.out HV.out hdl HY.out hs)
            have hs' : decide (x.f2 * y.f1 > y.f2 * x.f1) = true := decide_eq_true hs
            clear hs
            simp only [bI]
            go_wp2_with fail
            refine wp_region_text (fun w' => Below w.heap.size w w') (by kernel_rfl) (by kernel_rfl) (be HB (Below.refl _ _).drew) ?_
            clear h1_c
            clear h2_c
            clear k1_c
            clear k2_c
            iterate 24 (
              apply SeqH.one
              · intro uw K hS hK
                have qHB := hS
                have qh1_c := ((bcell qHB).1 _ _ hb).trans h1
                have qh2_c := ((bcell qHB).1 _ _ hb).trans h2
                have qk1_c := ((bcell qHB).1 _ _ hb).trans k1
                have qk2_c := ((bcell qHB).1 _ _ hb).trans k2
                first
                  | (go_simp; exact hK.out _ qHB)
                  | (go_simp; go_at_call 92; (with_reducible refine (mass_spec x.f1 x.f2 hu0 hu1 hv0 hv1 _).mono ?_); rintro e uw1 ⟨rfl, hv⟩; go_wp2_with fail; exact hK.out _ (be qHB hv))
                  | (go_simp; go_at_call 99; (with_reducible refine (stronger_spec x.f1 x.f2 y.f1 y.f2 hox hoy _).mono ?_); rintro e uw1 ⟨rfl, hv⟩; rw [hs']; go_wp2_with fail; exact hK.out _ (be qHB hv))
              try simp only [Act.put, List.setIfInBounds_toArray, List.set_cons_zero, List.set_cons_succ])
            refine SeqH.end' rfl ?_
            intro v2 hS
            clear HB
            have HB := hS; clear hS
            have h1_c := ((bcell HB).1 _ _ hb).trans h1
            have h2_c := ((bcell HB).1 _ _ hb).trans h2
            have k1_c := ((bcell HB).1 _ _ hb).trans k1
            have k2_c := ((bcell HB).1 _ _ hb).trans k2
            go_wp2
            go_roundw
            case rel => exact ⟨k + 1, some k, HL.out, by go_num, rfl, HN, HB⟩
            case measure => have := HL.out; simp [intOf]; omega
          · have HN := Lib.hid (best_old HL.out HX.out HV.out hdl HY.out hs)
            have hs' : decide (x.f2 * y.f1 > y.f2 * x.f1) = false := decide_eq_false hs
            clear hs
            simp only [bI]
            go_wp2_with fail
            refine wp_region_text (fun w' => Below w.heap.size w w') (by kernel_rfl) (by kernel_rfl) (be HB (Below.refl _ _).drew) ?_
            clear h1_c
            clear h2_c
            clear k1_c
            clear k2_c
            iterate 24 (
              apply SeqH.one
              · intro uw K hS hK
                have qHB := hS
                have qh1_c := ((bcell qHB).1 _ _ hb).trans h1
                have qh2_c := ((bcell qHB).1 _ _ hb).trans h2
                have qk1_c := ((bcell qHB).1 _ _ hb).trans k1
                have qk2_c := ((bcell qHB).1 _ _ hb).trans k2
                first
                  | (go_simp; exact hK.out _ qHB)
                  | (go_simp; go_at_call 92; (with_reducible refine (mass_spec x.f1 x.f2 hu0 hu1 hv0 hv1 _).mono ?_); rintro e uw1 ⟨rfl, hv⟩; go_wp2_with fail; exact hK.out _ (be qHB hv))
                  | (go_simp; go_at_call 99; (with_reducible refine (stronger_spec x.f1 x.f2 y.f1 y.f2 hox hoy _).mono ?_); rintro e uw1 ⟨rfl, hv⟩; rw [hs']; go_wp2_with fail; exact hK.out _ (be qHB hv))
              try simp only [Act.put, List.setIfInBounds_toArray, List.set_cons_zero, List.set_cons_succ])
            refine SeqH.end' rfl ?_
            intro v3 hS
            clear HB
            have HB := hS; clear hS
            have h1_c := ((bcell HB).1 _ _ hb).trans h1
            have h2_c := ((bcell HB).1 _ _ hb).trans h2
            have k1_c := ((bcell HB).1 _ _ hb).trans k1
            have k2_c := ((bcell HB).1 _ _ hb).trans k2
            go_wp2
            go_roundw
            case rel => exact ⟨k + 1, some d, HL.out, by go_num, rfl, HN, HB⟩
            case measure => have := HL.out; simp [intOf]; omega
      · have hm' : decide (0 < x.f1 + x.f2) = false := decide_eq_false hm
        have HN := Lib.hid ((best_skip HL.out HX.out hm).trans HV.out)
        clear hm
        go_wp2_with fail
        refine wp_region_text (fun w' => Below w.heap.size w w') (by kernel_rfl) (by kernel_rfl) (be HB (Below.refl _ _).drew) ?_
        clear h1_c
        clear h2_c
        iterate 24 (
          apply SeqH.one
          · intro uw K hS hK
            have qHB := hS
            have qh1_c := ((bcell qHB).1 _ _ hb).trans h1
            have qh2_c := ((bcell qHB).1 _ _ hb).trans h2
            first
              | (go_simp; exact hK.out _ qHB)
              | (go_simp; go_at_call 92; (with_reducible refine (mass_spec x.f1 x.f2 hu0 hu1 hv0 hv1 _).mono ?_); rintro e uw1 ⟨rfl, hv⟩; go_wp2_with fail; exact hK.out _ (be qHB hv))
          try simp only [Act.put, List.setIfInBounds_toArray, List.set_cons_zero, List.set_cons_succ])
        refine SeqH.end' rfl ?_
        intro v4 hS
        clear HB
        have HB := hS; clear hS
        have h1_c := ((bcell HB).1 _ _ hb).trans h1
        have h2_c := ((bcell HB).1 _ _ hb).trans h2
        go_wp2
        go_roundw
        case rel => exact ⟨k + 1, v, HL.out, by go_num, rfl, HN, HB⟩
        case measure => have := HL.out; simp [intOf]; omega
    · have hkk : k = l.length := by omega
      cases v with
      | none =>
        have HE := Lib.hid (bestV_none (l := l) (by rw [← hkk]; exact HV.out))
        clear hkk
        simp only [bI]
        go_wp2
        go_ret2
        exact rpost HE.out.symm HB
      | some d =>
        have HE := Lib.hid (bestV_yes HG.out (b := d) (by rw [← hkk]; exact HV.out))
        have e1 : decide ((d : Int) < 0) = false := decide_eq_false (by omega)
        clear hkk
        simp only [bI]
        go_wp2
        go_ret2
        exact rpost HE.out.symm HB
set_option maxHeartbeats 1600000 in
theorem best_impl (P : Option Addr) (cap : Nat) (l : List R) (w : World) (hr : Rd w w.heap.size P (flat l)) (hcp : l.length ≤ cap) (hn : l.length ≤ 1048576) :
    Calls Try.prog 39 #[.slice P l.length cap] w (RPost (bestV l) w) := by
  have HR := Lib.hid hr; clear hr
  go_enter Try.func39, Try.ntmps39
  go_wp2_with fail
  refine (good_impl P cap l w HR.out hn).mono ?_
  rintro e w1 ⟨rfl, HB0⟩
  cases hg : good l
  · go_wp2
    go_ret2
    exact rpost (bestV_no hg).symm HB0
  have HG := Lib.hid hg; clear hg
  go_wp2
  go_loopw [4, 5, 15] (fun s f i wr => ∃ (k : Nat) (v : Option Nat), k ≤ l.length ∧ i = .int .i64 k ∧ s = .int .i64 (bZ v) ∧ f = .bool v.isSome ∧ Hid (bestK l k = v) ∧ Below w.heap.size w wr) (fun _ _ i _ => l.length - (intOf i).toNat)
  case atStart => exact ⟨0, none, Nat.zero_le _, rfl, rfl, rfl, Lib.hid rfl, HB0⟩
  case round =>
    clear HB0
    obtain ⟨k, v, hk, rfl, rfl, rfl, HV, HB0⟩ := hrel
    by_cases hlt : k < l.length
    · obtain ⟨b, o, rfl, hb, hc⟩ := HR.out.at (k := k * 3) (by rw [flat_n]; omega)
      obtain ⟨x, hx⟩ : ∃ x, l[k] = x := ⟨_, rfl⟩
      obtain ⟨h0, h1, h2⟩ := cells3 HB0 hb hc hlt hx
      have hoa := good_get HG.out hlt hx
      have hox := okA_brine hoa
      obtain ⟨_, _, hu0, hu1, hv0, hv1⟩ := okA_true hoa
      have HX := Lib.hid hx
      have HL := Lib.hid hlt
      have HC := Lib.hid hc
      clear hc hx hoa
      go_wp2_with fail
      have B := Box.new HB0 [.int .i64 x.f0, .int .i64 x.f1, .int .i64 x.f2] 50 (g := wr.heap.size) rfl
      generalize (wr.alloc (.cells #[.int .i64 x.f0, .int .i64 x.f1, .int .i64 x.f2] 50)) = W1 at B ⊢
      have B_0 := B.cells 0 _ rfl
      have B_1 := B.cells 1 _ rfl
      have B_2 := B.cells 2 _ rfl
      have B_f0 := B.free 0 (by simp)
      have B_f1 := B.free 1 (by simp)
      have B_f2 := B.free 2 (by simp)
      have B_t := B.there
      clear h0 h1 h2
      go_wp2_with fail
      refine (IBrine.mass_impl x.f1 x.f2 hu0 hu1 hv0 hv1 _).mono ?_
      rintro e v2 ⟨rfl, hv2⟩
      clear B_0 B_1 B_2 B_f0 B_f1 B_f2 B_t
      replace B := B.more hv2
      have zhv2 := hv2.size
      clear hv2
      have B_0 := B.cells 0 _ rfl
      have B_1 := B.cells 1 _ rfl
      have B_2 := B.cells 2 _ rfl
      have B_f0 := B.free 0 (by simp)
      have B_f1 := B.free 1 (by simp)
      have B_f2 := B.free 2 (by simp)
      have B_t := B.there
      by_cases hm : x.f1 + x.f2 = 0
      · have hm' : (x.f1 + x.f2 == 0) = true := by rw [beq_iff_eq]; exact hm
        have HN := Lib.hid ((best_skip HL.out HX.out (by omega)).trans HV.out)
        clear hm
        go_wp2
        go_roundw
        case rel => exact ⟨k + 1, v, HL.out, by go_num, rfl, rfl, HN, B.below⟩
        case measure => have := HL.out; simp [intOf]; omega
      · have hm' : (x.f1 + x.f2 == 0) = false := by rw [beq_eq_false_iff_ne]; exact hm
        have HM := Lib.hid (show 0 < x.f1 + x.f2 by omega)
        have HM1 := Lib.hid hm'
        clear hm
        cases v with
        | none =>
          have hdl : 0 < l.length := by omega
          obtain ⟨y, hy⟩ : ∃ y, l[0] = y := ⟨_, rfl⟩
          obtain ⟨k0, k1, k2⟩ := cells3 (Below.refl _ _) hb HC.out hdl hy
          have e2 : (0 : Int) < l.length := by omega
          have HN := Lib.hid (best_first HL.out HX.out HM.out HV.out)
          obtain ⟨s1, s2, hst⟩ := strong_form x.f1 x.f2 y.f1 y.f2
          have HST := Lib.hid hst
          clear k0 hy hst
          simp only [Nat.zero_mul, Nat.add_zero] at k1 k2
          have k1_c := ((bcell B.below).1 _ _ hb).trans k1
          have k2_c := ((bcell B.below).1 _ _ hb).trans k2
          simp only [bZ, Option.isSome]
          go_wp2_with fail
          refine wp_region_text (fun w' => Box (wr.heap.size) [.int .i64 x.f0, .int .i64 x.f1, .int .i64 x.f2] w w') (by kernel_rfl) (by kernel_rfl) (B.drew) ?_
          clear B_0 B_1 B_2 B_f0 B_f1 B_f2 B_t
          clear k1_c
          clear k2_c
          iterate 13 (
            apply SeqH.one
            · intro uw K hS hK
              have qB := hS
              have qB_0 := qB.cells 0 _ rfl
              have qB_1 := qB.cells 1 _ rfl
              have qB_2 := qB.cells 2 _ rfl
              have qk1_c := ((bcell qB.below).1 _ _ hb).trans k1
              have qk2_c := ((bcell qB.below).1 _ _ hb).trans k2
              first
                | (go_simp; exact hK.out _ qB)
                | (go_simp; go_at_call 41; (with_reducible refine (IBrine2.strong_impl x.f1 x.f2 y.f1 y.f2 _).mono ?_); rintro e uw1 ⟨rfl, hv⟩; rw [HST.out]; go_wp2_with fail; exact hK.out _ (qB.more hv))
            try simp only [Act.put, List.setIfInBounds_toArray, List.set_cons_zero, List.set_cons_succ])
          refine SeqH.end' rfl ?_
          intro v3 hS
          clear B
          have B := hS; clear hS
          have B_0 := B.cells 0 _ rfl
          have B_1 := B.cells 1 _ rfl
          have B_2 := B.cells 2 _ rfl
          have B_f0 := B.free 0 (by simp)
          have B_f1 := B.free 1 (by simp)
          have B_f2 := B.free 2 (by simp)
          have B_t := B.there
          have k1_c := ((bcell B.below).1 _ _ hb).trans k1
          have k2_c := ((bcell B.below).1 _ _ hb).trans k2
          go_wp2
          go_roundw
          case rel => exact ⟨k + 1, some k, HL.out, by go_num, rfl, rfl, HN, B.below⟩
          case measure => have := HL.out; simp [intOf]; omega
        | some d =>
          have hdk := best_lt HV.out
          have hdl : d < l.length := by omega
          have hdm := best_mass HV.out
          obtain ⟨y, hy⟩ : ∃ y, l[d] = y := ⟨_, rfl⟩
          rw [getD_at hdl, hy] at hdm
          obtain ⟨k0, k1, k2⟩ := cells3 (Below.refl _ _) hb HC.out hdl hy
          have hoy := okA_brine (good_get HG.out hdl hy)
          have e2 : (d : Int) < l.length := by omega
          have HY := Lib.hid hy
          have HS := strong_yes (a := x.f1) (b := x.f2) (c := y.f1) (d := y.f2) (by
            have e1 : (y.f1 + y.f2 == 0) = false := by rw [beq_eq_false_iff_ne]; omega
            unfold strongOk; rw [hox, hoy, e1, HM1.out]; rfl)
          clear k0 hy hdm
          have k1_c := ((bcell B.below).1 _ _ hb).trans k1
          have k2_c := ((bcell B.below).1 _ _ hb).trans k2
          by_cases hs : x.f2 * y.f1 > y.f2 * x.f1
          · have HN := Lib.hid (best_new HL.out HX.out HM.out HV.out hdl HY.out hs)
            have hs' : decide (x.f2 * y.f1 > y.f2 * x.f1) = true := decide_eq_true hs
            rw [hs'] at HS
            clear hs hs'
            simp only [bZ, Option.isSome]
            go_wp2_with fail
            refine wp_region_text (fun w' => Box (wr.heap.size) [.int .i64 x.f0, .int .i64 x.f1, .int .i64 x.f2] w w') (by kernel_rfl) (by kernel_rfl) (B.drew) ?_
            clear B_0 B_1 B_2 B_f0 B_f1 B_f2 B_t
            clear k1_c
            clear k2_c
            iterate 13 (
              apply SeqH.one
              · intro uw K hS hK
                have qB := hS
                have qB_0 := qB.cells 0 _ rfl
                have qB_1 := qB.cells 1 _ rfl
                have qB_2 := qB.cells 2 _ rfl
                have qk1_c := ((bcell qB.below).1 _ _ hb).trans k1
                have qk2_c := ((bcell qB.below).1 _ _ hb).trans k2
                first
                  | (go_simp; exact hK.out _ qB)
                  | (go_simp; go_at_call 41; (with_reducible refine (IBrine2.strong_impl x.f1 x.f2 y.f1 y.f2 _).mono ?_); rintro e uw1 ⟨rfl, hv⟩; rw [HS.out]; go_wp2_with fail; exact hK.out _ (qB.more hv))
              try simp only [Act.put, List.setIfInBounds_toArray, List.set_cons_zero, List.set_cons_succ])
            refine SeqH.end' rfl ?_
            intro v4 hS
            clear B
            have B := hS; clear hS
            have B_0 := B.cells 0 _ rfl
            have B_1 := B.cells 1 _ rfl
            have B_2 := B.cells 2 _ rfl
            have B_f0 := B.free 0 (by simp)
            have B_f1 := B.free 1 (by simp)
            have B_f2 := B.free 2 (by simp)
            have B_t := B.there
            have k1_c := ((bcell B.below).1 _ _ hb).trans k1
            have k2_c := ((bcell B.below).1 _ _ hb).trans k2
            go_wp2
            go_roundw
            case rel => exact ⟨k + 1, some k, HL.out, by go_num, rfl, rfl, HN, B.below⟩
            case measure => have := HL.out; simp [intOf]; omega
          · have HN := Lib.hid (best_old HL.out HX.out HV.out hdl HY.out hs)
            have hs' : decide (x.f2 * y.f1 > y.f2 * x.f1) = false := decide_eq_false hs
            rw [hs'] at HS
            clear hs hs'
            simp only [bZ, Option.isSome]
            go_wp2_with fail
            refine wp_region_text (fun w' => Box (wr.heap.size) [.int .i64 x.f0, .int .i64 x.f1, .int .i64 x.f2] w w') (by kernel_rfl) (by kernel_rfl) (B.drew) ?_
            clear B_0 B_1 B_2 B_f0 B_f1 B_f2 B_t
            clear k1_c
            clear k2_c
            iterate 13 (
              apply SeqH.one
              · intro uw K hS hK
                have qB := hS
                have qB_0 := qB.cells 0 _ rfl
                have qB_1 := qB.cells 1 _ rfl
                have qB_2 := qB.cells 2 _ rfl
                have qk1_c := ((bcell qB.below).1 _ _ hb).trans k1
                have qk2_c := ((bcell qB.below).1 _ _ hb).trans k2
                first
                  | (go_simp; exact hK.out _ qB)
                  | (go_simp; go_at_call 41; (with_reducible refine (IBrine2.strong_impl x.f1 x.f2 y.f1 y.f2 _).mono ?_); rintro e uw1 ⟨rfl, hv⟩; rw [HS.out]; go_wp2_with fail; exact hK.out _ (qB.more hv))
              try simp only [Act.put, List.setIfInBounds_toArray, List.set_cons_zero, List.set_cons_succ])
            refine SeqH.end' rfl ?_
            intro v5 hS
            clear B
            have B := hS; clear hS
            have B_0 := B.cells 0 _ rfl
            have B_1 := B.cells 1 _ rfl
            have B_2 := B.cells 2 _ rfl
            have B_f0 := B.free 0 (by simp)
            have B_f1 := B.free 1 (by simp)
            have B_f2 := B.free 2 (by simp)
            have B_t := B.there
            have k1_c := ((bcell B.below).1 _ _ hb).trans k1
            have k2_c := ((bcell B.below).1 _ _ hb).trans k2
            go_wp2
            go_roundw
            case rel => exact ⟨k + 1, some d, HL.out, by go_num, rfl, rfl, HN, B.below⟩
            case measure => have := HL.out; simp [intOf]; omega
    · have hkk : k = l.length := by omega
      cases v with
      | none =>
        have HE := Lib.hid (bestV_none (l := l) (by rw [← hkk]; exact HV.out))
        clear hkk
        simp only [bZ, Option.isSome]
        go_wp2
        go_ret2
        exact rpost HE.out.symm HB0
      | some d =>
        have HE := Lib.hid (bestV_yes HG.out (b := d) (by rw [← hkk]; exact HV.out))
        clear hkk
        simp only [bZ, Option.isSome]
        go_wp2
        go_ret2
        exact rpost HE.out.symm HB0
end Go.Proofs.Ytciohcipmkhneaa.SerB
