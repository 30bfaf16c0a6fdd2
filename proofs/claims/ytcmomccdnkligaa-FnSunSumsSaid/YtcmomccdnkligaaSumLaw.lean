/- FnSunSums, walked. -/
import Derived.Test.YtcmomccdnkligaaSumFacts
import Derived.Test.YtcmomccdnkligaaLaws6c
import Derived.Test.YtcmomccdnkligaaDSun5
import Derived.Test.YtcmomccdnkligaaDSun6
import Derived.Test.YtcmomccdnkligaaSunK
namespace Go.Proofs.Ytcmomccdnkligaa.SumLaw
open Go.RowKit Go.Proofs.Ytcmomccdnkligaa.Mem Go.Proofs.Ytcmomccdnkligaa.Base Go.Proofs.Ytcmomccdnkligaa.SSun Go.Proofs.Ytcmomccdnkligaa.Regn Go.Proofs.Ytcmomccdnkligaa.Boxes Go.Proofs.Ytcmomccdnkligaa.Keep Go.Proofs.Ytcmomccdnkligaa.Sun Go.Proofs.Ytcmomccdnkligaa.SunA Go.Proofs.Ytcmomccdnkligaa.SunB Go.Proofs.Ytcmomccdnkligaa.SumFacts
set_option linter.unusedVariables false
set_option linter.unusedSimpArgs false
set_option maxRecDepth 100000
abbrev Yes := Laws6a.Yes
set_option maxHeartbeats 8000000 in
theorem law (A : Option Addr) (cap : Nat) (zs : List Int) (w : World) (hr : Rd w w.heap.size A (zs.map (Value.int .u8))) (hn : zs.length ≤ maxLen) (hb : ∀ z ∈ zs, 0 ≤ z ∧ z ≤ 255) :
    Calls Try.prog 4 #[.slice A zs.length cap] w (Yes w) := by
  by_cases hbig : 65536 < zs.length
  · have HG := Lib.hid (show Draw.bigB zs.length = true from decide_eq_true hbig)
    clear hr hb
    go_enter Try.func4, Try.ntmps4
    go_wp2_with fail
    refine (Draw.big_any A cap zs.length w hn).mono ?_
    rintro e w' ⟨rfl, rfl⟩
    rw [HG.out]
    go_wp2
    go_ret
    exact ⟨rfl, Below.refl _ _⟩
  have HG := Lib.hid (show Draw.bigB zs.length = false from decide_eq_false hbig)
  have HN := Lib.hid hn; clear hn
  have HC := Lib.hid (show Draw.Src w A zs from ⟨hr, by omega, hb⟩); clear hr hb
  go_enter Try.func4, Try.ntmps4
  go_wp2_with fail
  refine (Draw.big_any A cap zs.length w HN.out).mono ?_
  rintro e w' ⟨rfl, rfl⟩
  rw [HG.out]
  clear HG hbig HN
  go_wp2_with fail
  refine (DSun4.drawBest A cap zs w HC.out).mono ?_
  rintro e w1 ⟨M, g, c, d, ⟨hl, d0, d1⟩, rfl, O, HB⟩
  obtain ⟨b, hc⟩ := best_of M d
  have HCB := Lib.hid hc; clear hc
  obtain ⟨x, q, hv⟩ := best_form (bestOk M d) b
  have HV := Lib.hid hv; clear hv
  go_wp2_with fail
  refine (SunK.best_impl _ c M d b HCB.out _ (Rd.of_own O) (by omega)).mono ?_
  rintro e v1 ⟨rfl, hv1⟩
  replace O := own_keep O hv1
  replace HB := be HB hv1
  have zhv1 := hv1.size
  rw [HV.out]
  go_wp2_with fail
  refine (SunK.best_spec _ c M d b HCB.out _ (Rd.of_own O) (by omega)).mono ?_
  rintro e v2 ⟨rfl, hv2⟩
  replace O := own_keep O hv2
  replace HB := be HB hv2
  have zhv2 := hv2.size
  rw [HV.out]
  go_upto_if 62 with fail
  go_cut [] from 3 (fun wc => Below w.heap.size w wc)
  case first => as_aux_lemma =>
    cases q
    · go_wp2
      go_meet
      case rel => exact HB
    · obtain ⟨hgood, hd1, hd2, hbest⟩ := best_told HCB.out HV.out
      have HBE := Lib.hid hbest
      have hx0 := hbest.lo; have hx1 := hbest.hi; clear hbest
      have HGD := Lib.hid hgood
      have HSX := Lib.hid (sum_is (l := M) hgood hx0 hx1 hd1)
      have HSA := Lib.hid (good_sane hgood); clear hgood
      obtain ⟨m, hm⟩ : ∃ m, S M d x = m := ⟨_, rfl⟩
      rw [hm] at HSX
      have HM := Lib.hid hm; clear hm
      have y1 : IntKind.i64.wrap (x + d) = x + d := IntWalk.i64_in _ (by omega)
      have y2 : IntKind.i64.wrap (x + d - 1) = x + d - 1 := IntWalk.i64_in _ (by omega)
      go_wp2_with fail
      refine (SunL.ssum_impl _ c M x (x + d - 1) _ (Rd.of_own O) (own_cap O) (by omega)).mono ?_
      rintro e v3 ⟨rfl, hv3⟩
      replace O := own_keep O hv3
      replace HB := be HB hv3
      have zhv3 := hv3.size
      rw [HSX.out]
      go_wp2_with fail
      go_loopw [11] (fun i wr => ∃ k : Nat, k ≤ M.length ∧ i = .int .i64 k ∧ wr.ownsRow w.heap.size 42 2 (.slice (some ⟨g, 0, none⟩) M.length c) M.length (flat M) ∧ Below w.heap.size w wr) (fun i _ => M.length - (intOf i).toNat)
      case atStart => exact ⟨0, Nat.zero_le _, rfl, O, HB⟩
      case round =>
        clear O HB
        obtain ⟨k, hk, rfl, O, HB⟩ := hrel
        have e3 : IntKind.i64.wrap ((k : Int) + 1) = k + 1 := IntWalk.i64_in _ (by omega)
        by_cases hlt : k < M.length
        · obtain ⟨r, hr⟩ : ∃ r, M[k] = r := ⟨_, rfl⟩
          obtain ⟨r0, r1, _, _⟩ := HSA.out.get hlt hr
          obtain ⟨a, ha⟩ : ∃ a, r.f0 = a := ⟨_, rfl⟩
          have HA := Lib.hid (show (flat M)[k * 2]? = some (.int .i64 a) by rw [flat_0 M k hlt, hr, ha])
          rw [ha] at r0 r1
          clear hr ha
          have h0 : wr.cell? ⟨g, k * 2, none⟩ = some (.int .i64 a) := by rw [O.cellAt _ (by omega)]; exact HA.out
          have y3 : IntKind.i64.wrap (a + d) = a + d := IntWalk.i64_in _ (by omega)
          have y4 : IntKind.i64.wrap (a + d - 1) = a + d - 1 := IntWalk.i64_in _ (by omega)
          by_cases hle : a + d - 1 ≤ 4000
          · have hle' : decide (a + d - 1 ≤ 4000) = true := decide_eq_true hle
            obtain ⟨n, hn⟩ : ∃ n, S M d a = n := ⟨_, rfl⟩
            have HSN := Lib.hid (show sumV M a (a + d - 1) = .tuple #[.int .i64 n, .bool true] by rw [sum_is HGD.out r0 hle hd1, hn])
            have hmn : decide (m < n) = false := decide_eq_false (by have := HBE.out.all a r0 hle; rw [HM.out, hn] at this; omega)
            clear hn
            go_wp2_with fail
            clear h0
            refine wp_region_rel [91, 92, 93, 94, 95, 96, 97, 98, 99, 100, 101, 102, 103, 104, 105, 90, 106, 107, 12, 13] (fun L f w' => (w'.ownsRow w.heap.size 42 2 (.slice (some ⟨g, 0, none⟩) M.length c) M.length (flat M)) ∧ (Below w.heap.size w w') ∧ (L 0 → f 91 = .slice (some ⟨g, 0, none⟩) M.length c) ∧ (L 1 → f 92 = .slice (some ⟨g, 0, none⟩) M.length c) ∧ (L 2 → f 93 = .int .i64 k) ∧ (L 3 → f 94 = .pointer (some ⟨g, k * 2, none⟩)) ∧ (L 4 → f 95 = .pointer (some ⟨g, k * 2, none⟩)) ∧ (L 5 → f 96 = .int .i64 a) ∧ (L 6 → f 97 = .slice (some ⟨g, 0, none⟩) M.length c) ∧ (L 7 → f 98 = .int .i64 k) ∧ (L 8 → f 99 = .pointer (some ⟨g, k * 2, none⟩)) ∧ (L 9 → f 100 = .pointer (some ⟨g, k * 2, none⟩)) ∧ (L 10 → f 101 = .int .i64 a) ∧ (L 11 → f 102 = .int .i64 d) ∧ (L 12 → f 103 = .int .i64 (a + d)) ∧ (L 13 → f 104 = .int .i64 (a + d - 1)) ∧ (L 14 → f 105 = .tuple #[.int .i64 n, .bool true]) ∧ (L 15 → f 90 = .tuple #[.int .i64 n, .bool true]) ∧ (L 16 → f 106 = .int .i64 n) ∧ (L 17 → f 107 = .bool true) ∧ (L 18 → f 12 = .int .i64 n) ∧ (L 19 → f 13 = .bool true)) (by kernel_rfl) (by kernel_rfl) (by kernel_rfl) (fun f => ⟨own_keep O (Below.refl _ _).drew, HB.trans ((Below.refl _ _).drew.mono HB.size), fun h => h.elim, fun h => h.elim, fun h => h.elim, fun h => h.elim, fun h => h.elim, fun h => h.elim, fun h => h.elim, fun h => h.elim, fun h => h.elim, fun h => h.elim, fun h => h.elim, fun h => h.elim, fun h => h.elim, fun h => h.elim, fun h => h.elim, fun h => h.elim, fun h => h.elim, fun h => h.elim, fun h => h.elim, fun h => h.elim⟩) ?_ ?_
            · apply RelH.op2
              · intro L f u K hN hS hK
                simp only [puts, Act.put, List.setIfInBounds_toArray, List.set_cons_zero, List.set_cons_succ, upd, Nat.reduceEqDiff, ↓reduceIte, if_true, if_false] at hK ⊢
                have HS9 := Lib.hid hS
                obtain ⟨qO, qH, c0, c1, c2, c3, c4, c5, c6, c7, c8, c9, c10, c11, c12, c13, c14, c15, c16, c17, c18, c19⟩ := hS
                clear c0 c1 c2 c3 c4 c5 c6 c7 c8 c9 c10 c11 c12 c13 c14 c15 c16 c17 c18 c19
                go_simp
                obtain ⟨qO, qH, c0, c1, c2, c3, c4, c5, c6, c7, c8, c9, c10, c11, c12, c13, c14, c15, c16, c17, c18, c19⟩ := HS9.out
                exact hK.out _ _ ⟨qO, qH, fun _ => rfl, fun h => c1 (h.resolve_right (by decide)), fun h => c2 (h.resolve_right (by decide)), fun h => c3 (h.resolve_right (by decide)), fun h => c4 (h.resolve_right (by decide)), fun h => c5 (h.resolve_right (by decide)), fun h => c6 (h.resolve_right (by decide)), fun h => c7 (h.resolve_right (by decide)), fun h => c8 (h.resolve_right (by decide)), fun h => c9 (h.resolve_right (by decide)), fun h => c10 (h.resolve_right (by decide)), fun h => c11 (h.resolve_right (by decide)), fun h => c12 (h.resolve_right (by decide)), fun h => c13 (h.resolve_right (by decide)), fun h => c14 (h.resolve_right (by decide)), fun h => c15 (h.resolve_right (by decide)), fun h => c16 (h.resolve_right (by decide)), fun h => c17 (h.resolve_right (by decide)), fun h => c18 (h.resolve_right (by decide)), fun h => c19 (h.resolve_right (by decide))⟩ _ rfl
              apply RelH.op2
              · intro L f u K hN hS hK
                simp only [puts, Act.put, List.setIfInBounds_toArray, List.set_cons_zero, List.set_cons_succ, upd, Nat.reduceEqDiff, ↓reduceIte, if_true, if_false] at hK ⊢
                have HS9 := Lib.hid hS
                obtain ⟨qO, qH, c0, c1, c2, c3, c4, c5, c6, c7, c8, c9, c10, c11, c12, c13, c14, c15, c16, c17, c18, c19⟩ := hS
                clear c0 c1 c2 c3 c4 c5 c6 c7 c8 c9 c10 c11 c12 c13 c14 c15 c16 c17 c18 c19
                go_simp
                obtain ⟨qO, qH, c0, c1, c2, c3, c4, c5, c6, c7, c8, c9, c10, c11, c12, c13, c14, c15, c16, c17, c18, c19⟩ := HS9.out
                exact hK.out _ _ ⟨qO, qH, fun h => c0 (h.resolve_right (by decide)), fun _ => rfl, fun h => c2 (h.resolve_right (by decide)), fun h => c3 (h.resolve_right (by decide)), fun h => c4 (h.resolve_right (by decide)), fun h => c5 (h.resolve_right (by decide)), fun h => c6 (h.resolve_right (by decide)), fun h => c7 (h.resolve_right (by decide)), fun h => c8 (h.resolve_right (by decide)), fun h => c9 (h.resolve_right (by decide)), fun h => c10 (h.resolve_right (by decide)), fun h => c11 (h.resolve_right (by decide)), fun h => c12 (h.resolve_right (by decide)), fun h => c13 (h.resolve_right (by decide)), fun h => c14 (h.resolve_right (by decide)), fun h => c15 (h.resolve_right (by decide)), fun h => c16 (h.resolve_right (by decide)), fun h => c17 (h.resolve_right (by decide)), fun h => c18 (h.resolve_right (by decide)), fun h => c19 (h.resolve_right (by decide))⟩ _ rfl
              apply RelH.op2
              · intro L f u K hN hS hK
                simp only [puts, Act.put, List.setIfInBounds_toArray, List.set_cons_zero, List.set_cons_succ, upd, Nat.reduceEqDiff, ↓reduceIte, if_true, if_false] at hK ⊢
                have HS9 := Lib.hid hS
                obtain ⟨qO, qH, c0, c1, c2, c3, c4, c5, c6, c7, c8, c9, c10, c11, c12, c13, c14, c15, c16, c17, c18, c19⟩ := hS
                clear c0 c1 c2 c3 c4 c5 c6 c7 c8 c9 c10 c11 c12 c13 c14 c15 c16 c17 c18 c19
                go_simp
                obtain ⟨qO, qH, c0, c1, c2, c3, c4, c5, c6, c7, c8, c9, c10, c11, c12, c13, c14, c15, c16, c17, c18, c19⟩ := HS9.out
                exact hK.out _ _ ⟨qO, qH, fun h => c0 (h.resolve_right (by decide)), fun h => c1 (h.resolve_right (by decide)), fun _ => rfl, fun h => c3 (h.resolve_right (by decide)), fun h => c4 (h.resolve_right (by decide)), fun h => c5 (h.resolve_right (by decide)), fun h => c6 (h.resolve_right (by decide)), fun h => c7 (h.resolve_right (by decide)), fun h => c8 (h.resolve_right (by decide)), fun h => c9 (h.resolve_right (by decide)), fun h => c10 (h.resolve_right (by decide)), fun h => c11 (h.resolve_right (by decide)), fun h => c12 (h.resolve_right (by decide)), fun h => c13 (h.resolve_right (by decide)), fun h => c14 (h.resolve_right (by decide)), fun h => c15 (h.resolve_right (by decide)), fun h => c16 (h.resolve_right (by decide)), fun h => c17 (h.resolve_right (by decide)), fun h => c18 (h.resolve_right (by decide)), fun h => c19 (h.resolve_right (by decide))⟩ _ rfl
              apply RelH.op2
              · intro L f u K hN hS hK
                simp only [puts, Act.put, List.setIfInBounds_toArray, List.set_cons_zero, List.set_cons_succ, upd, Nat.reduceEqDiff, ↓reduceIte, if_true, if_false] at hK ⊢
                have HS9 := Lib.hid hS
                obtain ⟨qO, qH, c0, c1, c2, c3, c4, c5, c6, c7, c8, c9, c10, c11, c12, c13, c14, c15, c16, c17, c18, c19⟩ := hS
                have e1 := c1 (hN.out.2 1 (by decide +kernel))
                have e2 := c2 (hN.out.2 2 (by decide +kernel))
                clear c0 c1 c2 c3 c4 c5 c6 c7 c8 c9 c10 c11 c12 c13 c14 c15 c16 c17 c18 c19
                go_simp
                obtain ⟨qO, qH, c0, c1, c2, c3, c4, c5, c6, c7, c8, c9, c10, c11, c12, c13, c14, c15, c16, c17, c18, c19⟩ := HS9.out
                exact hK.out _ _ ⟨qO, qH, fun h => c0 (h.resolve_right (by decide)), fun h => c1 (h.resolve_right (by decide)), fun h => c2 (h.resolve_right (by decide)), fun _ => rfl, fun h => c4 (h.resolve_right (by decide)), fun h => c5 (h.resolve_right (by decide)), fun h => c6 (h.resolve_right (by decide)), fun h => c7 (h.resolve_right (by decide)), fun h => c8 (h.resolve_right (by decide)), fun h => c9 (h.resolve_right (by decide)), fun h => c10 (h.resolve_right (by decide)), fun h => c11 (h.resolve_right (by decide)), fun h => c12 (h.resolve_right (by decide)), fun h => c13 (h.resolve_right (by decide)), fun h => c14 (h.resolve_right (by decide)), fun h => c15 (h.resolve_right (by decide)), fun h => c16 (h.resolve_right (by decide)), fun h => c17 (h.resolve_right (by decide)), fun h => c18 (h.resolve_right (by decide)), fun h => c19 (h.resolve_right (by decide))⟩ _ (by simp only [e1, e2])
              apply RelH.op2
              · intro L f u K hN hS hK
                simp only [puts, Act.put, List.setIfInBounds_toArray, List.set_cons_zero, List.set_cons_succ, upd, Nat.reduceEqDiff, ↓reduceIte, if_true, if_false] at hK ⊢
                have HS9 := Lib.hid hS
                obtain ⟨qO, qH, c0, c1, c2, c3, c4, c5, c6, c7, c8, c9, c10, c11, c12, c13, c14, c15, c16, c17, c18, c19⟩ := hS
                have e3 := c3 (hN.out.2 3 (by decide +kernel))
                clear c0 c1 c2 c3 c4 c5 c6 c7 c8 c9 c10 c11 c12 c13 c14 c15 c16 c17 c18 c19
                go_simp
                obtain ⟨qO, qH, c0, c1, c2, c3, c4, c5, c6, c7, c8, c9, c10, c11, c12, c13, c14, c15, c16, c17, c18, c19⟩ := HS9.out
                exact hK.out _ _ ⟨qO, qH, fun h => c0 (h.resolve_right (by decide)), fun h => c1 (h.resolve_right (by decide)), fun h => c2 (h.resolve_right (by decide)), fun h => c3 (h.resolve_right (by decide)), fun _ => rfl, fun h => c5 (h.resolve_right (by decide)), fun h => c6 (h.resolve_right (by decide)), fun h => c7 (h.resolve_right (by decide)), fun h => c8 (h.resolve_right (by decide)), fun h => c9 (h.resolve_right (by decide)), fun h => c10 (h.resolve_right (by decide)), fun h => c11 (h.resolve_right (by decide)), fun h => c12 (h.resolve_right (by decide)), fun h => c13 (h.resolve_right (by decide)), fun h => c14 (h.resolve_right (by decide)), fun h => c15 (h.resolve_right (by decide)), fun h => c16 (h.resolve_right (by decide)), fun h => c17 (h.resolve_right (by decide)), fun h => c18 (h.resolve_right (by decide)), fun h => c19 (h.resolve_right (by decide))⟩ _ (by simp only [e3])
              apply RelH.op2
              · intro L f u K hN hS hK
                simp only [puts, Act.put, List.setIfInBounds_toArray, List.set_cons_zero, List.set_cons_succ, upd, Nat.reduceEqDiff, ↓reduceIte, if_true, if_false] at hK ⊢
                have HS9 := Lib.hid hS
                obtain ⟨qO, qH, c0, c1, c2, c3, c4, c5, c6, c7, c8, c9, c10, c11, c12, c13, c14, c15, c16, c17, c18, c19⟩ := hS
                have e4 := c4 (hN.out.2 4 (by decide +kernel))
                have h0 : u.cell? ⟨g, k * 2, none⟩ = some (.int .i64 a) := by rw [qO.cellAt _ (by omega)]; exact HA.out
                clear c0 c1 c2 c3 c4 c5 c6 c7 c8 c9 c10 c11 c12 c13 c14 c15 c16 c17 c18 c19
                go_simp
                obtain ⟨qO, qH, c0, c1, c2, c3, c4, c5, c6, c7, c8, c9, c10, c11, c12, c13, c14, c15, c16, c17, c18, c19⟩ := HS9.out
                exact hK.out _ _ ⟨qO, qH, fun h => c0 (h.resolve_right (by decide)), fun h => c1 (h.resolve_right (by decide)), fun h => c2 (h.resolve_right (by decide)), fun h => c3 (h.resolve_right (by decide)), fun h => c4 (h.resolve_right (by decide)), fun _ => rfl, fun h => c6 (h.resolve_right (by decide)), fun h => c7 (h.resolve_right (by decide)), fun h => c8 (h.resolve_right (by decide)), fun h => c9 (h.resolve_right (by decide)), fun h => c10 (h.resolve_right (by decide)), fun h => c11 (h.resolve_right (by decide)), fun h => c12 (h.resolve_right (by decide)), fun h => c13 (h.resolve_right (by decide)), fun h => c14 (h.resolve_right (by decide)), fun h => c15 (h.resolve_right (by decide)), fun h => c16 (h.resolve_right (by decide)), fun h => c17 (h.resolve_right (by decide)), fun h => c18 (h.resolve_right (by decide)), fun h => c19 (h.resolve_right (by decide))⟩ _ (by simp only [e4])
              apply RelH.op2
              · intro L f u K hN hS hK
                simp only [puts, Act.put, List.setIfInBounds_toArray, List.set_cons_zero, List.set_cons_succ, upd, Nat.reduceEqDiff, ↓reduceIte, if_true, if_false] at hK ⊢
                have HS9 := Lib.hid hS
                obtain ⟨qO, qH, c0, c1, c2, c3, c4, c5, c6, c7, c8, c9, c10, c11, c12, c13, c14, c15, c16, c17, c18, c19⟩ := hS
                clear c0 c1 c2 c3 c4 c5 c6 c7 c8 c9 c10 c11 c12 c13 c14 c15 c16 c17 c18 c19
                go_simp
                obtain ⟨qO, qH, c0, c1, c2, c3, c4, c5, c6, c7, c8, c9, c10, c11, c12, c13, c14, c15, c16, c17, c18, c19⟩ := HS9.out
                exact hK.out _ _ ⟨qO, qH, fun h => c0 (h.resolve_right (by decide)), fun h => c1 (h.resolve_right (by decide)), fun h => c2 (h.resolve_right (by decide)), fun h => c3 (h.resolve_right (by decide)), fun h => c4 (h.resolve_right (by decide)), fun h => c5 (h.resolve_right (by decide)), fun _ => rfl, fun h => c7 (h.resolve_right (by decide)), fun h => c8 (h.resolve_right (by decide)), fun h => c9 (h.resolve_right (by decide)), fun h => c10 (h.resolve_right (by decide)), fun h => c11 (h.resolve_right (by decide)), fun h => c12 (h.resolve_right (by decide)), fun h => c13 (h.resolve_right (by decide)), fun h => c14 (h.resolve_right (by decide)), fun h => c15 (h.resolve_right (by decide)), fun h => c16 (h.resolve_right (by decide)), fun h => c17 (h.resolve_right (by decide)), fun h => c18 (h.resolve_right (by decide)), fun h => c19 (h.resolve_right (by decide))⟩ _ rfl
              apply RelH.op2
              · intro L f u K hN hS hK
                simp only [puts, Act.put, List.setIfInBounds_toArray, List.set_cons_zero, List.set_cons_succ, upd, Nat.reduceEqDiff, ↓reduceIte, if_true, if_false] at hK ⊢
                have HS9 := Lib.hid hS
                obtain ⟨qO, qH, c0, c1, c2, c3, c4, c5, c6, c7, c8, c9, c10, c11, c12, c13, c14, c15, c16, c17, c18, c19⟩ := hS
                clear c0 c1 c2 c3 c4 c5 c6 c7 c8 c9 c10 c11 c12 c13 c14 c15 c16 c17 c18 c19
                go_simp
                obtain ⟨qO, qH, c0, c1, c2, c3, c4, c5, c6, c7, c8, c9, c10, c11, c12, c13, c14, c15, c16, c17, c18, c19⟩ := HS9.out
                exact hK.out _ _ ⟨qO, qH, fun h => c0 (h.resolve_right (by decide)), fun h => c1 (h.resolve_right (by decide)), fun h => c2 (h.resolve_right (by decide)), fun h => c3 (h.resolve_right (by decide)), fun h => c4 (h.resolve_right (by decide)), fun h => c5 (h.resolve_right (by decide)), fun h => c6 (h.resolve_right (by decide)), fun _ => rfl, fun h => c8 (h.resolve_right (by decide)), fun h => c9 (h.resolve_right (by decide)), fun h => c10 (h.resolve_right (by decide)), fun h => c11 (h.resolve_right (by decide)), fun h => c12 (h.resolve_right (by decide)), fun h => c13 (h.resolve_right (by decide)), fun h => c14 (h.resolve_right (by decide)), fun h => c15 (h.resolve_right (by decide)), fun h => c16 (h.resolve_right (by decide)), fun h => c17 (h.resolve_right (by decide)), fun h => c18 (h.resolve_right (by decide)), fun h => c19 (h.resolve_right (by decide))⟩ _ rfl
              apply RelH.op2
              · intro L f u K hN hS hK
                simp only [puts, Act.put, List.setIfInBounds_toArray, List.set_cons_zero, List.set_cons_succ, upd, Nat.reduceEqDiff, ↓reduceIte, if_true, if_false] at hK ⊢
                have HS9 := Lib.hid hS
                obtain ⟨qO, qH, c0, c1, c2, c3, c4, c5, c6, c7, c8, c9, c10, c11, c12, c13, c14, c15, c16, c17, c18, c19⟩ := hS
                have e6 := c6 (hN.out.2 6 (by decide +kernel))
                have e7 := c7 (hN.out.2 7 (by decide +kernel))
                clear c0 c1 c2 c3 c4 c5 c6 c7 c8 c9 c10 c11 c12 c13 c14 c15 c16 c17 c18 c19
                go_simp
                obtain ⟨qO, qH, c0, c1, c2, c3, c4, c5, c6, c7, c8, c9, c10, c11, c12, c13, c14, c15, c16, c17, c18, c19⟩ := HS9.out
                exact hK.out _ _ ⟨qO, qH, fun h => c0 (h.resolve_right (by decide)), fun h => c1 (h.resolve_right (by decide)), fun h => c2 (h.resolve_right (by decide)), fun h => c3 (h.resolve_right (by decide)), fun h => c4 (h.resolve_right (by decide)), fun h => c5 (h.resolve_right (by decide)), fun h => c6 (h.resolve_right (by decide)), fun h => c7 (h.resolve_right (by decide)), fun _ => rfl, fun h => c9 (h.resolve_right (by decide)), fun h => c10 (h.resolve_right (by decide)), fun h => c11 (h.resolve_right (by decide)), fun h => c12 (h.resolve_right (by decide)), fun h => c13 (h.resolve_right (by decide)), fun h => c14 (h.resolve_right (by decide)), fun h => c15 (h.resolve_right (by decide)), fun h => c16 (h.resolve_right (by decide)), fun h => c17 (h.resolve_right (by decide)), fun h => c18 (h.resolve_right (by decide)), fun h => c19 (h.resolve_right (by decide))⟩ _ (by simp only [e6, e7])
              apply RelH.op2
              · intro L f u K hN hS hK
                simp only [puts, Act.put, List.setIfInBounds_toArray, List.set_cons_zero, List.set_cons_succ, upd, Nat.reduceEqDiff, ↓reduceIte, if_true, if_false] at hK ⊢
                have HS9 := Lib.hid hS
                obtain ⟨qO, qH, c0, c1, c2, c3, c4, c5, c6, c7, c8, c9, c10, c11, c12, c13, c14, c15, c16, c17, c18, c19⟩ := hS
                have e8 := c8 (hN.out.2 8 (by decide +kernel))
                clear c0 c1 c2 c3 c4 c5 c6 c7 c8 c9 c10 c11 c12 c13 c14 c15 c16 c17 c18 c19
                go_simp
                obtain ⟨qO, qH, c0, c1, c2, c3, c4, c5, c6, c7, c8, c9, c10, c11, c12, c13, c14, c15, c16, c17, c18, c19⟩ := HS9.out
                exact hK.out _ _ ⟨qO, qH, fun h => c0 (h.resolve_right (by decide)), fun h => c1 (h.resolve_right (by decide)), fun h => c2 (h.resolve_right (by decide)), fun h => c3 (h.resolve_right (by decide)), fun h => c4 (h.resolve_right (by decide)), fun h => c5 (h.resolve_right (by decide)), fun h => c6 (h.resolve_right (by decide)), fun h => c7 (h.resolve_right (by decide)), fun h => c8 (h.resolve_right (by decide)), fun _ => rfl, fun h => c10 (h.resolve_right (by decide)), fun h => c11 (h.resolve_right (by decide)), fun h => c12 (h.resolve_right (by decide)), fun h => c13 (h.resolve_right (by decide)), fun h => c14 (h.resolve_right (by decide)), fun h => c15 (h.resolve_right (by decide)), fun h => c16 (h.resolve_right (by decide)), fun h => c17 (h.resolve_right (by decide)), fun h => c18 (h.resolve_right (by decide)), fun h => c19 (h.resolve_right (by decide))⟩ _ (by simp only [e8])
              apply RelH.op2
              · intro L f u K hN hS hK
                simp only [puts, Act.put, List.setIfInBounds_toArray, List.set_cons_zero, List.set_cons_succ, upd, Nat.reduceEqDiff, ↓reduceIte, if_true, if_false] at hK ⊢
                have HS9 := Lib.hid hS
                obtain ⟨qO, qH, c0, c1, c2, c3, c4, c5, c6, c7, c8, c9, c10, c11, c12, c13, c14, c15, c16, c17, c18, c19⟩ := hS
                have e9 := c9 (hN.out.2 9 (by decide +kernel))
                have h0 : u.cell? ⟨g, k * 2, none⟩ = some (.int .i64 a) := by rw [qO.cellAt _ (by omega)]; exact HA.out
                clear c0 c1 c2 c3 c4 c5 c6 c7 c8 c9 c10 c11 c12 c13 c14 c15 c16 c17 c18 c19
                go_simp
                obtain ⟨qO, qH, c0, c1, c2, c3, c4, c5, c6, c7, c8, c9, c10, c11, c12, c13, c14, c15, c16, c17, c18, c19⟩ := HS9.out
                exact hK.out _ _ ⟨qO, qH, fun h => c0 (h.resolve_right (by decide)), fun h => c1 (h.resolve_right (by decide)), fun h => c2 (h.resolve_right (by decide)), fun h => c3 (h.resolve_right (by decide)), fun h => c4 (h.resolve_right (by decide)), fun h => c5 (h.resolve_right (by decide)), fun h => c6 (h.resolve_right (by decide)), fun h => c7 (h.resolve_right (by decide)), fun h => c8 (h.resolve_right (by decide)), fun h => c9 (h.resolve_right (by decide)), fun _ => rfl, fun h => c11 (h.resolve_right (by decide)), fun h => c12 (h.resolve_right (by decide)), fun h => c13 (h.resolve_right (by decide)), fun h => c14 (h.resolve_right (by decide)), fun h => c15 (h.resolve_right (by decide)), fun h => c16 (h.resolve_right (by decide)), fun h => c17 (h.resolve_right (by decide)), fun h => c18 (h.resolve_right (by decide)), fun h => c19 (h.resolve_right (by decide))⟩ _ (by simp only [e9])
              apply RelH.op2
              · intro L f u K hN hS hK
                simp only [puts, Act.put, List.setIfInBounds_toArray, List.set_cons_zero, List.set_cons_succ, upd, Nat.reduceEqDiff, ↓reduceIte, if_true, if_false] at hK ⊢
                have HS9 := Lib.hid hS
                obtain ⟨qO, qH, c0, c1, c2, c3, c4, c5, c6, c7, c8, c9, c10, c11, c12, c13, c14, c15, c16, c17, c18, c19⟩ := hS
                clear c0 c1 c2 c3 c4 c5 c6 c7 c8 c9 c10 c11 c12 c13 c14 c15 c16 c17 c18 c19
                go_simp
                obtain ⟨qO, qH, c0, c1, c2, c3, c4, c5, c6, c7, c8, c9, c10, c11, c12, c13, c14, c15, c16, c17, c18, c19⟩ := HS9.out
                exact hK.out _ _ ⟨qO, qH, fun h => c0 (h.resolve_right (by decide)), fun h => c1 (h.resolve_right (by decide)), fun h => c2 (h.resolve_right (by decide)), fun h => c3 (h.resolve_right (by decide)), fun h => c4 (h.resolve_right (by decide)), fun h => c5 (h.resolve_right (by decide)), fun h => c6 (h.resolve_right (by decide)), fun h => c7 (h.resolve_right (by decide)), fun h => c8 (h.resolve_right (by decide)), fun h => c9 (h.resolve_right (by decide)), fun h => c10 (h.resolve_right (by decide)), fun _ => rfl, fun h => c12 (h.resolve_right (by decide)), fun h => c13 (h.resolve_right (by decide)), fun h => c14 (h.resolve_right (by decide)), fun h => c15 (h.resolve_right (by decide)), fun h => c16 (h.resolve_right (by decide)), fun h => c17 (h.resolve_right (by decide)), fun h => c18 (h.resolve_right (by decide)), fun h => c19 (h.resolve_right (by decide))⟩ _ rfl
              apply RelH.op2
              · intro L f u K hN hS hK
                simp only [puts, Act.put, List.setIfInBounds_toArray, List.set_cons_zero, List.set_cons_succ, upd, Nat.reduceEqDiff, ↓reduceIte, if_true, if_false] at hK ⊢
                have HS9 := Lib.hid hS
                obtain ⟨qO, qH, c0, c1, c2, c3, c4, c5, c6, c7, c8, c9, c10, c11, c12, c13, c14, c15, c16, c17, c18, c19⟩ := hS
                have e10 := c10 (hN.out.2 10 (by decide +kernel))
                have e11 := c11 (hN.out.2 11 (by decide +kernel))
                clear c0 c1 c2 c3 c4 c5 c6 c7 c8 c9 c10 c11 c12 c13 c14 c15 c16 c17 c18 c19
                go_simp
                obtain ⟨qO, qH, c0, c1, c2, c3, c4, c5, c6, c7, c8, c9, c10, c11, c12, c13, c14, c15, c16, c17, c18, c19⟩ := HS9.out
                exact hK.out _ _ ⟨qO, qH, fun h => c0 (h.resolve_right (by decide)), fun h => c1 (h.resolve_right (by decide)), fun h => c2 (h.resolve_right (by decide)), fun h => c3 (h.resolve_right (by decide)), fun h => c4 (h.resolve_right (by decide)), fun h => c5 (h.resolve_right (by decide)), fun h => c6 (h.resolve_right (by decide)), fun h => c7 (h.resolve_right (by decide)), fun h => c8 (h.resolve_right (by decide)), fun h => c9 (h.resolve_right (by decide)), fun h => c10 (h.resolve_right (by decide)), fun h => c11 (h.resolve_right (by decide)), fun _ => rfl, fun h => c13 (h.resolve_right (by decide)), fun h => c14 (h.resolve_right (by decide)), fun h => c15 (h.resolve_right (by decide)), fun h => c16 (h.resolve_right (by decide)), fun h => c17 (h.resolve_right (by decide)), fun h => c18 (h.resolve_right (by decide)), fun h => c19 (h.resolve_right (by decide))⟩ _ (by simp only [e10, e11])
              apply RelH.op2
              · intro L f u K hN hS hK
                simp only [puts, Act.put, List.setIfInBounds_toArray, List.set_cons_zero, List.set_cons_succ, upd, Nat.reduceEqDiff, ↓reduceIte, if_true, if_false] at hK ⊢
                have HS9 := Lib.hid hS
                obtain ⟨qO, qH, c0, c1, c2, c3, c4, c5, c6, c7, c8, c9, c10, c11, c12, c13, c14, c15, c16, c17, c18, c19⟩ := hS
                have e12 := c12 (hN.out.2 12 (by decide +kernel))
                clear c0 c1 c2 c3 c4 c5 c6 c7 c8 c9 c10 c11 c12 c13 c14 c15 c16 c17 c18 c19
                go_simp
                obtain ⟨qO, qH, c0, c1, c2, c3, c4, c5, c6, c7, c8, c9, c10, c11, c12, c13, c14, c15, c16, c17, c18, c19⟩ := HS9.out
                exact hK.out _ _ ⟨qO, qH, fun h => c0 (h.resolve_right (by decide)), fun h => c1 (h.resolve_right (by decide)), fun h => c2 (h.resolve_right (by decide)), fun h => c3 (h.resolve_right (by decide)), fun h => c4 (h.resolve_right (by decide)), fun h => c5 (h.resolve_right (by decide)), fun h => c6 (h.resolve_right (by decide)), fun h => c7 (h.resolve_right (by decide)), fun h => c8 (h.resolve_right (by decide)), fun h => c9 (h.resolve_right (by decide)), fun h => c10 (h.resolve_right (by decide)), fun h => c11 (h.resolve_right (by decide)), fun h => c12 (h.resolve_right (by decide)), fun _ => rfl, fun h => c14 (h.resolve_right (by decide)), fun h => c15 (h.resolve_right (by decide)), fun h => c16 (h.resolve_right (by decide)), fun h => c17 (h.resolve_right (by decide)), fun h => c18 (h.resolve_right (by decide)), fun h => c19 (h.resolve_right (by decide))⟩ _ (by simp only [e12])
              apply RelH.op2
              · intro L f u K hN hS hK
                simp only [puts, Act.put, List.setIfInBounds_toArray, List.set_cons_zero, List.set_cons_succ, upd, Nat.reduceEqDiff, ↓reduceIte, if_true, if_false] at hK ⊢
                have HS9 := Lib.hid hS
                obtain ⟨qO, qH, c0, c1, c2, c3, c4, c5, c6, c7, c8, c9, c10, c11, c12, c13, c14, c15, c16, c17, c18, c19⟩ := hS
                have e0 := c0 (hN.out.2 0 (by decide +kernel))
                have e5 := c5 (hN.out.2 5 (by decide +kernel))
                have e13 := c13 (hN.out.2 13 (by decide +kernel))
                have HCON := Lib.hid (SunL.ssum_impl (some ⟨g, 0, none⟩) c M a (a + d - 1) u (Rd.of_own qO) (own_cap qO) (by omega))
                clear c0 c1 c2 c3 c4 c5 c6 c7 c8 c9 c10 c11 c12 c13 c14 c15 c16 c17 c18 c19
                go_simp
                go_at_call 32
                (with_reducible refine HCON.out.mono ?_)
                rintro e uw1 ⟨rfl, hv⟩
                rw [HSN.out]
                go_wp2_with fail
                obtain ⟨qO, qH, c0, c1, c2, c3, c4, c5, c6, c7, c8, c9, c10, c11, c12, c13, c14, c15, c16, c17, c18, c19⟩ := HS9.out
                exact hK.out _ _ ⟨own_keep qO hv, be qH hv, fun h => c0 (h.resolve_right (by decide)), fun h => c1 (h.resolve_right (by decide)), fun h => c2 (h.resolve_right (by decide)), fun h => c3 (h.resolve_right (by decide)), fun h => c4 (h.resolve_right (by decide)), fun h => c5 (h.resolve_right (by decide)), fun h => c6 (h.resolve_right (by decide)), fun h => c7 (h.resolve_right (by decide)), fun h => c8 (h.resolve_right (by decide)), fun h => c9 (h.resolve_right (by decide)), fun h => c10 (h.resolve_right (by decide)), fun h => c11 (h.resolve_right (by decide)), fun h => c12 (h.resolve_right (by decide)), fun h => c13 (h.resolve_right (by decide)), fun _ => rfl, fun h => c15 (h.resolve_right (by decide)), fun h => c16 (h.resolve_right (by decide)), fun h => c17 (h.resolve_right (by decide)), fun h => c18 (h.resolve_right (by decide)), fun h => c19 (h.resolve_right (by decide))⟩ _ (by simp only [e0, e5, e13])
              apply RelH.op2
              · intro L f u K hN hS hK
                simp only [puts, Act.put, List.setIfInBounds_toArray, List.set_cons_zero, List.set_cons_succ, upd, Nat.reduceEqDiff, ↓reduceIte, if_true, if_false] at hK ⊢
                have HS9 := Lib.hid hS
                obtain ⟨qO, qH, c0, c1, c2, c3, c4, c5, c6, c7, c8, c9, c10, c11, c12, c13, c14, c15, c16, c17, c18, c19⟩ := hS
                have e14 := c14 (hN.out.2 14 (by decide +kernel))
                clear c0 c1 c2 c3 c4 c5 c6 c7 c8 c9 c10 c11 c12 c13 c14 c15 c16 c17 c18 c19
                go_simp
                obtain ⟨qO, qH, c0, c1, c2, c3, c4, c5, c6, c7, c8, c9, c10, c11, c12, c13, c14, c15, c16, c17, c18, c19⟩ := HS9.out
                exact hK.out _ _ ⟨qO, qH, fun h => c0 (h.resolve_right (by decide)), fun h => c1 (h.resolve_right (by decide)), fun h => c2 (h.resolve_right (by decide)), fun h => c3 (h.resolve_right (by decide)), fun h => c4 (h.resolve_right (by decide)), fun h => c5 (h.resolve_right (by decide)), fun h => c6 (h.resolve_right (by decide)), fun h => c7 (h.resolve_right (by decide)), fun h => c8 (h.resolve_right (by decide)), fun h => c9 (h.resolve_right (by decide)), fun h => c10 (h.resolve_right (by decide)), fun h => c11 (h.resolve_right (by decide)), fun h => c12 (h.resolve_right (by decide)), fun h => c13 (h.resolve_right (by decide)), fun h => c14 (h.resolve_right (by decide)), fun _ => rfl, fun h => c16 (h.resolve_right (by decide)), fun h => c17 (h.resolve_right (by decide)), fun h => c18 (h.resolve_right (by decide)), fun h => c19 (h.resolve_right (by decide))⟩ _ (by simp only [e14])
              apply RelH.op2
              · intro L f u K hN hS hK
                simp only [puts, Act.put, List.setIfInBounds_toArray, List.set_cons_zero, List.set_cons_succ, upd, Nat.reduceEqDiff, ↓reduceIte, if_true, if_false] at hK ⊢
                have HS9 := Lib.hid hS
                obtain ⟨qO, qH, c0, c1, c2, c3, c4, c5, c6, c7, c8, c9, c10, c11, c12, c13, c14, c15, c16, c17, c18, c19⟩ := hS
                have e15 := c15 (hN.out.2 15 (by decide +kernel))
                clear c0 c1 c2 c3 c4 c5 c6 c7 c8 c9 c10 c11 c12 c13 c14 c15 c16 c17 c18 c19
                go_simp
                obtain ⟨qO, qH, c0, c1, c2, c3, c4, c5, c6, c7, c8, c9, c10, c11, c12, c13, c14, c15, c16, c17, c18, c19⟩ := HS9.out
                exact hK.out _ _ ⟨qO, qH, fun h => c0 (h.resolve_right (by decide)), fun h => c1 (h.resolve_right (by decide)), fun h => c2 (h.resolve_right (by decide)), fun h => c3 (h.resolve_right (by decide)), fun h => c4 (h.resolve_right (by decide)), fun h => c5 (h.resolve_right (by decide)), fun h => c6 (h.resolve_right (by decide)), fun h => c7 (h.resolve_right (by decide)), fun h => c8 (h.resolve_right (by decide)), fun h => c9 (h.resolve_right (by decide)), fun h => c10 (h.resolve_right (by decide)), fun h => c11 (h.resolve_right (by decide)), fun h => c12 (h.resolve_right (by decide)), fun h => c13 (h.resolve_right (by decide)), fun h => c14 (h.resolve_right (by decide)), fun h => c15 (h.resolve_right (by decide)), fun _ => rfl, fun h => c17 (h.resolve_right (by decide)), fun h => c18 (h.resolve_right (by decide)), fun h => c19 (h.resolve_right (by decide))⟩ _ (by simp only [e15])
              apply RelH.op2
              · intro L f u K hN hS hK
                simp only [puts, Act.put, List.setIfInBounds_toArray, List.set_cons_zero, List.set_cons_succ, upd, Nat.reduceEqDiff, ↓reduceIte, if_true, if_false] at hK ⊢
                have HS9 := Lib.hid hS
                obtain ⟨qO, qH, c0, c1, c2, c3, c4, c5, c6, c7, c8, c9, c10, c11, c12, c13, c14, c15, c16, c17, c18, c19⟩ := hS
                have e15 := c15 (hN.out.2 15 (by decide +kernel))
                clear c0 c1 c2 c3 c4 c5 c6 c7 c8 c9 c10 c11 c12 c13 c14 c15 c16 c17 c18 c19
                go_simp
                obtain ⟨qO, qH, c0, c1, c2, c3, c4, c5, c6, c7, c8, c9, c10, c11, c12, c13, c14, c15, c16, c17, c18, c19⟩ := HS9.out
                exact hK.out _ _ ⟨qO, qH, fun h => c0 (h.resolve_right (by decide)), fun h => c1 (h.resolve_right (by decide)), fun h => c2 (h.resolve_right (by decide)), fun h => c3 (h.resolve_right (by decide)), fun h => c4 (h.resolve_right (by decide)), fun h => c5 (h.resolve_right (by decide)), fun h => c6 (h.resolve_right (by decide)), fun h => c7 (h.resolve_right (by decide)), fun h => c8 (h.resolve_right (by decide)), fun h => c9 (h.resolve_right (by decide)), fun h => c10 (h.resolve_right (by decide)), fun h => c11 (h.resolve_right (by decide)), fun h => c12 (h.resolve_right (by decide)), fun h => c13 (h.resolve_right (by decide)), fun h => c14 (h.resolve_right (by decide)), fun h => c15 (h.resolve_right (by decide)), fun h => c16 (h.resolve_right (by decide)), fun _ => rfl, fun h => c18 (h.resolve_right (by decide)), fun h => c19 (h.resolve_right (by decide))⟩ _ (by simp only [e15])
              apply RelH.op2
              · intro L f u K hN hS hK
                simp only [puts, Act.put, List.setIfInBounds_toArray, List.set_cons_zero, List.set_cons_succ, upd, Nat.reduceEqDiff, ↓reduceIte, if_true, if_false] at hK ⊢
                have HS9 := Lib.hid hS
                obtain ⟨qO, qH, c0, c1, c2, c3, c4, c5, c6, c7, c8, c9, c10, c11, c12, c13, c14, c15, c16, c17, c18, c19⟩ := hS
                have e16 := c16 (hN.out.2 16 (by decide +kernel))
                clear c0 c1 c2 c3 c4 c5 c6 c7 c8 c9 c10 c11 c12 c13 c14 c15 c16 c17 c18 c19
                go_simp
                obtain ⟨qO, qH, c0, c1, c2, c3, c4, c5, c6, c7, c8, c9, c10, c11, c12, c13, c14, c15, c16, c17, c18, c19⟩ := HS9.out
                exact hK.out _ _ ⟨qO, qH, fun h => c0 (h.resolve_right (by decide)), fun h => c1 (h.resolve_right (by decide)), fun h => c2 (h.resolve_right (by decide)), fun h => c3 (h.resolve_right (by decide)), fun h => c4 (h.resolve_right (by decide)), fun h => c5 (h.resolve_right (by decide)), fun h => c6 (h.resolve_right (by decide)), fun h => c7 (h.resolve_right (by decide)), fun h => c8 (h.resolve_right (by decide)), fun h => c9 (h.resolve_right (by decide)), fun h => c10 (h.resolve_right (by decide)), fun h => c11 (h.resolve_right (by decide)), fun h => c12 (h.resolve_right (by decide)), fun h => c13 (h.resolve_right (by decide)), fun h => c14 (h.resolve_right (by decide)), fun h => c15 (h.resolve_right (by decide)), fun h => c16 (h.resolve_right (by decide)), fun h => c17 (h.resolve_right (by decide)), fun _ => rfl, fun h => c19 (h.resolve_right (by decide))⟩ _ (by simp only [e16])
              apply RelH.op2
              · intro L f u K hN hS hK
                simp only [puts, Act.put, List.setIfInBounds_toArray, List.set_cons_zero, List.set_cons_succ, upd, Nat.reduceEqDiff, ↓reduceIte, if_true, if_false] at hK ⊢
                have HS9 := Lib.hid hS
                obtain ⟨qO, qH, c0, c1, c2, c3, c4, c5, c6, c7, c8, c9, c10, c11, c12, c13, c14, c15, c16, c17, c18, c19⟩ := hS
                have e17 := c17 (hN.out.2 17 (by decide +kernel))
                clear c0 c1 c2 c3 c4 c5 c6 c7 c8 c9 c10 c11 c12 c13 c14 c15 c16 c17 c18 c19
                go_simp
                obtain ⟨qO, qH, c0, c1, c2, c3, c4, c5, c6, c7, c8, c9, c10, c11, c12, c13, c14, c15, c16, c17, c18, c19⟩ := HS9.out
                exact hK.out _ _ ⟨qO, qH, fun h => c0 (h.resolve_right (by decide)), fun h => c1 (h.resolve_right (by decide)), fun h => c2 (h.resolve_right (by decide)), fun h => c3 (h.resolve_right (by decide)), fun h => c4 (h.resolve_right (by decide)), fun h => c5 (h.resolve_right (by decide)), fun h => c6 (h.resolve_right (by decide)), fun h => c7 (h.resolve_right (by decide)), fun h => c8 (h.resolve_right (by decide)), fun h => c9 (h.resolve_right (by decide)), fun h => c10 (h.resolve_right (by decide)), fun h => c11 (h.resolve_right (by decide)), fun h => c12 (h.resolve_right (by decide)), fun h => c13 (h.resolve_right (by decide)), fun h => c14 (h.resolve_right (by decide)), fun h => c15 (h.resolve_right (by decide)), fun h => c16 (h.resolve_right (by decide)), fun h => c17 (h.resolve_right (by decide)), fun h => c18 (h.resolve_right (by decide)), fun _ => rfl⟩ _ (by simp only [e17])
              exact RelH.done
            intro L f V0 hL hS
            simp only [puts, Act.put, List.setIfInBounds_toArray, List.set_cons_zero, List.set_cons_succ]
            obtain ⟨qO, qH, c0, c1, c2, c3, c4, c5, c6, c7, c8, c9, c10, c11, c12, c13, c14, c15, c16, c17, c18, c19⟩ := hS
            have O' := qO
            have HB' := qH
            have e18 := c18 (hL 18 (by decide)); have e19 := c19 (hL 19 (by decide))
            simp only [e18, e19]
            clear e18 e19 c0 c1 c2 c3 c4 c5 c6 c7 c8 c9 c10 c11 c12 c13 c14 c15 c16 c17 c18 c19 hL qO qH O HB
            go_wp2
            go_roundw
            case rel => exact ⟨k + 1, hlt, by go_num, O', HB'⟩
            case measure => simp [intOf]; omega
          · have hle' : decide (a + d - 1 ≤ 4000) = false := decide_eq_false hle
            go_wp2
            go_roundw
            case rel => exact ⟨k + 1, hlt, by go_num, O, HB⟩
            case measure => simp [intOf]; omega
        · go_wp2_with fail
          go_meet
          case rel => exact HB
  case rest => as_aux_lemma =>
    go_wp2_with fail
    refine (DSun6.drawPut A cap zs wc (HC.out.below hcut)).mono ?_
    rintro e w2 ⟨M, g, c, x, y, hl, rfl, O, hB⟩
    have HB0 := be hcut hB
    replace O := own_base O (base' := w.heap.size) hcut.size
    clear hB hcut
    go_wp2_with fail
    have B := Box.new HB0 [.int .i64 x, .int .i64 y] 42 (g := w2.heap.size) rfl
    replace O := own_keep O (al (Below.refl _ _) (o := (.cells #[.int .i64 x, .int .i64 y] 42)))
    generalize (w2.alloc (.cells #[.int .i64 x, .int .i64 y] 42)) = W1 at B O ⊢
    have B_0 := B.cells 0 _ rfl
    have B_1 := B.cells 1 _ rfl
    have B_f0 := B.free 0 (by simp)
    have B_f1 := B.free 1 (by simp)
    have B_t := B.there
    have hs := fun b o cap w hr hc => SunQ.put_spec b o cap M ⟨x, y⟩ w hr (by omega) hc
    have hi := fun P cap w hr => SunP.put_impl P cap M ⟨x, y⟩ w hr (by omega)
    have hm : (SunB.putL M ⟨x, y⟩).length ≤ 20 := SunB.putL_len M ⟨x, y⟩
    have ht := fun h => put_told (l := M) (x := ⟨x, y⟩) h
    unfold SunP.PutPost at hs hi
    generalize SunB.putL M ⟨x, y⟩ = N at hs hi hm ht
    generalize SunB.putOk M ⟨x, y⟩ = q at hs hi ht
    have HSP := Lib.hid hs; clear hs
    have HIM := Lib.hid hi; clear hi
    have HT := Lib.hid ht; clear ht
    have hcp := own_cap O
    have hb1 := B.below.size
    go_wp2_with fail
    refine (HIM.out _ _ _ (Rd.of_own O)).mono ?_
    rintro e v2 ⟨A1, k1, rfl, O1, hv2⟩
    clear B_0 B_1 B_f0 B_f1 B_t
    replace B := B.more hv2
    replace O := own_keep O hv2
    have zhv2 := hv2.size
    clear hv2
    have B_0 := B.cells 0 _ rfl
    have B_1 := B.cells 1 _ rfl
    have B_f0 := B.free 0 (by simp)
    have B_f1 := B.free 1 (by simp)
    have B_t := B.there
    replace O1 := own_base O1 (base' := w.heap.size) hb1
    have hb2 := B.below.size
    go_wp2_with fail
    refine (HSP.out _ _ _ _ (Rd.of_own O) hcp).mono ?_
    rintro e v3 ⟨A0, k0, rfl, O0, hv3⟩
    clear B_0 B_1 B_f0 B_f1 B_t
    replace B := B.more hv3
    replace O := own_keep O hv3
    replace O1 := own_keep O1 hv3
    have zhv3 := hv3.size
    clear hv3
    have B_0 := B.cells 0 _ rfl
    have B_1 := B.cells 1 _ rfl
    have B_f0 := B.free 0 (by simp)
    have B_f1 := B.free 1 (by simp)
    have B_t := B.there
    replace O0 := own_base O0 (base' := w.heap.size) hb2
    go_wp2_with fail
    refine (DSun4.vsuns_any A1 A0 k1 k0 N _ (Rd.of_own O1) (Rd.of_own O0) (by omega)).mono ?_
    rintro e v4 ⟨rfl, hd⟩
    have hd2 := hd.below v3.heap.size; clear hd
    clear B_0 B_1 B_f0 B_f1 B_t
    replace B := B.more hd2
    replace O := own_keep O hd2
    replace O1 := own_keep O1 hd2
    replace O0 := own_keep O0 hd2
    clear hd2
    have B_0 := B.cells 0 _ rfl
    have B_1 := B.cells 1 _ rfl
    have B_f0 := B.free 0 (by simp)
    have B_f1 := B.free 1 (by simp)
    have B_t := B.there
    have hcp1 := own_cap O1
    go_upto_if 141 with fail
    go_cut [] from 3 (fun wc => Below w.heap.size w wc)
    case first => as_aux_lemma =>
      cases q
      · go_wp2
        go_meet
        case rel => exact B.below
      · have HON := Lib.hid (HT.out rfl)
        go_wp2_with fail
        refine (SunL.son_impl A1 k1 N x _ (Rd.of_own O1) hcp1 (by omega)).mono ?_
        rintro e v5 ⟨rfl, hv5⟩
        clear B_0 B_1 B_f0 B_f1 B_t
        replace B := B.more hv5
        replace O := own_keep O hv5
        replace O1 := own_keep O1 hv5
        replace O0 := own_keep O0 hv5
        have zhv5 := hv5.size
        clear hv5
        have B_0 := B.cells 0 _ rfl
        have B_1 := B.cells 1 _ rfl
        have B_f0 := B.free 0 (by simp)
        have B_f1 := B.free 1 (by simp)
        have B_t := B.there
        rw [HON.out]
        go_wp2
        go_meet
        case rel => exact B.below
    case rest => as_aux_lemma =>
      go_wp2_with fail
      refine (DSun4.drawSum A cap zs wc (HC.out.below hcut)).mono ?_
      rintro e w2 ⟨M, g, c, x, y, hl, rfl, O, hB⟩
      have HB := be hcut hB
      replace O := own_base O (base' := w.heap.size) hcut.size
      clear hB hcut
      obtain ⟨n, q, hv⟩ := sum_form M x y
      have HV := Lib.hid hv; clear hv
      go_wp2_with fail
      refine (SunL.ssum_impl _ c M x y _ (Rd.of_own O) (own_cap O) (by omega)).mono ?_
      rintro e v1 ⟨rfl, hv1⟩
      replace O := own_keep O hv1
      replace HB := be HB hv1
      have zhv1 := hv1.size
      rw [HV.out]
      go_wp2_with fail
      refine (SunL.ssum_spec _ c M x y _ (Rd.of_own O) (by omega)).mono ?_
      rintro e v2 ⟨rfl, hv2⟩
      replace O := own_keep O hv2
      replace HB := be HB hv2
      have zhv2 := hv2.size
      rw [HV.out]
      go_wp2_with fail
      refine (DSun5.drawOn A cap zs _ (HC.out.below HB)).mono ?_
      rintro e v3 ⟨M2, g2, c2, d, hl2, rfl, O2, hv3⟩
      replace O := own_keep O hv3
      replace HB := be HB hv3
      have zhv3 := hv3.size
      clear O
      obtain ⟨n2, q2, hv⟩ := on_form M2 d
      have HV2 := Lib.hid hv; clear hv
      go_wp2_with fail
      refine (SunL.son_impl _ c2 M2 d _ (Rd.of_own O2) (own_cap O2) (by omega)).mono ?_
      rintro e v4 ⟨rfl, hv4⟩
      replace HB := be HB hv4
      replace O2 := own_keep O2 hv4
      have zhv4 := hv4.size
      rw [HV2.out]
      go_wp2_with fail
      refine (SunL.son_spec _ c2 M2 d _ (Rd.of_own O2) (by omega)).mono ?_
      rintro e v5 ⟨rfl, hv5⟩
      replace HB := be HB hv5
      replace O2 := own_keep O2 hv5
      have zhv5 := hv5.size
      rw [HV2.out]
      go_wp2
      go_ret
      exact ⟨rfl, HB⟩
end Go.Proofs.Ytcmomccdnkligaa.SumLaw
