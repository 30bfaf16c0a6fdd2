/- FnDrySpans, walked. -/
import Derived.Deep.Cut
import Derived.Deep.CutBlock
import Derived.Deep.DeepCutAuto
import Derived.Test.YtpbmncecejchjaaDryFacts
import Derived.Test.YtpbmncecejchjaaDryEq
import Derived.Test.YtpbmncecejchjaaLaws9d
import Derived.Test.YtpbmncecejchjaaDShw2
namespace Go.Proofs.Ytpbmncecejchjaa.DryLaw
open Go.RowKit Go.Proofs.Ytpbmncecejchjaa.Mem Go.Proofs.Ytpbmncecejchjaa.Base Go.Proofs.Ytpbmncecejchjaa.SShower Go.Proofs.Ytpbmncecejchjaa.Regn Go.Proofs.Ytpbmncecejchjaa.Boxes Go.Proofs.Ytpbmncecejchjaa.Keep Go.Proofs.Ytpbmncecejchjaa.Shw Go.Proofs.Ytpbmncecejchjaa.Dry Go.Proofs.Ytpbmncecejchjaa.DryFacts
set_option linter.unusedVariables false
set_option linter.unusedSimpArgs false
set_option maxRecDepth 100000
abbrev Yes := Laws9a.Yes
set_option maxHeartbeats 800000 in
theorem vpairs_any (A A' : Option Addr) (c c' : Nat) (l : List Q) (w : World) (hr : Rd w w.heap.size A (SPair.flat l)) (hr' : Rd w w.heap.size A' (SPair.flat l)) (hn : l.length ≤ 1048576) :
    Calls Try.prog 33 #[.slice A l.length c, .slice A' l.length c'] w fun e w' => e = .returned (.bool true) ∧ Drawn w w' := by
  have HR := Lib.hid hr; clear hr
  have HR' := Lib.hid hr'; clear hr'
  go_enter Try.func33, Try.ntmps33
  go_wp2
  go_loopw [5] (fun i wr => ∃ k : Nat, k ≤ l.length ∧ i = .int .i64 k ∧ Drawn w wr) (fun i _ => l.length - (intOf i).toNat)
  case atStart => exact ⟨0, Nat.zero_le _, rfl, Drawn.refl _⟩
  case round =>
    obtain ⟨k, hk, rfl, hw⟩ := hrel
    have HW := Lib.hid hw; clear hw
    by_cases hlt : k < l.length
    · obtain ⟨b, o, rfl, hb, hc⟩ := HR.out.at (k := k * 2) (by rw [SPair.flat_n]; omega)
      obtain ⟨b', o', rfl, hb', hc'⟩ := HR'.out.at (k := k * 2) (by rw [SPair.flat_n]; omega)
      have h0 : wr.cell? ⟨b, o + k * 2, none⟩ = some (.int .i64 l[k].f0) := (HW.out.cell _ _).trans (hc _ _ (SPair.flat_0 l k hlt))
      have h1 : wr.cell? ⟨b, o + k * 2 + 1, none⟩ = some (.int .i64 l[k].f1) := by rw [Nat.add_assoc]; exact (HW.out.cell _ _).trans (hc _ _ (SPair.flat_1 l k hlt))
      have h2 : wr.cell? ⟨b', o' + k * 2, none⟩ = some (.int .i64 l[k].f0) := (HW.out.cell _ _).trans (hc' _ _ (SPair.flat_0 l k hlt))
      have h3 : wr.cell? ⟨b', o' + k * 2 + 1, none⟩ = some (.int .i64 l[k].f1) := by rw [Nat.add_assoc]; exact (HW.out.cell _ _).trans (hc' _ _ (SPair.flat_1 l k hlt))
      have e3 : IntKind.i64.wrap ((k : Int) + 1) = k + 1 := IntWalk.i64_in _ (by omega)
      clear hc hc'
      generalize l[k].f0 = p0 at h0 h2
      generalize l[k].f1 = p1 at h1 h3
      have hq1 := DryEq.eq_pair p0 p1
      have hq2 : Try.prog.eqGuardType Try.prog.depth 48 = false := by kernel_rfl
      go_wp2_with fail
      go_quiet (fail)
      generalize nq = q1
      go_wp2
      exact ⟨⟨k + 1, hlt, by go_num, HW.out.more _⟩, by simp [intOf]; omega⟩
    · go_wp2
      go_ret
      exact ⟨rfl, HW.out⟩
set_option maxHeartbeats 8000000 in
theorem law (A : Option Addr) (cap : Nat) (zs : List Int) (w : World) (hr : Rd w w.heap.size A (zs.map (Value.int .u8))) (hn : zs.length ≤ maxLen) (hb : ∀ z ∈ zs, 0 ≤ z ∧ z ≤ 255) :
    Calls Try.prog 4 #[.slice A zs.length cap] w (Yes w) := by
  by_cases hbig : 65536 < zs.length
  · have HG := Lib.hid (show Draw.bigB zs.length = true from decide_eq_true hbig)
    clear hr hb
    go_enter Try.func4, Try.ntmps4
    go_wp2_with fail
    refine (Draw.big_any A cap zs.length w hn).mono ?_
    rintro e w' ⟨rfl, rfl⟩
    rw [HG.out]
    go_wp2
    go_ret
    exact ⟨rfl, Below.refl _ _⟩
  have HG := Lib.hid (show Draw.bigB zs.length = false from decide_eq_false hbig)
  have HN := Lib.hid hn; clear hn
  have HC := Lib.hid (show Draw.Src w A zs from ⟨hr, by omega, hb⟩); clear hr hb
  go_enter Try.func4, Try.ntmps4
  go_wp2_with fail
  refine (Draw.big_any A cap zs.length w HN.out).mono ?_
  rintro e w' ⟨rfl, rfl⟩
  rw [HG.out]
  clear HG hbig HN
  go_wp2_with fail
  refine (DShw2.drawDry A cap zs w HC.out).mono ?_
  rintro e w1 ⟨N, g, c, p, t, hl, rfl, O, HB⟩
  have hs := fun P cap w hr => DryS.dry_spec P cap N p t w hr (by omega)
  have hi := fun P cap w hr hc => DryJ.dry_impl P cap N p t w hr hc (by omega)
  have hs2 := fun P cap w hr => DryS.lon_spec P cap N p t w hr (by omega)
  have hi2 := fun P cap w hr hc => DryK.lon_impl P cap N p t w hr hc (by omega)
  have hm : (dryL N p t).length ≤ 100 := Dry.dry_len N p t
  have he := fun (h : dryOk N p t = true) k (hk : k < (dryL N p t).length) => each h hk rfl
  have ht := fun (h : dryOk N p t = true) => top_bd h
  have hno := fun (h : dryOk N p t = false) => dryL_no h
  unfold DryS.DPost at hs hi
  generalize dryL N p t = M at hs hi hs2 hi2 hm he ht hno
  generalize dryOk N p t = q at hs hi he ht hno
  obtain ⟨x, hx⟩ : ∃ x, (top M).f0 = x := ⟨_, rfl⟩
  obtain ⟨y, hy⟩ : ∃ y, (top M).f1 = y := ⟨_, rfl⟩
  obtain ⟨td, htd⟩ : ∃ td, decide (0 < M.length) = td := ⟨_, rfl⟩
  have HV := Lib.hid (show lonV M = .tuple #[.int .i64 x, .int .i64 y, .bool td] by unfold lonV; rw [hx, hy, htd])
  have HTD := Lib.hid htd; clear htd
  rw [hx, hy] at he ht
  have HSP := Lib.hid hs; clear hs
  have HIM := Lib.hid hi; clear hi
  have HSP2 := Lib.hid hs2; clear hs2
  have HIM2 := Lib.hid hi2; clear hi2
  have HE := Lib.hid he; clear he
  have HT := Lib.hid ht; clear ht
  have HNO := Lib.hid hno; clear hno hx hy
  have hcp := own_cap O
  have hb1 := HB.size
  go_wp2_with fail
  refine (HIM.out _ _ _ (Rd.of_own O) hcp).mono ?_
  rintro e v1 ⟨A1, k1, rfl, O1, hv1⟩
  replace O := own_keep O hv1
  replace HB := be HB hv1
  have zhv1 := hv1.size
  replace O1 := own_base O1 (base' := w.heap.size) hb1
  have hb2 := HB.size
  go_wp2_with fail
  refine (HSP.out _ _ _ (Rd.of_own O)).mono ?_
  rintro e v2 ⟨A0, k0, rfl, O0, hv2⟩
  replace O := own_keep O hv2
  replace HB := be HB hv2
  replace O1 := own_keep O1 hv2
  have zhv2 := hv2.size
  replace O0 := own_base O0 (base' := w.heap.size) hb2
  go_wp2_with fail
  refine (vpairs_any A1 A0 k1 k0 M _ (Rd.of_own O1) (Rd.of_own O0) (by omega)).mono ?_
  rintro e v3 ⟨rfl, hd⟩
  have hd2 := hd.below v2.heap.size; clear hd
  replace O := own_keep O hd2
  replace HB := be HB hd2
  replace O1 := own_keep O1 hd2
  replace O0 := own_keep O0 hd2
  go_wp2_with fail
  refine (HIM2.out _ _ _ (Rd.of_own O) hcp).mono ?_
  rintro e v4 ⟨rfl, hv4⟩
  replace O := own_keep O hv4
  replace HB := be HB hv4
  replace O1 := own_keep O1 hv4
  replace O0 := own_keep O0 hv4
  have zhv4 := hv4.size
  rw [HV.out]
  go_wp2_with fail
  refine (HSP2.out _ _ _ (Rd.of_own O)).mono ?_
  rintro e v5 ⟨rfl, hv5⟩
  replace O := own_keep O hv5
  replace HB := be HB hv5
  replace O1 := own_keep O1 hv5
  replace O0 := own_keep O0 hv5
  have zhv5 := hv5.size
  rw [HV.out]
  go_upto_region 10 with fail
  go_cut [106] from 84 (fun cnd wc => cnd = .bool false ∧ v5 = wc)
  case first => as_aux_lemma =>
    cases q
    · have hM := HNO.out rfl
      subst hM
      have htd := HTD.out
      have htd2 : td = false := by rw [← htd]; rfl
      subst htd2
      clear htd
      go_wp2
      go_meet
      exact ⟨rfl, rfl⟩
    · cases td
      · have hd2 : decide ((0 : Int) < M.length) = false := decide_eq_false (by have := of_decide_eq_false HTD.out; omega)
        go_wp2
        go_meet
        exact ⟨by rw [HTD.out] <;> rfl, rfl⟩
      · have hd2 : decide ((0 : Int) < M.length) = true := decide_eq_true (by have := of_decide_eq_true HTD.out; omega)
        go_wp2
        go_meet
        exact ⟨by rw [HTD.out] <;> rfl, rfl⟩
  case rest => as_aux_lemma =>
    obtain ⟨hz0, rfl⟩ := hcut
    subst hz0
    go_upto_block 0 with fail
    go_cut [] from 3 (fun wc => Below w.heap.size w wc)
    case first => as_aux_lemma =>
      cases q
      · have hM := HNO.out rfl
        subst hM
        go_wp2_with fail
        go_loopw [16] (fun i wr => i = .int .i64 0 ∧ Below w.heap.size w wr) (fun i _ => 0)
        case atStart => exact ⟨rfl, HB⟩
        case round =>
          obtain ⟨rfl, HB⟩ := hrel
          go_wp2_with fail
          go_meet
          case rel => exact HB
      · obtain ⟨t0, t1, t2, t3⟩ := HT.out rfl
        have HEE := Lib.hid (HE.out rfl)
        have p3 : IntKind.i64.wrap (y - x) = y - x := IntWalk.i64_in _ (by omega)
        have HP3 := Lib.hid p3
        clear HSP HIM HSP2 HIM2 HE HT HNO O0 HV
        by_cases hm0 : M.length = 0
        · have hd1 : ∀ k : Nat, decide ((k : Int) < M.length) = false := fun k => decide_eq_false (by omega)
          have hM : M = [] := List.eq_nil_of_length_eq_zero hm0
          subst hM
          go_wp2_with fail
          go_loopw [16] (fun i wr => i = .int .i64 0 ∧ Below w.heap.size w wr) (fun i _ => 0)
          case atStart => exact ⟨rfl, HB⟩
          case round =>
            obtain ⟨rfl, HB⟩ := hrel
            go_wp2_with fail
            go_meet
            case rel => exact HB
        obtain ⟨g1, c1, hA⟩ := own_some O1 (by omega)
        obtain ⟨rfl, rfl⟩ := hA
        clear hm0
        go_wp2_with fail
        go_loopw [16] (fun i wr => ∃ k : Nat, k ≤ M.length ∧ i = .int .i64 k ∧ wr.ownsRow w.heap.size 54 2 (.slice (some ⟨g, 0, none⟩) N.length c) N.length (flat N) ∧ wr.ownsRow w.heap.size 48 2 (.slice (some ⟨g1, 0, none⟩) M.length k1) M.length (SPair.flat M) ∧ Below w.heap.size w wr) (fun i _ => M.length - (intOf i).toNat)
        case atStart => exact ⟨0, Nat.zero_le _, rfl, O, O1, HB⟩
        case round =>
          clear O O1 HB
          obtain ⟨k, hk, rfl, O, O1, HB⟩ := hrel
          by_cases hlt : k < M.length
          · obtain ⟨e1, e2, e3, e4, e5, e6, e7⟩ := HEE.out k hlt
            obtain ⟨a, ha⟩ : ∃ a, M[k].f0 = a := ⟨_, rfl⟩
            obtain ⟨b, hb⟩ : ∃ b, M[k].f1 = b := ⟨_, rfl⟩
            have HA := Lib.hid (show (SPair.flat M)[k * 2]? = some (.int .i64 a) by rw [← ha]; exact SPair.flat_0 M k hlt)
            have HA1 := Lib.hid (show (SPair.flat M)[k * 2 + 1]? = some (.int .i64 b) by rw [← hb]; exact SPair.flat_1 M k hlt)
            rw [ha, hb] at e1 e2
            rw [ha] at e3 e4
            rw [hb] at e4 e5
            have HSN := Lib.hid e1
            have q1 : IntKind.i64.wrap (b - a) = b - a := IntWalk.i64_in _ (by omega)
            have q2 : decide (y - x < b - a) = false := decide_eq_false (by omega)
            have q3 : decide (a < p) = false := decide_eq_false (by omega)
            have q4 : decide (t < b) = false := decide_eq_false (by omega)
            have q5 : decide ((k : Int) < M.length) = true := decide_eq_true (by omega)
            have HL := Lib.hid hlt
            clear e1 e2 e3 e4 e5 e6 e7 ha hb
            go_wp2_with fail
            refine wp_region_rel [114, 115, 116, 117, 118, 119, 120, 121, 122, 123, 124, 125, 113, 126, 127, 17, 18] (fun L f w' => (w'.ownsRow w.heap.size 54 2 (.slice (some ⟨g, 0, none⟩) N.length c) N.length (SShower.flat N)) ∧ (w'.ownsRow w.heap.size 48 2 (.slice (some ⟨g1, 0, none⟩) M.length k1) M.length (SPair.flat M)) ∧ (Below w.heap.size w w') ∧ (L 0 → f 114 = .slice (some ⟨g, 0, none⟩) N.length c) ∧ (L 1 → f 115 = .slice (some ⟨g1, 0, none⟩) M.length k1) ∧ (L 2 → f 116 = .int .i64 k) ∧ (L 3 → f 117 = .pointer (some ⟨g1, k * 2, none⟩)) ∧ (L 4 → f 118 = .pointer (some ⟨g1, k * 2, none⟩)) ∧ (L 5 → f 119 = .int .i64 a) ∧ (L 6 → f 120 = .slice (some ⟨g1, 0, none⟩) M.length k1) ∧ (L 7 → f 121 = .int .i64 k) ∧ (L 8 → f 122 = .pointer (some ⟨g1, k * 2, none⟩)) ∧ (L 9 → f 123 = .pointer (some ⟨g1, k * 2 + 1, none⟩)) ∧ (L 10 → f 124 = .int .i64 b) ∧ (L 11 → f 125 = .tuple #[.int .i64 0, .bool true]) ∧ (L 12 → f 113 = .tuple #[.int .i64 0, .bool true]) ∧ (L 13 → f 126 = .int .i64 0) ∧ (L 14 → f 127 = .bool true) ∧ (L 15 → f 17 = .int .i64 0) ∧ (L 16 → f 18 = .bool true)) (by kernel_rfl) (by kernel_rfl) (by kernel_rfl) (fun f => ⟨own_keep O (Below.refl _ _).drew, own_keep O1 (Below.refl _ _).drew, HB.trans ((Below.refl _ _).drew.mono HB.size), fun h => h.elim, fun h => h.elim, fun h => h.elim, fun h => h.elim, fun h => h.elim, fun h => h.elim, fun h => h.elim, fun h => h.elim, fun h => h.elim, fun h => h.elim, fun h => h.elim, fun h => h.elim, fun h => h.elim, fun h => h.elim, fun h => h.elim, fun h => h.elim, fun h => h.elim⟩) ?_ ?_
            · apply RelH.op2
              · intro L f u K hN hS hK
                simp only [puts, Act.put, List.setIfInBounds_toArray, List.set_cons_zero, List.set_cons_succ, upd, Nat.reduceEqDiff, ↓reduceIte, if_true, if_false] at hK ⊢
                have HS9 := Lib.hid hS
                obtain ⟨qO, qO1, qH, c0, c1, c2, c3, c4, c5, c6, c7, c8, c9, c10, c11, c12, c13, c14, c15, c16⟩ := hS
                clear c0 c1 c2 c3 c4 c5 c6 c7 c8 c9 c10 c11 c12 c13 c14 c15 c16
                go_simp
                obtain ⟨qO, qO1, qH, c0, c1, c2, c3, c4, c5, c6, c7, c8, c9, c10, c11, c12, c13, c14, c15, c16⟩ := HS9.out
                exact hK.out _ _ ⟨qO, qO1, qH, fun _ => rfl, fun h => c1 (h.resolve_right (by decide)), fun h => c2 (h.resolve_right (by decide)), fun h => c3 (h.resolve_right (by decide)), fun h => c4 (h.resolve_right (by decide)), fun h => c5 (h.resolve_right (by decide)), fun h => c6 (h.resolve_right (by decide)), fun h => c7 (h.resolve_right (by decide)), fun h => c8 (h.resolve_right (by decide)), fun h => c9 (h.resolve_right (by decide)), fun h => c10 (h.resolve_right (by decide)), fun h => c11 (h.resolve_right (by decide)), fun h => c12 (h.resolve_right (by decide)), fun h => c13 (h.resolve_right (by decide)), fun h => c14 (h.resolve_right (by decide)), fun h => c15 (h.resolve_right (by decide)), fun h => c16 (h.resolve_right (by decide))⟩ _ rfl
              apply RelH.op2
              · intro L f u K hN hS hK
                simp only [puts, Act.put, List.setIfInBounds_toArray, List.set_cons_zero, List.set_cons_succ, upd, Nat.reduceEqDiff, ↓reduceIte, if_true, if_false] at hK ⊢
                have HS9 := Lib.hid hS
                obtain ⟨qO, qO1, qH, c0, c1, c2, c3, c4, c5, c6, c7, c8, c9, c10, c11, c12, c13, c14, c15, c16⟩ := hS
                clear c0 c1 c2 c3 c4 c5 c6 c7 c8 c9 c10 c11 c12 c13 c14 c15 c16
                go_simp
                obtain ⟨qO, qO1, qH, c0, c1, c2, c3, c4, c5, c6, c7, c8, c9, c10, c11, c12, c13, c14, c15, c16⟩ := HS9.out
                exact hK.out _ _ ⟨qO, qO1, qH, fun h => c0 (h.resolve_right (by decide)), fun _ => rfl, fun h => c2 (h.resolve_right (by decide)), fun h => c3 (h.resolve_right (by decide)), fun h => c4 (h.resolve_right (by decide)), fun h => c5 (h.resolve_right (by decide)), fun h => c6 (h.resolve_right (by decide)), fun h => c7 (h.resolve_right (by decide)), fun h => c8 (h.resolve_right (by decide)), fun h => c9 (h.resolve_right (by decide)), fun h => c10 (h.resolve_right (by decide)), fun h => c11 (h.resolve_right (by decide)), fun h => c12 (h.resolve_right (by decide)), fun h => c13 (h.resolve_right (by decide)), fun h => c14 (h.resolve_right (by decide)), fun h => c15 (h.resolve_right (by decide)), fun h => c16 (h.resolve_right (by decide))⟩ _ rfl
              apply RelH.op2
              · intro L f u K hN hS hK
                simp only [puts, Act.put, List.setIfInBounds_toArray, List.set_cons_zero, List.set_cons_succ, upd, Nat.reduceEqDiff, ↓reduceIte, if_true, if_false] at hK ⊢
                have HS9 := Lib.hid hS
                obtain ⟨qO, qO1, qH, c0, c1, c2, c3, c4, c5, c6, c7, c8, c9, c10, c11, c12, c13, c14, c15, c16⟩ := hS
                clear c0 c1 c2 c3 c4 c5 c6 c7 c8 c9 c10 c11 c12 c13 c14 c15 c16
                go_simp
                obtain ⟨qO, qO1, qH, c0, c1, c2, c3, c4, c5, c6, c7, c8, c9, c10, c11, c12, c13, c14, c15, c16⟩ := HS9.out
                exact hK.out _ _ ⟨qO, qO1, qH, fun h => c0 (h.resolve_right (by decide)), fun h => c1 (h.resolve_right (by decide)), fun _ => rfl, fun h => c3 (h.resolve_right (by decide)), fun h => c4 (h.resolve_right (by decide)), fun h => c5 (h.resolve_right (by decide)), fun h => c6 (h.resolve_right (by decide)), fun h => c7 (h.resolve_right (by decide)), fun h => c8 (h.resolve_right (by decide)), fun h => c9 (h.resolve_right (by decide)), fun h => c10 (h.resolve_right (by decide)), fun h => c11 (h.resolve_right (by decide)), fun h => c12 (h.resolve_right (by decide)), fun h => c13 (h.resolve_right (by decide)), fun h => c14 (h.resolve_right (by decide)), fun h => c15 (h.resolve_right (by decide)), fun h => c16 (h.resolve_right (by decide))⟩ _ rfl
              apply RelH.op2
              · intro L f u K hN hS hK
                simp only [puts, Act.put, List.setIfInBounds_toArray, List.set_cons_zero, List.set_cons_succ, upd, Nat.reduceEqDiff, ↓reduceIte, if_true, if_false] at hK ⊢
                have HS9 := Lib.hid hS
                obtain ⟨qO, qO1, qH, c0, c1, c2, c3, c4, c5, c6, c7, c8, c9, c10, c11, c12, c13, c14, c15, c16⟩ := hS
                have e1 := c1 (hN.out.2 1 (by decide +kernel))
                have e2 := c2 (hN.out.2 2 (by decide +kernel))
                clear c0 c1 c2 c3 c4 c5 c6 c7 c8 c9 c10 c11 c12 c13 c14 c15 c16
                go_simp
                obtain ⟨qO, qO1, qH, c0, c1, c2, c3, c4, c5, c6, c7, c8, c9, c10, c11, c12, c13, c14, c15, c16⟩ := HS9.out
                exact hK.out _ _ ⟨qO, qO1, qH, fun h => c0 (h.resolve_right (by decide)), fun h => c1 (h.resolve_right (by decide)), fun h => c2 (h.resolve_right (by decide)), fun _ => rfl, fun h => c4 (h.resolve_right (by decide)), fun h => c5 (h.resolve_right (by decide)), fun h => c6 (h.resolve_right (by decide)), fun h => c7 (h.resolve_right (by decide)), fun h => c8 (h.resolve_right (by decide)), fun h => c9 (h.resolve_right (by decide)), fun h => c10 (h.resolve_right (by decide)), fun h => c11 (h.resolve_right (by decide)), fun h => c12 (h.resolve_right (by decide)), fun h => c13 (h.resolve_right (by decide)), fun h => c14 (h.resolve_right (by decide)), fun h => c15 (h.resolve_right (by decide)), fun h => c16 (h.resolve_right (by decide))⟩ _ (by simp only [e1, e2])
              apply RelH.op2
              · intro L f u K hN hS hK
                simp only [puts, Act.put, List.setIfInBounds_toArray, List.set_cons_zero, List.set_cons_succ, upd, Nat.reduceEqDiff, ↓reduceIte, if_true, if_false] at hK ⊢
                have HS9 := Lib.hid hS
                obtain ⟨qO, qO1, qH, c0, c1, c2, c3, c4, c5, c6, c7, c8, c9, c10, c11, c12, c13, c14, c15, c16⟩ := hS
                have e3 := c3 (hN.out.2 3 (by decide +kernel))
                clear c0 c1 c2 c3 c4 c5 c6 c7 c8 c9 c10 c11 c12 c13 c14 c15 c16
                go_simp
                obtain ⟨qO, qO1, qH, c0, c1, c2, c3, c4, c5, c6, c7, c8, c9, c10, c11, c12, c13, c14, c15, c16⟩ := HS9.out
                exact hK.out _ _ ⟨qO, qO1, qH, fun h => c0 (h.resolve_right (by decide)), fun h => c1 (h.resolve_right (by decide)), fun h => c2 (h.resolve_right (by decide)), fun h => c3 (h.resolve_right (by decide)), fun _ => rfl, fun h => c5 (h.resolve_right (by decide)), fun h => c6 (h.resolve_right (by decide)), fun h => c7 (h.resolve_right (by decide)), fun h => c8 (h.resolve_right (by decide)), fun h => c9 (h.resolve_right (by decide)), fun h => c10 (h.resolve_right (by decide)), fun h => c11 (h.resolve_right (by decide)), fun h => c12 (h.resolve_right (by decide)), fun h => c13 (h.resolve_right (by decide)), fun h => c14 (h.resolve_right (by decide)), fun h => c15 (h.resolve_right (by decide)), fun h => c16 (h.resolve_right (by decide))⟩ _ (by simp only [e3])
              apply RelH.op2
              · intro L f u K hN hS hK
                simp only [puts, Act.put, List.setIfInBounds_toArray, List.set_cons_zero, List.set_cons_succ, upd, Nat.reduceEqDiff, ↓reduceIte, if_true, if_false] at hK ⊢
                have HS9 := Lib.hid hS
                obtain ⟨qO, qO1, qH, c0, c1, c2, c3, c4, c5, c6, c7, c8, c9, c10, c11, c12, c13, c14, c15, c16⟩ := hS
                have e4 := c4 (hN.out.2 4 (by decide +kernel))
                have h0 : u.cell? ⟨g1, k * 2, none⟩ = some (.int .i64 a) := by rw [qO1.cellAt _ (by omega)]; exact HA.out
                clear c0 c1 c2 c3 c4 c5 c6 c7 c8 c9 c10 c11 c12 c13 c14 c15 c16
                go_simp
                obtain ⟨qO, qO1, qH, c0, c1, c2, c3, c4, c5, c6, c7, c8, c9, c10, c11, c12, c13, c14, c15, c16⟩ := HS9.out
                exact hK.out _ _ ⟨qO, qO1, qH, fun h => c0 (h.resolve_right (by decide)), fun h => c1 (h.resolve_right (by decide)), fun h => c2 (h.resolve_right (by decide)), fun h => c3 (h.resolve_right (by decide)), fun h => c4 (h.resolve_right (by decide)), fun _ => rfl, fun h => c6 (h.resolve_right (by decide)), fun h => c7 (h.resolve_right (by decide)), fun h => c8 (h.resolve_right (by decide)), fun h => c9 (h.resolve_right (by decide)), fun h => c10 (h.resolve_right (by decide)), fun h => c11 (h.resolve_right (by decide)), fun h => c12 (h.resolve_right (by decide)), fun h => c13 (h.resolve_right (by decide)), fun h => c14 (h.resolve_right (by decide)), fun h => c15 (h.resolve_right (by decide)), fun h => c16 (h.resolve_right (by decide))⟩ _ (by simp only [e4])
              apply RelH.op2
              · intro L f u K hN hS hK
                simp only [puts, Act.put, List.setIfInBounds_toArray, List.set_cons_zero, List.set_cons_succ, upd, Nat.reduceEqDiff, ↓reduceIte, if_true, if_false] at hK ⊢
                have HS9 := Lib.hid hS
                obtain ⟨qO, qO1, qH, c0, c1, c2, c3, c4, c5, c6, c7, c8, c9, c10, c11, c12, c13, c14, c15, c16⟩ := hS
                clear c0 c1 c2 c3 c4 c5 c6 c7 c8 c9 c10 c11 c12 c13 c14 c15 c16
                go_simp
                obtain ⟨qO, qO1, qH, c0, c1, c2, c3, c4, c5, c6, c7, c8, c9, c10, c11, c12, c13, c14, c15, c16⟩ := HS9.out
                exact hK.out _ _ ⟨qO, qO1, qH, fun h => c0 (h.resolve_right (by decide)), fun h => c1 (h.resolve_right (by decide)), fun h => c2 (h.resolve_right (by decide)), fun h => c3 (h.resolve_right (by decide)), fun h => c4 (h.resolve_right (by decide)), fun h => c5 (h.resolve_right (by decide)), fun _ => rfl, fun h => c7 (h.resolve_right (by decide)), fun h => c8 (h.resolve_right (by decide)), fun h => c9 (h.resolve_right (by decide)), fun h => c10 (h.resolve_right (by decide)), fun h => c11 (h.resolve_right (by decide)), fun h => c12 (h.resolve_right (by decide)), fun h => c13 (h.resolve_right (by decide)), fun h => c14 (h.resolve_right (by decide)), fun h => c15 (h.resolve_right (by decide)), fun h => c16 (h.resolve_right (by decide))⟩ _ rfl
              apply RelH.op2
              · intro L f u K hN hS hK
                simp only [puts, Act.put, List.setIfInBounds_toArray, List.set_cons_zero, List.set_cons_succ, upd, Nat.reduceEqDiff, ↓reduceIte, if_true, if_false] at hK ⊢
                have HS9 := Lib.hid hS
                obtain ⟨qO, qO1, qH, c0, c1, c2, c3, c4, c5, c6, c7, c8, c9, c10, c11, c12, c13, c14, c15, c16⟩ := hS
                clear c0 c1 c2 c3 c4 c5 c6 c7 c8 c9 c10 c11 c12 c13 c14 c15 c16
                go_simp
                obtain ⟨qO, qO1, qH, c0, c1, c2, c3, c4, c5, c6, c7, c8, c9, c10, c11, c12, c13, c14, c15, c16⟩ := HS9.out
                exact hK.out _ _ ⟨qO, qO1, qH, fun h => c0 (h.resolve_right (by decide)), fun h => c1 (h.resolve_right (by decide)), fun h => c2 (h.resolve_right (by decide)), fun h => c3 (h.resolve_right (by decide)), fun h => c4 (h.resolve_right (by decide)), fun h => c5 (h.resolve_right (by decide)), fun h => c6 (h.resolve_right (by decide)), fun _ => rfl, fun h => c8 (h.resolve_right (by decide)), fun h => c9 (h.resolve_right (by decide)), fun h => c10 (h.resolve_right (by decide)), fun h => c11 (h.resolve_right (by decide)), fun h => c12 (h.resolve_right (by decide)), fun h => c13 (h.resolve_right (by decide)), fun h => c14 (h.resolve_right (by decide)), fun h => c15 (h.resolve_right (by decide)), fun h => c16 (h.resolve_right (by decide))⟩ _ rfl
              apply RelH.op2
              · intro L f u K hN hS hK
                simp only [puts, Act.put, List.setIfInBounds_toArray, List.set_cons_zero, List.set_cons_succ, upd, Nat.reduceEqDiff, ↓reduceIte, if_true, if_false] at hK ⊢
                have HS9 := Lib.hid hS
                obtain ⟨qO, qO1, qH, c0, c1, c2, c3, c4, c5, c6, c7, c8, c9, c10, c11, c12, c13, c14, c15, c16⟩ := hS
                have e6 := c6 (hN.out.2 6 (by decide +kernel))
                have e7 := c7 (hN.out.2 7 (by decide +kernel))
                clear c0 c1 c2 c3 c4 c5 c6 c7 c8 c9 c10 c11 c12 c13 c14 c15 c16
                go_simp
                obtain ⟨qO, qO1, qH, c0, c1, c2, c3, c4, c5, c6, c7, c8, c9, c10, c11, c12, c13, c14, c15, c16⟩ := HS9.out
                exact hK.out _ _ ⟨qO, qO1, qH, fun h => c0 (h.resolve_right (by decide)), fun h => c1 (h.resolve_right (by decide)), fun h => c2 (h.resolve_right (by decide)), fun h => c3 (h.resolve_right (by decide)), fun h => c4 (h.resolve_right (by decide)), fun h => c5 (h.resolve_right (by decide)), fun h => c6 (h.resolve_right (by decide)), fun h => c7 (h.resolve_right (by decide)), fun _ => rfl, fun h => c9 (h.resolve_right (by decide)), fun h => c10 (h.resolve_right (by decide)), fun h => c11 (h.resolve_right (by decide)), fun h => c12 (h.resolve_right (by decide)), fun h => c13 (h.resolve_right (by decide)), fun h => c14 (h.resolve_right (by decide)), fun h => c15 (h.resolve_right (by decide)), fun h => c16 (h.resolve_right (by decide))⟩ _ (by simp only [e6, e7])
              apply RelH.op2
              · intro L f u K hN hS hK
                simp only [puts, Act.put, List.setIfInBounds_toArray, List.set_cons_zero, List.set_cons_succ, upd, Nat.reduceEqDiff, ↓reduceIte, if_true, if_false] at hK ⊢
                have HS9 := Lib.hid hS
                obtain ⟨qO, qO1, qH, c0, c1, c2, c3, c4, c5, c6, c7, c8, c9, c10, c11, c12, c13, c14, c15, c16⟩ := hS
                have e8 := c8 (hN.out.2 8 (by decide +kernel))
                clear c0 c1 c2 c3 c4 c5 c6 c7 c8 c9 c10 c11 c12 c13 c14 c15 c16
                go_simp
                obtain ⟨qO, qO1, qH, c0, c1, c2, c3, c4, c5, c6, c7, c8, c9, c10, c11, c12, c13, c14, c15, c16⟩ := HS9.out
                exact hK.out _ _ ⟨qO, qO1, qH, fun h => c0 (h.resolve_right (by decide)), fun h => c1 (h.resolve_right (by decide)), fun h => c2 (h.resolve_right (by decide)), fun h => c3 (h.resolve_right (by decide)), fun h => c4 (h.resolve_right (by decide)), fun h => c5 (h.resolve_right (by decide)), fun h => c6 (h.resolve_right (by decide)), fun h => c7 (h.resolve_right (by decide)), fun h => c8 (h.resolve_right (by decide)), fun _ => rfl, fun h => c10 (h.resolve_right (by decide)), fun h => c11 (h.resolve_right (by decide)), fun h => c12 (h.resolve_right (by decide)), fun h => c13 (h.resolve_right (by decide)), fun h => c14 (h.resolve_right (by decide)), fun h => c15 (h.resolve_right (by decide)), fun h => c16 (h.resolve_right (by decide))⟩ _ (by simp only [e8])
              apply RelH.op2
              · intro L f u K hN hS hK
                simp only [puts, Act.put, List.setIfInBounds_toArray, List.set_cons_zero, List.set_cons_succ, upd, Nat.reduceEqDiff, ↓reduceIte, if_true, if_false] at hK ⊢
                have HS9 := Lib.hid hS
                obtain ⟨qO, qO1, qH, c0, c1, c2, c3, c4, c5, c6, c7, c8, c9, c10, c11, c12, c13, c14, c15, c16⟩ := hS
                have e9 := c9 (hN.out.2 9 (by decide +kernel))
                have h0 : u.cell? ⟨g1, k * 2 + 1, none⟩ = some (.int .i64 b) := by rw [qO1.cellAt _ (by omega)]; exact HA1.out
                clear c0 c1 c2 c3 c4 c5 c6 c7 c8 c9 c10 c11 c12 c13 c14 c15 c16
                go_simp
                obtain ⟨qO, qO1, qH, c0, c1, c2, c3, c4, c5, c6, c7, c8, c9, c10, c11, c12, c13, c14, c15, c16⟩ := HS9.out
                exact hK.out _ _ ⟨qO, qO1, qH, fun h => c0 (h.resolve_right (by decide)), fun h => c1 (h.resolve_right (by decide)), fun h => c2 (h.resolve_right (by decide)), fun h => c3 (h.resolve_right (by decide)), fun h => c4 (h.resolve_right (by decide)), fun h => c5 (h.resolve_right (by decide)), fun h => c6 (h.resolve_right (by decide)), fun h => c7 (h.resolve_right (by decide)), fun h => c8 (h.resolve_right (by decide)), fun h => c9 (h.resolve_right (by decide)), fun _ => rfl, fun h => c11 (h.resolve_right (by decide)), fun h => c12 (h.resolve_right (by decide)), fun h => c13 (h.resolve_right (by decide)), fun h => c14 (h.resolve_right (by decide)), fun h => c15 (h.resolve_right (by decide)), fun h => c16 (h.resolve_right (by decide))⟩ _ (by simp only [e9])
              apply RelH.op2
              · intro L f u K hN hS hK
                simp only [puts, Act.put, List.setIfInBounds_toArray, List.set_cons_zero, List.set_cons_succ, upd, Nat.reduceEqDiff, ↓reduceIte, if_true, if_false] at hK ⊢
                have HS9 := Lib.hid hS
                obtain ⟨qO, qO1, qH, c0, c1, c2, c3, c4, c5, c6, c7, c8, c9, c10, c11, c12, c13, c14, c15, c16⟩ := hS
                have e0 := c0 (hN.out.2 0 (by decide +kernel))
                have e5 := c5 (hN.out.2 5 (by decide +kernel))
                have e10 := c10 (hN.out.2 10 (by decide +kernel))
                have HCON := Lib.hid (ShwL.btw_impl (some ⟨g, 0, none⟩) c N 1000 a b u (Rd.of_own qO) (own_cap qO) (by omega))
                clear c0 c1 c2 c3 c4 c5 c6 c7 c8 c9 c10 c11 c12 c13 c14 c15 c16
                go_simp
                go_at_call 36
                (with_reducible refine HCON.out.mono ?_)
                rintro e uw1 ⟨rfl, hv⟩
                rw [HSN.out]
                go_wp2_with fail
                obtain ⟨qO, qO1, qH, c0, c1, c2, c3, c4, c5, c6, c7, c8, c9, c10, c11, c12, c13, c14, c15, c16⟩ := HS9.out
                exact hK.out _ _ ⟨own_keep qO hv, own_keep qO1 hv, be qH hv, fun h => c0 (h.resolve_right (by decide)), fun h => c1 (h.resolve_right (by decide)), fun h => c2 (h.resolve_right (by decide)), fun h => c3 (h.resolve_right (by decide)), fun h => c4 (h.resolve_right (by decide)), fun h => c5 (h.resolve_right (by decide)), fun h => c6 (h.resolve_right (by decide)), fun h => c7 (h.resolve_right (by decide)), fun h => c8 (h.resolve_right (by decide)), fun h => c9 (h.resolve_right (by decide)), fun h => c10 (h.resolve_right (by decide)), fun _ => rfl, fun h => c12 (h.resolve_right (by decide)), fun h => c13 (h.resolve_right (by decide)), fun h => c14 (h.resolve_right (by decide)), fun h => c15 (h.resolve_right (by decide)), fun h => c16 (h.resolve_right (by decide))⟩ _ (by simp only [e0, e5, e10])
              apply RelH.op2
              · intro L f u K hN hS hK
                simp only [puts, Act.put, List.setIfInBounds_toArray, List.set_cons_zero, List.set_cons_succ, upd, Nat.reduceEqDiff, ↓reduceIte, if_true, if_false] at hK ⊢
                have HS9 := Lib.hid hS
                obtain ⟨qO, qO1, qH, c0, c1, c2, c3, c4, c5, c6, c7, c8, c9, c10, c11, c12, c13, c14, c15, c16⟩ := hS
                have e11 := c11 (hN.out.2 11 (by decide +kernel))
                clear c0 c1 c2 c3 c4 c5 c6 c7 c8 c9 c10 c11 c12 c13 c14 c15 c16
                go_simp
                obtain ⟨qO, qO1, qH, c0, c1, c2, c3, c4, c5, c6, c7, c8, c9, c10, c11, c12, c13, c14, c15, c16⟩ := HS9.out
                exact hK.out _ _ ⟨qO, qO1, qH, fun h => c0 (h.resolve_right (by decide)), fun h => c1 (h.resolve_right (by decide)), fun h => c2 (h.resolve_right (by decide)), fun h => c3 (h.resolve_right (by decide)), fun h => c4 (h.resolve_right (by decide)), fun h => c5 (h.resolve_right (by decide)), fun h => c6 (h.resolve_right (by decide)), fun h => c7 (h.resolve_right (by decide)), fun h => c8 (h.resolve_right (by decide)), fun h => c9 (h.resolve_right (by decide)), fun h => c10 (h.resolve_right (by decide)), fun h => c11 (h.resolve_right (by decide)), fun _ => rfl, fun h => c13 (h.resolve_right (by decide)), fun h => c14 (h.resolve_right (by decide)), fun h => c15 (h.resolve_right (by decide)), fun h => c16 (h.resolve_right (by decide))⟩ _ (by simp only [e11])
              apply RelH.op2
              · intro L f u K hN hS hK
                simp only [puts, Act.put, List.setIfInBounds_toArray, List.set_cons_zero, List.set_cons_succ, upd, Nat.reduceEqDiff, ↓reduceIte, if_true, if_false] at hK ⊢
                have HS9 := Lib.hid hS
                obtain ⟨qO, qO1, qH, c0, c1, c2, c3, c4, c5, c6, c7, c8, c9, c10, c11, c12, c13, c14, c15, c16⟩ := hS
                have e12 := c12 (hN.out.2 12 (by decide +kernel))
                clear c0 c1 c2 c3 c4 c5 c6 c7 c8 c9 c10 c11 c12 c13 c14 c15 c16
                go_simp
                obtain ⟨qO, qO1, qH, c0, c1, c2, c3, c4, c5, c6, c7, c8, c9, c10, c11, c12, c13, c14, c15, c16⟩ := HS9.out
                exact hK.out _ _ ⟨qO, qO1, qH, fun h => c0 (h.resolve_right (by decide)), fun h => c1 (h.resolve_right (by decide)), fun h => c2 (h.resolve_right (by decide)), fun h => c3 (h.resolve_right (by decide)), fun h => c4 (h.resolve_right (by decide)), fun h => c5 (h.resolve_right (by decide)), fun h => c6 (h.resolve_right (by decide)), fun h => c7 (h.resolve_right (by decide)), fun h => c8 (h.resolve_right (by decide)), fun h => c9 (h.resolve_right (by decide)), fun h => c10 (h.resolve_right (by decide)), fun h => c11 (h.resolve_right (by decide)), fun h => c12 (h.resolve_right (by decide)), fun _ => rfl, fun h => c14 (h.resolve_right (by decide)), fun h => c15 (h.resolve_right (by decide)), fun h => c16 (h.resolve_right (by decide))⟩ _ (by simp only [e12])
              apply RelH.op2
              · intro L f u K hN hS hK
                simp only [puts, Act.put, List.setIfInBounds_toArray, List.set_cons_zero, List.set_cons_succ, upd, Nat.reduceEqDiff, ↓reduceIte, if_true, if_false] at hK ⊢
                have HS9 := Lib.hid hS
                obtain ⟨qO, qO1, qH, c0, c1, c2, c3, c4, c5, c6, c7, c8, c9, c10, c11, c12, c13, c14, c15, c16⟩ := hS
                have e12 := c12 (hN.out.2 12 (by decide +kernel))
                clear c0 c1 c2 c3 c4 c5 c6 c7 c8 c9 c10 c11 c12 c13 c14 c15 c16
                go_simp
                obtain ⟨qO, qO1, qH, c0, c1, c2, c3, c4, c5, c6, c7, c8, c9, c10, c11, c12, c13, c14, c15, c16⟩ := HS9.out
                exact hK.out _ _ ⟨qO, qO1, qH, fun h => c0 (h.resolve_right (by decide)), fun h => c1 (h.resolve_right (by decide)), fun h => c2 (h.resolve_right (by decide)), fun h => c3 (h.resolve_right (by decide)), fun h => c4 (h.resolve_right (by decide)), fun h => c5 (h.resolve_right (by decide)), fun h => c6 (h.resolve_right (by decide)), fun h => c7 (h.resolve_right (by decide)), fun h => c8 (h.resolve_right (by decide)), fun h => c9 (h.resolve_right (by decide)), fun h => c10 (h.resolve_right (by decide)), fun h => c11 (h.resolve_right (by decide)), fun h => c12 (h.resolve_right (by decide)), fun h => c13 (h.resolve_right (by decide)), fun _ => rfl, fun h => c15 (h.resolve_right (by decide)), fun h => c16 (h.resolve_right (by decide))⟩ _ (by simp only [e12])
              apply RelH.op2
              · intro L f u K hN hS hK
                simp only [puts, Act.put, List.setIfInBounds_toArray, List.set_cons_zero, List.set_cons_succ, upd, Nat.reduceEqDiff, ↓reduceIte, if_true, if_false] at hK ⊢
                have HS9 := Lib.hid hS
                obtain ⟨qO, qO1, qH, c0, c1, c2, c3, c4, c5, c6, c7, c8, c9, c10, c11, c12, c13, c14, c15, c16⟩ := hS
                have e13 := c13 (hN.out.2 13 (by decide +kernel))
                clear c0 c1 c2 c3 c4 c5 c6 c7 c8 c9 c10 c11 c12 c13 c14 c15 c16
                go_simp
                obtain ⟨qO, qO1, qH, c0, c1, c2, c3, c4, c5, c6, c7, c8, c9, c10, c11, c12, c13, c14, c15, c16⟩ := HS9.out
                exact hK.out _ _ ⟨qO, qO1, qH, fun h => c0 (h.resolve_right (by decide)), fun h => c1 (h.resolve_right (by decide)), fun h => c2 (h.resolve_right (by decide)), fun h => c3 (h.resolve_right (by decide)), fun h => c4 (h.resolve_right (by decide)), fun h => c5 (h.resolve_right (by decide)), fun h => c6 (h.resolve_right (by decide)), fun h => c7 (h.resolve_right (by decide)), fun h => c8 (h.resolve_right (by decide)), fun h => c9 (h.resolve_right (by decide)), fun h => c10 (h.resolve_right (by decide)), fun h => c11 (h.resolve_right (by decide)), fun h => c12 (h.resolve_right (by decide)), fun h => c13 (h.resolve_right (by decide)), fun h => c14 (h.resolve_right (by decide)), fun _ => rfl, fun h => c16 (h.resolve_right (by decide))⟩ _ (by simp only [e13])
              apply RelH.op2
              · intro L f u K hN hS hK
                simp only [puts, Act.put, List.setIfInBounds_toArray, List.set_cons_zero, List.set_cons_succ, upd, Nat.reduceEqDiff, ↓reduceIte, if_true, if_false] at hK ⊢
                have HS9 := Lib.hid hS
                obtain ⟨qO, qO1, qH, c0, c1, c2, c3, c4, c5, c6, c7, c8, c9, c10, c11, c12, c13, c14, c15, c16⟩ := hS
                have e14 := c14 (hN.out.2 14 (by decide +kernel))
                clear c0 c1 c2 c3 c4 c5 c6 c7 c8 c9 c10 c11 c12 c13 c14 c15 c16
                go_simp
                obtain ⟨qO, qO1, qH, c0, c1, c2, c3, c4, c5, c6, c7, c8, c9, c10, c11, c12, c13, c14, c15, c16⟩ := HS9.out
                exact hK.out _ _ ⟨qO, qO1, qH, fun h => c0 (h.resolve_right (by decide)), fun h => c1 (h.resolve_right (by decide)), fun h => c2 (h.resolve_right (by decide)), fun h => c3 (h.resolve_right (by decide)), fun h => c4 (h.resolve_right (by decide)), fun h => c5 (h.resolve_right (by decide)), fun h => c6 (h.resolve_right (by decide)), fun h => c7 (h.resolve_right (by decide)), fun h => c8 (h.resolve_right (by decide)), fun h => c9 (h.resolve_right (by decide)), fun h => c10 (h.resolve_right (by decide)), fun h => c11 (h.resolve_right (by decide)), fun h => c12 (h.resolve_right (by decide)), fun h => c13 (h.resolve_right (by decide)), fun h => c14 (h.resolve_right (by decide)), fun h => c15 (h.resolve_right (by decide)), fun _ => rfl⟩ _ (by simp only [e14])
              exact RelH.done
            intro L f V0 hL hS
            simp only [puts, Act.put, List.setIfInBounds_toArray, List.set_cons_zero, List.set_cons_succ]
            obtain ⟨qO, qO1, qH, c0, c1, c2, c3, c4, c5, c6, c7, c8, c9, c10, c11, c12, c13, c14, c15, c16⟩ := hS
            have O' := qO
            have O1' := qO1
            have HB' := qH
            have e15 := c15 (hL 15 (by decide)); have e16 := c16 (hL 16 (by decide))
            simp only [e15, e16]
            have h0 : V0.cell? ⟨g1, k * 2, none⟩ = some (.int .i64 a) := by rw [O1'.cellAt _ (by omega)]; exact HA.out
            have h1 : V0.cell? ⟨g1, k * 2 + 1, none⟩ = some (.int .i64 b) := by rw [O1'.cellAt _ (by omega)]; exact HA1.out
            clear e15 e16 c0 c1 c2 c3 c4 c5 c6 c7 c8 c9 c10 c11 c12 c13 c14 c15 c16 hL qO qO1 qH O O1 HB
            have p3 := HP3.out
            have HK := Lib.hid (And.intro O' (And.intro O1' HB')); clear O' O1' HB'
            go_wp2
            go_quiet (fail)
            go_wp2
            go_roundw
            case rel => exact ⟨k + 1, HL.out, by go_num, own_keep HK.out.1 ((Drawn.n _ _).below _), own_keep HK.out.2.1 ((Drawn.n _ _).below _), be HK.out.2.2 ((Drawn.n _ _).below _)⟩
            case measure => have := HL.out; simp [intOf]; omega
          · have q5 : decide ((k : Int) < M.length) = false := decide_eq_false (by omega)
            go_wp2_with fail
            go_meet
            case rel => exact HB
    case rest => as_aux_lemma =>
      go_wp2_with fail
      refine (DShw2.drawBtw A cap zs wc (HC.out.below hcut)).mono ?_
      rintro e w2 ⟨N, g, c, a, p, t, hl, rfl, O, hB⟩
      have HB := be hcut hB
      replace O := own_base O (base' := w.heap.size) hcut.size
      clear hB hcut
      obtain ⟨n, q, hv⟩ := btw_form N a p t
      have HV := Lib.hid hv; clear hv
      go_wp2_with fail
      refine (ShwL.btw_impl _ c N a p t _ (Rd.of_own O) (own_cap O) (by omega)).mono ?_
      rintro e v1 ⟨rfl, hv1⟩
      replace O := own_keep O hv1
      replace HB := be HB hv1
      have zhv1 := hv1.size
      rw [HV.out]
      go_wp2_with fail
      refine (ShwL.btw_spec _ c N a p t _ (Rd.of_own O) (by omega)).mono ?_
      rintro e v2 ⟨rfl, hv2⟩
      replace O := own_keep O hv2
      replace HB := be HB hv2
      have zhv2 := hv2.size
      rw [HV.out]
      have hb1 := HB.size
      go_wp2_with fail
      refine (DShw2.drawWet A cap zs _ (HC.out.below HB)).mono ?_
      rintro e v3 ⟨N2, g2, c2, hl2, rfl, O2, hv3⟩
      replace O := own_keep O hv3
      replace HB := be HB hv3
      have zhv3 := hv3.size
      clear O
      replace O2 := own_base O2 (base' := w.heap.size) hb1
      obtain ⟨d, q2, hv⟩ := ShwW.wet_form N2
      have HT := Lib.hid (fun h => wet_told hv h)
      have HV2 := Lib.hid hv; clear hv
      go_wp2_with fail
      refine (ShwW.wet_impl _ c2 N2 _ (Rd.of_own O2) (own_cap O2) (by omega)).mono ?_
      rintro e v4 ⟨rfl, hv4⟩
      replace HB := be HB hv4
      replace O2 := own_keep O2 hv4
      have zhv4 := hv4.size
      rw [HV2.out]
      go_wp2_with fail
      refine (ShwW.wet_spec _ c2 N2 _ (Rd.of_own O2) (by omega)).mono ?_
      rintro e v5 ⟨rfl, hv5⟩
      replace HB := be HB hv5
      replace O2 := own_keep O2 hv5
      have zhv5 := hv5.size
      rw [HV2.out]
      cases q2
      · go_wp2
        go_ret
        exact ⟨rfl, HB⟩
      obtain ⟨hgood, m, hm, hall⟩ := HT.out rfl
      have HM := Lib.hid hm; clear hm hgood
      have HALL := Lib.hid hall; clear hall HT
      go_wp2_with fail
      refine (ShwL.rain_impl _ c2 N2 1000 d _ (Rd.of_own O2) (own_cap O2) (by omega)).mono ?_
      rintro e v6 ⟨rfl, hv6⟩
      replace HB := be HB hv6
      replace O2 := own_keep O2 hv6
      have zhv6 := hv6.size
      rw [HM.out]
      go_wp2_with fail
      go_loopw [34] (fun i wr => ∃ k : Nat, k ≤ N2.length ∧ i = .int .i64 k ∧ wr.ownsRow w.heap.size 54 2 (.slice (some ⟨g2, 0, none⟩) N2.length c2) N2.length (flat N2) ∧ Below w.heap.size w wr) (fun i _ => N2.length - (intOf i).toNat)
      case atStart => exact ⟨0, Nat.zero_le _, rfl, O2, HB⟩
      case round =>
        clear O2 HB
        obtain ⟨k, hk, rfl, O2, HB⟩ := hrel
        by_cases hlt : k < N2.length
        · obtain ⟨n2, hn2, hle⟩ := HALL.out k hlt
          obtain ⟨a2, ha2⟩ : ∃ a, N2[k].f0 = a := ⟨_, rfl⟩
          have h0 : wr.cell? ⟨g2, k * 2, none⟩ = some (.int .i64 a2) := by rw [O2.cellAt _ (by have := O2.1; rw [flat_n] at this; omega), ← ha2]; exact flat_0 N2 k hlt
          rw [ha2] at hn2
          have HN2 := Lib.hid hn2
          have hle' : decide (m < n2) = false := decide_eq_false (by omega)
          have hd1 : decide ((k : Int) < N2.length) = true := decide_eq_true (by omega)
          have HL := Lib.hid hlt
          clear hn2 ha2 hle
          go_wp2_with fail
          refine (ShwL.rain_impl _ c2 N2 1000 a2 _ (Rd.of_own O2) (own_cap O2) (by omega)).mono ?_
          rintro e v7 ⟨rfl, hv7⟩
          replace HB := be HB hv7
          replace O2 := own_keep O2 hv7
          have zhv7 := hv7.size
          rw [HN2.out]
          clear h0
          go_wp2
          go_roundw
          case rel => exact ⟨k + 1, HL.out, by go_num, O2, HB⟩
          case measure => have := HL.out; simp [intOf]; omega
        · have hd1 : decide ((k : Int) < N2.length) = false := decide_eq_false (by omega)
          go_wp2
          go_ret
          exact ⟨rfl, HB⟩
end Go.Proofs.Ytpbmncecejchjaa.DryLaw
