/- FnBasins, walked. Made by tools/mk_baslaw.py. -/
import Derived.Test.YtciohcipmkhneaaBasFacts
import Derived.Test.YtciohcipmkhneaaDSer2
import Derived.Test.YtciohcipmkhneaaSerR
import Derived.Test.YtciohcipmkhneaaSerB
import Derived.Test.YtciohcipmkhneaaSerD2
import Derived.Test.YtciohcipmkhneaaRegn3
import Derived.Deep.CutBlock
import Derived.Deep.Cut
import Derived.Deep.DeepCutAuto
namespace Go.Proofs.Ytciohcipmkhneaa.BasLaw
open Go.RowKit Go.Proofs.Ytciohcipmkhneaa.Mem Go.Proofs.Ytciohcipmkhneaa.Base Go.Proofs.Ytciohcipmkhneaa.Regn Go.Proofs.Ytciohcipmkhneaa.Boxes Go.Proofs.Ytciohcipmkhneaa.Keep Go.Proofs.Ytciohcipmkhneaa.Ser Go.Proofs.Ytciohcipmkhneaa.SerN Go.Proofs.Ytciohcipmkhneaa.BasFacts Go.Proofs.Ytciohcipmkhneaa.DSer
open Go.Proofs.Ytciohcipmkhneaa.SBasin hiding RPost rpost
set_option linter.unusedVariables false
set_option linter.unusedSimpArgs false
set_option maxRecDepth 100000
def Yes (w : World) (e : Ending) (w' : World) : Prop := e = .returned (.bool true) ∧ Below w.heap.size w w'
set_option maxHeartbeats 800000 in
theorem vints_same (A A' : Option Addr) (c c' : Nat) (l : List Int) (w : World) (hr : Rd w w.heap.size A (SInt.iv l)) (hr' : Rd w w.heap.size A' (SInt.iv l)) (hn : l.length ≤ 1048576) :
    Calls Try.prog 48 #[.slice A l.length c, .slice A' l.length c'] w fun e w' => e = .returned (.bool true) ∧ Drawn w w' := by
  have HR := Lib.hid hr; clear hr
  have HR' := Lib.hid hr'; clear hr'
  go_enter Try.func48, Try.ntmps48
  go_wp2
  go_loopw [5] (fun i wr => ∃ k : Nat, k ≤ l.length ∧ i = .int .i64 k ∧ Drawn w wr) (fun i _ => l.length - (intOf i).toNat)
  case atStart => exact ⟨0, Nat.zero_le _, rfl, Drawn.refl _⟩
  case round =>
    obtain ⟨k, hk, rfl, hw⟩ := hrel
    have HW := Lib.hid hw; clear hw
    by_cases hlt : k < l.length
    · obtain ⟨b, o, rfl, hb, hc⟩ := HR.out.at (k := k) (by rw [SInt.iv_len]; exact hlt)
      obtain ⟨b', o', rfl, hb', hc'⟩ := HR'.out.at (k := k) (by rw [SInt.iv_len]; exact hlt)
      have h0 : wr.cell? ⟨b, o + k, none⟩ = some (.int .i64 l[k]) := (HW.out.cell _ _).trans (hc _ _ (SInt.iv_get l k hlt))
      have h1 : wr.cell? ⟨b', o' + k, none⟩ = some (.int .i64 l[k]) := (HW.out.cell _ _).trans (hc' _ _ (SInt.iv_get l k hlt))
      have e3 : IntKind.i64.wrap ((k : Int) + 1) = k + 1 := IntWalk.i64_in _ (by omega)
      clear hc hc'
      generalize l[k] = p0 at h0 h1
      go_wp2_with fail
      go_quiet (fail)
      generalize nq = q1
      go_wp2
      exact ⟨⟨k + 1, hlt, by go_num, HW.out.more _⟩, by simp [intOf]; omega⟩
    · go_wp2
      go_ret
      exact ⟨rfl, HW.out⟩
set_option maxHeartbeats 8000000 in
theorem law (A : Option Addr) (cap : Nat) (zs : List Int) (w : World) (hr : Rd w w.heap.size A (zs.map (Value.int .u8))) (hn : zs.length ≤ maxLen) (hb : ∀ z ∈ zs, 0 ≤ z ∧ z ≤ 255) :
    Calls Try.prog 4 #[.slice A zs.length cap] w (Yes w) := by
  by_cases hbig : 65536 < zs.length
  · have HG := Lib.hid (show Draw.bigB zs.length = true from decide_eq_true hbig)
    clear hr hb
    go_enter Try.func4, Try.ntmps4
    go_wp2_with fail
    refine (Draw.big_any A cap zs.length w hn).mono ?_
    rintro e w' ⟨rfl, rfl⟩
    rw [HG.out]
    go_wp2
    go_ret
    exact ⟨rfl, Below.refl _ _⟩
  have HG := Lib.hid (show Draw.bigB zs.length = false from decide_eq_false hbig)
  have HN := Lib.hid hn; clear hn
  have HC := Lib.hid (show Draw.Src w A zs from ⟨hr, by omega, hb⟩); clear hr hb
  go_enter Try.func4, Try.ntmps4
  go_wp2_with fail
  refine (Draw.big_any A cap zs.length w HN.out).mono ?_
  rintro e w' ⟨rfl, rfl⟩
  rw [HG.out]
  clear HG hbig HN
  go_wp2_with fail
  refine (DSer2.drawSun A cap zs w HC.out).mono ?_
  rintro e w1 ⟨L, g, c, r, hl, rfl, O, HB⟩
  have hs := fun P cap w hr => SerN.sun_spec P cap L r w hr (by omega)
  have hi := fun P cap w hr hc => SerN.sun_impl P cap L r w hr hc (by omega)
  have hm : (sunL L r).length ≤ 100 := sun_len L r
  have hf := fun h : sunOk L r = true => sun_told h
  have hk := fun h : sunOk L r = true => sumK_bd (l := L) h
  unfold SerQ.Row2 at hs hi
  generalize sunL L r = M at hs hi hm hf
  generalize sunN L r = y at hs hi hf
  generalize sunOk L r = q at hs hi hf hk
  have HSP := Lib.hid hs; clear hs
  have HIM := Lib.hid hi; clear hi
  have HF := Lib.hid hf; clear hf
  have HK := Lib.hid hk; clear hk
  have hcp := own_cap O
  have hb1 := HB.size
  go_wp2_with fail
  refine (HIM.out _ _ _ (Rd.of_own O) hcp).mono ?_
  rintro e v1 ⟨A1, k1, rfl, O1, hv1⟩
  replace O := own_keep O hv1
  replace HB := be HB hv1
  have zhv1 := hv1.size
  replace O1 := own_base O1 (base' := w.heap.size) hb1
  have hb2 := HB.size
  go_wp2_with fail
  refine (HSP.out _ _ _ (Rd.of_own O)).mono ?_
  rintro e v2 ⟨A0, k0, rfl, O0, hv2⟩
  replace O := own_keep O hv2
  replace HB := be HB hv2
  replace O1 := own_keep O1 hv2
  have zhv2 := hv2.size
  replace O0 := own_base O0 (base' := w.heap.size) hb2
  go_wp2_with fail
  refine (DSer2.vbasins_any A1 A0 k1 k0 M _ (Rd.of_own O1) (Rd.of_own O0) (by omega)).mono ?_
  rintro e v3 ⟨rfl, hd⟩
  have hd2 := hd.below v2.heap.size; clear hd
  replace O := own_keep O hd2
  replace HB := be HB hd2
  replace O1 := own_keep O1 hd2
  replace O0 := own_keep O0 hd2
  go_upto_if 66 with fail
  go_cut [] from 3 (fun wc => Below w.heap.size w wc)
  case first => as_aux_lemma =>
    cases q
    · go_wp2
      go_meet
      case rel => exact HB
    · obtain ⟨hml, ⟨hl1, hl8⟩, hy, hx⟩ := HF.out rfl
      have hkb := HK.out rfl
      have HX := Lib.hid hx
      have HY := Lib.hid hy
      have HKB := Lib.hid hkb
      clear hx hy hkb HSP HIM HF HK O0
      obtain ⟨g1, c1, e1⟩ := own_some0 O1 (fun e => by injection e with _ h2 _; omega)
      injection e1 with e1 _ _
      subst e1
      have hcut0 : (0 : Int) = sumK L r 0 := rfl
      go_wp2_with fail
      go_loopw [11, 12] (fun s i wr => ∃ (k : Nat) (z : Int), k ≤ L.length ∧ i = .int .i64 k ∧ s = .int .i64 z ∧ Hid (z = sumK L r k) ∧ wr.ownsRow w.heap.size 50 3 (.slice (some ⟨g, 0, none⟩) L.length c) L.length (flat L) ∧ wr.ownsRow w.heap.size 50 3 (.slice (some ⟨g1, 0, none⟩) M.length k1) M.length (flat M) ∧ Below w.heap.size w wr) (fun _ i _ => L.length - (intOf i).toNat)
      case atStart => exact ⟨0, 0, Nat.zero_le _, rfl, rfl, Lib.hid hcut0, O, O1, HB⟩
      case round =>
        clear O O1 HB
        obtain ⟨k, z, hk, rfl, rfl, HZ, O, O1, HB⟩ := hrel
        have e3 : IntKind.i64.wrap ((k : Int) + 1) = k + 1 := IntWalk.i64_in _ (by omega)
        by_cases hlt : k < L.length
        · have hlm : k < M.length := by omega
          have hd1 : decide ((k : Int) < L.length) = true := decide_eq_true (by omega)
          have hd2 : decide ((k : Int) < M.length) = true := decide_eq_true (by omega)
          obtain ⟨x0, x1, x2, x3, x4⟩ := HX.out k hlt hlm
          obtain ⟨z0, z1⟩ := HKB.out k (by omega)
          have hnx := sumK_next (r := r) hlt (rfl : L[k] = L[k])
          rw [← HZ.out] at z0 z1 hnx
          have HA1 := Lib.hid (show (flat L)[k * 3 + 1]? = some (.int .i64 L[k].f1) from flat_1 L k hlt)
          have HA2 := Lib.hid (show (flat L)[k * 3 + 2]? = some (.int .i64 L[k].f2) from flat_2 L k hlt)
          have HM1 := Lib.hid (show (flat M)[k * 3 + 1]? = some (.int .i64 (L[k].f1 - dry L[k] r)) by rw [← x0]; exact flat_1 M k hlm)
          have HM2 := Lib.hid (show (flat M)[k * 3 + 2]? = some (.int .i64 L[k].f2) by rw [← x1]; exact flat_2 M k hlm)
          clear x0 x1
          obtain ⟨a1, ha1⟩ : ∃ a, L[k].f1 = a := ⟨_, rfl⟩
          obtain ⟨a2, ha2⟩ : ∃ a, L[k].f2 = a := ⟨_, rfl⟩
          obtain ⟨d, hd⟩ : ∃ a, dry L[k] r = a := ⟨_, rfl⟩
          rw [ha1] at HA1 HM1 x3 x4
          rw [ha2] at HA2 HM2
          rw [hd] at HM1 x2 x3 hnx
          clear ha1 ha2 hd
          obtain ⟨m1, hm1⟩ : ∃ m, a1 - d = m := ⟨_, rfl⟩
          rw [hm1] at HM1
          have h0 : wr.cell? ⟨g, k * 3 + 1, none⟩ = some (.int .i64 a1) := by rw [O.cellAt _ (by omega)]; exact HA1.out
          have h1 : wr.cell? ⟨g1, k * 3 + 1, none⟩ = some (.int .i64 m1) := by rw [O1.cellAt _ (by omega)]; exact HM1.out
          have h2 : wr.cell? ⟨g, k * 3 + 2, none⟩ = some (.int .i64 a2) := by rw [O.cellAt _ (by omega)]; exact HA2.out
          have h3 : wr.cell? ⟨g1, k * 3 + 2, none⟩ = some (.int .i64 a2) := by rw [O1.cellAt _ (by omega)]; exact HM2.out
          have y1 : IntKind.i64.wrap (z + a1) = z + a1 := IntWalk.i64_in _ (by omega)
          have y2 : IntKind.i64.wrap (z + a1 - m1) = z + a1 - m1 := IntWalk.i64_in _ (by omega)
          have HNX := Lib.hid (show z + a1 - m1 = sumK L r (k + 1) by rw [hnx]; omega)
          have HOO := Lib.hid (And.intro O (And.intro O1 HB))
          clear hnx O O1 HB hm1 x2 x3 x4 z0 z1 hl1 hl8 hml
          go_wp2_with fail
          go_quiet (fail)
          generalize nq = q1
          go_wp2_with fail
          go_quiet (fail)
          generalize nq = q2
          go_wp2
          obtain ⟨O, O1, HB⟩ := HOO.out
          have HD := (Drawn.n wr (q1 + q2)).below wr.heap.size
          exact ⟨⟨k + 1, z + a1 - m1, hlt, by go_num, rfl, HNX, own_keep O HD, own_keep O1 HD, be HB HD⟩, by simp [intOf]; omega⟩
        · have hd1 : decide ((k : Int) < L.length) = false := decide_eq_false (by omega)
          have hkk : k = L.length := by omega
          have hzy : (z != y) = false := by rw [bne_eq_false_iff_eq, HZ.out, HY.out, hkk]
          go_wp2_with fail
          go_meet
          case rel => exact HB
  case rest => as_aux_lemma =>
    go_wp2_with fail
    refine (DSer2.drawBest A cap zs wc (HC.out.below hcut)).mono ?_
    rintro e w2 ⟨M, g, c, hl, rfl, O, hB⟩
    have HB := be hcut hB
    replace O := own_base O (base' := w.heap.size) hcut.size
    clear hB hcut
    obtain ⟨x, q, hv⟩ := best_form M
    have HV := Lib.hid hv; clear hv
    have hcp := own_cap O
    go_wp2_with fail
    refine (SerB.best_impl _ c M _ (Rd.of_own O) hcp (by omega)).mono ?_
    rintro e v1 ⟨rfl, hv1⟩
    replace O := own_keep O hv1
    replace HB := be HB hv1
    have zhv1 := hv1.size
    rw [HV.out]
    go_wp2_with fail
    refine (SerB.best_spec _ c M _ (Rd.of_own O) (by omega)).mono ?_
    rintro e v2 ⟨rfl, hv2⟩
    replace O := own_keep O hv2
    replace HB := be HB hv2
    have zhv2 := hv2.size
    rw [HV.out]
    go_upto_block 2 with fail
    go_cut [] from 3 (fun wc => Below w.heap.size w wc)
    case first => as_aux_lemma =>
      cases q
      · go_wp2_with fail
        go_loopw [18] (fun i wr => ∃ k : Nat, k ≤ M.length ∧ i = .int .i64 k ∧ Below w.heap.size w wr) (fun i _ => M.length - (intOf i).toNat)
        case atStart => exact ⟨0, Nat.zero_le _, rfl, HB⟩
        case round =>
          clear O HB
          obtain ⟨k, hk, rfl, HB⟩ := hrel
          by_cases hlt : k < M.length
          · have hd1 : decide ((k : Int) < M.length) = true := decide_eq_true (by omega)
            go_wp2_with fail
            go_meet
            case rel => exact HB
          · have hd1 : decide ((k : Int) < M.length) = false := decide_eq_false (by omega)
            go_wp2_with fail
            go_meet
            case rel => exact HB
      obtain ⟨b, rfl, hbl, hall⟩ := best_told HV.out
      have HALL := Lib.hid hall; clear hall HV
      go_wp2_with fail
      go_loopw [18] (fun i wr => ∃ k : Nat, k ≤ M.length ∧ i = .int .i64 k ∧ wr.ownsRow w.heap.size 50 3 (.slice (some ⟨g, 0, none⟩) M.length c) M.length (flat M) ∧ Below w.heap.size w wr) (fun i _ => M.length - (intOf i).toNat)
      case atStart => exact ⟨0, Nat.zero_le _, rfl, O, HB⟩
      case round =>
        clear O HB
        obtain ⟨k, hk, rfl, O, HB⟩ := hrel
        have e3 : IntKind.i64.wrap ((k : Int) + 1) = k + 1 := IntWalk.i64_in _ (by omega)
        by_cases hlt : k < M.length
        · have hd1 : decide ((k : Int) < M.length) = true := decide_eq_true (by omega)
          obtain ⟨s1, s2, hst, hno⟩ := HALL.out k hlt hbl
          have HX1 := Lib.hid (show (flat M)[k * 3 + 1]? = some (.int .i64 M[k].f1) from flat_1 M k hlt)
          have HX2 := Lib.hid (show (flat M)[k * 3 + 2]? = some (.int .i64 M[k].f2) from flat_2 M k hlt)
          have HY1 := Lib.hid (show (flat M)[b * 3 + 1]? = some (.int .i64 M[b].f1) from flat_1 M b hbl)
          have HY2 := Lib.hid (show (flat M)[b * 3 + 2]? = some (.int .i64 M[b].f2) from flat_2 M b hbl)
          obtain ⟨x1, hx1⟩ : ∃ a, M[k].f1 = a := ⟨_, rfl⟩
          obtain ⟨x2, hx2⟩ : ∃ a, M[k].f2 = a := ⟨_, rfl⟩
          obtain ⟨y1, hy1⟩ : ∃ a, M[b].f1 = a := ⟨_, rfl⟩
          obtain ⟨y2, hy2⟩ : ∃ a, M[b].f2 = a := ⟨_, rfl⟩
          rw [hx1] at HX1 hst
          rw [hx2] at HX2 hst
          rw [hy1] at HY1 hst
          rw [hy2] at HY2 hst
          have HST := Lib.hid hst
          clear hx1 hx2 hy1 hy2 hst
          go_wp2_with fail
          refine wp_region_rel [140, 141, 142, 143, 144, 145, 146, 147, 148, 149, 150, 139, 151, 152, 19, 20] (fun L f w' => (w'.ownsRow w.heap.size 50 3 (.slice (some ⟨g, 0, none⟩) M.length c) M.length (flat M)) ∧ (Below w.heap.size w w') ∧ (L 0 → f 140 = .slice (some ⟨g, 0, none⟩) M.length c) ∧ (L 1 → f 141 = .int .i64 k) ∧ (L 2 → f 142 = .pointer (some ⟨g, k * 3, none⟩)) ∧ (L 3 → f 143 = .pointer (some ⟨g, k * 3 + 1, none⟩)) ∧ (L 4 → f 144 = .agg #[.int .i64 x1, .int .i64 x2]) ∧ (L 5 → f 145 = .slice (some ⟨g, 0, none⟩) M.length c) ∧ (L 6 → f 146 = .int .i64 b) ∧ (L 7 → f 147 = .pointer (some ⟨g, b * 3, none⟩)) ∧ (L 8 → f 148 = .pointer (some ⟨g, b * 3 + 1, none⟩)) ∧ (L 9 → f 149 = .agg #[.int .i64 y1, .int .i64 y2]) ∧ (L 10 → f 150 = .tuple #[.bool s1, .bool s2]) ∧ (L 11 → f 139 = .tuple #[.bool s1, .bool s2]) ∧ (L 12 → f 151 = .bool s1) ∧ (L 13 → f 152 = .bool s2) ∧ (L 14 → f 19 = .bool s1) ∧ (L 15 → f 20 = .bool s2)) (by kernel_rfl) (by kernel_rfl) (by kernel_rfl) (fun f => ⟨own_keep O (Below.refl _ _).drew, HB.trans ((Below.refl _ _).drew.mono HB.size), fun h => h.elim, fun h => h.elim, fun h => h.elim, fun h => h.elim, fun h => h.elim, fun h => h.elim, fun h => h.elim, fun h => h.elim, fun h => h.elim, fun h => h.elim, fun h => h.elim, fun h => h.elim, fun h => h.elim, fun h => h.elim, fun h => h.elim, fun h => h.elim⟩) ?_ ?_
          · apply RelH.op2
            · intro L f u K hN hS hK
              simp only [puts, Act.put, List.setIfInBounds_toArray, List.set_cons_zero, List.set_cons_succ, upd, Nat.reduceEqDiff, ↓reduceIte, if_true, if_false] at hK ⊢
              have HS9 := Lib.hid hS
              obtain ⟨qO, qH, c0, c1, c2, c3, c4, c5, c6, c7, c8, c9, c10, c11, c12, c13, c14, c15⟩ := hS
              clear c0 c1 c2 c3 c4 c5 c6 c7 c8 c9 c10 c11 c12 c13 c14 c15
              go_simp
              obtain ⟨qO, qH, c0, c1, c2, c3, c4, c5, c6, c7, c8, c9, c10, c11, c12, c13, c14, c15⟩ := HS9.out
              exact hK.out _ _ ⟨qO, qH, fun _ => rfl, fun h => c1 (h.resolve_right (by decide)), fun h => c2 (h.resolve_right (by decide)), fun h => c3 (h.resolve_right (by decide)), fun h => c4 (h.resolve_right (by decide)), fun h => c5 (h.resolve_right (by decide)), fun h => c6 (h.resolve_right (by decide)), fun h => c7 (h.resolve_right (by decide)), fun h => c8 (h.resolve_right (by decide)), fun h => c9 (h.resolve_right (by decide)), fun h => c10 (h.resolve_right (by decide)), fun h => c11 (h.resolve_right (by decide)), fun h => c12 (h.resolve_right (by decide)), fun h => c13 (h.resolve_right (by decide)), fun h => c14 (h.resolve_right (by decide)), fun h => c15 (h.resolve_right (by decide))⟩ _ rfl
            apply RelH.op2
            · intro L f u K hN hS hK
              simp only [puts, Act.put, List.setIfInBounds_toArray, List.set_cons_zero, List.set_cons_succ, upd, Nat.reduceEqDiff, ↓reduceIte, if_true, if_false] at hK ⊢
              have HS9 := Lib.hid hS
              obtain ⟨qO, qH, c0, c1, c2, c3, c4, c5, c6, c7, c8, c9, c10, c11, c12, c13, c14, c15⟩ := hS
              clear c0 c1 c2 c3 c4 c5 c6 c7 c8 c9 c10 c11 c12 c13 c14 c15
              go_simp
              obtain ⟨qO, qH, c0, c1, c2, c3, c4, c5, c6, c7, c8, c9, c10, c11, c12, c13, c14, c15⟩ := HS9.out
              exact hK.out _ _ ⟨qO, qH, fun h => c0 (h.resolve_right (by decide)), fun _ => rfl, fun h => c2 (h.resolve_right (by decide)), fun h => c3 (h.resolve_right (by decide)), fun h => c4 (h.resolve_right (by decide)), fun h => c5 (h.resolve_right (by decide)), fun h => c6 (h.resolve_right (by decide)), fun h => c7 (h.resolve_right (by decide)), fun h => c8 (h.resolve_right (by decide)), fun h => c9 (h.resolve_right (by decide)), fun h => c10 (h.resolve_right (by decide)), fun h => c11 (h.resolve_right (by decide)), fun h => c12 (h.resolve_right (by decide)), fun h => c13 (h.resolve_right (by decide)), fun h => c14 (h.resolve_right (by decide)), fun h => c15 (h.resolve_right (by decide))⟩ _ rfl
            apply RelH.op2
            · intro L f u K hN hS hK
              simp only [puts, Act.put, List.setIfInBounds_toArray, List.set_cons_zero, List.set_cons_succ, upd, Nat.reduceEqDiff, ↓reduceIte, if_true, if_false] at hK ⊢
              have HS9 := Lib.hid hS
              obtain ⟨qO, qH, c0, c1, c2, c3, c4, c5, c6, c7, c8, c9, c10, c11, c12, c13, c14, c15⟩ := hS
              have e0 := c0 (hN.out.2 0 (by decide +kernel))
              have e1 := c1 (hN.out.2 1 (by decide +kernel))
              clear c0 c1 c2 c3 c4 c5 c6 c7 c8 c9 c10 c11 c12 c13 c14 c15
              go_simp
              obtain ⟨qO, qH, c0, c1, c2, c3, c4, c5, c6, c7, c8, c9, c10, c11, c12, c13, c14, c15⟩ := HS9.out
              exact hK.out _ _ ⟨qO, qH, fun h => c0 (h.resolve_right (by decide)), fun h => c1 (h.resolve_right (by decide)), fun _ => rfl, fun h => c3 (h.resolve_right (by decide)), fun h => c4 (h.resolve_right (by decide)), fun h => c5 (h.resolve_right (by decide)), fun h => c6 (h.resolve_right (by decide)), fun h => c7 (h.resolve_right (by decide)), fun h => c8 (h.resolve_right (by decide)), fun h => c9 (h.resolve_right (by decide)), fun h => c10 (h.resolve_right (by decide)), fun h => c11 (h.resolve_right (by decide)), fun h => c12 (h.resolve_right (by decide)), fun h => c13 (h.resolve_right (by decide)), fun h => c14 (h.resolve_right (by decide)), fun h => c15 (h.resolve_right (by decide))⟩ _ (by simp only [e0, e1])
            apply RelH.op2
            · intro L f u K hN hS hK
              simp only [puts, Act.put, List.setIfInBounds_toArray, List.set_cons_zero, List.set_cons_succ, upd, Nat.reduceEqDiff, ↓reduceIte, if_true, if_false] at hK ⊢
              have HS9 := Lib.hid hS
              obtain ⟨qO, qH, c0, c1, c2, c3, c4, c5, c6, c7, c8, c9, c10, c11, c12, c13, c14, c15⟩ := hS
              have e2 := c2 (hN.out.2 2 (by decide +kernel))
              clear c0 c1 c2 c3 c4 c5 c6 c7 c8 c9 c10 c11 c12 c13 c14 c15
              go_simp
              obtain ⟨qO, qH, c0, c1, c2, c3, c4, c5, c6, c7, c8, c9, c10, c11, c12, c13, c14, c15⟩ := HS9.out
              exact hK.out _ _ ⟨qO, qH, fun h => c0 (h.resolve_right (by decide)), fun h => c1 (h.resolve_right (by decide)), fun h => c2 (h.resolve_right (by decide)), fun _ => rfl, fun h => c4 (h.resolve_right (by decide)), fun h => c5 (h.resolve_right (by decide)), fun h => c6 (h.resolve_right (by decide)), fun h => c7 (h.resolve_right (by decide)), fun h => c8 (h.resolve_right (by decide)), fun h => c9 (h.resolve_right (by decide)), fun h => c10 (h.resolve_right (by decide)), fun h => c11 (h.resolve_right (by decide)), fun h => c12 (h.resolve_right (by decide)), fun h => c13 (h.resolve_right (by decide)), fun h => c14 (h.resolve_right (by decide)), fun h => c15 (h.resolve_right (by decide))⟩ _ (by simp only [e2])
            apply RelH.op2
            · intro L f u K hN hS hK
              simp only [puts, Act.put, List.setIfInBounds_toArray, List.set_cons_zero, List.set_cons_succ, upd, Nat.reduceEqDiff, ↓reduceIte, if_true, if_false] at hK ⊢
              have HS9 := Lib.hid hS
              obtain ⟨qO, qH, c0, c1, c2, c3, c4, c5, c6, c7, c8, c9, c10, c11, c12, c13, c14, c15⟩ := hS
              have e3 := c3 (hN.out.2 3 (by decide +kernel))
              have hx1 : u.cell? ⟨g, k * 3 + 1, none⟩ = some (.int .i64 x1) := by rw [qO.cellAt _ (by omega)]; exact HX1.out
              have hx2 : u.cell? ⟨g, k * 3 + 2, none⟩ = some (.int .i64 x2) := by rw [qO.cellAt _ (by omega)]; exact HX2.out
              clear c0 c1 c2 c3 c4 c5 c6 c7 c8 c9 c10 c11 c12 c13 c14 c15
              go_simp
              obtain ⟨qO, qH, c0, c1, c2, c3, c4, c5, c6, c7, c8, c9, c10, c11, c12, c13, c14, c15⟩ := HS9.out
              exact hK.out _ _ ⟨qO, qH, fun h => c0 (h.resolve_right (by decide)), fun h => c1 (h.resolve_right (by decide)), fun h => c2 (h.resolve_right (by decide)), fun h => c3 (h.resolve_right (by decide)), fun _ => rfl, fun h => c5 (h.resolve_right (by decide)), fun h => c6 (h.resolve_right (by decide)), fun h => c7 (h.resolve_right (by decide)), fun h => c8 (h.resolve_right (by decide)), fun h => c9 (h.resolve_right (by decide)), fun h => c10 (h.resolve_right (by decide)), fun h => c11 (h.resolve_right (by decide)), fun h => c12 (h.resolve_right (by decide)), fun h => c13 (h.resolve_right (by decide)), fun h => c14 (h.resolve_right (by decide)), fun h => c15 (h.resolve_right (by decide))⟩ _ (by simp only [e3])
            apply RelH.op2
            · intro L f u K hN hS hK
              simp only [puts, Act.put, List.setIfInBounds_toArray, List.set_cons_zero, List.set_cons_succ, upd, Nat.reduceEqDiff, ↓reduceIte, if_true, if_false] at hK ⊢
              have HS9 := Lib.hid hS
              obtain ⟨qO, qH, c0, c1, c2, c3, c4, c5, c6, c7, c8, c9, c10, c11, c12, c13, c14, c15⟩ := hS
              clear c0 c1 c2 c3 c4 c5 c6 c7 c8 c9 c10 c11 c12 c13 c14 c15
              go_simp
              obtain ⟨qO, qH, c0, c1, c2, c3, c4, c5, c6, c7, c8, c9, c10, c11, c12, c13, c14, c15⟩ := HS9.out
              exact hK.out _ _ ⟨qO, qH, fun h => c0 (h.resolve_right (by decide)), fun h => c1 (h.resolve_right (by decide)), fun h => c2 (h.resolve_right (by decide)), fun h => c3 (h.resolve_right (by decide)), fun h => c4 (h.resolve_right (by decide)), fun _ => rfl, fun h => c6 (h.resolve_right (by decide)), fun h => c7 (h.resolve_right (by decide)), fun h => c8 (h.resolve_right (by decide)), fun h => c9 (h.resolve_right (by decide)), fun h => c10 (h.resolve_right (by decide)), fun h => c11 (h.resolve_right (by decide)), fun h => c12 (h.resolve_right (by decide)), fun h => c13 (h.resolve_right (by decide)), fun h => c14 (h.resolve_right (by decide)), fun h => c15 (h.resolve_right (by decide))⟩ _ rfl
            apply RelH.op2
            · intro L f u K hN hS hK
              simp only [puts, Act.put, List.setIfInBounds_toArray, List.set_cons_zero, List.set_cons_succ, upd, Nat.reduceEqDiff, ↓reduceIte, if_true, if_false] at hK ⊢
              have HS9 := Lib.hid hS
              obtain ⟨qO, qH, c0, c1, c2, c3, c4, c5, c6, c7, c8, c9, c10, c11, c12, c13, c14, c15⟩ := hS
              clear c0 c1 c2 c3 c4 c5 c6 c7 c8 c9 c10 c11 c12 c13 c14 c15
              go_simp
              obtain ⟨qO, qH, c0, c1, c2, c3, c4, c5, c6, c7, c8, c9, c10, c11, c12, c13, c14, c15⟩ := HS9.out
              exact hK.out _ _ ⟨qO, qH, fun h => c0 (h.resolve_right (by decide)), fun h => c1 (h.resolve_right (by decide)), fun h => c2 (h.resolve_right (by decide)), fun h => c3 (h.resolve_right (by decide)), fun h => c4 (h.resolve_right (by decide)), fun h => c5 (h.resolve_right (by decide)), fun _ => rfl, fun h => c7 (h.resolve_right (by decide)), fun h => c8 (h.resolve_right (by decide)), fun h => c9 (h.resolve_right (by decide)), fun h => c10 (h.resolve_right (by decide)), fun h => c11 (h.resolve_right (by decide)), fun h => c12 (h.resolve_right (by decide)), fun h => c13 (h.resolve_right (by decide)), fun h => c14 (h.resolve_right (by decide)), fun h => c15 (h.resolve_right (by decide))⟩ _ rfl
            apply RelH.op2
            · intro L f u K hN hS hK
              simp only [puts, Act.put, List.setIfInBounds_toArray, List.set_cons_zero, List.set_cons_succ, upd, Nat.reduceEqDiff, ↓reduceIte, if_true, if_false] at hK ⊢
              have HS9 := Lib.hid hS
              obtain ⟨qO, qH, c0, c1, c2, c3, c4, c5, c6, c7, c8, c9, c10, c11, c12, c13, c14, c15⟩ := hS
              have e5 := c5 (hN.out.2 5 (by decide +kernel))
              have e6 := c6 (hN.out.2 6 (by decide +kernel))
              clear c0 c1 c2 c3 c4 c5 c6 c7 c8 c9 c10 c11 c12 c13 c14 c15
              go_simp
              obtain ⟨qO, qH, c0, c1, c2, c3, c4, c5, c6, c7, c8, c9, c10, c11, c12, c13, c14, c15⟩ := HS9.out
              exact hK.out _ _ ⟨qO, qH, fun h => c0 (h.resolve_right (by decide)), fun h => c1 (h.resolve_right (by decide)), fun h => c2 (h.resolve_right (by decide)), fun h => c3 (h.resolve_right (by decide)), fun h => c4 (h.resolve_right (by decide)), fun h => c5 (h.resolve_right (by decide)), fun h => c6 (h.resolve_right (by decide)), fun _ => rfl, fun h => c8 (h.resolve_right (by decide)), fun h => c9 (h.resolve_right (by decide)), fun h => c10 (h.resolve_right (by decide)), fun h => c11 (h.resolve_right (by decide)), fun h => c12 (h.resolve_right (by decide)), fun h => c13 (h.resolve_right (by decide)), fun h => c14 (h.resolve_right (by decide)), fun h => c15 (h.resolve_right (by decide))⟩ _ (by simp only [e5, e6])
            apply RelH.op2
            · intro L f u K hN hS hK
              simp only [puts, Act.put, List.setIfInBounds_toArray, List.set_cons_zero, List.set_cons_succ, upd, Nat.reduceEqDiff, ↓reduceIte, if_true, if_false] at hK ⊢
              have HS9 := Lib.hid hS
              obtain ⟨qO, qH, c0, c1, c2, c3, c4, c5, c6, c7, c8, c9, c10, c11, c12, c13, c14, c15⟩ := hS
              have e7 := c7 (hN.out.2 7 (by decide +kernel))
              clear c0 c1 c2 c3 c4 c5 c6 c7 c8 c9 c10 c11 c12 c13 c14 c15
              go_simp
              obtain ⟨qO, qH, c0, c1, c2, c3, c4, c5, c6, c7, c8, c9, c10, c11, c12, c13, c14, c15⟩ := HS9.out
              exact hK.out _ _ ⟨qO, qH, fun h => c0 (h.resolve_right (by decide)), fun h => c1 (h.resolve_right (by decide)), fun h => c2 (h.resolve_right (by decide)), fun h => c3 (h.resolve_right (by decide)), fun h => c4 (h.resolve_right (by decide)), fun h => c5 (h.resolve_right (by decide)), fun h => c6 (h.resolve_right (by decide)), fun h => c7 (h.resolve_right (by decide)), fun _ => rfl, fun h => c9 (h.resolve_right (by decide)), fun h => c10 (h.resolve_right (by decide)), fun h => c11 (h.resolve_right (by decide)), fun h => c12 (h.resolve_right (by decide)), fun h => c13 (h.resolve_right (by decide)), fun h => c14 (h.resolve_right (by decide)), fun h => c15 (h.resolve_right (by decide))⟩ _ (by simp only [e7])
            apply RelH.op2
            · intro L f u K hN hS hK
              simp only [puts, Act.put, List.setIfInBounds_toArray, List.set_cons_zero, List.set_cons_succ, upd, Nat.reduceEqDiff, ↓reduceIte, if_true, if_false] at hK ⊢
              have HS9 := Lib.hid hS
              obtain ⟨qO, qH, c0, c1, c2, c3, c4, c5, c6, c7, c8, c9, c10, c11, c12, c13, c14, c15⟩ := hS
              have e8 := c8 (hN.out.2 8 (by decide +kernel))
              have hy1 : u.cell? ⟨g, b * 3 + 1, none⟩ = some (.int .i64 y1) := by rw [qO.cellAt _ (by omega)]; exact HY1.out
              have hy2 : u.cell? ⟨g, b * 3 + 2, none⟩ = some (.int .i64 y2) := by rw [qO.cellAt _ (by omega)]; exact HY2.out
              clear c0 c1 c2 c3 c4 c5 c6 c7 c8 c9 c10 c11 c12 c13 c14 c15
              go_simp
              obtain ⟨qO, qH, c0, c1, c2, c3, c4, c5, c6, c7, c8, c9, c10, c11, c12, c13, c14, c15⟩ := HS9.out
              exact hK.out _ _ ⟨qO, qH, fun h => c0 (h.resolve_right (by decide)), fun h => c1 (h.resolve_right (by decide)), fun h => c2 (h.resolve_right (by decide)), fun h => c3 (h.resolve_right (by decide)), fun h => c4 (h.resolve_right (by decide)), fun h => c5 (h.resolve_right (by decide)), fun h => c6 (h.resolve_right (by decide)), fun h => c7 (h.resolve_right (by decide)), fun h => c8 (h.resolve_right (by decide)), fun _ => rfl, fun h => c10 (h.resolve_right (by decide)), fun h => c11 (h.resolve_right (by decide)), fun h => c12 (h.resolve_right (by decide)), fun h => c13 (h.resolve_right (by decide)), fun h => c14 (h.resolve_right (by decide)), fun h => c15 (h.resolve_right (by decide))⟩ _ (by simp only [e8])
            apply RelH.op2
            · intro L f u K hN hS hK
              simp only [puts, Act.put, List.setIfInBounds_toArray, List.set_cons_zero, List.set_cons_succ, upd, Nat.reduceEqDiff, ↓reduceIte, if_true, if_false] at hK ⊢
              have HS9 := Lib.hid hS
              obtain ⟨qO, qH, c0, c1, c2, c3, c4, c5, c6, c7, c8, c9, c10, c11, c12, c13, c14, c15⟩ := hS
              have e4 := c4 (hN.out.2 4 (by decide +kernel))
              have e9 := c9 (hN.out.2 9 (by decide +kernel))
              have HCON := Lib.hid (IBrine2.strong_impl x1 x2 y1 y2 u)
              clear c0 c1 c2 c3 c4 c5 c6 c7 c8 c9 c10 c11 c12 c13 c14 c15
              go_simp
              go_at_call 41
              (with_reducible refine HCON.out.mono ?_)
              rintro e uw1 ⟨rfl, hv⟩
              rw [HST.out]
              go_wp2_with fail
              obtain ⟨qO, qH, c0, c1, c2, c3, c4, c5, c6, c7, c8, c9, c10, c11, c12, c13, c14, c15⟩ := HS9.out
              exact hK.out _ _ ⟨own_keep qO hv, be qH hv, fun h => c0 (h.resolve_right (by decide)), fun h => c1 (h.resolve_right (by decide)), fun h => c2 (h.resolve_right (by decide)), fun h => c3 (h.resolve_right (by decide)), fun h => c4 (h.resolve_right (by decide)), fun h => c5 (h.resolve_right (by decide)), fun h => c6 (h.resolve_right (by decide)), fun h => c7 (h.resolve_right (by decide)), fun h => c8 (h.resolve_right (by decide)), fun h => c9 (h.resolve_right (by decide)), fun _ => rfl, fun h => c11 (h.resolve_right (by decide)), fun h => c12 (h.resolve_right (by decide)), fun h => c13 (h.resolve_right (by decide)), fun h => c14 (h.resolve_right (by decide)), fun h => c15 (h.resolve_right (by decide))⟩ _ (by simp only [e4, e9])
            apply RelH.op2
            · intro L f u K hN hS hK
              simp only [puts, Act.put, List.setIfInBounds_toArray, List.set_cons_zero, List.set_cons_succ, upd, Nat.reduceEqDiff, ↓reduceIte, if_true, if_false] at hK ⊢
              have HS9 := Lib.hid hS
              obtain ⟨qO, qH, c0, c1, c2, c3, c4, c5, c6, c7, c8, c9, c10, c11, c12, c13, c14, c15⟩ := hS
              have e10 := c10 (hN.out.2 10 (by decide +kernel))
              clear c0 c1 c2 c3 c4 c5 c6 c7 c8 c9 c10 c11 c12 c13 c14 c15
              go_simp
              obtain ⟨qO, qH, c0, c1, c2, c3, c4, c5, c6, c7, c8, c9, c10, c11, c12, c13, c14, c15⟩ := HS9.out
              exact hK.out _ _ ⟨qO, qH, fun h => c0 (h.resolve_right (by decide)), fun h => c1 (h.resolve_right (by decide)), fun h => c2 (h.resolve_right (by decide)), fun h => c3 (h.resolve_right (by decide)), fun h => c4 (h.resolve_right (by decide)), fun h => c5 (h.resolve_right (by decide)), fun h => c6 (h.resolve_right (by decide)), fun h => c7 (h.resolve_right (by decide)), fun h => c8 (h.resolve_right (by decide)), fun h => c9 (h.resolve_right (by decide)), fun h => c10 (h.resolve_right (by decide)), fun _ => rfl, fun h => c12 (h.resolve_right (by decide)), fun h => c13 (h.resolve_right (by decide)), fun h => c14 (h.resolve_right (by decide)), fun h => c15 (h.resolve_right (by decide))⟩ _ (by simp only [e10])
            apply RelH.op2
            · intro L f u K hN hS hK
              simp only [puts, Act.put, List.setIfInBounds_toArray, List.set_cons_zero, List.set_cons_succ, upd, Nat.reduceEqDiff, ↓reduceIte, if_true, if_false] at hK ⊢
              have HS9 := Lib.hid hS
              obtain ⟨qO, qH, c0, c1, c2, c3, c4, c5, c6, c7, c8, c9, c10, c11, c12, c13, c14, c15⟩ := hS
              have e11 := c11 (hN.out.2 11 (by decide +kernel))
              clear c0 c1 c2 c3 c4 c5 c6 c7 c8 c9 c10 c11 c12 c13 c14 c15
              go_simp
              obtain ⟨qO, qH, c0, c1, c2, c3, c4, c5, c6, c7, c8, c9, c10, c11, c12, c13, c14, c15⟩ := HS9.out
              exact hK.out _ _ ⟨qO, qH, fun h => c0 (h.resolve_right (by decide)), fun h => c1 (h.resolve_right (by decide)), fun h => c2 (h.resolve_right (by decide)), fun h => c3 (h.resolve_right (by decide)), fun h => c4 (h.resolve_right (by decide)), fun h => c5 (h.resolve_right (by decide)), fun h => c6 (h.resolve_right (by decide)), fun h => c7 (h.resolve_right (by decide)), fun h => c8 (h.resolve_right (by decide)), fun h => c9 (h.resolve_right (by decide)), fun h => c10 (h.resolve_right (by decide)), fun h => c11 (h.resolve_right (by decide)), fun _ => rfl, fun h => c13 (h.resolve_right (by decide)), fun h => c14 (h.resolve_right (by decide)), fun h => c15 (h.resolve_right (by decide))⟩ _ (by simp only [e11])
            apply RelH.op2
            · intro L f u K hN hS hK
              simp only [puts, Act.put, List.setIfInBounds_toArray, List.set_cons_zero, List.set_cons_succ, upd, Nat.reduceEqDiff, ↓reduceIte, if_true, if_false] at hK ⊢
              have HS9 := Lib.hid hS
              obtain ⟨qO, qH, c0, c1, c2, c3, c4, c5, c6, c7, c8, c9, c10, c11, c12, c13, c14, c15⟩ := hS
              have e11 := c11 (hN.out.2 11 (by decide +kernel))
              clear c0 c1 c2 c3 c4 c5 c6 c7 c8 c9 c10 c11 c12 c13 c14 c15
              go_simp
              obtain ⟨qO, qH, c0, c1, c2, c3, c4, c5, c6, c7, c8, c9, c10, c11, c12, c13, c14, c15⟩ := HS9.out
              exact hK.out _ _ ⟨qO, qH, fun h => c0 (h.resolve_right (by decide)), fun h => c1 (h.resolve_right (by decide)), fun h => c2 (h.resolve_right (by decide)), fun h => c3 (h.resolve_right (by decide)), fun h => c4 (h.resolve_right (by decide)), fun h => c5 (h.resolve_right (by decide)), fun h => c6 (h.resolve_right (by decide)), fun h => c7 (h.resolve_right (by decide)), fun h => c8 (h.resolve_right (by decide)), fun h => c9 (h.resolve_right (by decide)), fun h => c10 (h.resolve_right (by decide)), fun h => c11 (h.resolve_right (by decide)), fun h => c12 (h.resolve_right (by decide)), fun _ => rfl, fun h => c14 (h.resolve_right (by decide)), fun h => c15 (h.resolve_right (by decide))⟩ _ (by simp only [e11])
            apply RelH.op2
            · intro L f u K hN hS hK
              simp only [puts, Act.put, List.setIfInBounds_toArray, List.set_cons_zero, List.set_cons_succ, upd, Nat.reduceEqDiff, ↓reduceIte, if_true, if_false] at hK ⊢
              have HS9 := Lib.hid hS
              obtain ⟨qO, qH, c0, c1, c2, c3, c4, c5, c6, c7, c8, c9, c10, c11, c12, c13, c14, c15⟩ := hS
              have e12 := c12 (hN.out.2 12 (by decide +kernel))
              clear c0 c1 c2 c3 c4 c5 c6 c7 c8 c9 c10 c11 c12 c13 c14 c15
              go_simp
              obtain ⟨qO, qH, c0, c1, c2, c3, c4, c5, c6, c7, c8, c9, c10, c11, c12, c13, c14, c15⟩ := HS9.out
              exact hK.out _ _ ⟨qO, qH, fun h => c0 (h.resolve_right (by decide)), fun h => c1 (h.resolve_right (by decide)), fun h => c2 (h.resolve_right (by decide)), fun h => c3 (h.resolve_right (by decide)), fun h => c4 (h.resolve_right (by decide)), fun h => c5 (h.resolve_right (by decide)), fun h => c6 (h.resolve_right (by decide)), fun h => c7 (h.resolve_right (by decide)), fun h => c8 (h.resolve_right (by decide)), fun h => c9 (h.resolve_right (by decide)), fun h => c10 (h.resolve_right (by decide)), fun h => c11 (h.resolve_right (by decide)), fun h => c12 (h.resolve_right (by decide)), fun h => c13 (h.resolve_right (by decide)), fun _ => rfl, fun h => c15 (h.resolve_right (by decide))⟩ _ (by simp only [e12])
            apply RelH.op2
            · intro L f u K hN hS hK
              simp only [puts, Act.put, List.setIfInBounds_toArray, List.set_cons_zero, List.set_cons_succ, upd, Nat.reduceEqDiff, ↓reduceIte, if_true, if_false] at hK ⊢
              have HS9 := Lib.hid hS
              obtain ⟨qO, qH, c0, c1, c2, c3, c4, c5, c6, c7, c8, c9, c10, c11, c12, c13, c14, c15⟩ := hS
              have e13 := c13 (hN.out.2 13 (by decide +kernel))
              clear c0 c1 c2 c3 c4 c5 c6 c7 c8 c9 c10 c11 c12 c13 c14 c15
              go_simp
              obtain ⟨qO, qH, c0, c1, c2, c3, c4, c5, c6, c7, c8, c9, c10, c11, c12, c13, c14, c15⟩ := HS9.out
              exact hK.out _ _ ⟨qO, qH, fun h => c0 (h.resolve_right (by decide)), fun h => c1 (h.resolve_right (by decide)), fun h => c2 (h.resolve_right (by decide)), fun h => c3 (h.resolve_right (by decide)), fun h => c4 (h.resolve_right (by decide)), fun h => c5 (h.resolve_right (by decide)), fun h => c6 (h.resolve_right (by decide)), fun h => c7 (h.resolve_right (by decide)), fun h => c8 (h.resolve_right (by decide)), fun h => c9 (h.resolve_right (by decide)), fun h => c10 (h.resolve_right (by decide)), fun h => c11 (h.resolve_right (by decide)), fun h => c12 (h.resolve_right (by decide)), fun h => c13 (h.resolve_right (by decide)), fun h => c14 (h.resolve_right (by decide)), fun _ => rfl⟩ _ (by simp only [e13])
            exact RelH.done
          intro L f V0 hL hS
          simp only [puts, Act.put, List.setIfInBounds_toArray, List.set_cons_zero, List.set_cons_succ]
          obtain ⟨qO, qH, c0, c1, c2, c3, c4, c5, c6, c7, c8, c9, c10, c11, c12, c13, c14, c15⟩ := hS
          have O' := qO
          have HB' := qH
          have e14 := c14 (hL 14 (by decide)); have e15 := c15 (hL 15 (by decide))
          simp only [e14, e15]
          clear e14 e15 c0 c1 c2 c3 c4 c5 c6 c7 c8 c9 c10 c11 c12 c13 c14 c15 hL qO qH O HB
          cases s2
          · go_wp2
            go_roundw
            case rel => exact ⟨k + 1, hlt, by go_num, O', HB'⟩
            case measure => simp [intOf]; omega
          · rw [Bool.true_and] at hno
            subst hno
            go_wp2
            go_roundw
            case rel => exact ⟨k + 1, hlt, by go_num, O', HB'⟩
            case measure => simp [intOf]; omega
        · have hd1 : decide ((k : Int) < M.length) = false := decide_eq_false (by omega)
          go_wp2_with fail
          go_meet
          case rel => exact HB
    case rest => as_aux_lemma =>
      go_wp2_with fail
      refine (DSer2.drawRise A cap zs wc (HC.out.below hcut)).mono ?_
      rintro e w2 ⟨L, g, c, hl, rfl, O, hB⟩
      have HB := be hcut hB
      replace O := own_base O (base' := w.heap.size) hcut.size
      clear hB hcut
      obtain ⟨x, q, hv⟩ := rise_form L
      have HV := Lib.hid hv; clear hv
      have hcp := own_cap O
      go_wp2_with fail
      refine (SerR.rise_impl _ c L _ (Rd.of_own O) hcp (by omega)).mono ?_
      rintro e v1 ⟨rfl, hv1⟩
      replace O := own_keep O hv1
      replace HB := be HB hv1
      have zhv1 := hv1.size
      rw [HV.out]
      go_wp2_with fail
      refine (SerR.rise_spec _ c L _ (Rd.of_own O) (by omega)).mono ?_
      rintro e v2 ⟨rfl, hv2⟩
      replace O := own_keep O hv2
      replace HB := be HB hv2
      have zhv2 := hv2.size
      rw [HV.out]
      go_wp2_with fail
      refine (DSer2.drawDepth A cap zs _ (HC.out.below HB)).mono ?_
      rintro e v3 ⟨L2, g2, c2, hl2, rfl, O2, hv3⟩
      replace O := own_keep O hv3
      replace HB := be HB hv3
      have zhv3 := hv3.size
      clear O
      have hcp2 := own_cap O2
      have hs := fun P cap w hr => SerD.dep_spec P cap L2 w hr (by omega)
      have hi := fun P cap w hr hc => SerD2.dep_impl P cap L2 w hr hc (by omega)
      have hm : (SerD.depL L2).length ≤ 100 := SerD.dep_len L2
      unfold SerD.DepPost at hs hi
      generalize SerD.depL L2 = M at hs hi hm
      generalize good L2 = q2 at hs hi
      have HSP := Lib.hid hs; clear hs
      have HIM := Lib.hid hi; clear hi
      have hb1 := HB.size
      go_wp2_with fail
      refine (HIM.out _ _ _ (Rd.of_own O2) hcp2).mono ?_
      rintro e v4 ⟨A1, k1, rfl, O1, hv4⟩
      replace HB := be HB hv4
      replace O2 := own_keep O2 hv4
      have zhv4 := hv4.size
      replace O1 := own_base O1 (base' := w.heap.size) hb1
      have hb2 := HB.size
      go_wp2_with fail
      refine (HSP.out _ _ _ (Rd.of_own O2)).mono ?_
      rintro e v5 ⟨A0, k0, rfl, O0, hv5⟩
      replace HB := be HB hv5
      replace O2 := own_keep O2 hv5
      replace O1 := own_keep O1 hv5
      have zhv5 := hv5.size
      replace O0 := own_base O0 (base' := w.heap.size) hb2
      go_wp2_with fail
      refine (vints_same A1 A0 k1 k0 M _ (Rd.of_own O1) (Rd.of_own O0) (by omega)).mono ?_
      rintro e v6 ⟨rfl, hd⟩
      go_wp2
      go_ret
      exact ⟨rfl, be HB (hd.below _)⟩
end Go.Proofs.Ytciohcipmkhneaa.BasLaw
