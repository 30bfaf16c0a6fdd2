/- Series: FillFirst. Made by tools/mk_serf.py. -/
import Derived.Test.YtciohcipmkhneaaSerP
namespace Go.Proofs.Ytciohcipmkhneaa.SerF
open Go.RowKit Go.Proofs.Ytciohcipmkhneaa.Mem Go.Proofs.Ytciohcipmkhneaa.Base Go.Proofs.Ytciohcipmkhneaa.Within Go.Proofs.Ytciohcipmkhneaa.Brine Go.Proofs.Ytciohcipmkhneaa.Regn Go.Proofs.Ytciohcipmkhneaa.Boxes Go.Proofs.Ytciohcipmkhneaa.Keep Go.Proofs.Ytciohcipmkhneaa.Ser Go.Proofs.Ytciohcipmkhneaa.SerG Go.Proofs.Ytciohcipmkhneaa.SerC Go.Proofs.Ytciohcipmkhneaa.SerQ Go.Proofs.Ytciohcipmkhneaa.SerP
open Go.Proofs.Ytciohcipmkhneaa.SBasin hiding RPost rpost
set_option linter.unusedVariables false
set_option linter.unusedSimpArgs false
set_option maxRecDepth 100000
set_option maxHeartbeats 1600000 in
theorem fill_spec (P : Option Addr) (cap : Nat) (l : List R) (p q : Int) (w : World) (hr : Rd w w.heap.size P (flat l)) (hn : l.length ≤ 1048576) :
    Calls Try.prog 32 #[.slice P l.length cap, .agg #[.int .i64 p, .int .i64 q]] w (Row1 (fillL l p q) (fillOk l p q) w) := by
  have HR := Lib.hid hr; clear hr
  go_enter Try.func32, Try.ntmps32
  go_wp2_with fail
  have N := Box.new (Below.refl _ w) [.int .i64 p, .int .i64 q] 26 (g := w.heap.size) rfl
  generalize (w.alloc (.cells #[.int .i64 p, .int .i64 q] 26)) = W1 at N ⊢
  have N_0 := N.cells 0 _ rfl
  have N_1 := N.cells 1 _ rfl
  have N_f0 := N.free 0 (by simp)
  have N_f1 := N.free 1 (by simp)
  have N_t := N.there
  go_wp2_with fail
  refine (good_spec P cap l _ (rd_keep HR.out N.below) hn).mono ?_
  rintro e v2 ⟨rfl, hv2⟩
  clear N_0 N_1 N_f0 N_f1 N_t
  replace N := N.more hv2
  have zhv2 := hv2.size
  clear hv2
  have N_0 := N.cells 0 _ rfl
  have N_1 := N.cells 1 _ rfl
  have N_f0 := N.free 0 (by simp)
  have N_f1 := N.free 1 (by simp)
  have N_t := N.there
  cases hg : good l
  · have HV := Lib.hid (fill1 (p := p) (q := q) hg)
    have O := empty_own N.below
    go_wp2
    go_ret2
    exact row1 (M := []) (fillL_no HV.out) HV.out rfl O (al N.below)
  have HG := Lib.hid hg; clear hg
  go_wp2_with fail
  refine (brine_spec p q _).mono ?_
  rintro e v3 ⟨rfl, hv3⟩
  clear N_0 N_1 N_f0 N_f1 N_t
  replace N := N.more hv3
  have zhv3 := hv3.size
  clear hv3
  have N_0 := N.cells 0 _ rfl
  have N_1 := N.cells 1 _ rfl
  have N_f0 := N.free 0 (by simp)
  have N_f1 := N.free 1 (by simp)
  have N_t := N.there
  cases hp : okB p q
  · have HV := Lib.hid (fill2 (l := l) hp)
    have O := empty_own N.below
    go_wp2
    go_ret2
    exact row1 (M := []) (fillL_no HV.out) HV.out rfl O (al N.below)
  have HP := Lib.hid hp
  obtain ⟨p0, p1, q0, q1⟩ := okB_true hp
  obtain ⟨g1, g8, _⟩ := good_all HG.out
  obtain ⟨x, hx⟩ : ∃ x, l[0] = x := ⟨_, rfl⟩
  obtain ⟨_, _, hu0, hu1, hv0, hv1⟩ := okA_true (good_get HG.out g1 hx)
  have HX := Lib.hid hx
  clear hp hx
  have hN8 := N.below.size
  have hN9 := N.there
  go_wp2_with fail
  refine (own_spec P cap l _ (rd_keep HR.out N.below) g1 hn).mono ?_
  rintro e v4 ⟨g, c, rfl, O, hv4⟩
  clear N_0 N_1 N_f0 N_f1 N_t
  replace N := N.more hv4
  have zhv4 := hv4.size
  clear hv4
  have N_0 := N.cells 0 _ rfl
  have N_1 := N.cells 1 _ rfl
  have N_f0 := N.free 0 (by simp)
  have N_f1 := N.free 1 (by simp)
  have N_t := N.there
  have hgu := O.ge
  have hng : g ≠ w.heap.size := by omega
  replace O := O.base hN8
  have hgw := O.ge
  obtain ⟨c0, c1, c2⟩ := O.cells g1 HX.out
  simp only [Nat.zero_mul, Nat.zero_add] at c0 c1 c2
  have y1 : (0 : Int) < l.length := by omega
  have y2 : 0 < l.length := by omega
  clear c0
  go_wp2_with fail
  refine wp_region_last 9 (fun w' => Box (w.heap.size) [.int .i64 p, .int .i64 q] w w' ∧ Own w' w.heap.size g c l ∧ w'.cell? ⟨g, 1, none⟩ = some (.int .i64 x.f1) ∧ w'.cell? ⟨g, 2, none⟩ = some (.int .i64 x.f2)) (by kernel_rfl) (by kernel_rfl) (by kernel_rfl) ⟨N.drew, Own.keep O (Below.refl _ _).drew, cell_kept c1 (Below.refl _ _).drew, cell_kept c2 (Below.refl _ _).drew⟩ ?_
  clear N_0 N_1 N_f0 N_f1 N_t
  simp only [List.take_succ_cons, List.take_zero]
  iterate 9 (
    apply SeqH.one
    · intro uw K hS hK
      obtain ⟨qN, qO, qc1, qc2⟩ := hS
      have qN_0 := qN.cells 0 _ rfl
      have qN_1 := qN.cells 1 _ rfl
      first
        | (go_simp; exact hK.out _ ⟨qN, qO, qc1, qc2⟩)
        | (go_simp; go_at_call 94; (with_reducible refine (Mix.sum_spec x.f1 x.f2 p q hu0 (by omega) hv0 (by omega) p0 (by omega) q0 (by omega) _).mono ?_); rintro e uw1 ⟨rfl, hv⟩; unfold br; go_wp2_with fail; exact hK.out _ ⟨qN.more hv, Own.keep qO hv, cell_kept qc1 hv, cell_kept qc2 hv⟩)
    try simp only [Act.put, List.setIfInBounds_toArray, List.set_cons_zero, List.set_cons_succ])
  refine SeqH.rest rfl ?_
  intro v5 hS
  clear N O c1 c2
  obtain ⟨N, O, c1, c2⟩ := hS
  simp only [List.drop_succ_cons, List.drop_zero]
  have N_0 := N.cells 0 _ rfl
  have N_1 := N.cells 1 _ rfl
  have N_f0 := N.free 0 (by simp)
  have N_f1 := N.free 1 (by simp)
  have N_t := N.there
  have f1 := O.free 1
  have f2 := O.free 2
  have O2 := O.put g1 HX.out (x.f1 + p) (x.f2 + q)
  simp only [Nat.zero_mul, Nat.zero_add] at O2
  have HB2 := Lib.hid (below_put N.below hgw (i := 1) (v0 := .int .i64 (x.f1 + p)) (v1 := .int .i64 (x.f2 + q)))
  have HO2 := Lib.hid O2
  clear O O2
  go_upto_region 5 with fail
  clear N_0 N_1 N_f0 N_f1 N_t
  clear c1 c2 f1 f2 N
  generalize ((v5.setCell ⟨g, 1, none⟩ (.int .i64 (x.f1 + p))).setCell ⟨g, 2, none⟩ (.int .i64 (x.f2 + q))) = W9 at HO2 HB2 ⊢
  obtain ⟨M, hM⟩ : ∃ M, l.set 0 ⟨x.f0, x.f1 + p, x.f2 + q⟩ = M := ⟨_, rfl⟩
  have HSG := Lib.hid (set_good (a := x.f1 + p) (b := x.f2 + q) HG.out g1 HX.out)
  have HML := Lib.hid (show M.length = l.length by rw [← hM, List.length_set])
  rw [hM] at HO2 HSG
  have HM := Lib.hid hM; clear hM
  have HGS := Lib.hid (show Calls Try.prog 79 #[.slice (some ⟨g, 0, none⟩) l.length c] W9 (RPost (.bool (okB (x.f1 + p) (x.f2 + q))) W9) by
    have h := good_spec (some ⟨g, 0, none⟩) c M W9 HO2.out.rd (by rw [HML.out]; omega)
    rw [HML.out, HSG.out] at h; exact h)
  go_wp2_with fail
  refine HGS.out.mono ?_
  rintro e w5 ⟨rfl, HV⟩
  have O3 := HO2.out.keep HV
  have HB3 := be HB2.out HV
  clear HV HO2 HB2
  cases ho : okB (x.f1 + p) (x.f2 + q)
  · have HV := Lib.hid (fill3 g1 HX.out ho)
    have O := empty_own HB3
    clear O3
    go_wp2
    go_ret2
    exact row1 (M := []) (fillL_no HV.out) HV.out rfl O (al HB3)
  · have HV := Lib.hid (fill4 g1 HX.out HG.out HP.out ho)
    have HL := Lib.hid ((fillL_yes g1 HX.out HV.out).trans HM.out)
    go_wp2
    go_ret2
    exact row1 HL.out HV.out (by rw [HML.out] <;> rfl) O3 HB3
theorem mix_form (l : List SBrine.R) : ∃ x y q, Mix.mixV l = .tuple #[br x y, .bool q] := by
  unfold Mix.mixV; split <;> exact ⟨_, _, _, rfl⟩
theorem mix_pair {a b c d x y : Int} {r : Bool} (h1 : okB a b = true) (h : Mix.mixV [⟨a, b⟩, ⟨c, d⟩] = .tuple #[br x y, .bool r]) : r = (okB c d && okB (a + c) (b + d)) ∧ (r = true → x = a + c ∧ y = b + d) := by
  have e : Mix.mixOk [⟨a, b⟩, ⟨c, d⟩] = (okB c d && okB (a + c) (b + d)) := by
    unfold Mix.mixOk Mix.sw Mix.ss
    simp [Mix.okr, h1]
  unfold Mix.mixV at h
  rw [e] at h
  cases hc : okB c d && okB (a + c) (b + d)
  · rw [hc] at h
    simp only [Bool.false_eq_true, if_false] at h
    injection h with h; simp at h
    refine ⟨h.2, fun hr => ?_⟩
    rw [hr] at h; exact absurd h.2 (by simp)
  · rw [hc] at h
    simp only [if_true] at h
    unfold br at h
    injection h with h; simp [Mix.sw, Mix.ss] at h
    exact ⟨h.2, fun _ => ⟨h.1.1.symm, h.1.2.symm⟩⟩
set_option maxHeartbeats 3200000 in
theorem fill_impl (P : Option Addr) (cap : Nat) (l : List R) (p q : Int) (w : World) (hr : Rd w w.heap.size P (flat l)) (hcp : l.length ≤ cap) (hn : l.length ≤ 1048576) :
    Calls Try.prog 31 #[.slice P l.length cap, .agg #[.int .i64 p, .int .i64 q]] w (Row1 (fillL l p q) (fillOk l p q) w) := by
  have HR := Lib.hid hr; clear hr
  go_enter Try.func31, Try.ntmps31
  go_wp2_with fail
  have N := Box.new (Below.refl _ w) [.int .i64 p, .int .i64 q] 26 (g := w.heap.size) rfl
  generalize (w.alloc (.cells #[.int .i64 p, .int .i64 q] 26)) = W1 at N ⊢
  have N_0 := N.cells 0 _ rfl
  have N_1 := N.cells 1 _ rfl
  have N_f0 := N.free 0 (by simp)
  have N_f1 := N.free 1 (by simp)
  have N_t := N.there
  go_wp2_with fail
  refine (good_impl P cap l _ (rd_keep HR.out N.below) hn).mono ?_
  rintro e v2 ⟨rfl, hv2⟩
  clear N_0 N_1 N_f0 N_f1 N_t
  replace N := N.more hv2
  have zhv2 := hv2.size
  clear hv2
  have N_0 := N.cells 0 _ rfl
  have N_1 := N.cells 1 _ rfl
  have N_f0 := N.free 0 (by simp)
  have N_f1 := N.free 1 (by simp)
  have N_t := N.there
  cases hg : good l
  · have HV := Lib.hid (fill1 (p := p) (q := q) hg)
    have O := empty_own N.below
    go_wp2
    go_ret2
    exact row1 (M := []) (fillL_no HV.out) HV.out rfl O (al N.below)
  have HG := Lib.hid hg; clear hg
  obtain ⟨g1, g8, _⟩ := good_all HG.out
  obtain ⟨x, hx⟩ : ∃ x, l[0] = x := ⟨_, rfl⟩
  have hoa := good_get HG.out g1 hx
  have HX := Lib.hid hx
  obtain ⟨b, o, hP, hb, hcc⟩ := HR.out.at (k := 0) (by rw [flat_n]; omega)
  subst hP
  obtain ⟨h0, h1, h2⟩ := cells3 (Below.refl _ _) hb hcc g1 hx
  simp only [Nat.zero_mul, Nat.add_zero] at h0 h1 h2
  obtain ⟨m1, m2, bb, hmx⟩ := mix_form [⟨x.f1, x.f2⟩, ⟨p, q⟩]
  have HMP := Lib.hid (mix_pair (okA_brine hoa) hmx)
  have HMI := Lib.hid (fun s u0 (hr0 : Rd u0 u0.heap.size (some ⟨s, 0, none⟩) [.int .i64 x.f1, .int .i64 x.f2, .int .i64 p, .int .i64 q]) => show Calls Try.prog 84 #[.slice (some ⟨s, 0, none⟩) 2 2] u0 (RPost (.tuple #[.agg #[.int .i64 m1, .int .i64 m2], .bool bb]) u0) from by
    have h := Mix.mix_impl (some ⟨s, 0, none⟩) 2 [⟨x.f1, x.f2⟩, ⟨p, q⟩] u0 hr0 (by simp)
    rw [hmx] at h; exact h)
  have y1 : (0 : Int) < l.length := by omega
  have y2 : 0 < l.length := by omega
  clear hx hoa hmx hcc h0
  go_wp2_with fail
  clear N_0 N_1 N_f0 N_f1 N_t
  have TN := N.there
  obtain ⟨Z, hZ0⟩ : ∃ z, (v2).heap.size = z := ⟨_, rfl⟩
  rw [hZ0] at TN
  have hZ : Z ≤ (v2).heap.size := by rw [hZ0]; exact Nat.le_refl _
  clear hZ0
  refine wp_region_rel [14, 15, 16, 17, 18, 19, 20, 13, 21, 22, 6, 7] (fun L f w' => (Box w.heap.size [.int .i64 p, .int .i64 q] w w') ∧ (Z ≤ w'.heap.size) ∧ (L 0 → f 14 = .slice (some ⟨b, o, none⟩) l.length cap) ∧ (L 1 → f 15 = .pointer (some ⟨b, o, none⟩)) ∧ (L 2 → f 16 = .pointer (some ⟨b, o + 1, none⟩)) ∧ (L 3 → f 17 = .agg #[.int .i64 x.f1, .int .i64 x.f2]) ∧ (L 4 → f 18 = .agg #[.int .i64 p, .int .i64 q]) ∧ (L 5 → ¬ L 6 → ∃ s, f 19 = .slice (some ⟨s, 0, none⟩) 2 2 ∧ Box s [.int .i64 x.f1, .int .i64 x.f2, .int .i64 p, .int .i64 q] w w') ∧ (L 6 → f 20 = .tuple #[.agg #[.int .i64 m1, .int .i64 m2], .bool bb]) ∧ (L 7 → f 13 = .tuple #[.agg #[.int .i64 m1, .int .i64 m2], .bool bb]) ∧ (L 8 → f 21 = .agg #[.int .i64 m1, .int .i64 m2]) ∧ (L 9 → f 22 = .bool bb) ∧ (L 10 → ¬ L 11 → ∃ a, f 6 = .pointer (some ⟨a, 0, none⟩) ∧ Z ≤ a ∧ Box a [.int .i64 0, .int .i64 0] w w') ∧ (L 11 → ∃ a, f 6 = .pointer (some ⟨a, 0, none⟩) ∧ Z ≤ a ∧ Box a [.int .i64 m1, .int .i64 m2] w w') ∧ (L 12 → f 7 = .bool bb)) (by kernel_rfl) (by kernel_rfl) (by kernel_rfl) (fun f => ⟨N.drew, hZ, fun h => h.elim, fun h => h.elim, fun h => h.elim, fun h => h.elim, fun h => h.elim, fun h => h.elim, fun h => h.elim, fun h => h.elim, fun h => h.elim, fun h => h.elim, fun h => h.elim, fun h => h.elim, fun h => h.elim⟩) ?_ ?_
  · apply RelH.op2
    · intro L f u K hN hS hK
      simp only [puts, Act.put, List.setIfInBounds_toArray, List.set_cons_zero, List.set_cons_succ, upd, Nat.reduceEqDiff, ↓reduceIte, if_true, if_false] at hK ⊢
      have HS9 := Lib.hid hS
      obtain ⟨qN, qZ, c0, c1, c2, c3, c4, c5, c6, c7, c8, c9, c10, c11, c12⟩ := hS
      clear c0 c1 c2 c3 c4 c5 c6 c7 c8 c9 c10 c11 c12
      go_simp
      obtain ⟨qN, qZ, c0, c1, c2, c3, c4, c5, c6, c7, c8, c9, c10, c11, c12⟩ := HS9.out
      exact hK.out _ _ ⟨qN, qZ, fun _ => rfl, fun h => c1 (h.resolve_right (by decide)), fun h => c2 (h.resolve_right (by decide)), fun h => c3 (h.resolve_right (by decide)), fun h => c4 (h.resolve_right (by decide)), fun h t0 => c5 (h.resolve_right (by decide)) (fun z => t0 (.inl z)), fun h => c6 (h.resolve_right (by decide)), fun h => c7 (h.resolve_right (by decide)), fun h => c8 (h.resolve_right (by decide)), fun h => c9 (h.resolve_right (by decide)), fun h t0 => c10 (h.resolve_right (by decide)) (fun z => t0 (.inl z)), fun h => c11 (h.resolve_right (by decide)), fun h => c12 (h.resolve_right (by decide))⟩ _ rfl
    apply RelH.op2
    · intro L f u K hN hS hK
      simp only [puts, Act.put, List.setIfInBounds_toArray, List.set_cons_zero, List.set_cons_succ, upd, Nat.reduceEqDiff, ↓reduceIte, if_true, if_false] at hK ⊢
      have HS9 := Lib.hid hS
      obtain ⟨qN, qZ, c0, c1, c2, c3, c4, c5, c6, c7, c8, c9, c10, c11, c12⟩ := hS
      have e0 := c0 (hN.out.2 0 (by decide +kernel))
      clear c0 c1 c2 c3 c4 c5 c6 c7 c8 c9 c10 c11 c12
      go_simp
      obtain ⟨qN, qZ, c0, c1, c2, c3, c4, c5, c6, c7, c8, c9, c10, c11, c12⟩ := HS9.out
      exact hK.out _ _ ⟨qN, qZ, fun h => c0 (h.resolve_right (by decide)), fun _ => rfl, fun h => c2 (h.resolve_right (by decide)), fun h => c3 (h.resolve_right (by decide)), fun h => c4 (h.resolve_right (by decide)), fun h t0 => c5 (h.resolve_right (by decide)) (fun z => t0 (.inl z)), fun h => c6 (h.resolve_right (by decide)), fun h => c7 (h.resolve_right (by decide)), fun h => c8 (h.resolve_right (by decide)), fun h => c9 (h.resolve_right (by decide)), fun h t0 => c10 (h.resolve_right (by decide)) (fun z => t0 (.inl z)), fun h => c11 (h.resolve_right (by decide)), fun h => c12 (h.resolve_right (by decide))⟩ _ (by simp only [e0])
    apply RelH.op2
    · intro L f u K hN hS hK
      simp only [puts, Act.put, List.setIfInBounds_toArray, List.set_cons_zero, List.set_cons_succ, upd, Nat.reduceEqDiff, ↓reduceIte, if_true, if_false] at hK ⊢
      have HS9 := Lib.hid hS
      obtain ⟨qN, qZ, c0, c1, c2, c3, c4, c5, c6, c7, c8, c9, c10, c11, c12⟩ := hS
      have e1 := c1 (hN.out.2 1 (by decide +kernel))
      clear c0 c1 c2 c3 c4 c5 c6 c7 c8 c9 c10 c11 c12
      go_simp
      obtain ⟨qN, qZ, c0, c1, c2, c3, c4, c5, c6, c7, c8, c9, c10, c11, c12⟩ := HS9.out
      exact hK.out _ _ ⟨qN, qZ, fun h => c0 (h.resolve_right (by decide)), fun h => c1 (h.resolve_right (by decide)), fun _ => rfl, fun h => c3 (h.resolve_right (by decide)), fun h => c4 (h.resolve_right (by decide)), fun h t0 => c5 (h.resolve_right (by decide)) (fun z => t0 (.inl z)), fun h => c6 (h.resolve_right (by decide)), fun h => c7 (h.resolve_right (by decide)), fun h => c8 (h.resolve_right (by decide)), fun h => c9 (h.resolve_right (by decide)), fun h t0 => c10 (h.resolve_right (by decide)) (fun z => t0 (.inl z)), fun h => c11 (h.resolve_right (by decide)), fun h => c12 (h.resolve_right (by decide))⟩ _ (by simp only [e1])
    apply RelH.op2
    · intro L f u K hN hS hK
      simp only [puts, Act.put, List.setIfInBounds_toArray, List.set_cons_zero, List.set_cons_succ, upd, Nat.reduceEqDiff, ↓reduceIte, if_true, if_false] at hK ⊢
      have HS9 := Lib.hid hS
      obtain ⟨qN, qZ, c0, c1, c2, c3, c4, c5, c6, c7, c8, c9, c10, c11, c12⟩ := hS
      have e2 := c2 (hN.out.2 2 (by decide +kernel))
      have k1 := ((bcell qN.below).1 _ _ hb).trans h1
      have k2 := ((bcell qN.below).1 _ _ hb).trans h2
      clear c0 c1 c2 c3 c4 c5 c6 c7 c8 c9 c10 c11 c12
      go_simp
      obtain ⟨qN, qZ, c0, c1, c2, c3, c4, c5, c6, c7, c8, c9, c10, c11, c12⟩ := HS9.out
      exact hK.out _ _ ⟨qN, qZ, fun h => c0 (h.resolve_right (by decide)), fun h => c1 (h.resolve_right (by decide)), fun h => c2 (h.resolve_right (by decide)), fun _ => rfl, fun h => c4 (h.resolve_right (by decide)), fun h t0 => c5 (h.resolve_right (by decide)) (fun z => t0 (.inl z)), fun h => c6 (h.resolve_right (by decide)), fun h => c7 (h.resolve_right (by decide)), fun h => c8 (h.resolve_right (by decide)), fun h => c9 (h.resolve_right (by decide)), fun h t0 => c10 (h.resolve_right (by decide)) (fun z => t0 (.inl z)), fun h => c11 (h.resolve_right (by decide)), fun h => c12 (h.resolve_right (by decide))⟩ _ (by simp only [e2])
    apply RelH.op2
    · intro L f u K hN hS hK
      simp only [puts, Act.put, List.setIfInBounds_toArray, List.set_cons_zero, List.set_cons_succ, upd, Nat.reduceEqDiff, ↓reduceIte, if_true, if_false] at hK ⊢
      have HS9 := Lib.hid hS
      obtain ⟨qN, qZ, c0, c1, c2, c3, c4, c5, c6, c7, c8, c9, c10, c11, c12⟩ := hS
      have qN_0 := qN.cells 0 _ rfl
      have qN_1 := qN.cells 1 _ rfl
      clear c0 c1 c2 c3 c4 c5 c6 c7 c8 c9 c10 c11 c12
      go_simp
      obtain ⟨qN, qZ, c0, c1, c2, c3, c4, c5, c6, c7, c8, c9, c10, c11, c12⟩ := HS9.out
      exact hK.out _ _ ⟨qN, qZ, fun h => c0 (h.resolve_right (by decide)), fun h => c1 (h.resolve_right (by decide)), fun h => c2 (h.resolve_right (by decide)), fun h => c3 (h.resolve_right (by decide)), fun _ => rfl, fun h t0 => c5 (h.resolve_right (by decide)) (fun z => t0 (.inl z)), fun h => c6 (h.resolve_right (by decide)), fun h => c7 (h.resolve_right (by decide)), fun h => c8 (h.resolve_right (by decide)), fun h => c9 (h.resolve_right (by decide)), fun h t0 => c10 (h.resolve_right (by decide)) (fun z => t0 (.inl z)), fun h => c11 (h.resolve_right (by decide)), fun h => c12 (h.resolve_right (by decide))⟩ _ rfl
    apply RelH.op2
    · intro L f u K hN hS hK
      simp only [puts, Act.put, List.setIfInBounds_toArray, List.set_cons_zero, List.set_cons_succ, upd, Nat.reduceEqDiff, ↓reduceIte, if_true, if_false] at hK ⊢
      have HS9 := Lib.hid hS
      obtain ⟨qN, qZ, c0, c1, c2, c3, c4, c5, c6, c7, c8, c9, c10, c11, c12⟩ := hS
      have e3 := c3 (hN.out.2 3 (by decide +kernel))
      have e4 := c4 (hN.out.2 4 (by decide +kernel))
      have hv : Below u.heap.size u (u.alloc (.cells #[.int .i64 x.f1, .int .i64 x.f2, .int .i64 p, .int .i64 q] 26)) := al (Below.refl _ _)
      have hX := Box.new qN.below [.int .i64 x.f1, .int .i64 x.f2, .int .i64 p, .int .i64 q] 26 (g := u.heap.size) rfl
      clear c0 c1 c2 c3 c4 c5 c6 c7 c8 c9 c10 c11 c12
      go_simp
      obtain ⟨qN, qZ, c0, c1, c2, c3, c4, c5, c6, c7, c8, c9, c10, c11, c12⟩ := HS9.out
      exact hK.out _ _ ⟨qN.more hv, (Nat.le_trans qZ hv.size), fun h => c0 (h.resolve_right (by decide)), fun h => c1 (h.resolve_right (by decide)), fun h => c2 (h.resolve_right (by decide)), fun h => c3 (h.resolve_right (by decide)), fun h => c4 (h.resolve_right (by decide)), fun _ _ => ⟨_, rfl, hX⟩, fun h => absurd (h.resolve_right (by decide)) (hN.out.1 6 (by decide +kernel)), fun h => c7 (h.resolve_right (by decide)), fun h => c8 (h.resolve_right (by decide)), fun h => c9 (h.resolve_right (by decide)), fun h t0 => (let ⟨a, e, z, X⟩ := (c10 (h.resolve_right (by decide)) (fun z => t0 (.inl z))); ⟨a, e, z, X.more hv⟩), fun h => (let ⟨a, e, z, X⟩ := (c11 (h.resolve_right (by decide))); ⟨a, e, z, X.more hv⟩), fun h => c12 (h.resolve_right (by decide))⟩ _ (by simp only [e3, e4])
    apply RelH.op2
    · intro L f u K hN hS hK
      simp only [puts, Act.put, List.setIfInBounds_toArray, List.set_cons_zero, List.set_cons_succ, upd, Nat.reduceEqDiff, ↓reduceIte, if_true, if_false] at hK ⊢
      have HS9 := Lib.hid hS
      obtain ⟨qN, qZ, c0, c1, c2, c3, c4, c5, c6, c7, c8, c9, c10, c11, c12⟩ := hS
      obtain ⟨s, e5, X⟩ := c5 (hN.out.2 5 (by decide +kernel)) (hN.out.1 6 (by decide +kernel))
      have HCON := Lib.hid (HMI.out s u X.rd)
      clear c0 c1 c2 c3 c4 c5 c6 c7 c8 c9 c10 c11 c12
      go_simp
      go_at_call 84
      (with_reducible refine HCON.out.mono ?_)
      rintro e uw1 ⟨rfl, hv⟩
      go_wp2_with fail
      obtain ⟨qN, qZ, c0, c1, c2, c3, c4, c5, c6, c7, c8, c9, c10, c11, c12⟩ := HS9.out
      exact hK.out _ _ ⟨qN.more hv, (Nat.le_trans qZ hv.size), fun h => c0 (h.resolve_right (by decide)), fun h => c1 (h.resolve_right (by decide)), fun h => c2 (h.resolve_right (by decide)), fun h => c3 (h.resolve_right (by decide)), fun h => c4 (h.resolve_right (by decide)), fun h t0 => (t0 (by simp)).elim, fun _ => rfl, fun h => c7 (h.resolve_right (by decide)), fun h => c8 (h.resolve_right (by decide)), fun h => c9 (h.resolve_right (by decide)), fun h t0 => (let ⟨a, e, z, X⟩ := (c10 (h.resolve_right (by decide)) (fun z => t0 (.inl z))); ⟨a, e, z, X.more hv⟩), fun h => (let ⟨a, e, z, X⟩ := (c11 (h.resolve_right (by decide))); ⟨a, e, z, X.more hv⟩), fun h => c12 (h.resolve_right (by decide))⟩ _ (by simp only [e5])
    apply RelH.op2
    · intro L f u K hN hS hK
      simp only [puts, Act.put, List.setIfInBounds_toArray, List.set_cons_zero, List.set_cons_succ, upd, Nat.reduceEqDiff, ↓reduceIte, if_true, if_false] at hK ⊢
      have HS9 := Lib.hid hS
      obtain ⟨qN, qZ, c0, c1, c2, c3, c4, c5, c6, c7, c8, c9, c10, c11, c12⟩ := hS
      have e6 := c6 (hN.out.2 6 (by decide +kernel))
      clear c0 c1 c2 c3 c4 c5 c6 c7 c8 c9 c10 c11 c12
      go_simp
      obtain ⟨qN, qZ, c0, c1, c2, c3, c4, c5, c6, c7, c8, c9, c10, c11, c12⟩ := HS9.out
      exact hK.out _ _ ⟨qN, qZ, fun h => c0 (h.resolve_right (by decide)), fun h => c1 (h.resolve_right (by decide)), fun h => c2 (h.resolve_right (by decide)), fun h => c3 (h.resolve_right (by decide)), fun h => c4 (h.resolve_right (by decide)), fun h t0 => c5 (h.resolve_right (by decide)) (fun z => t0 (.inl z)), fun h => c6 (h.resolve_right (by decide)), fun _ => rfl, fun h => c8 (h.resolve_right (by decide)), fun h => c9 (h.resolve_right (by decide)), fun h t0 => c10 (h.resolve_right (by decide)) (fun z => t0 (.inl z)), fun h => c11 (h.resolve_right (by decide)), fun h => c12 (h.resolve_right (by decide))⟩ _ (by simp only [e6])
    apply RelH.op2
    · intro L f u K hN hS hK
      simp only [puts, Act.put, List.setIfInBounds_toArray, List.set_cons_zero, List.set_cons_succ, upd, Nat.reduceEqDiff, ↓reduceIte, if_true, if_false] at hK ⊢
      have HS9 := Lib.hid hS
      obtain ⟨qN, qZ, c0, c1, c2, c3, c4, c5, c6, c7, c8, c9, c10, c11, c12⟩ := hS
      have e7 := c7 (hN.out.2 7 (by decide +kernel))
      clear c0 c1 c2 c3 c4 c5 c6 c7 c8 c9 c10 c11 c12
      go_simp
      obtain ⟨qN, qZ, c0, c1, c2, c3, c4, c5, c6, c7, c8, c9, c10, c11, c12⟩ := HS9.out
      exact hK.out _ _ ⟨qN, qZ, fun h => c0 (h.resolve_right (by decide)), fun h => c1 (h.resolve_right (by decide)), fun h => c2 (h.resolve_right (by decide)), fun h => c3 (h.resolve_right (by decide)), fun h => c4 (h.resolve_right (by decide)), fun h t0 => c5 (h.resolve_right (by decide)) (fun z => t0 (.inl z)), fun h => c6 (h.resolve_right (by decide)), fun h => c7 (h.resolve_right (by decide)), fun _ => rfl, fun h => c9 (h.resolve_right (by decide)), fun h t0 => c10 (h.resolve_right (by decide)) (fun z => t0 (.inl z)), fun h => c11 (h.resolve_right (by decide)), fun h => c12 (h.resolve_right (by decide))⟩ _ (by simp only [e7])
    apply RelH.op2
    · intro L f u K hN hS hK
      simp only [puts, Act.put, List.setIfInBounds_toArray, List.set_cons_zero, List.set_cons_succ, upd, Nat.reduceEqDiff, ↓reduceIte, if_true, if_false] at hK ⊢
      have HS9 := Lib.hid hS
      obtain ⟨qN, qZ, c0, c1, c2, c3, c4, c5, c6, c7, c8, c9, c10, c11, c12⟩ := hS
      have e7 := c7 (hN.out.2 7 (by decide +kernel))
      clear c0 c1 c2 c3 c4 c5 c6 c7 c8 c9 c10 c11 c12
      go_simp
      obtain ⟨qN, qZ, c0, c1, c2, c3, c4, c5, c6, c7, c8, c9, c10, c11, c12⟩ := HS9.out
      exact hK.out _ _ ⟨qN, qZ, fun h => c0 (h.resolve_right (by decide)), fun h => c1 (h.resolve_right (by decide)), fun h => c2 (h.resolve_right (by decide)), fun h => c3 (h.resolve_right (by decide)), fun h => c4 (h.resolve_right (by decide)), fun h t0 => c5 (h.resolve_right (by decide)) (fun z => t0 (.inl z)), fun h => c6 (h.resolve_right (by decide)), fun h => c7 (h.resolve_right (by decide)), fun h => c8 (h.resolve_right (by decide)), fun _ => rfl, fun h t0 => c10 (h.resolve_right (by decide)) (fun z => t0 (.inl z)), fun h => c11 (h.resolve_right (by decide)), fun h => c12 (h.resolve_right (by decide))⟩ _ (by simp only [e7])
    apply RelH.op2
    · intro L f u K hN hS hK
      simp only [puts, Act.put, List.setIfInBounds_toArray, List.set_cons_zero, List.set_cons_succ, upd, Nat.reduceEqDiff, ↓reduceIte, if_true, if_false] at hK ⊢
      have HS9 := Lib.hid hS
      obtain ⟨qN, qZ, c0, c1, c2, c3, c4, c5, c6, c7, c8, c9, c10, c11, c12⟩ := hS
      have hv : Below u.heap.size u (u.alloc (.cells #[.int .i64 0, .int .i64 0] 26)) := al (Below.refl _ _)
      have hX := Box.new qN.below [.int .i64 0, .int .i64 0] 26 (g := u.heap.size) rfl
      clear c0 c1 c2 c3 c4 c5 c6 c7 c8 c9 c10 c11 c12
      go_simp
      obtain ⟨qN, qZ, c0, c1, c2, c3, c4, c5, c6, c7, c8, c9, c10, c11, c12⟩ := HS9.out
      exact hK.out _ _ ⟨qN.more hv, (Nat.le_trans qZ hv.size), fun h => c0 (h.resolve_right (by decide)), fun h => c1 (h.resolve_right (by decide)), fun h => c2 (h.resolve_right (by decide)), fun h => c3 (h.resolve_right (by decide)), fun h => c4 (h.resolve_right (by decide)), fun h t0 => (let ⟨s, e, X⟩ := (c5 (h.resolve_right (by decide)) (fun z => t0 (.inl z))); ⟨s, e, X.more hv⟩), fun h => c6 (h.resolve_right (by decide)), fun h => c7 (h.resolve_right (by decide)), fun h => c8 (h.resolve_right (by decide)), fun h => c9 (h.resolve_right (by decide)), fun _ _ => ⟨_, rfl, qZ, hX⟩, fun h => absurd (h.resolve_right (by decide)) (hN.out.1 11 (by decide +kernel)), fun h => c12 (h.resolve_right (by decide))⟩ _ rfl
    apply RelH.op2
    · intro L f u K hN hS hK
      simp only [puts, Act.put, List.setIfInBounds_toArray, List.set_cons_zero, List.set_cons_succ, upd, Nat.reduceEqDiff, ↓reduceIte, if_true, if_false] at hK ⊢
      have HS9 := Lib.hid hS
      obtain ⟨qN, qZ, c0, c1, c2, c3, c4, c5, c6, c7, c8, c9, c10, c11, c12⟩ := hS
      have e8 := c8 (hN.out.2 8 (by decide +kernel))
      obtain ⟨a, e10, z10, X⟩ := c10 (hN.out.2 10 (by decide +kernel)) (hN.out.1 11 (by decide +kernel))
      have hka : w.heap.size ≤ a := X.base
      have X_0 := X.cells 0 _ rfl
      have X_1 := X.cells 1 _ rfl
      have X_f0 := X.free 0 (by simp)
      have X_f1 := X.free 1 (by simp)
      clear c0 c1 c2 c3 c4 c5 c6 c7 c8 c9 c10 c11 c12
      go_simp
      obtain ⟨qN, qZ, c0, c1, c2, c3, c4, c5, c6, c7, c8, c9, c10, c11, c12⟩ := HS9.out
      exact hK.out undef _ ⟨(qN.far hka (by omega) 0 _).far hka (by omega) 1 _, (by rw [size_set', size_set']; exact qZ), fun h => c0 (h.resolve_right (by decide)), fun h => c1 (h.resolve_right (by decide)), fun h => c2 (h.resolve_right (by decide)), fun h => c3 (h.resolve_right (by decide)), fun h => c4 (h.resolve_right (by decide)), fun h t0 => (t0 (.inl (hN.out.2 6 (by decide +kernel)))).elim, fun h => c6 (h.resolve_right (by decide)), fun h => c7 (h.resolve_right (by decide)), fun h => c8 (h.resolve_right (by decide)), fun h => c9 (h.resolve_right (by decide)), fun h t0 => (t0 (by simp)).elim, fun _ => ⟨a, e10, z10, (X.set 0 (.int .i64 m1)).set 1 (.int .i64 m2)⟩, fun h => c12 (h.resolve_right (by decide))⟩ _ (by simp only [e8, e10])
    apply RelH.op2
    · intro L f u K hN hS hK
      simp only [puts, Act.put, List.setIfInBounds_toArray, List.set_cons_zero, List.set_cons_succ, upd, Nat.reduceEqDiff, ↓reduceIte, if_true, if_false] at hK ⊢
      have HS9 := Lib.hid hS
      obtain ⟨qN, qZ, c0, c1, c2, c3, c4, c5, c6, c7, c8, c9, c10, c11, c12⟩ := hS
      have e9 := c9 (hN.out.2 9 (by decide +kernel))
      clear c0 c1 c2 c3 c4 c5 c6 c7 c8 c9 c10 c11 c12
      go_simp
      obtain ⟨qN, qZ, c0, c1, c2, c3, c4, c5, c6, c7, c8, c9, c10, c11, c12⟩ := HS9.out
      exact hK.out _ _ ⟨qN, qZ, fun h => c0 (h.resolve_right (by decide)), fun h => c1 (h.resolve_right (by decide)), fun h => c2 (h.resolve_right (by decide)), fun h => c3 (h.resolve_right (by decide)), fun h => c4 (h.resolve_right (by decide)), fun h t0 => c5 (h.resolve_right (by decide)) (fun z => t0 (.inl z)), fun h => c6 (h.resolve_right (by decide)), fun h => c7 (h.resolve_right (by decide)), fun h => c8 (h.resolve_right (by decide)), fun h => c9 (h.resolve_right (by decide)), fun h t0 => c10 (h.resolve_right (by decide)) (fun z => t0 (.inl z)), fun h => c11 (h.resolve_right (by decide)), fun _ => rfl⟩ _ (by simp only [e9])
    exact RelH.done
  intro L f V0 hL hS
  simp only [puts, Act.put, List.setIfInBounds_toArray, List.set_cons_zero, List.set_cons_succ]
  obtain ⟨qN, qZ, c0, c1, c2, c3, c4, c5, c6, c7, c8, c9, c10, c11, c12⟩ := hS
  clear N hZ
  obtain ⟨a, e10, z10, X⟩ := c11 (hL 11 (by decide))
  have e12 := c12 (hL 12 (by decide)); have e0 := c0 (hL 0 (by decide)); have e1 := c1 (hL 1 (by decide)); have e2 := c2 (hL 2 (by decide)); have e3 := c3 (hL 3 (by decide)); have e4 := c4 (hL 4 (by decide)); have e6 := c6 (hL 6 (by decide)); have e7 := c7 (hL 7 (by decide)); have e8 := c8 (hL 8 (by decide)); have e9 := c9 (hL 9 (by decide))
  simp only [e0, e1, e2, e3, e4, e6, e7, e8, e9, e10, e12]
  clear e0 e1 e2 e3 e4 e6 e7 e8 e9 e10 e12 c0 c1 c2 c3 c4 c5 c6 c7 c8 c9 c10 c11 c12 hL
  have N := qN
  clear qN qZ z10
  have N_0 := N.cells 0 _ rfl
  have N_1 := N.cells 1 _ rfl
  have N_f0 := N.free 0 (by simp)
  have N_f1 := N.free 1 (by simp)
  have N_t := N.there
  have X_0 := X.cells 0 _ rfl
  have X_1 := X.cells 1 _ rfl
  have X_f0 := X.free 0 (by simp)
  have X_f1 := X.free 1 (by simp)
  have X_t := X.there
  cases bb with
  | false =>
    have HV := Lib.hid (show fillOk l p q = false by
      have h := HMP.out.1
      cases hp : okB p q
      · exact fill2 hp
      · rw [hp] at h; exact fill3 g1 HX.out (by simpa using h.symm))
    have O := empty_own N.below
    go_wp2
    go_ret2
    exact row1 (M := []) (fillL_no HV.out) HV.out rfl O (al N.below)
  | true =>
    have hpq : okB p q = true ∧ okB (x.f1 + p) (x.f2 + q) = true := by have h := HMP.out.1; rwa [eq_comm, Bool.and_eq_true] at h
    have hmm := HMP.out.2 rfl
    obtain ⟨rfl, rfl⟩ := hmm
    have HV := Lib.hid (fill4 g1 HX.out HG.out hpq.1 hpq.2)
    have HL := Lib.hid (fillL_yes g1 HX.out HV.out)
    clear hpq
    have hN8 := N.below.size
    go_wp2_with fail
    refine (copy_impl (some ⟨b, o, none⟩) cap l _ (rd_keep HR.out N.below) g1 hn).mono ?_
    rintro e v1 ⟨g, c, rfl, O, hv1⟩
    replace N := N.more hv1
    replace X := X.more hv1
    have zhv1 := hv1.size
    clear hv1
    replace O := O.base hN8
    have hgw := O.ge
    obtain ⟨c0, c1, c2⟩ := O.cells g1 HX.out
    simp only [Nat.zero_mul, Nat.zero_add] at c0 c1 c2
    have f1 := O.free 1
    have f2 := O.free 2
    have O2 := O.put g1 HX.out (x.f1 + p) (x.f2 + q)
    simp only [Nat.zero_mul, Nat.zero_add] at O2
    have HB2 := Lib.hid (below_put N.below hgw (i := 1) (v0 := .int .i64 (x.f1 + p)) (v1 := .int .i64 (x.f2 + q)))
    have HO2 := Lib.hid O2
    clear O O2 c0
    have N_0 := N.cells 0 _ rfl
    have N_1 := N.cells 1 _ rfl
    have N_f0 := N.free 0 (by simp)
    have N_f1 := N.free 1 (by simp)
    have N_t := N.there
    have X_0 := X.cells 0 _ rfl
    have X_1 := X.cells 1 _ rfl
    have X_f0 := X.free 0 (by simp)
    have X_f1 := X.free 1 (by simp)
    have X_t := X.there
    go_wp2
    go_ret2
    exact row1 (M := l.set 0 ⟨x.f0, x.f1 + p, x.f2 + q⟩) HL.out HV.out (by rw [List.length_set] <;> rfl) HO2.out HB2.out
end Go.Proofs.Ytciohcipmkhneaa.SerF
