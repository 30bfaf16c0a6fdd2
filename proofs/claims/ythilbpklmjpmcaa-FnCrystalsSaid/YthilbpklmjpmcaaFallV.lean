/- The program's AfterDrying and FallOut. Made by tools/mk_fallv.py. -/
import Derived.Test.YthilbpklmjpmcaaFallU
namespace Go.Proofs.Ythilbpklmjpmcaa.FallV
open Go.RowKit Go.Proofs.Ythilbpklmjpmcaa.Mem Go.Proofs.Ythilbpklmjpmcaa.Base Go.Proofs.Ythilbpklmjpmcaa.SInt Go.Proofs.Ythilbpklmjpmcaa.Regn Go.Proofs.Ythilbpklmjpmcaa.Boxes Go.Proofs.Ythilbpklmjpmcaa.Keep Go.Proofs.Ythilbpklmjpmcaa.Within Go.Proofs.Ythilbpklmjpmcaa.Nest Go.Proofs.Ythilbpklmjpmcaa.SKind Go.Proofs.Ythilbpklmjpmcaa.KindP Go.Proofs.Ythilbpklmjpmcaa.KindG Go.Proofs.Ythilbpklmjpmcaa.LiqP Go.Proofs.Ythilbpklmjpmcaa.LiqG Go.Proofs.Ythilbpklmjpmcaa.FallP Go.Proofs.Ythilbpklmjpmcaa.FallS Go.Proofs.Ythilbpklmjpmcaa.FallT Go.Proofs.Ythilbpklmjpmcaa.FallU
set_option linter.unusedVariables false
set_option linter.unusedSimpArgs false
set_option maxRecDepth 100000
set_option maxHeartbeats 4000000 in
theorem aft_impl (P : Option Addr) (cap : Nat) (l : List R) (wt : Int) (A : Option Addr) (c : Nat) (s : List Int) (t : Int) (w : World) (h : Ak w P l A s) :
    Calls Try.prog 26 #[.slice P l.length cap, .agg #[.int .i64 wt, .slice A s.length c], .int .i64 t] w (APost (aftW l wt s t) (aftS l wt s t) (aftG l wt s t) (dryOk l wt s t) w) := by
  obtain ⟨i0, hi0, hz0, hz1, hz2⟩ := info_parts info_int
  have HI := Lib.hid hz2; clear hz2
  have HI1 := Lib.hid hz1; clear hz1
  have HA := Lib.hid h
  clear h
  have hsz : ((w.alloc (.cells #[.int .i64 wt, .slice A s.length c] 27)).alloc (.cells #[.int .i64 0, .slice none 0 0] 27)).heap.size = w.heap.size + 1 + 1 := by simp only [size_alloc']
  replace hsz := Lib.hid hsz
  go_enter Try.func26, Try.ntmps26
  go_wp2_with fail
  have X := (Box.new (Below.refl _ w) [.int .i64 wt, .slice A s.length c] 27 (g := w.heap.size) rfl).alloc (.cells #[.int .i64 0, .slice none 0 0] 27)
  have R := Box.new (al (Below.refl _ w) (o := (.cells #[.int .i64 wt, .slice A s.length c] 27))) [.int .i64 0, .slice none 0 0] 27 (g := w.heap.size + 1) (by simp only [size_alloc'])
  generalize ((w.alloc (.cells #[.int .i64 wt, .slice A s.length c] 27)).alloc (.cells #[.int .i64 0, .slice none 0 0] 27)) = W1 at X R hsz ⊢
  have X_0 := X.cells 0 _ rfl
  have X_1 := X.cells 1 _ rfl
  have X_f0 := X.free 0 (by simp)
  have X_f1 := X.free 1 (by simp)
  have X_t := X.there
  have R_0 := R.cells 0 _ rfl
  have R_1 := R.cells 1 _ rfl
  have R_f0 := R.free 0 (by simp)
  have R_f1 := R.free 1 (by simp)
  have R_t := R.there
  go_wp2_with fail
  refine (isl_impl P cap l wt A c s _ (HA.out.keep X.below)).mono ?_
  rintro e v2 ⟨rfl, hv2⟩
  clear X_0 X_1 X_f0 X_f1 X_t
  clear R_0 R_1 R_f0 R_f1 R_t
  replace X := X.more hv2
  replace R := R.more hv2
  have zhv2 := hv2.size
  clear hv2
  have X_0 := X.cells 0 _ rfl
  have X_1 := X.cells 1 _ rfl
  have X_f0 := X.free 0 (by simp)
  have X_f1 := X.free 1 (by simp)
  have X_t := X.there
  have R_0 := R.cells 0 _ rfl
  have R_1 := R.cells 1 _ rfl
  have R_f0 := R.free 0 (by simp)
  have R_f1 := R.free 1 (by simp)
  have R_t := R.there
  have X_0 := X.cells 0 _ rfl
  have X_1 := X.cells 1 _ rfl
  have X_f0 := X.free 0 (by simp)
  have X_f1 := X.free 1 (by simp)
  have X_t := X.there
  have R_0 := R.cells 0 _ rfl
  have R_1 := R.cells 1 _ rfl
  have R_f0 := R.free 0 (by simp)
  have R_f1 := R.free 1 (by simp)
  have R_t := R.there
  cases h1 : liqB l wt s
  · have HQ2 := Lib.hid (show dryOk l wt s t = false by unfold dryOk; rw [h1]; rfl)
    have HQ := Lib.hid (aft_no HQ2.out)
    have TC := fill_cells R (.int .i64 0) (.slice none 0 0) (.cells #[] 3)
    go_wp2
    exact bodyPost_ret (v := .tuple #[.agg #[.int .i64 0, .slice none 0 0], .slice (some ⟨v2.heap.size, 0, none⟩) 0 0, .bool false]) (by simp [results, Try.results26, go_sem, TC.1, TC.2]) rfl (by rw [HQ.out.1, HQ.out.2.1, HQ.out.2.2, HQ2.out]; exact no_end R)
  cases h2 : inB t 0 wt
  · have HQ2 := Lib.hid (show dryOk l wt s t = false by unfold dryOk; rw [h2]; simp)
    have HQ := Lib.hid (aft_no HQ2.out)
    have TC := fill_cells R (.int .i64 0) (.slice none 0 0) (.cells #[] 3)
    go_wp2_with (go_at_call 57; (with_reducible refine (within_any _ _ _ _).mono ?_); rintro e _ ⟨rfl, rfl⟩)
    exact bodyPost_ret (v := .tuple #[.agg #[.int .i64 0, .slice none 0 0], .slice (some ⟨v2.heap.size, 0, none⟩) 0 0, .bool false]) (by simp [results, Try.results26, go_sem, TC.1, TC.2]) rfl (by rw [HQ.out.1, HQ.out.2.1, HQ.out.2.2, HQ2.out]; exact no_end R)
  have hd0 : dryOk l wt s t = true := by unfold dryOk; rw [h1, h2]; rfl
  have htb := of_inB h2
  have V := vld h1
  have HV := Lib.hid V
  have hln : l.length ≤ 6 := V.n.2
  have HLS := Lib.hid V.len
  have hv0 := V.w0
  have hv1 := V.w1
  have HQ := Lib.hid (aft_yes hd0)
  have HQ2 := Lib.hid hd0
  have e0 : IntKind.i64.wrap (wt - t) = wt - t := IntWalk.i64_in _ (by omega)
  clear V hd0
  go_upto_region 6 with (go_at_call 57; (with_reducible refine (within_any _ _ _ _).mono ?_); rintro e _ ⟨rfl, rfl⟩)
  obtain ⟨W0, hW0⟩ : ∃ u, v2 = u := ⟨_, rfl⟩
  rw [hW0] at X R ⊢
  clear hW0
  have hwX := X.there
  have hwR := R.there
  obtain ⟨B0, hB0⟩ : ∃ b, W0.heap.size = b := ⟨_, rfl⟩
  obtain ⟨wz, hwz⟩ : ∃ v, wt - t = v := ⟨_, rfl⟩
  have HWT := Lib.hid (show 0 ≤ wz ∧ wz ≤ 1000000 by omega)
  rw [hwz] at HQ ⊢
  have T0 : Two (((W0.alloc (.cells #[] 3)).alloc (.cells #[.int .i64 wz, .slice (some ⟨W0.heap.size, 0, none⟩) 0 0] 27)).alloc (.cells #[] 3)) w.heap.size [w.heap.size, w.heap.size + 1, W0.heap.size + 1] ⟨some ⟨W0.heap.size, 0, none⟩, 0, []⟩ ⟨some ⟨W0.heap.size + 1 + 1, 0, none⟩, 0, []⟩ := by
    have e1 := row_new W0 (lo := w.heap.size) (by omega)
    have e2 := row_new ((W0.alloc (.cells #[] 3)).alloc (.cells #[.int .i64 wz, .slice (some ⟨W0.heap.size, 0, none⟩) 0 0] 27)) (lo := w.heap.size) (by rw [size_alloc', size_alloc']; omega)
    rw [size_alloc', size_alloc'] at e2
    refine ⟨(e1.keep (al (Below.refl _ _))).keep (al (Below.refl _ _)), e2, ?_, ?_, ?_⟩
    all_goals
      intro k hk
      simp only [Row.blk, Row.val, Value.ownBlock, Option.some.injEq, List.mem_cons, List.mem_nil_iff, or_false, ne_eq] at hk ⊢
      omega
  have O0 : Box (W0.heap.size + 1) [.int .i64 wz, .slice (some ⟨W0.heap.size, 0, none⟩) 0 0] w (((W0.alloc (.cells #[] 3)).alloc (.cells #[.int .i64 wz, .slice (some ⟨W0.heap.size, 0, none⟩) 0 0] 27)).alloc (.cells #[] 3)) :=
    (Box.new (al X.below) _ _ (by simp only [size_alloc'])).alloc _
  have X0 := ((X.alloc (.cells #[] 3)).alloc (.cells #[.int .i64 wz, .slice (some ⟨W0.heap.size, 0, none⟩) 0 0] 27)).alloc (.cells #[] 3)
  have R0 := ((R.alloc (.cells #[] 3)).alloc (.cells #[.int .i64 wz, .slice (some ⟨W0.heap.size, 0, none⟩) 0 0] 27)).alloc (.cells #[] 3)
  clear X_0 X_1 X_f0 X_f1 X_t
  clear R_0 R_1 R_f0 R_f1 R_t
  clear X R hB0 B0
  obtain ⟨gO, hgO⟩ : ∃ g, W0.heap.size + 1 = g := ⟨_, rfl⟩
  rw [hgO] at T0 O0 ⊢
  generalize (((W0.alloc (.cells #[] 3)).alloc (.cells #[.int .i64 wz, .slice (some ⟨W0.heap.size, 0, none⟩) 0 0] 27)).alloc (.cells #[] 3)) = W3 at X0 R0 O0 T0 ⊢
  have hgX : gO ≠ w.heap.size := by omega
  have hgR : gO ≠ w.heap.size + 1 := by omega
  clear hgO hsz htb h1 h2 e0 hwz
  go_loopw [10, 36] (fun q i wr => ∃ (k : Nat) (A1 : Option Addr) (q1 : Nat) (A2 : Option Addr) (q2 : Nat) (L1 L2 : List Int) (wk : Int), k ≤ l.length ∧ i = .int .i64 k ∧ q = .slice A2 L2.length q2 ∧ Hid (L1 = stayL l s wz k ∧ L2 = goneL l s wz k ∧ wk = fw l s wz k) ∧
    Box w.heap.size [.int .i64 wt, .slice A s.length c] w wr ∧ Box (w.heap.size + 1) [.int .i64 0, .slice none 0 0] w wr ∧ Box gO [.int .i64 wk, .slice A1 L1.length q1] w wr ∧ Two wr w.heap.size [w.heap.size, w.heap.size + 1, gO] ⟨A1, q1, L1⟩ ⟨A2, q2, L2⟩) (fun _ i _ => l.length - (intOf i).toNat)
  case atStart => exact ⟨0, _, _, _, _, [], [], wz, Nat.zero_le _, rfl, rfl, Lib.hid ⟨rfl, rfl, rfl⟩, X0, R0, O0, T0⟩
  case round =>
    clear X0 R0 O0 T0 hwX hwR
    obtain ⟨k, A1, q1, A2, q2, L1, L2, wk, hk, rfl, rfl, HL, X, R, O, T⟩ := hrel
    by_cases hlt : k < l.length
    · have hks : k < s.length := by have := HLS.out; omega
      obtain ⟨b, o, rfl, hb, hc⟩ := HA.out.k.at (k := k * 3) (by rw [flat_n]; omega)
      obtain ⟨b', o', rfl, hb', hc'⟩ := HA.out.sa.at (k := k) (by rw [iv_len]; exact hks)
      obtain ⟨x, hx⟩ : ∃ x, l[k] = x := ⟨_, rfl⟩
      obtain ⟨y, hy⟩ : ∃ y, s[k] = y := ⟨_, rfl⟩
      obtain ⟨c0, c1, c2⟩ := cells3 X.below hb hc hlt hx
      have hc3 : w.cell? ⟨b', o' + k, none⟩ = some (.int .i64 y) := by rw [← hy]; exact cell_s (Below.refl _ w) hb' hc' hks
      have hkd := HV.out.kind hlt
      have hsl := HV.out.salt k hks
      rw [hx] at hkd
      rw [hy] at hsl
      have hVS := vlds HV.out
      have hwk := fw_range hVS HWT.out.1 HWT.out.2 k hk
      have hfr := fn_range (w0 := wz) hVS hlt hwk.1 hwk.2
      have hfn : fallAt l s k (fw l s wz k) = fn l s wz k := rfl
      rw [hfn] at hfr
      obtain ⟨n, hn⟩ : ∃ n, fn l s wz k = n := ⟨_, rfl⟩
      have hfe : fallI x.f1 x.f2 y wk = n := by rw [← hn, HL.out.2.2, ← hfn]; unfold fallAt; rw [atK_eq hlt, at0_eq hks, hx, hy]
      have hws2 : fw l s wz (k + 1) = wk - n * x.f1 / 10 := by rw [fw_succ, hn, atK_eq hlt, hx, HL.out.2.2]
      have hwk1 := fw_range hVS HWT.out.1 HWT.out.2 (k + 1) (by omega)
      rw [hn, at0_eq hks, hy, atK_eq hlt, hx, ← HL.out.2.2] at hfr
      rw [← HL.out.2.2] at hwk
      rw [hws2] at hwk1
      have HW2 := Lib.hid hws2
      have HNN := Lib.hid hn
      have HS2 := Lib.hid (show stayL l s wz (k + 1) = L1 ++ [y - n] by rw [stay_succ, HL.out.1, hn, at0_eq hks, hy])
      have HG2 := Lib.hid (show goneL l s wz (k + 1) = L2 ++ [n] by rw [gone_succ, HL.out.2.1, hn])
      have hl1 : L1.length = k := by rw [HL.out.1, stay_len]
      have hl2 : L2.length = k := by rw [HL.out.2.1, gone_len]
      have hl1b : L1.length ≤ 6 := by omega
      have hl2b : L2.length ≤ 6 := by omega
      have HLT := Lib.hid hlt
      have hnb : 0 ≤ n ∧ n ≤ 1000000 := by omega
      have e1 : IntKind.i64.wrap (y - n) = y - n := IntWalk.i64_in _ (by omega)
      have e5 : IntKind.i64.wrap (wk - n * x.f1 / 10) = wk - n * x.f1 / 10 := IntWalk.i64_in _ (by omega)
      clear hc hc' hx hy hn hfn hws2 hl1 hl2 hfr hwk1 hVS
      have HB0 := X.below
      have hOt := O.there
      go_wp2_with fail
      clear c0 c1 c2
      have X_t3 := X.there
      have R_t3 := R.there
      have O_t3 := O.there
      have K := Box.new X.below [.string x.f0, .int .i64 x.f1, .int .i64 x.f2] 37 (g := wr.heap.size) rfl
      replace X := (X).alloc (.cells #[.string x.f0, .int .i64 x.f1, .int .i64 x.f2] 37)
      replace R := (R).alloc (.cells #[.string x.f0, .int .i64 x.f1, .int .i64 x.f2] 37)
      replace O := (O).alloc (.cells #[.string x.f0, .int .i64 x.f1, .int .i64 x.f2] 37)
      replace T := two_keep T (al (Below.refl _ _) (o := (.cells #[.string x.f0, .int .i64 x.f1, .int .i64 x.f2] 37)))
      generalize (wr.alloc (.cells #[.string x.f0, .int .i64 x.f1, .int .i64 x.f2] 37)) = W3 at K X R O T ⊢
      have X_0 := X.cells 0 _ rfl
      have X_1 := X.cells 1 _ rfl
      have X_f0 := X.free 0 (by simp)
      have X_f1 := X.free 1 (by simp)
      have X_t := X.there
      have R_0 := R.cells 0 _ rfl
      have R_1 := R.cells 1 _ rfl
      have R_f0 := R.free 0 (by simp)
      have R_f1 := R.free 1 (by simp)
      have R_t := R.there
      have O_0 := O.cells 0 _ rfl
      have O_1 := O.cells 1 _ rfl
      have O_f0 := O.free 0 (by simp)
      have O_f1 := O.free 1 (by simp)
      have O_t := O.there
      have K_0 := K.cells 0 _ rfl
      have K_1 := K.cells 1 _ rfl
      have K_2 := K.cells 2 _ rfl
      have K_f0 := K.free 0 (by simp)
      have K_f1 := K.free 1 (by simp)
      have K_f2 := K.free 2 (by simp)
      have K_t := K.there
      have hc3_c := ((bcell X.below).1 _ _ hb').trans hc3
      have hKX : wr.heap.size ≠ gO := by omega
      refine wp_region_text (fun w' => Box (w.heap.size) [.int .i64 wt, .slice (some ⟨b', o', none⟩) s.length c] w w' ∧ Box ((w.heap.size + 1)) [.int .i64 0, .slice none 0 0] w w' ∧ Box (gO) [.int .i64 wk, .slice A1 L1.length q1] w w' ∧ Box (wr.heap.size) [.string x.f0, .int .i64 x.f1, .int .i64 x.f2] w w' ∧ Two w' w.heap.size [w.heap.size, w.heap.size + 1, gO] ⟨A1, q1, L1⟩ ⟨A2, q2, L2⟩) (by kernel_rfl) (by kernel_rfl) ⟨X.drew, R.drew, O.drew, K.drew, two_keep T (Below.refl _ _).drew⟩ ?_
      clear X_0 X_1 X_f0 X_f1 X_t
      clear R_0 R_1 R_f0 R_f1 R_t
      clear O_0 O_1 O_f0 O_f1 O_t
      clear K_0 K_1 K_2 K_f0 K_f1 K_f2 K_t
      clear hc3_c
      iterate 10 (
        apply SeqH.one
        · intro uw K hS hK
          obtain ⟨qX, qR, qO, qK, qT⟩ := hS
          have qX_0 := qX.cells 0 _ rfl
          have qX_1 := qX.cells 1 _ rfl
          have qO_0 := qO.cells 0 _ rfl
          have qO_1 := qO.cells 1 _ rfl
          have qK_0 := qK.cells 0 _ rfl
          have qK_1 := qK.cells 1 _ rfl
          have qK_2 := qK.cells 2 _ rfl
          have qhc3_c := ((bcell qX.below).1 _ _ hb').trans hc3
          first
            | (go_simp; exact hK.out _ ⟨qX, qR, qO, qK, qT⟩)
            | (go_simp; go_at_call 64; (with_reducible refine (falls_impl x y wk hkd.1 hkd.2.1 hkd.2.2 hsl.1 hsl.2 hwk.1 hwk.2 _).mono ?_); rintro e uw1 ⟨rfl, hv⟩; rw [hfe]; go_wp2_with fail; exact hK.out _ ⟨qX.more hv, qR.more hv, qO.more hv, qK.more hv, two_keep qT hv⟩)
        try simp only [Act.put, List.setIfInBounds_toArray, List.set_cons_zero, List.set_cons_succ])
      refine SeqH.end' rfl ?_
      intro v4 hS
      clear X R O K T
      obtain ⟨X, R, O, K, T⟩ := hS
      have X_0 := X.cells 0 _ rfl
      have X_1 := X.cells 1 _ rfl
      have X_f0 := X.free 0 (by simp)
      have X_f1 := X.free 1 (by simp)
      have X_t := X.there
      have R_0 := R.cells 0 _ rfl
      have R_1 := R.cells 1 _ rfl
      have R_f0 := R.free 0 (by simp)
      have R_f1 := R.free 1 (by simp)
      have R_t := R.there
      have O_0 := O.cells 0 _ rfl
      have O_1 := O.cells 1 _ rfl
      have O_f0 := O.free 0 (by simp)
      have O_f1 := O.free 1 (by simp)
      have O_t := O.there
      have K_0 := K.cells 0 _ rfl
      have K_1 := K.cells 1 _ rfl
      have K_2 := K.cells 2 _ rfl
      have K_f0 := K.free 0 (by simp)
      have K_f1 := K.free 1 (by simp)
      have K_f2 := K.free 2 (by simp)
      have K_t := K.there
      have hc3_c := ((bcell X.below).1 _ _ hb').trans hc3
      clear hfe
      go_wp2_with fail
      refine wp_region_seq (fun L w' => Box (w.heap.size) [.int .i64 wt, .slice (some ⟨b', o', none⟩) s.length c] w w' ∧ Box ((w.heap.size + 1)) [.int .i64 0, .slice none 0 0] w w' ∧ BoxL (L 7) (gO) [.int .i64 wk, .slice A1 L1.length q1] [.int .i64 (wk - n * x.f1 / 10), .slice A1 L1.length q1] w w' ∧ Box (wr.heap.size) [.string x.f0, .int .i64 x.f1, .int .i64 x.f2] w w' ∧ Two w' w.heap.size [w.heap.size, w.heap.size + 1, gO] ⟨A1, q1, L1⟩ ⟨A2, q2, L2⟩) (by kernel_rfl) (by kernel_rfl) ⟨X.drew, R.drew, BoxL.start _ O.drew, K.drew, two_keep T (Below.refl _ _).drew⟩ ?_
      clear X_0 X_1 X_f0 X_f1 X_t
      clear R_0 R_1 R_f0 R_f1 R_t
      clear O_0 O_1 O_f0 O_f1 O_t
      clear K_0 K_1 K_2 K_f0 K_f1 K_f2 K_t
      clear hc3_c
      iterate 8 (
        apply SeqH.op
        · intro L uw K hN hS hK
          obtain ⟨qX, qR, qO, qK, qT⟩ := hS
          try (have hh0 := qO.2 (hN.out.1 7 (by decide +kernel)); have qO_0 := hh0.cells 0 _ rfl; have qO_1 := hh0.cells 1 _ rfl; clear hh0)
          have qK_0 := qK.cells 0 _ rfl
          have qK_1 := qK.cells 1 _ rfl
          have qK_2 := qK.cells 2 _ rfl
          clear hN
          have qhc3_c := ((bcell qX.below).1 _ _ hb').trans hc3
          first
            | (go_simp; exact hK.out _ ⟨qX, qR, (qO).skip (by decide), qK, qT⟩)
            | (go_simp; go_at_call 65; (with_reducible refine (with_impl x n hkd.1 hnb.1 hnb.2 _).mono ?_); rintro e uw1 ⟨rfl, hv⟩; go_wp2_with fail; exact hK.out _ ⟨qX.more hv, qR.more hv, (qO.more hv).skip (by decide), qK.more hv, two_keep qT hv⟩)
            | (rcases qO.two with hh | hh <;> (have h0 := hh.cells 0 _ rfl; have k0 := hh.free 0 (by simp); have h1 := hh.cells 1 _ rfl; have k1 := hh.free 1 (by simp); go_simp; exact hK.out _ ⟨(qX.far hh.base (by omega) 0 (.int .i64 (wk - n * x.f1 / 10))), (qR.far hh.base (by omega) 0 (.int .i64 (wk - n * x.f1 / 10))), BoxL.put (hh.set 0 (.int .i64 (wk - n * x.f1 / 10))), (qK.far hh.base (by omega) 0 (.int .i64 (wk - n * x.f1 / 10))), (qT.set (by simp) 0 (.int .i64 (wk - n * x.f1 / 10)))⟩))
        try simp only [Act.put, List.setIfInBounds_toArray, List.set_cons_zero, List.set_cons_succ])
      refine SeqH.done rfl ?_
      intro L v5 hL hS
      clear X R O K T
      obtain ⟨X, R, O, K, T⟩ := hS
      replace O := O.done (hL 7 (by decide))
      clear hL
      have X_0 := X.cells 0 _ rfl
      have X_1 := X.cells 1 _ rfl
      have X_f0 := X.free 0 (by simp)
      have X_f1 := X.free 1 (by simp)
      have X_t := X.there
      have R_0 := R.cells 0 _ rfl
      have R_1 := R.cells 1 _ rfl
      have R_f0 := R.free 0 (by simp)
      have R_f1 := R.free 1 (by simp)
      have R_t := R.there
      have O_0 := O.cells 0 _ rfl
      have O_1 := O.cells 1 _ rfl
      have O_f0 := O.free 0 (by simp)
      have O_f1 := O.free 1 (by simp)
      have O_t := O.there
      have K_0 := K.cells 0 _ rfl
      have K_1 := K.cells 1 _ rfl
      have K_2 := K.cells 2 _ rfl
      have K_f0 := K.free 0 (by simp)
      have K_f1 := K.free 1 (by simp)
      have K_f2 := K.free 2 (by simp)
      have K_t := K.there
      have hc3_c := ((bcell X.below).1 _ _ hb').trans hc3
      clear X_0 X_1 X_f0 X_f1 X_t
      clear R_0 R_1 R_f0 R_f1 R_t
      clear O_0 O_1 O_f0 O_f1 O_t
      clear K_0 K_1 K_2 K_f0 K_f1 K_f2 K_t
      clear hc3_c
      clear K
      obtain ⟨wk2, hwk2⟩ : ∃ v, wk - n * x.f1 / 10 = v := ⟨_, rfl⟩
      rw [hwk2] at O HW2
      clear hwk2 e5 hnb
      go_upto_region 10 with fail
      have T5 := T
      clear T
      have T := T5
      clear T5
      obtain ⟨V, hVW⟩ : ∃ V : World, V = v5.drew := ⟨_, rfl⟩
      have hwV : Below v5.heap.size v5 V := by rw [hVW]; exact (Below.refl _ _).drew
      have HXV := Lib.hid (X.more hwV)
      have HRV := Lib.hid (R.more hwV)
      have HOV := Lib.hid (O.more hwV)
      have HTV := Lib.hid (T.keep hwV)
      have hO1 := HOV.out.cells 1 _ rfl
      have hX1 := HXV.out.cells 1 _ rfl
      have hs1 := ((bcell HXV.out.below).1 _ _ hb').trans hc3
      have hVs := HXV.out.below.size
      have HGS := Lib.hid (show ∀ g ∈ [w.heap.size, w.heap.size + 1, gO], g < V.heap.size by
        intro g hg
        simp only [List.mem_cons, List.mem_nil_iff, or_false] at hg
        rcases hg with rfl | rfl | rfl
        · exact HXV.out.there
        · exact HRV.out.there
        · exact HOV.out.there)
      have HOAV := Lib.hid (World.ownsRow.alloc (show V.ownsRow w.heap.size 3 1 (.slice A1 L1.length q1) L1.length (iv L1) from HTV.out.a) (.cells #[.int .i64 (y - n)] 3))
      have HNCV := Lib.hid (cell_one V (.int .i64 (y - n)) 3)
      have HVW := Lib.hid hVW
      clear hwV hVW X R O T
      refine wp_region_rel [57, 58, 59, 60, 61, 62, 63, 64, 65, 66, 67, 68] (fun L f w' => (¬ L 9 → V = w') ∧ (L 0 → f 57 = .pointer (some ⟨gO, 1, none⟩)) ∧ (L 1 → f 58 = .slice A1 L1.length q1) ∧ (L 2 → f 59 = .pointer (some ⟨w.heap.size, 1, none⟩)) ∧ (L 3 → f 60 = .slice (some ⟨b', o', none⟩) s.length c) ∧ (L 4 → f 61 = .int .i64 k) ∧ (L 5 → f 62 = .pointer (some ⟨b', o' + k, none⟩)) ∧ (L 6 → f 63 = .int .i64 y) ∧ (L 7 → f 64 = .int .i64 n) ∧ (L 8 → f 65 = .int .i64 (y - n)) ∧ (L 9 → ¬ L 10 → f 66 = .slice (some ⟨V.heap.size, 0, none⟩) 1 1 ∧ (V.alloc (.cells #[.int .i64 (y - n)] 3)) = w') ∧ (L 10 → ¬ L 12 → ∃ g9 d9, f 67 = .slice (some ⟨g9, 0, none⟩) (L1.length + 1) d9 ∧ RowOwn w' w.heap.size ⟨some ⟨g9, 0, none⟩, d9, L1 ++ [y - n]⟩ ∧ (V.alloc (.cells #[.int .i64 (y - n)] 3)).grownBy w' (Row.blk ⟨A1, q1, L1⟩) ∧ (Row.blk ⟨A1, q1, L1⟩ = some g9 ∨ g9 = (V.alloc (.cells #[.int .i64 (y - n)] 3)).heap.size)) ∧ (L 11 → f 68 = .pointer (some ⟨gO, 1, none⟩)) ∧ (L 12 → ∃ g9 d9, Box w.heap.size [.int .i64 wt, .slice (some ⟨b', o', none⟩) s.length c] w w' ∧ Box (w.heap.size + 1) [.int .i64 0, .slice none 0 0] w w' ∧ Box gO [.int .i64 wk2, .slice (some ⟨g9, 0, none⟩) (L1.length + 1) d9] w w' ∧ Two w' w.heap.size [w.heap.size, w.heap.size + 1, gO] ⟨some ⟨g9, 0, none⟩, d9, L1 ++ [y - n]⟩ ⟨A2, q2, L2⟩)) (by kernel_rfl) (by kernel_rfl) (by kernel_rfl) (fun f => ⟨fun _ => HVW.out, fun h => h.elim, fun h => h.elim, fun h => h.elim, fun h => h.elim, fun h => h.elim, fun h => h.elim, fun h => h.elim, fun h => h.elim, fun h => h.elim, fun h => h.elim, fun h => h.elim, fun h => h.elim, fun h => h.elim⟩) ?_ ?_
      · apply RelH.op2
        · intro L f u K hN hS hK
          simp only [puts, Act.put, List.setIfInBounds_toArray, List.set_cons_zero, List.set_cons_succ, upd, Nat.reduceEqDiff, ↓reduceIte, if_true, if_false] at hK ⊢
          have HS9 := Lib.hid hS
          obtain ⟨qN, c0, c1, c2, c3, c4, c5, c6, c7, c8, c9, c10, c11, c12⟩ := hS
          clear qN c0 c1 c2 c3 c4 c5 c6 c7 c8 c9 c10 c11 c12
          go_simp
          obtain ⟨qN, c0, c1, c2, c3, c4, c5, c6, c7, c8, c9, c10, c11, c12⟩ := HS9.out
          exact hK.out _ _ ⟨fun z9 => qN (fun z => z9 (.inl z)), fun _ => rfl, fun h => c1 (h.resolve_right (by decide)), fun h => c2 (h.resolve_right (by decide)), fun h => c3 (h.resolve_right (by decide)), fun h => c4 (h.resolve_right (by decide)), fun h => c5 (h.resolve_right (by decide)), fun h => c6 (h.resolve_right (by decide)), fun h => c7 (h.resolve_right (by decide)), fun h => c8 (h.resolve_right (by decide)), fun h t0 => c9 (h.resolve_right (by decide)) (fun z => t0 (.inl z)), fun h t0 => c10 (h.resolve_right (by decide)) (fun z => t0 (.inl z)), fun h => c11 (h.resolve_right (by decide)), fun h => c12 (h.resolve_right (by decide))⟩ _ rfl
        apply RelH.op2
        · intro L f u K hN hS hK
          simp only [puts, Act.put, List.setIfInBounds_toArray, List.set_cons_zero, List.set_cons_succ, upd, Nat.reduceEqDiff, ↓reduceIte, if_true, if_false] at hK ⊢
          have HS9 := Lib.hid hS
          obtain ⟨qN, c0, c1, c2, c3, c4, c5, c6, c7, c8, c9, c10, c11, c12⟩ := hS
          have e0 := c0 (hN.out.2 0 (by decide +kernel))
          have hcu : u.cell? ⟨gO, 1, none⟩ = some (.slice A1 L1.length q1) := by
            rcases Classical.em (L 9) with z9 | z9
            · rw [← (c9 z9 (hN.out.1 10 (by decide +kernel))).2]; exact cell_kept hO1 (al (Below.refl _ _))
            · rw [← qN z9]; exact hO1
          clear qN c0 c1 c2 c3 c4 c5 c6 c7 c8 c9 c10 c11 c12
          go_simp
          obtain ⟨qN, c0, c1, c2, c3, c4, c5, c6, c7, c8, c9, c10, c11, c12⟩ := HS9.out
          exact hK.out _ _ ⟨fun z9 => qN (fun z => z9 (.inl z)), fun h => c0 (h.resolve_right (by decide)), fun _ => rfl, fun h => c2 (h.resolve_right (by decide)), fun h => c3 (h.resolve_right (by decide)), fun h => c4 (h.resolve_right (by decide)), fun h => c5 (h.resolve_right (by decide)), fun h => c6 (h.resolve_right (by decide)), fun h => c7 (h.resolve_right (by decide)), fun h => c8 (h.resolve_right (by decide)), fun h t0 => c9 (h.resolve_right (by decide)) (fun z => t0 (.inl z)), fun h t0 => c10 (h.resolve_right (by decide)) (fun z => t0 (.inl z)), fun h => c11 (h.resolve_right (by decide)), fun h => c12 (h.resolve_right (by decide))⟩ _ (by simp only [e0])
        apply RelH.op2
        · intro L f u K hN hS hK
          simp only [puts, Act.put, List.setIfInBounds_toArray, List.set_cons_zero, List.set_cons_succ, upd, Nat.reduceEqDiff, ↓reduceIte, if_true, if_false] at hK ⊢
          have HS9 := Lib.hid hS
          obtain ⟨qN, c0, c1, c2, c3, c4, c5, c6, c7, c8, c9, c10, c11, c12⟩ := hS
          clear qN c0 c1 c2 c3 c4 c5 c6 c7 c8 c9 c10 c11 c12
          go_simp
          obtain ⟨qN, c0, c1, c2, c3, c4, c5, c6, c7, c8, c9, c10, c11, c12⟩ := HS9.out
          exact hK.out _ _ ⟨fun z9 => qN (fun z => z9 (.inl z)), fun h => c0 (h.resolve_right (by decide)), fun h => c1 (h.resolve_right (by decide)), fun _ => rfl, fun h => c3 (h.resolve_right (by decide)), fun h => c4 (h.resolve_right (by decide)), fun h => c5 (h.resolve_right (by decide)), fun h => c6 (h.resolve_right (by decide)), fun h => c7 (h.resolve_right (by decide)), fun h => c8 (h.resolve_right (by decide)), fun h t0 => c9 (h.resolve_right (by decide)) (fun z => t0 (.inl z)), fun h t0 => c10 (h.resolve_right (by decide)) (fun z => t0 (.inl z)), fun h => c11 (h.resolve_right (by decide)), fun h => c12 (h.resolve_right (by decide))⟩ _ rfl
        apply RelH.op2
        · intro L f u K hN hS hK
          simp only [puts, Act.put, List.setIfInBounds_toArray, List.set_cons_zero, List.set_cons_succ, upd, Nat.reduceEqDiff, ↓reduceIte, if_true, if_false] at hK ⊢
          have HS9 := Lib.hid hS
          obtain ⟨qN, c0, c1, c2, c3, c4, c5, c6, c7, c8, c9, c10, c11, c12⟩ := hS
          have e2 := c2 (hN.out.2 2 (by decide +kernel))
          have hcu : u.cell? ⟨w.heap.size, 1, none⟩ = some (.slice (some ⟨b', o', none⟩) s.length c) := by
            rcases Classical.em (L 9) with z9 | z9
            · rw [← (c9 z9 (hN.out.1 10 (by decide +kernel))).2]; exact cell_kept hX1 (al (Below.refl _ _))
            · rw [← qN z9]; exact hX1
          clear qN c0 c1 c2 c3 c4 c5 c6 c7 c8 c9 c10 c11 c12
          go_simp
          obtain ⟨qN, c0, c1, c2, c3, c4, c5, c6, c7, c8, c9, c10, c11, c12⟩ := HS9.out
          exact hK.out _ _ ⟨fun z9 => qN (fun z => z9 (.inl z)), fun h => c0 (h.resolve_right (by decide)), fun h => c1 (h.resolve_right (by decide)), fun h => c2 (h.resolve_right (by decide)), fun _ => rfl, fun h => c4 (h.resolve_right (by decide)), fun h => c5 (h.resolve_right (by decide)), fun h => c6 (h.resolve_right (by decide)), fun h => c7 (h.resolve_right (by decide)), fun h => c8 (h.resolve_right (by decide)), fun h t0 => c9 (h.resolve_right (by decide)) (fun z => t0 (.inl z)), fun h t0 => c10 (h.resolve_right (by decide)) (fun z => t0 (.inl z)), fun h => c11 (h.resolve_right (by decide)), fun h => c12 (h.resolve_right (by decide))⟩ _ (by simp only [e2])
        apply RelH.op2
        · intro L f u K hN hS hK
          simp only [puts, Act.put, List.setIfInBounds_toArray, List.set_cons_zero, List.set_cons_succ, upd, Nat.reduceEqDiff, ↓reduceIte, if_true, if_false] at hK ⊢
          have HS9 := Lib.hid hS
          obtain ⟨qN, c0, c1, c2, c3, c4, c5, c6, c7, c8, c9, c10, c11, c12⟩ := hS
          clear qN c0 c1 c2 c3 c4 c5 c6 c7 c8 c9 c10 c11 c12
          go_simp
          obtain ⟨qN, c0, c1, c2, c3, c4, c5, c6, c7, c8, c9, c10, c11, c12⟩ := HS9.out
          exact hK.out _ _ ⟨fun z9 => qN (fun z => z9 (.inl z)), fun h => c0 (h.resolve_right (by decide)), fun h => c1 (h.resolve_right (by decide)), fun h => c2 (h.resolve_right (by decide)), fun h => c3 (h.resolve_right (by decide)), fun _ => rfl, fun h => c5 (h.resolve_right (by decide)), fun h => c6 (h.resolve_right (by decide)), fun h => c7 (h.resolve_right (by decide)), fun h => c8 (h.resolve_right (by decide)), fun h t0 => c9 (h.resolve_right (by decide)) (fun z => t0 (.inl z)), fun h t0 => c10 (h.resolve_right (by decide)) (fun z => t0 (.inl z)), fun h => c11 (h.resolve_right (by decide)), fun h => c12 (h.resolve_right (by decide))⟩ _ rfl
        apply RelH.op2
        · intro L f u K hN hS hK
          simp only [puts, Act.put, List.setIfInBounds_toArray, List.set_cons_zero, List.set_cons_succ, upd, Nat.reduceEqDiff, ↓reduceIte, if_true, if_false] at hK ⊢
          have HS9 := Lib.hid hS
          obtain ⟨qN, c0, c1, c2, c3, c4, c5, c6, c7, c8, c9, c10, c11, c12⟩ := hS
          have e3 := c3 (hN.out.2 3 (by decide +kernel))
          have e4 := c4 (hN.out.2 4 (by decide +kernel))
          clear qN c0 c1 c2 c3 c4 c5 c6 c7 c8 c9 c10 c11 c12
          go_simp
          obtain ⟨qN, c0, c1, c2, c3, c4, c5, c6, c7, c8, c9, c10, c11, c12⟩ := HS9.out
          exact hK.out _ _ ⟨fun z9 => qN (fun z => z9 (.inl z)), fun h => c0 (h.resolve_right (by decide)), fun h => c1 (h.resolve_right (by decide)), fun h => c2 (h.resolve_right (by decide)), fun h => c3 (h.resolve_right (by decide)), fun h => c4 (h.resolve_right (by decide)), fun _ => rfl, fun h => c6 (h.resolve_right (by decide)), fun h => c7 (h.resolve_right (by decide)), fun h => c8 (h.resolve_right (by decide)), fun h t0 => c9 (h.resolve_right (by decide)) (fun z => t0 (.inl z)), fun h t0 => c10 (h.resolve_right (by decide)) (fun z => t0 (.inl z)), fun h => c11 (h.resolve_right (by decide)), fun h => c12 (h.resolve_right (by decide))⟩ _ (by simp only [e3, e4])
        apply RelH.op2
        · intro L f u K hN hS hK
          simp only [puts, Act.put, List.setIfInBounds_toArray, List.set_cons_zero, List.set_cons_succ, upd, Nat.reduceEqDiff, ↓reduceIte, if_true, if_false] at hK ⊢
          have HS9 := Lib.hid hS
          obtain ⟨qN, c0, c1, c2, c3, c4, c5, c6, c7, c8, c9, c10, c11, c12⟩ := hS
          have e5 := c5 (hN.out.2 5 (by decide +kernel))
          have hcu : u.cell? ⟨b', o' + k, none⟩ = some (.int .i64 y) := by
            rcases Classical.em (L 9) with z9 | z9
            · rw [← (c9 z9 (hN.out.1 10 (by decide +kernel))).2]; exact cell_kept hs1 (al (Below.refl _ _))
            · rw [← qN z9]; exact hs1
          clear qN c0 c1 c2 c3 c4 c5 c6 c7 c8 c9 c10 c11 c12
          go_simp
          obtain ⟨qN, c0, c1, c2, c3, c4, c5, c6, c7, c8, c9, c10, c11, c12⟩ := HS9.out
          exact hK.out _ _ ⟨fun z9 => qN (fun z => z9 (.inl z)), fun h => c0 (h.resolve_right (by decide)), fun h => c1 (h.resolve_right (by decide)), fun h => c2 (h.resolve_right (by decide)), fun h => c3 (h.resolve_right (by decide)), fun h => c4 (h.resolve_right (by decide)), fun h => c5 (h.resolve_right (by decide)), fun _ => rfl, fun h => c7 (h.resolve_right (by decide)), fun h => c8 (h.resolve_right (by decide)), fun h t0 => c9 (h.resolve_right (by decide)) (fun z => t0 (.inl z)), fun h t0 => c10 (h.resolve_right (by decide)) (fun z => t0 (.inl z)), fun h => c11 (h.resolve_right (by decide)), fun h => c12 (h.resolve_right (by decide))⟩ _ (by simp only [e5])
        apply RelH.op2
        · intro L f u K hN hS hK
          simp only [puts, Act.put, List.setIfInBounds_toArray, List.set_cons_zero, List.set_cons_succ, upd, Nat.reduceEqDiff, ↓reduceIte, if_true, if_false] at hK ⊢
          have HS9 := Lib.hid hS
          obtain ⟨qN, c0, c1, c2, c3, c4, c5, c6, c7, c8, c9, c10, c11, c12⟩ := hS
          clear qN c0 c1 c2 c3 c4 c5 c6 c7 c8 c9 c10 c11 c12
          go_simp
          obtain ⟨qN, c0, c1, c2, c3, c4, c5, c6, c7, c8, c9, c10, c11, c12⟩ := HS9.out
          exact hK.out _ _ ⟨fun z9 => qN (fun z => z9 (.inl z)), fun h => c0 (h.resolve_right (by decide)), fun h => c1 (h.resolve_right (by decide)), fun h => c2 (h.resolve_right (by decide)), fun h => c3 (h.resolve_right (by decide)), fun h => c4 (h.resolve_right (by decide)), fun h => c5 (h.resolve_right (by decide)), fun h => c6 (h.resolve_right (by decide)), fun _ => rfl, fun h => c8 (h.resolve_right (by decide)), fun h t0 => c9 (h.resolve_right (by decide)) (fun z => t0 (.inl z)), fun h t0 => c10 (h.resolve_right (by decide)) (fun z => t0 (.inl z)), fun h => c11 (h.resolve_right (by decide)), fun h => c12 (h.resolve_right (by decide))⟩ _ rfl
        apply RelH.op2
        · intro L f u K hN hS hK
          simp only [puts, Act.put, List.setIfInBounds_toArray, List.set_cons_zero, List.set_cons_succ, upd, Nat.reduceEqDiff, ↓reduceIte, if_true, if_false] at hK ⊢
          have HS9 := Lib.hid hS
          obtain ⟨qN, c0, c1, c2, c3, c4, c5, c6, c7, c8, c9, c10, c11, c12⟩ := hS
          have e6 := c6 (hN.out.2 6 (by decide +kernel))
          have e7 := c7 (hN.out.2 7 (by decide +kernel))
          clear qN c0 c1 c2 c3 c4 c5 c6 c7 c8 c9 c10 c11 c12
          go_simp
          obtain ⟨qN, c0, c1, c2, c3, c4, c5, c6, c7, c8, c9, c10, c11, c12⟩ := HS9.out
          exact hK.out _ _ ⟨fun z9 => qN (fun z => z9 (.inl z)), fun h => c0 (h.resolve_right (by decide)), fun h => c1 (h.resolve_right (by decide)), fun h => c2 (h.resolve_right (by decide)), fun h => c3 (h.resolve_right (by decide)), fun h => c4 (h.resolve_right (by decide)), fun h => c5 (h.resolve_right (by decide)), fun h => c6 (h.resolve_right (by decide)), fun h => c7 (h.resolve_right (by decide)), fun _ => rfl, fun h t0 => c9 (h.resolve_right (by decide)) (fun z => t0 (.inl z)), fun h t0 => c10 (h.resolve_right (by decide)) (fun z => t0 (.inl z)), fun h => c11 (h.resolve_right (by decide)), fun h => c12 (h.resolve_right (by decide))⟩ _ (by simp only [e6, e7])
        apply RelH.op2
        · intro L f u K hN hS hK
          simp only [puts, Act.put, List.setIfInBounds_toArray, List.set_cons_zero, List.set_cons_succ, upd, Nat.reduceEqDiff, ↓reduceIte, if_true, if_false] at hK ⊢
          have HS9 := Lib.hid hS
          obtain ⟨qN, c0, c1, c2, c3, c4, c5, c6, c7, c8, c9, c10, c11, c12⟩ := hS
          have e8 := c8 (hN.out.2 8 (by decide +kernel))
          have hu := qN (hN.out.1 9 (by decide +kernel))
          subst hu
          clear qN c0 c1 c2 c3 c4 c5 c6 c7 c8 c9 c10 c11 c12
          go_simp
          obtain ⟨qN, c0, c1, c2, c3, c4, c5, c6, c7, c8, c9, c10, c11, c12⟩ := HS9.out
          exact hK.out _ _ ⟨fun z9 => (z9 (by simp)).elim, fun h => c0 (h.resolve_right (by decide)), fun h => c1 (h.resolve_right (by decide)), fun h => c2 (h.resolve_right (by decide)), fun h => c3 (h.resolve_right (by decide)), fun h => c4 (h.resolve_right (by decide)), fun h => c5 (h.resolve_right (by decide)), fun h => c6 (h.resolve_right (by decide)), fun h => c7 (h.resolve_right (by decide)), fun h => c8 (h.resolve_right (by decide)), fun _ _ => ⟨rfl, rfl⟩, fun h t0 => absurd (h.resolve_right (by decide)) (hN.out.1 10 (by decide +kernel)), fun h => c11 (h.resolve_right (by decide)), fun h => absurd (h.resolve_right (by decide)) (hN.out.1 12 (by decide +kernel))⟩ _ (by simp only [e8])
        apply RelH.op2
        · intro L f u K hN hS hK
          simp only [puts, Act.put, List.setIfInBounds_toArray, List.set_cons_zero, List.set_cons_succ, upd, Nat.reduceEqDiff, ↓reduceIte, if_true, if_false] at hK ⊢
          have HS9 := Lib.hid hS
          obtain ⟨qN, c0, c1, c2, c3, c4, c5, c6, c7, c8, c9, c10, c11, c12⟩ := hS
          obtain ⟨x10, hu⟩ := c9 (hN.out.2 9 (by decide +kernel)) (hN.out.1 10 (by decide +kernel))
          have x5 := c1 (hN.out.2 1 (by decide +kernel))
          subst hu
          refine step_lies rfl (.tmp 58) (.tmp 66) 25 rfl w.heap.size 3 i0 _ 1 8 Try.underlying25 hi0 hz0 HI1.out HI.out rfl (by decide) (.slice A1 L1.length q1) L1.length (iv L1) x5 HOAV.out ⟨V.heap.size, 0, none⟩ 1 1 [.int .i64 (y - n)] x10 rfl HNCV.out (one_cell rfl) (by decide) (by unfold maxLen; omega) (by omega) (by rw [size_alloc']; omega) _ rfl ?_
          intro g9 d9 w9 hown1 hgrow hat hlt9
          exact hK.out _ _ ⟨fun z9 => (z9 (.inl (hN.out.2 9 (by decide +kernel)))).elim, fun h => c0 (h.resolve_right (by decide)), fun h => c1 (h.resolve_right (by decide)), fun h => c2 (h.resolve_right (by decide)), fun h => c3 (h.resolve_right (by decide)), fun h => c4 (h.resolve_right (by decide)), fun h => c5 (h.resolve_right (by decide)), fun h => c6 (h.resolve_right (by decide)), fun h => c7 (h.resolve_right (by decide)), fun h => c8 (h.resolve_right (by decide)), fun h t0 => (t0 (by simp)).elim, fun _ _ => ⟨g9, d9, rfl, row_snoc hown1, hgrow, hat⟩, fun h => c11 (h.resolve_right (by decide)), fun h => absurd (h.resolve_right (by decide)) (hN.out.1 12 (by decide +kernel))⟩ _ rfl
        apply RelH.op2
        · intro L f u K hN hS hK
          simp only [puts, Act.put, List.setIfInBounds_toArray, List.set_cons_zero, List.set_cons_succ, upd, Nat.reduceEqDiff, ↓reduceIte, if_true, if_false] at hK ⊢
          have HS9 := Lib.hid hS
          obtain ⟨qN, c0, c1, c2, c3, c4, c5, c6, c7, c8, c9, c10, c11, c12⟩ := hS
          clear qN c0 c1 c2 c3 c4 c5 c6 c7 c8 c9 c10 c11 c12
          go_simp
          obtain ⟨qN, c0, c1, c2, c3, c4, c5, c6, c7, c8, c9, c10, c11, c12⟩ := HS9.out
          exact hK.out _ _ ⟨fun z9 => qN (fun z => z9 (.inl z)), fun h => c0 (h.resolve_right (by decide)), fun h => c1 (h.resolve_right (by decide)), fun h => c2 (h.resolve_right (by decide)), fun h => c3 (h.resolve_right (by decide)), fun h => c4 (h.resolve_right (by decide)), fun h => c5 (h.resolve_right (by decide)), fun h => c6 (h.resolve_right (by decide)), fun h => c7 (h.resolve_right (by decide)), fun h => c8 (h.resolve_right (by decide)), fun h t0 => c9 (h.resolve_right (by decide)) (fun z => t0 (.inl z)), fun h t0 => c10 (h.resolve_right (by decide)) (fun z => t0 (.inl z)), fun _ => rfl, fun h => c12 (h.resolve_right (by decide))⟩ _ rfl
        apply RelH.op2
        · intro L f u K hN hS hK
          simp only [puts, Act.put, List.setIfInBounds_toArray, List.set_cons_zero, List.set_cons_succ, upd, Nat.reduceEqDiff, ↓reduceIte, if_true, if_false] at hK ⊢
          have HS9 := Lib.hid hS
          obtain ⟨qN, c0, c1, c2, c3, c4, c5, c6, c7, c8, c9, c10, c11, c12⟩ := hS
          have e11 := c11 (hN.out.2 11 (by decide +kernel))
          obtain ⟨g9, d9, e10, hr9, hg9, hat9⟩ := c10 (hN.out.2 10 (by decide +kernel)) (hN.out.1 12 (by decide +kernel))
          have X9 := box_app (u := u) HXV.out HTV.out (Nat.le_refl _) (by simp) hg9
          have R9 := box_app (u := u) HRV.out HTV.out (Nat.le_refl _) (by simp) hg9
          have O9 := box_app (u := u) HOV.out HTV.out (Nat.le_refl _) (by simp) hg9
          have T9 := Two.app1 HTV.out HGS.out hr9 hg9 hat9
          have hd1 := O9.free 1 (by simp)
          have hd2 := O9.cells 1 _ rfl
          have HFIN := Lib.hid (And.intro (X9.far O9.base hgX 1 (.slice (some ⟨g9, 0, none⟩) (L1.length + 1) d9)) (And.intro (R9.far O9.base hgR 1 (.slice (some ⟨g9, 0, none⟩) (L1.length + 1) d9)) (And.intro (O9.set 1 (.slice (some ⟨g9, 0, none⟩) (L1.length + 1) d9)) (T9.set (g := gO) (by simp) 1 (.slice (some ⟨g9, 0, none⟩) (L1.length + 1) d9)))))
          clear hr9 hg9 hat9 X9 R9 O9 T9
          clear qN c0 c1 c2 c3 c4 c5 c6 c7 c8 c9 c10 c11 c12
          go_simp
          obtain ⟨qN, c0, c1, c2, c3, c4, c5, c6, c7, c8, c9, c10, c11, c12⟩ := HS9.out
          exact hK.out undef _ ⟨fun z9 => (z9 (.inl (hN.out.2 9 (by decide +kernel)))).elim, fun h => c0 (h.resolve_right (by decide)), fun h => c1 (h.resolve_right (by decide)), fun h => c2 (h.resolve_right (by decide)), fun h => c3 (h.resolve_right (by decide)), fun h => c4 (h.resolve_right (by decide)), fun h => c5 (h.resolve_right (by decide)), fun h => c6 (h.resolve_right (by decide)), fun h => c7 (h.resolve_right (by decide)), fun h => c8 (h.resolve_right (by decide)), fun h t0 => (t0 (.inl (hN.out.2 10 (by decide +kernel)))).elim, fun h t0 => (t0 (by simp)).elim, fun h => c11 (h.resolve_right (by decide)), fun _ => ⟨g9, d9, HFIN.out⟩⟩ _ (by simp only [e11, e10])
        exact RelH.done
      intro L f V0 hL hS
      simp only [puts, Act.put, List.setIfInBounds_toArray, List.set_cons_zero, List.set_cons_succ]
      obtain ⟨qN, c0, c1, c2, c3, c4, c5, c6, c7, c8, c9, c10, c11, c12⟩ := hS
      obtain ⟨g9, d9, X, R, O, T⟩ := c12 (hL 12 (by decide))
      clear qN c0 c1 c2 c3 c4 c5 c6 c7 c8 c9 c10 c11 c12 hL HXV HRV HOV HTV HGS HOAV HNCV HVW hO1 hX1 hs1
      rw [show L1.length + 1 = (L1 ++ [y - n]).length by simp] at O
      obtain ⟨L3, hL3⟩ : ∃ L3, L1 ++ [y - n] = L3 := ⟨_, rfl⟩
      rw [hL3] at O T
      have HL3 := Lib.hid hL3
      clear hL3
      have HOA := Lib.hid (World.ownsRow.alloc (show V0.ownsRow w.heap.size 3 1 (.slice A2 L2.length q2) L2.length (iv L2) from T.b) (.cells #[.int .i64 n] 3))
      have HNC := Lib.hid (cell_one V0 (.int .i64 n) 3)
      have hXB := X.below.size
      have HGG := Lib.hid (show ∀ g ∈ [w.heap.size, w.heap.size + 1, gO], g < V0.heap.size by
        intro g hg
        simp only [List.mem_cons, List.mem_nil_iff, or_false] at hg
        rcases hg with rfl | rfl | rfl
        · exact X.there
        · exact R.there
        · exact O.there)
      go_wp2_with (at_builtin; go_must (refine wpList_append_lies _ rfl _ _ 25 rfl w.heap.size 3 i0 _ 1 8 Try.underlying25 hi0 hz0 HI1.out HI.out rfl (by decide) (.slice A2 L2.length q2) L2.length (iv L2) rfl HOA.out ⟨V0.heap.size, 0, none⟩ 1 1 [.int .i64 n] rfl rfl HNC.out (one_cell rfl) (by decide) (by unfold maxLen; omega) (by omega) (by rw [size_alloc']; omega) _ rfl ?_; intro g8 d8 w8 hown1 hgrow hat hlt8))
      have X8 := box_app2 X T (Nat.le_refl _) (by simp) hgrow
      have R8 := box_app2 R T (Nat.le_refl _) (by simp) hgrow
      have O8 := box_app2 O T (Nat.le_refl _) (by simp) hgrow
      have T8 := (Two.app1 T.swap HGG.out (row_snoc hown1) hgrow hat).swap
      clear X R O T hown1 hgrow hat hlt8 HOA HNC HGG hXB
      go_roundw
      case rel => exact ⟨k + 1, _, d9, _, d8, L3, L2 ++ [n], _, HLT.out, by go_num, by simp, Lib.hid ⟨by rw [HS2.out, HL3.out], HG2.out.symm, HW2.out.symm⟩, X8, R8, O8, T8⟩
      case measure => have := HLT.out; simp [intOf]; omega
    · have hkk : k = l.length := by omega
      subst hkk
      have X_0 := X.cells 0 _ rfl
      have X_1 := X.cells 1 _ rfl
      have X_f0 := X.free 0 (by simp)
      have X_f1 := X.free 1 (by simp)
      have X_t := X.there
      have R_0 := R.cells 0 _ rfl
      have R_1 := R.cells 1 _ rfl
      have R_f0 := R.free 0 (by simp)
      have R_f1 := R.free 1 (by simp)
      have R_t := R.there
      have O_0 := O.cells 0 _ rfl
      have O_1 := O.cells 1 _ rfl
      have O_f0 := O.free 0 (by simp)
      have O_f1 := O.free 1 (by simp)
      have O_t := O.there
      have TC := two_cells R (.int .i64 wk) (.slice A1 L1.length q1)
      go_wp2
      refine bodyPost_ret (v := .tuple #[.agg #[.int .i64 wk, .slice A1 L1.length q1], .slice A2 L2.length q2, .bool true]) (by simp [results, Try.results26, go_sem, TC.1, TC.2]) rfl (by
        rw [HQ.out.1, HQ.out.2.1, HQ.out.2.2, HQ2.out, ← HL.out.1, ← HL.out.2.1, ← HL.out.2.2]
        exact ⟨A1, q1, A2, q2, rfl, ((T.set (g := w.heap.size + 1) (by simp) 0 _).set (g := w.heap.size + 1) (by simp) 1 _).sub (by simp), (O.below.setCell R.base _).setCell R.base _⟩)
set_option maxHeartbeats 800000 in
theorem out_impl (P : Option Addr) (cap : Nat) (l : List R) (wt : Int) (A : Option Addr) (c : Nat) (s : List Int) (w : World) (h : Ak w P l A s) :
    Calls Try.prog 16 #[.slice P l.length cap, .agg #[.int .i64 wt, .slice A s.length c]] w (APost (aftW l wt s 0) (aftS l wt s 0) (aftG l wt s 0) (dryOk l wt s 0) w) := by
  have HA := Lib.hid h
  clear h
  go_enter Try.func16, Try.ntmps16
  go_wp2_with fail
  have X := (Box.new (Below.refl _ w) [.int .i64 wt, .slice A s.length c] 27 (g := w.heap.size) rfl).alloc (.cells #[.int .i64 0, .slice none 0 0] 27)
  have R := Box.new (al (Below.refl _ w) (o := (.cells #[.int .i64 wt, .slice A s.length c] 27))) [.int .i64 0, .slice none 0 0] 27 (g := w.heap.size + 1) (by simp only [size_alloc'])
  generalize ((w.alloc (.cells #[.int .i64 wt, .slice A s.length c] 27)).alloc (.cells #[.int .i64 0, .slice none 0 0] 27)) = W1 at X R ⊢
  have X_0 := X.cells 0 _ rfl
  have X_1 := X.cells 1 _ rfl
  have X_f0 := X.free 0 (by simp)
  have X_f1 := X.free 1 (by simp)
  have X_t := X.there
  have R_0 := R.cells 0 _ rfl
  have R_1 := R.cells 1 _ rfl
  have R_f0 := R.free 0 (by simp)
  have R_f1 := R.free 1 (by simp)
  have R_t := R.there
  have hXT := R.there
  have hXW := X.below.size
  go_wp2_with fail
  refine (aft_impl P cap l wt A c s 0 _ (HA.out.keep X.below)).mono ?_
  rintro e v2 ⟨A1, q1, A2, q2, rfl, T, hv2⟩
  clear X_0 X_1 X_f0 X_f1 X_t
  clear R_0 R_1 R_f0 R_f1 R_t
  replace X := X.more hv2
  replace R := R.more hv2
  have zhv2 := hv2.size
  clear hv2
  have X_0 := X.cells 0 _ rfl
  have X_1 := X.cells 1 _ rfl
  have X_f0 := X.free 0 (by simp)
  have X_f1 := X.free 1 (by simp)
  have X_t := X.there
  have R_0 := R.cells 0 _ rfl
  have R_1 := R.cells 1 _ rfl
  have R_f0 := R.free 0 (by simp)
  have R_f1 := R.free 1 (by simp)
  have R_t := R.there
  have T2 := two_add T hXT
  clear T hXT
  obtain ⟨wk, hwk⟩ : ∃ v, aftW l wt s 0 = v := ⟨_, rfl⟩
  obtain ⟨L1, hL1⟩ : ∃ v, aftS l wt s 0 = v := ⟨_, rfl⟩
  obtain ⟨L2, hL2⟩ : ∃ v, aftG l wt s 0 = v := ⟨_, rfl⟩
  obtain ⟨q, hq⟩ : ∃ v, dryOk l wt s 0 = v := ⟨_, rfl⟩
  rw [hL1, hL2] at T2
  rw [hwk, hL1, hL2, hq]
  have HE := Lib.hid (And.intro hwk (And.intro hL1 (And.intro hL2 hq)))
  clear hwk hL1 hL2 hq
  have TC := two_cells R (.int .i64 wk) (.slice A1 L1.length q1)
  have X_0 := X.cells 0 _ rfl
  have X_1 := X.cells 1 _ rfl
  have X_f0 := X.free 0 (by simp)
  have X_f1 := X.free 1 (by simp)
  have X_t := X.there
  have R_0 := R.cells 0 _ rfl
  have R_1 := R.cells 1 _ rfl
  have R_f0 := R.free 0 (by simp)
  have R_f1 := R.free 1 (by simp)
  have R_t := R.there
  go_wp2
  exact bodyPost_ret (v := .tuple #[.agg #[.int .i64 wk, .slice A1 L1.length q1], .slice A2 L2.length q2, .bool q]) (by simp [results, Try.results16, go_sem, TC.1, TC.2]) rfl (by
    rw [HE.out.1, HE.out.2.1, HE.out.2.2.1, HE.out.2.2.2]
    exact ⟨A1, q1, A2, q2, rfl, (((T2.set (g := w.heap.size + 1) (by simp) 0 _).set (g := w.heap.size + 1) (by simp) 1 _).sub (gs' := []) (by simp)).base (show w.heap.size ≤ W1.heap.size by omega), (X.below.setCell R.base _).setCell R.base _⟩)
end Go.Proofs.Ythilbpklmjpmcaa.FallV
