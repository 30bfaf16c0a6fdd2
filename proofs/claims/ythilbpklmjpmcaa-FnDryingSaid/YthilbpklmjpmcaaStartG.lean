/- The starts by their places: startsOf's map; FirstToFall and PureBetween. Made by tools/mk_startg.py. -/
import Derived.Test.YthilbpklmjpmcaaLiqG
import Derived.Test.YthilbpklmjpmcaaStartP
import Derived.Test.YthilbpklmjpmcaaRegn3
import Derived.Lib.MinMax
namespace Go.Proofs.Ythilbpklmjpmcaa.StartG
open Go.RowKit Go.Maps Go.Proofs.Ythilbpklmjpmcaa.Mem Go.Proofs.Ythilbpklmjpmcaa.Base Go.Proofs.Ythilbpklmjpmcaa.SInt Go.Proofs.Ythilbpklmjpmcaa.Regn Go.Proofs.Ythilbpklmjpmcaa.Boxes Go.Proofs.Ythilbpklmjpmcaa.Keep Go.Proofs.Ythilbpklmjpmcaa.Within Go.Proofs.Ythilbpklmjpmcaa.Nest Go.Proofs.Ythilbpklmjpmcaa.SKind Go.Proofs.Ythilbpklmjpmcaa.KindP Go.Proofs.Ythilbpklmjpmcaa.KindG Go.Proofs.Ythilbpklmjpmcaa.LiqP Go.Proofs.Ythilbpklmjpmcaa.LiqG Go.Proofs.Ythilbpklmjpmcaa.StartP
set_option linter.unusedVariables false
set_option maxRecDepth 100000
theorem dryAt_eq {l : List R} {s : List Int} {wt : Int} {k : Nat} {x : R} {y : Int} (hk : k < l.length) (hs : k < s.length) (hx : l[k] = x) (hy : s[k] = y) : dryAt l s wt k = dryI x.f2 y wt := by unfold dryAt; rw [atK_eq hk, at0_eq hs, hx, hy]
theorem dryAt_range {l : List R} {s : List Int} {wt : Int} (V : Vld l wt s) {k : Nat} (hk : k < l.length) : -1 ≤ dryAt l s wt k ∧ dryAt l s wt k ≤ 1000000 := by
  have h1 := V.len
  have h2 := V.kind hk
  have h3 := V.salt k (by omega)
  rw [dryAt_eq hk (by omega) rfl rfl]
  exact dry_range h3.1 h3.2 h2.2.1 V.w0 V.w1
/-- a map of the starts, in a new block. -/
def StPost (d : Nat → Int) (n : Nat) (w : World) (e : Ending) (w' : World) : Prop := ∃ b : Nat, e = .returned (.map (some b)) ∧ w.heap.size ≤ b ∧ OwnM w' b n d n ∧ Below w.heap.size w w'
set_option maxHeartbeats 1600000 in
theorem starts_impl (P : Option Addr) (cap : Nat) (l : List R) (wt : Int) (A : Option Addr) (c : Nat) (s : List Int) (w : World) (h : Ak w P l A s) (V : Vld l wt s) :
    Calls Try.prog 72 #[.slice P l.length cap, .agg #[.int .i64 wt, .slice A s.length c]] w (StPost (dryAt l s wt) l.length w) := by
  have HA := Lib.hid h
  have HV := Lib.hid V
  have hln : l.length ≤ 6 := V.n.2
  have hw0 := V.w0
  have hw1 := V.w1
  have HLS := Lib.hid V.len
  clear h V
  have hmk := @run_makeMap Try.prog
  go_enter Try.func72, Try.ntmps72
  go_upto_region 1 with fail
  have X := Box.new (Below.refl _ w) [.int .i64 wt, .slice A s.length c] 27 (g := w.heap.size) rfl
  generalize (w.alloc (.cells #[.int .i64 wt, .slice A s.length c] 27)) = W1 at X ⊢
  have X_0 := X.cells 0 _ rfl
  have X_1 := X.cells 1 _ rfl
  have X_f0 := X.free 0 (by simp)
  have X_f1 := X.free 1 (by simp)
  have X_t := X.there
  go_upto_region 3 with fail
  obtain ⟨mb, hmb⟩ : ∃ b, W1.heap.size = b := ⟨_, rfl⟩
  have hX2 := X.alloc (.map #[] 0)
  have hM : (W1.alloc (.map #[] 0)).ownsMap Try.prog 3 (plainElem (H := Unit) Try.prog 3) mb 0 (.map []) := by rw [← hmb]; exact World.ownsMap_made _ _ _ _
  have hXm : w.heap.size < mb := by have := X.there; omega
  rw [hmb]
  clear X hmb
  generalize W1.alloc (.map #[] 0) = W2 at hX2 hM
  go_loopw [11] (fun i wr => ∃ k : Nat, k ≤ l.length ∧ i = .int .i64 k ∧ Box w.heap.size [.int .i64 wt, .slice A s.length c] w wr ∧ ∃ D : DataW Unit, wr.ownsMap Try.prog 3 (plainElem Try.prog 3) mb k D ∧ Hid (Fits D (dryAt l s wt) k)) (fun i _ => l.length - (intOf i).toNat)
  case atStart => exact ⟨0, Nat.zero_le _, rfl, hX2, _, hM, Lib.hid (fits_start _)⟩
  case round =>
    clear hX2 hM
    obtain ⟨k, hk, rfl, X, D, hown, HF⟩ := hrel
    by_cases hlt : k < l.length
    · have hks : k < s.length := by have := HLS.out; omega
      obtain ⟨b, o, rfl, hb, hc⟩ := HA.out.k.at (k := k * 3) (by rw [flat_n]; omega)
      obtain ⟨b', o', rfl, hb', hc'⟩ := HA.out.sa.at (k := k) (by rw [iv_len]; exact hks)
      obtain ⟨x, hx⟩ : ∃ x, l[k] = x := ⟨_, rfl⟩
      obtain ⟨y, hy⟩ : ∃ y, s[k] = y := ⟨_, rfl⟩
      obtain ⟨c0, c1, c2⟩ := cells3 (Below.refl _ w) hb hc hlt hx
      have c3 : w.cell? ⟨b', o' + k, none⟩ = some (.int .i64 y) := by rw [← hy]; exact cell_s (Below.refl _ w) hb' hc' hks
      have hkd := HV.out.kind hlt
      have hsl := HV.out.salt k hks
      rw [hx] at hkd
      rw [hy] at hsl
      have HD := Lib.hid (dryAt_eq (wt := wt) hlt hks hx hy)
      have HL := Lib.hid hlt
      clear hc hc' hx hy
      have w0 := ((bcell X.below).1 _ _ hb).trans c0
      have w1 := ((bcell X.below).1 _ _ hb).trans c1
      have w2 := ((bcell X.below).1 _ _ hb).trans c2
      go_upto_region 5 with fail
      clear w0 w1 w2
      have HB0 := X.below
      have X_t2 := X.there
      have Y := Box.new X.below [.string x.f0, .int .i64 x.f1, .int .i64 x.f2] 37 (g := wr.heap.size) rfl
      clear X_0 X_1 X_f0 X_f1 X_t
      replace X := (X).alloc (.cells #[.string x.f0, .int .i64 x.f1, .int .i64 x.f2] 37)
      replace hown := map_keep hown (al (Below.refl _ _) (o := (.cells #[.string x.f0, .int .i64 x.f1, .int .i64 x.f2] 37)))
      generalize (wr.alloc (.cells #[.string x.f0, .int .i64 x.f1, .int .i64 x.f2] 37)) = W2 at Y X hown ⊢
      have X_0 := X.cells 0 _ rfl
      have X_1 := X.cells 1 _ rfl
      have X_f0 := X.free 0 (by simp)
      have X_f1 := X.free 1 (by simp)
      have X_t := X.there
      have Y_0 := Y.cells 0 _ rfl
      have Y_1 := Y.cells 1 _ rfl
      have Y_2 := Y.cells 2 _ rfl
      have Y_f0 := Y.free 0 (by simp)
      have Y_f1 := Y.free 1 (by simp)
      have Y_f2 := Y.free 2 (by simp)
      have Y_t := Y.there
      have c3c := ((bcell X.below).1 _ _ hb').trans c3
      by_cases hy0 : y = 0
      · subst hy0
        have HN := Lib.hid (fits_skip HF.out (by rw [HD.out, dry_zero]; omega))
        go_wp2
        go_roundw
        case rel => exact ⟨k + 1, HL.out, by go_num, X, D, hown.mono (Nat.le_succ _), HN⟩
        case measure => have := HL.out; simp [intOf]; omega
      · have hq : decide ((0 : Int) < y) = true := decide_eq_true (by omega)
        have hdv := (HD.out).trans ((dry_pos (wt := wt) (show 0 < y by omega) hkd.2.1).trans (most_max _ _))
        have hdr := div_range (a := y * 1000 + x.f2 - 1) (g := x.f2) (by omega) (by omega) hkd.2.1
        have hd0 := dry_nonneg (g := x.f2) (wt := wt) hy0
        obtain ⟨q, hqq⟩ : ∃ q, (y * 1000 + x.f2 - 1) / x.f2 = q := ⟨_, rfl⟩
        rw [hqq] at hdv hdr
        have HDV := Lib.hid hdv
        have HN := Lib.hid (fits_put HF.out (by rw [HD.out]; exact hd0))
        have e1 : IntKind.i64.wrap (wt - q) = wt - q := IntWalk.i64_in _ (by omega)
        have e2 : IntKind.i64.wrap (wt - q + 1) = wt - q + 1 := IntWalk.i64_in _ (by omega)
        clear hdv hd0 hy0
        go_wp2_with fail
        clear c3c
        have c0_c := ((bcell X.below).1 _ _ hb).trans c0
        have c1_c := ((bcell X.below).1 _ _ hb).trans c1
        have c2_c := ((bcell X.below).1 _ _ hb).trans c2
        have c3_c := ((bcell X.below).1 _ _ hb').trans c3
        refine wp_region_last 14 (fun w' => Box (w.heap.size) [.int .i64 wt, .slice (some ⟨b', o', none⟩) s.length c] w w' ∧ Box (wr.heap.size) [.string x.f0, .int .i64 x.f1, .int .i64 x.f2] w w' ∧ w'.ownsMap Try.prog 3 (plainElem Try.prog 3) mb k D) (by kernel_rfl) (by kernel_rfl) (by kernel_rfl) ⟨X.drew, Y.drew, map_keep hown (Below.refl _ _).drew⟩ ?_
        clear X_0 X_1 X_f0 X_f1 X_t
        clear Y_0 Y_1 Y_2 Y_f0 Y_f1 Y_f2 Y_t
        clear c0_c
        clear c1_c
        clear c2_c
        clear c3_c
        simp only [List.take_succ_cons, List.take_zero]
        iterate 14 (
          apply SeqH.one
          · intro uw K hS hK
            obtain ⟨qX, qY, qhown⟩ := hS
            have qX_0 := qX.cells 0 _ rfl
            have qX_1 := qX.cells 1 _ rfl
            have qY_0 := qY.cells 0 _ rfl
            have qY_1 := qY.cells 1 _ rfl
            have qY_2 := qY.cells 2 _ rfl
            have qc0_c := ((bcell qX.below).1 _ _ hb).trans c0
            have qc1_c := ((bcell qX.below).1 _ _ hb).trans c1
            have qc2_c := ((bcell qX.below).1 _ _ hb).trans c2
            have qc3_c := ((bcell qX.below).1 _ _ hb').trans c3
            first
              | (go_simp; exact hK.out _ ⟨qX, qY, qhown⟩)
              | (go_simp; go_at_call 74; (with_reducible refine (for_impl x y hkd.2.1 hkd.2.2 hsl.1 hsl.2 _).mono ?_); rintro e uw1 ⟨rfl, hv⟩; rw [hqq]; go_wp2_with fail; exact hK.out _ ⟨qX.more hv, qY.more hv, map_keep qhown hv⟩)
          try simp only [Act.put, List.setIfInBounds_toArray, List.set_cons_zero, List.set_cons_succ])
        refine SeqH.rest rfl ?_
        intro v3 hS
        clear X Y hown
        obtain ⟨X, Y, hown⟩ := hS
        simp only [List.drop_succ_cons, List.drop_zero]
        have X_0 := X.cells 0 _ rfl
        have X_1 := X.cells 1 _ rfl
        have X_f0 := X.free 0 (by simp)
        have X_f1 := X.free 1 (by simp)
        have X_t := X.there
        have Y_0 := Y.cells 0 _ rfl
        have Y_1 := Y.cells 1 _ rfl
        have Y_2 := Y.cells 2 _ rfl
        have Y_f0 := Y.free 0 (by simp)
        have Y_f1 := Y.free 1 (by simp)
        have Y_f2 := Y.free 2 (by simp)
        have Y_t := Y.there
        have c0_c := ((bcell X.below).1 _ _ hb).trans c0
        have c1_c := ((bcell X.below).1 _ _ hb).trans c1
        have c2_c := ((bcell X.below).1 _ _ hb).trans c2
        have c3_c := ((bcell X.below).1 _ _ hb').trans c3
        go_wp2_with (at_mapUpdate; refine wpList_mapUpdate_own _ rfl _ _ _ 79 rfl 3 3 keyI Try.underlying79 _ mb k _ rfl hown (by unfold maxLen; omega) _ _ _ rfl rfl (keyOf_int_mk Try.underlying3 (WalkArith.wf_i64 (by omega))) _ [] (plainElem_int Try.underlying3 (WalkArith.wf_i64 (by omega))) ?_; intro w9 hown9 hg9)
        have X9 := box_grown X hg9 (fun j hj => by injection hj with hj; omega)
        go_roundw
        case rel => exact ⟨k + 1, HL.out, by go_num, X9, _, hown9, by rw [← HDV.out]; exact HN⟩
        case measure => have := HL.out; simp [intOf]; omega
    · have hkk : k = l.length := by omega
      subst hkk
      go_wp2
      go_ret
      exact ⟨mb, rfl, by omega, ⟨D, hown, HF.out⟩, X.below⟩
set_option maxHeartbeats 1600000 in
theorem first_spec (P : Option Addr) (cap : Nat) (l : List R) (wt : Int) (A : Option Addr) (c : Nat) (s : List Int) (w : World) (h : Ak w P l A s) :
    Calls Try.prog 35 #[.slice P l.length cap, .agg #[.int .i64 wt, .slice A s.length c]] w (RPost (firstV l wt s) w) := by
  have HA := Lib.hid h
  have hln0 := h.n
  have hsm0 := h.m
  clear h
  go_enter Try.func35, Try.ntmps35
  go_wp2_with fail
  have X := Box.new (Below.refl _ w) [.int .i64 wt, .slice A s.length c] 27 (g := w.heap.size) rfl
  generalize (w.alloc (.cells #[.int .i64 wt, .slice A s.length c] 27)) = W1 at X ⊢
  have X_0 := X.cells 0 _ rfl
  have X_1 := X.cells 1 _ rfl
  have X_f0 := X.free 0 (by simp)
  have X_f1 := X.free 1 (by simp)
  have X_t := X.there
  go_wp2_with fail
  refine (liq_spec P cap l wt A c s _ (HA.out.keep X.below)).mono ?_
  rintro e v2 ⟨rfl, hv2⟩
  clear X_0 X_1 X_f0 X_f1 X_t
  replace X := X.more hv2
  have zhv2 := hv2.size
  clear hv2
  have X_0 := X.cells 0 _ rfl
  have X_1 := X.cells 1 _ rfl
  have X_f0 := X.free 0 (by simp)
  have X_f1 := X.free 1 (by simp)
  have X_t := X.there
  cases h0 : liqB l wt s
  · have HQ := Lib.hid (first_bad h0)
    clear h0
    go_wp2
    go_ret3
    exact rpost (by rw [HQ.out] <;> rfl) X.below
  have HV := Lib.hid (vld h0)
  have hln : l.length ≤ 6 := HV.out.n.2
  have hl1 : 1 ≤ l.length := HV.out.n.1
  have hw0 := HV.out.w0
  have hw1 := HV.out.w1
  have HLS := Lib.hid HV.out.len
  have HY := Lib.hid (fun (j : Nat) (v : Int) (e : ffS (dryAt l s wt) l.length = ((j : Int), v)) => first_yes h0 e)
  clear h0
  go_wp2
  go_loopw [7, 8, 9] (fun p q i wr => ∃ k : Nat, k ≤ l.length ∧ i = .int .i64 k ∧ (∃ f v : Int, p = .int .i64 f ∧ q = .int .i64 v ∧ Hid (ffS (dryAt l s wt) k = (f, v))) ∧ Box w.heap.size [.int .i64 wt, .slice A s.length c] w wr) (fun _ _ i _ => l.length - (intOf i).toNat)
  case atStart => exact ⟨0, Nat.zero_le _, rfl, ⟨-1, 0, by simp, by simp, Lib.hid rfl⟩, X⟩
  case round =>
    clear X
    obtain ⟨k, hk, rfl, ⟨f, v, rfl, rfl, HF⟩, X⟩ := hrel
    by_cases hlt : k < l.length
    · have hks : k < s.length := by have := HLS.out; omega
      obtain ⟨b, o, rfl, hb, hc⟩ := HA.out.k.at (k := k * 3) (by rw [flat_n]; omega)
      obtain ⟨b', o', rfl, hb', hc'⟩ := HA.out.sa.at (k := k) (by rw [iv_len]; exact hks)
      obtain ⟨x, hx⟩ : ∃ x, l[k] = x := ⟨_, rfl⟩
      obtain ⟨y, hy⟩ : ∃ y, s[k] = y := ⟨_, rfl⟩
      obtain ⟨c0, c1, c2⟩ := cells3 (Below.refl _ w) hb hc hlt hx
      have c3 : w.cell? ⟨b', o' + k, none⟩ = some (.int .i64 y) := by rw [← hy]; exact cell_s (Below.refl _ w) hb' hc' hks
      have hkd := HV.out.kind hlt
      have hsl := HV.out.salt k hks
      rw [hx] at hkd
      rw [hy] at hsl
      have hdr := dryAt_range HV.out hlt
      obtain ⟨dv, hdv⟩ : ∃ v, dryAt l s wt k = v := ⟨_, rfl⟩
      rw [hdv] at hdr
      have hde : dryI x.f2 y wt = dv := (dryAt_eq (wt := wt) hlt hks hx hy).symm.trans hdv
      have HDV := Lib.hid hdv
      have HL := Lib.hid hlt
      clear hc hc' hx hy hdv
      go_wp2_with fail
      have c0_c := ((bcell X.below).1 _ _ hb).trans c0
      have c1_c := ((bcell X.below).1 _ _ hb).trans c1
      have c2_c := ((bcell X.below).1 _ _ hb).trans c2
      have c3_c := ((bcell X.below).1 _ _ hb').trans c3
      refine wp_region_text (fun w' => Box (w.heap.size) [.int .i64 wt, .slice (some ⟨b', o', none⟩) s.length c] w w') (by kernel_rfl) (by kernel_rfl) (X.drew) ?_
      clear X_0 X_1 X_f0 X_f1 X_t
      clear c0_c
      clear c1_c
      clear c2_c
      clear c3_c
      iterate 13 (
        apply SeqH.one
        · intro uw K hS hK
          have qX := hS
          have qX_0 := qX.cells 0 _ rfl
          have qX_1 := qX.cells 1 _ rfl
          have qc0_c := ((bcell qX.below).1 _ _ hb).trans c0
          have qc1_c := ((bcell qX.below).1 _ _ hb).trans c1
          have qc2_c := ((bcell qX.below).1 _ _ hb).trans c2
          have qc3_c := ((bcell qX.below).1 _ _ hb').trans c3
          first
            | (go_simp; exact hK.out _ qX)
            | (go_simp; go_at_call 73; (with_reducible refine (dry_spec x y wt hkd.2.1 hkd.2.2 hsl.1 hsl.2 hw0 hw1 _).mono ?_); rintro e uw1 ⟨rfl, hv⟩; rw [hde]; go_wp2_with fail; exact hK.out _ (qX.more hv))
        try simp only [Act.put, List.setIfInBounds_toArray, List.set_cons_zero, List.set_cons_succ])
      refine SeqH.end' rfl ?_
      intro v3 hS
      clear X
      have X := hS; clear hS
      have X_0 := X.cells 0 _ rfl
      have X_1 := X.cells 1 _ rfl
      have X_f0 := X.free 0 (by simp)
      have X_f1 := X.free 1 (by simp)
      have X_t := X.there
      have c0_c := ((bcell X.below).1 _ _ hb).trans c0
      have c1_c := ((bcell X.below).1 _ _ hb).trans c1
      have c2_c := ((bcell X.below).1 _ _ hb).trans c2
      have c3_c := ((bcell X.below).1 _ _ hb').trans c3
      clear hde c0 c1 c2 c3
      by_cases hneg : dv < 0
      · have hq : decide ((0 : Int) ≤ dv) = false := decide_eq_false (by omega)
        have HN := Lib.hid ((ff_skip (by rw [HDV.out]; exact hneg)).trans HF.out)
        clear hneg
        go_wp2
        go_roundw
        case rel => exact ⟨k + 1, HL.out, by go_num, ⟨f, v, rfl, rfl, HN⟩, X⟩
        case measure => have := HL.out; simp [intOf]; omega
      · have hq : decide ((0 : Int) ≤ dv) = true := decide_eq_true (by omega)
        have hge := Lib.hid (show 0 ≤ dryAt l s wt k by rw [HDV.out]; omega)
        clear hneg
        rcases ff_spec (dryAt l s wt) k with ⟨hf, _⟩ | ⟨j, hj, hf, hj0⟩
        · have HN := Lib.hid (ff_first hge.out hf)
          rw [HF.out] at hf
          injection hf with e1 e2
          subst e1 e2
          rw [HDV.out] at HN
          go_wp2
          go_roundw
          case rel => exact ⟨k + 1, HL.out, by go_num, ⟨k, dv, by trivial, rfl, HN⟩, X⟩
          case measure => have := HL.out; simp [intOf]; omega
        · have HJ := Lib.hid hf
          rw [HF.out] at hf
          injection hf with e1 e2
          have hfj : decide (f < 0) = false := decide_eq_false (by omega)
          by_cases hless : dv < v
          · have HN := Lib.hid (ff_less hge.out HJ.out (by rw [HDV.out, ← e2]; exact hless))
            rw [HDV.out] at HN
            clear e1 e2 hj hj0 HJ
            go_wp2
            go_roundw
            case rel => exact ⟨k + 1, HL.out, by go_num, ⟨k, dv, by trivial, rfl, HN⟩, X⟩
            case measure => have := HL.out; simp [intOf]; omega
          · have HN := Lib.hid ((ff_more (k := k) HJ.out (by rw [HDV.out, ← e2]; exact hless)).trans HF.out)
            clear e1 e2 hj hj0 HJ
            go_wp2
            go_roundw
            case rel => exact ⟨k + 1, HL.out, by go_num, ⟨f, v, rfl, rfl, HN⟩, X⟩
            case measure => have := HL.out; simp [intOf]; omega
    · have hkk : k = l.length := by omega
      subst hkk
      rcases ff_spec (dryAt l s wt) l.length with ⟨hf, _⟩ | ⟨j, hj, hf, hj0⟩
      · have HQ := Lib.hid (first_no hf)
        rw [HF.out] at hf
        injection hf with e1 e2
        subst e1 e2
        go_wp2
        go_ret3
        exact rpost (by rw [HQ.out] <;> rfl) X.below
      · rw [HF.out] at hf
        injection hf with e1 e2
        have HQ := Lib.hid (HY.out j v (by rw [HF.out, e1]))
        have hfj : decide (f < 0) = false := decide_eq_false (by omega)
        rw [← e1] at HQ
        clear e1 e2 hj hj0
        go_wp2
        go_ret3
        exact rpost (by rw [HQ.out] <;> rfl) X.below
set_option maxHeartbeats 1600000 in
theorem first_impl (P : Option Addr) (cap : Nat) (l : List R) (wt : Int) (A : Option Addr) (c : Nat) (s : List Int) (w : World) (h : Ak w P l A s) :
    Calls Try.prog 34 #[.slice P l.length cap, .agg #[.int .i64 wt, .slice A s.length c]] w (RPost (firstV l wt s) w) := by
  have HA := Lib.hid h
  have hln0 := h.n
  have hsm0 := h.m
  clear h
  go_enter Try.func34, Try.ntmps34
  go_wp2_with fail
  have X := Box.new (Below.refl _ w) [.int .i64 wt, .slice A s.length c] 27 (g := w.heap.size) rfl
  generalize (w.alloc (.cells #[.int .i64 wt, .slice A s.length c] 27)) = W1 at X ⊢
  have X_0 := X.cells 0 _ rfl
  have X_1 := X.cells 1 _ rfl
  have X_f0 := X.free 0 (by simp)
  have X_f1 := X.free 1 (by simp)
  have X_t := X.there
  go_wp2_with fail
  refine (isl_impl P cap l wt A c s _ (HA.out.keep X.below)).mono ?_
  rintro e v2 ⟨rfl, hv2⟩
  clear X_0 X_1 X_f0 X_f1 X_t
  replace X := X.more hv2
  have zhv2 := hv2.size
  clear hv2
  have X_0 := X.cells 0 _ rfl
  have X_1 := X.cells 1 _ rfl
  have X_f0 := X.free 0 (by simp)
  have X_f1 := X.free 1 (by simp)
  have X_t := X.there
  cases h0 : liqB l wt s
  · have HQ := Lib.hid (first_bad h0)
    clear h0
    go_wp2
    go_ret3
    exact rpost (by rw [HQ.out] <;> rfl) X.below
  have HV := Lib.hid (vld h0)
  have hln : l.length ≤ 6 := HV.out.n.2
  have hl1 : 1 ≤ l.length := HV.out.n.1
  have hw0 := HV.out.w0
  have hw1 := HV.out.w1
  have HLS := Lib.hid HV.out.len
  have HY := Lib.hid (fun (j : Nat) (v : Int) (e : ffS (dryAt l s wt) l.length = ((j : Int), v)) => first_yes h0 e)
  clear h0
  go_wp2_with fail
  refine (starts_impl P cap l wt A c s _ (HA.out.keep X.below) HV.out).mono ?_
  rintro e v3 ⟨mb, rfl, hmb, M, hv3⟩
  clear X_0 X_1 X_f0 X_f1 X_t
  replace X := X.more hv3
  have zhv3 := hv3.size
  clear hv3
  have X_0 := X.cells 0 _ rfl
  have X_1 := X.cells 1 _ rfl
  have X_f0 := X.free 0 (by simp)
  have X_f1 := X.free 1 (by simp)
  have X_t := X.there
  have HM := Lib.hid M
  have HB := Lib.hid X.below
  clear M
  clear X_0 X_1 X_f0 X_f1 X_t
  obtain ⟨d, hd⟩ : ∃ d, dryAt l s wt = d := ⟨_, rfl⟩
  have HRG := Lib.hid (fun (k : Nat) (hk : k < l.length) => dryAt_range HV.out hk)
  have HNO := Lib.hid (fun e => first_no (l := l) (wt := wt) (s := s) e)
  rw [hd] at HM HY HRG HNO
  clear hd
  generalize v3 = W0 at HM HB
  go_wp2
  go_loopw [8, 9, 22] (fun p q i wr => wr = W0 ∧ ∃ k : Nat, k ≤ l.length ∧ i = .int .i64 k ∧ ((p = .int .i64 0 ∧ q = .bool false ∧ Hid (ffS d k = (-1, 0) ∧ ∀ j, j < k → d j < 0)) ∨ ∃ j : Nat, j < k ∧ p = .int .i64 j ∧ q = .bool true ∧ Hid (ffS d k = ((j : Int), d j) ∧ 0 ≤ d j))) (fun _ _ i _ => l.length - (intOf i).toNat)
  case atStart => exact ⟨by trivial, 0, Nat.zero_le _, rfl, .inl ⟨by simp, by simp, Lib.hid ⟨rfl, fun j hj => by omega⟩⟩⟩
  case round =>
    obtain ⟨rfl, k, hk, rfl, hst⟩ := hrel
    by_cases hlt : k < l.length
    · have HL := Lib.hid hlt
      have hdr := HRG.out k hlt
      have HLK := Lib.hid (HM.out.look_ok (k : Int) (WalkArith.wf_i64 (by omega)))
      by_cases hneg : d k < 0
      · have hlk := HLK.out
        rw [if_neg (by rw [inM_no hneg]; decide), inM_no hneg] at hlk
        rcases hst with ⟨rfl, rfl, HF⟩ | ⟨j, hj, rfl, rfl, HF⟩
        · have HN := Lib.hid (show ffS d (k + 1) = (-1, 0) ∧ ∀ j, j < k + 1 → d j < 0 from ⟨(ff_skip hneg).trans HF.out.1, fun j hj => by
            by_cases e : j = k
            · subst e; exact hneg
            · exact HF.out.2 j (by omega)⟩)
          clear hneg HLK
          go_wp2
          go_roundw
          case rel => exact ⟨by trivial, k + 1, HL.out, by go_num, .inl ⟨by trivial, by trivial, HN⟩⟩
          case measure => have := HL.out; simp [intOf]; omega
        · have HN := Lib.hid (show ffS d (k + 1) = ((j : Int), d j) ∧ 0 ≤ d j from ⟨(ff_skip hneg).trans HF.out.1, HF.out.2⟩)
          clear hneg HLK
          go_wp2
          go_roundw
          case rel => exact ⟨by trivial, k + 1, HL.out, by go_num, .inr ⟨j, by omega, rfl, by trivial, HN⟩⟩
          case measure => have := HL.out; simp [intOf]; omega
      · have hlk := HLK.out
        have hin := inM_yes (m := l.length) hlt (show 0 ≤ d k by omega)
        rw [if_pos hin, hin, Int.toNat_natCast] at hlk
        have hge := Lib.hid (show 0 ≤ d k by omega)
        clear hneg HLK hin
        obtain ⟨dv, hdv⟩ : ∃ v, d k = v := ⟨_, rfl⟩
        rw [hdv] at hlk
        have HDV := Lib.hid hdv
        clear hdv
        rcases hst with ⟨rfl, rfl, HF⟩ | ⟨j, hj, rfl, rfl, HF⟩
        · have HN := Lib.hid (show ffS d (k + 1) = ((k : Int), d k) ∧ 0 ≤ d k from ⟨ff_first hge.out HF.out.1, hge.out⟩)
          go_wp2
          go_roundw
          case rel => exact ⟨by trivial, k + 1, HL.out, by go_num, .inr ⟨k, by omega, rfl, by trivial, HN⟩⟩
          case measure => have := HL.out; simp [intOf]; omega
        · have hjr := HRG.out j (by omega)
          have hlj := HM.out.look (j : Int) (WalkArith.wf_i64 (by omega))
          have hin := inM_yes (m := l.length) (show j < l.length by omega) HF.out.2
          rw [if_pos hin, Int.toNat_natCast] at hlj
          clear hin hjr
          obtain ⟨u, hu⟩ : ∃ v, d j = v := ⟨_, rfl⟩
          rw [hu] at hlj
          have HU := Lib.hid hu
          clear hu
          by_cases hless : dv < u
          · have HN := Lib.hid (show ffS d (k + 1) = ((k : Int), d k) ∧ 0 ≤ d k from ⟨ff_less hge.out HF.out.1 (by rw [HDV.out, HU.out]; exact hless), hge.out⟩)
            go_wp2
            go_roundw
            case rel => exact ⟨by trivial, k + 1, HL.out, by go_num, .inr ⟨k, by omega, rfl, by trivial, HN⟩⟩
            case measure => have := HL.out; simp [intOf]; omega
          · have HN := Lib.hid (show ffS d (k + 1) = ((j : Int), d j) ∧ 0 ≤ d j from ⟨(ff_more HF.out.1 (by rw [HDV.out, HU.out]; exact hless)).trans HF.out.1, HF.out.2⟩)
            go_wp2
            go_roundw
            case rel => exact ⟨by trivial, k + 1, HL.out, by go_num, .inr ⟨j, by omega, rfl, by trivial, HN⟩⟩
            case measure => have := HL.out; simp [intOf]; omega
    · have hkk : k = l.length := by omega
      subst hkk
      have M := HM.out
      have B := HB.out
      rcases hst with ⟨rfl, rfl, HF⟩ | ⟨j, hj, rfl, rfl, HF⟩
      · have HQ := Lib.hid (HNO.out HF.out.1)
        have HI := Lib.hid (show inM d l.length 0 = false from inM_no (m := l.length) (k := 0) (HF.out.2 0 (by omega)))
        go_wp2_with fail
        refine wp_region_text (fun w' => Below w.heap.size w w' ∧ OwnM w' mb l.length d l.length) (by kernel_rfl) (by kernel_rfl) ⟨be B (Below.refl _ _).drew, OwnM.keep M (Below.refl _ _).drew⟩ ?_
        iterate 8 (
          apply SeqH.one
          · intro uw K hS hK
            obtain ⟨qB, qM⟩ := hS
            first
              | (go_simp; exact hK.out _ ⟨qB, qM⟩)
              | (go_simp; have hq9 := qM.look 0 (by decide) ; rw [if_neg (by rw [HI.out]; decide)] at hq9 ; rw [hq9]; go_simp; exact hK.out _ ⟨qB, qM⟩)
          try simp only [Act.put, List.setIfInBounds_toArray, List.set_cons_zero, List.set_cons_succ])
        refine SeqH.end' rfl ?_
        intro v4 hS
        clear B M
        obtain ⟨B, M⟩ := hS
        go_wp2
        go_ret3
        exact rpost (by rw [HQ.out] <;> rfl) B
      · have HQ := Lib.hid (HY.out j (d j) HF.out.1)
        have HI := Lib.hid (inM_yes (m := l.length) hj HF.out.2)
        have hjr := HRG.out j hj
        go_wp2_with fail
        refine wp_region_text (fun w' => Below w.heap.size w w' ∧ OwnM w' mb l.length d l.length) (by kernel_rfl) (by kernel_rfl) ⟨be B (Below.refl _ _).drew, OwnM.keep M (Below.refl _ _).drew⟩ ?_
        iterate 8 (
          apply SeqH.one
          · intro uw K hS hK
            obtain ⟨qB, qM⟩ := hS
            first
              | (go_simp; exact hK.out _ ⟨qB, qM⟩)
              | (go_simp; have hq9 := qM.look (j : Int) (WalkArith.wf_i64 (by omega)) ; rw [if_pos HI.out, Int.toNat_natCast] at hq9 ; rw [hq9]; go_simp; exact hK.out _ ⟨qB, qM⟩)
          try simp only [Act.put, List.setIfInBounds_toArray, List.set_cons_zero, List.set_cons_succ])
        refine SeqH.end' rfl ?_
        intro v5 hS
        clear B M
        obtain ⟨B, M⟩ := hS
        go_wp2
        go_ret3
        exact rpost (by rw [HQ.out] <;> rfl) B
end Go.Proofs.Ythilbpklmjpmcaa.StartG
