/- PureBetween: the model's and the program's. Made by tools/mk_starth.py. -/
import Derived.Test.YthilbpklmjpmcaaStartG
namespace Go.Proofs.Ythilbpklmjpmcaa.StartH
open Go.RowKit Go.Maps Go.Proofs.Ythilbpklmjpmcaa.Mem Go.Proofs.Ythilbpklmjpmcaa.Base Go.Proofs.Ythilbpklmjpmcaa.SInt Go.Proofs.Ythilbpklmjpmcaa.Regn Go.Proofs.Ythilbpklmjpmcaa.Boxes Go.Proofs.Ythilbpklmjpmcaa.Keep Go.Proofs.Ythilbpklmjpmcaa.Within Go.Proofs.Ythilbpklmjpmcaa.Nest Go.Proofs.Ythilbpklmjpmcaa.SKind Go.Proofs.Ythilbpklmjpmcaa.KindP Go.Proofs.Ythilbpklmjpmcaa.KindG Go.Proofs.Ythilbpklmjpmcaa.LiqP Go.Proofs.Ythilbpklmjpmcaa.LiqG Go.Proofs.Ythilbpklmjpmcaa.StartP Go.Proofs.Ythilbpklmjpmcaa.StartG
set_option linter.unusedVariables false
set_option maxRecDepth 100000
theorem rd_get {w : World} {B b o : Nat} {xs : List Value} (h : Rd w B (some ⟨b, o, none⟩) xs) {j : Nat} {v : Value} (hv : xs[j]? = some v) : w.cell? ⟨b, o + j, none⟩ = some v := by
  rcases h with rfl | ⟨b', o', hA, _, hc⟩
  · simp at hv
  · injection hA with hA; injection hA with h1 h2 h3
    subst h1; subst h2; exact hc j v hv
/-- the least of wt and of what has come so far. -/
def LastP (d : Nat → Int) (n ki : Nat) (wt m : Int) (left : Lit → Bool) : Prop :=
  m ≤ wt ∧ (∀ j : Nat, j < n → j ≠ ki → 0 ≤ d j → left (.int .i64 j) = false → m ≤ d j - 1) ∧ (m = wt ∨ ∃ j : Nat, j < n ∧ j ≠ ki ∧ 0 ≤ d j ∧ m = d j - 1)
theorem has_int {D : DataW Unit} {d : Nat → Int} {n ki : Nat} (F : Fits D d n) (x : Int) : Maps.has (D.del (.int .i64 (ki : Int))) (.int .i64 x) = true → ∃ j : Nat, x = j ∧ j < n ∧ j ≠ ki ∧ 0 ≤ d j := by
  intro h
  by_cases e : x = ki
  · subst e
    rw [Maps.has_del_same] at h
    cases h
  · rw [Maps.has_del_other (by intro h; injection h with h1 h2; exact e h2), F.has] at h
    obtain ⟨h0, h1, h2⟩ := of_decide_eq_true h
    exact ⟨x.toNat, by omega, by omega, by omega, h2⟩
theorem last_start {D : DataW Unit} {d : Nat → Int} {n ki : Nat} {wt : Int} (F : Fits D d n) : LastP d n ki wt wt (Maps.has (D.del (.int .i64 (ki : Int)))) := by
  refine ⟨Int.le_refl _, fun j hj hne h0 hl => ?_, .inl rfl⟩
  rw [Maps.has_del_other (by intro h; injection h with h1 h2; omega), F.has] at hl
  exact absurd ⟨by omega, by omega, by rw [Int.toNat_natCast]; exact h0⟩ (of_decide_eq_false hl)
theorem last_step {D : DataW Unit} {d : Nat → Int} {n ki : Nat} {wt m x c : Int} {left : Lit → Bool} (F : Fits D d n) (h : LastP d n ki wt m left) (hat : ∀ zd, (D.del (.int .i64 (ki : Int))).atKey (.int .i64 x) zd = .lit (.int .i64 c)) :
    (∃ j : Nat, x = j ∧ j < n ∧ c = d j ∧ 0 ≤ d j) ∧ LastP d n ki wt (min m (c - 1)) (fun z => left z && !z.sameKey (.int .i64 x)) := by
  obtain ⟨j, rfl, hj, hne, h0⟩ := has_int F x (Maps.has_true_of_atKey hat)
  have hc : c = d j := by
    have h1 := hat (.lit (.int .i64 0))
    rw [Maps.atKey_del_other (by intro h; injection h with h1 h2; omega), F.val j hj h0] at h1
    injection h1 with h1
    injection h1 with _ h1
    exact h1.symm
  obtain ⟨h1, h2, h3⟩ := h
  refine ⟨⟨j, rfl, hj, hc, h0⟩, by omega, fun q hq hqn hq0 hl => ?_, ?_⟩
  · by_cases e : q = j
    · subst e; omega
    · have hl2 : (left (.int .i64 (q : Int)) && !(Lit.int .i64 (q : Int)).sameKey (.int .i64 (j : Int))) = false := hl
      rw [Maps.sameKey_ne (by intro h; injection h with h1 h2; omega)] at hl2
      have := h2 q hq hqn hq0 (by simpa using hl2)
      omega
  · rcases Int.le_total m (c - 1) with e | e
    · rw [Int.min_eq_left e]; exact h3
    · rw [Int.min_eq_right e]; right; exact ⟨j, hj, hne, h0, by omega⟩
theorem last_end {d : Nat → Int} {n ki : Nat} {wt m : Int} {left : Lit → Bool} (h : LastP d n ki wt m left) (hl : ∀ z, left z = false) : m = hiS d ki wt n :=
  hi_char h.1 (fun j hj hne h0 => h.2.1 j hj hne h0 (hl _)) h.2.2
set_option maxHeartbeats 1600000 in
theorem pure_spec (P : Option Addr) (cap : Nat) (l : List R) (wt : Int) (A : Option Addr) (c : Nat) (s : List Int) (i : Int) (w : World) (h : Ak w P l A s) :
    Calls Try.prog 41 #[.slice P l.length cap, .agg #[.int .i64 wt, .slice A s.length c], .int .i64 i] w (RPost (pureV l wt s i) w) := by
  have HA := Lib.hid h
  have hln0 := h.n
  have hsm0 := h.m
  clear h
  go_enter Try.func41, Try.ntmps41
  go_wp2_with fail
  have X := Box.new (Below.refl _ w) [.int .i64 wt, .slice A s.length c] 27 (g := w.heap.size) rfl
  generalize (w.alloc (.cells #[.int .i64 wt, .slice A s.length c] 27)) = W1 at X ⊢
  have X_0 := X.cells 0 _ rfl
  have X_1 := X.cells 1 _ rfl
  have X_f0 := X.free 0 (by simp)
  have X_f1 := X.free 1 (by simp)
  have X_t := X.there
  go_wp2_with fail
  refine (asked_spec P cap l wt A c s i _ (HA.out.keep X.below)).mono ?_
  rintro e v2 ⟨rfl, hv2⟩
  clear X_0 X_1 X_f0 X_f1 X_t
  replace X := X.more hv2
  have zhv2 := hv2.size
  clear hv2
  have X_0 := X.cells 0 _ rfl
  have X_1 := X.cells 1 _ rfl
  have X_f0 := X.free 0 (by simp)
  have X_f1 := X.free 1 (by simp)
  have X_t := X.there
  cases h0 : askB l wt s i
  · have HQ := Lib.hid (pure_bad h0)
    clear h0
    go_wp2
    go_ret3
    exact rpost (by rw [HQ.out] <;> rfl) X.below
  obtain ⟨V, ki, rfl, hki, hkis⟩ := ask_split h0
  obtain ⟨b, o, rfl, hb, hc⟩ := HA.out.k.at (k := ki * 3) (by rw [flat_n]; omega)
  obtain ⟨b', o', rfl, hb', hc'⟩ := HA.out.sa.at (k := ki) (by rw [iv_len]; exact hkis)
  obtain ⟨x, hx⟩ : ∃ x, l[ki] = x := ⟨_, rfl⟩
  obtain ⟨y, hy⟩ : ∃ y, s[ki] = y := ⟨_, rfl⟩
  obtain ⟨d0, d1, d2⟩ := cells3 (Below.refl _ w) hb hc hki hx
  have d3 : w.cell? ⟨b', o' + ki, none⟩ = some (.int .i64 y) := by rw [← hy]; exact cell_s (Below.refl _ w) hb' hc' hkis
  have hkd := V.kind hki
  have hsl := V.salt ki hkis
  rw [hx] at hkd
  rw [hy] at hsl
  have hw0 := V.w0
  have hw1 := V.w1
  have HX := Lib.hid hx
  have HY0 := Lib.hid hy
  have HKS := Lib.hid (And.intro hki hkis)
  clear hc hc' hx hy
  have HV := Lib.hid V
  have hln : l.length ≤ 6 := V.n.2
  have HLS := Lib.hid V.len
  have hdri := dryAt_range V hki
  have HY := Lib.hid (fun h1 h2 => pure_yes (k := ki) h0 h1 h2)
  have HNO := Lib.hid (fun h1 => pure_no (l := l) (wt := wt) (s := s) (k := ki) h1)
  obtain ⟨di, hdi⟩ : ∃ v, dryAt l s wt ki = v := ⟨_, rfl⟩
  have hde : dryI x.f2 y wt = di := (dryAt_eq (wt := wt) hki hkis HX.out HY0.out).symm.trans hdi
  rw [hdi] at hdri HY HNO
  have HDI := Lib.hid hdi
  clear h0 V hdi
  go_wp2_with fail
  have d0_c := ((bcell X.below).1 _ _ hb).trans d0
  have d1_c := ((bcell X.below).1 _ _ hb).trans d1
  have d2_c := ((bcell X.below).1 _ _ hb).trans d2
  have d3_c := ((bcell X.below).1 _ _ hb').trans d3
  refine wp_region_text (fun w' => Box (w.heap.size) [.int .i64 wt, .slice (some ⟨b', o', none⟩) s.length c] w w') (by kernel_rfl) (by kernel_rfl) (X.drew) ?_
  clear X_0 X_1 X_f0 X_f1 X_t
  clear d0_c
  clear d1_c
  clear d2_c
  clear d3_c
  iterate 16 (
    apply SeqH.one
    · intro uw K hS hK
      have qX := hS
      have qX_0 := qX.cells 0 _ rfl
      have qX_1 := qX.cells 1 _ rfl
      have qd0_c := ((bcell qX.below).1 _ _ hb).trans d0
      have qd1_c := ((bcell qX.below).1 _ _ hb).trans d1
      have qd2_c := ((bcell qX.below).1 _ _ hb).trans d2
      have qd3_c := ((bcell qX.below).1 _ _ hb').trans d3
      first
        | (go_simp; exact hK.out _ qX)
        | (go_simp; go_at_call 73; (with_reducible refine (dry_spec x y wt hkd.2.1 hkd.2.2 hsl.1 hsl.2 hw0 hw1 _).mono ?_); rintro e uw1 ⟨rfl, hv⟩; rw [hde]; go_wp2_with fail; exact hK.out _ (qX.more hv))
    try simp only [Act.put, List.setIfInBounds_toArray, List.set_cons_zero, List.set_cons_succ])
  refine SeqH.end' rfl ?_
  intro v3 hS
  clear X
  have X := hS; clear hS
  have X_0 := X.cells 0 _ rfl
  have X_1 := X.cells 1 _ rfl
  have X_f0 := X.free 0 (by simp)
  have X_f1 := X.free 1 (by simp)
  have X_t := X.there
  have d0_c := ((bcell X.below).1 _ _ hb).trans d0
  have d1_c := ((bcell X.below).1 _ _ hb).trans d1
  have d2_c := ((bcell X.below).1 _ _ hb).trans d2
  have d3_c := ((bcell X.below).1 _ _ hb').trans d3
  clear hde d0 d1 d2 d3
  clear hkd hsl HX HY0
  go_wp2
  go_loopw [10, 11] (fun q i wr => ∃ k : Nat, k ≤ l.length ∧ i = .int .i64 k ∧ (∃ m : Int, q = .int .i64 m ∧ Hid (hiS (dryAt l s wt) ki wt k = m)) ∧ Box w.heap.size [.int .i64 wt, .slice (some ⟨b', o', none⟩) s.length c] w wr) (fun _ i _ => l.length - (intOf i).toNat)
  case atStart => exact ⟨0, Nat.zero_le _, rfl, ⟨wt, rfl, Lib.hid rfl⟩, X⟩
  case round =>
    clear X
    obtain ⟨k, hk, rfl, ⟨m, rfl, HF⟩, X⟩ := hrel
    by_cases hlt : k < l.length
    · have hks : k < s.length := by have := HLS.out; omega
      obtain ⟨x, hx⟩ : ∃ x, l[k] = x := ⟨_, rfl⟩
      obtain ⟨y, hy⟩ : ∃ y, s[k] = y := ⟨_, rfl⟩
      obtain ⟨c0, c1, c2⟩ := cells3 (Below.refl _ w) hb (fun j v hv => rd_get HA.out.k hv) hlt hx
      have c3 : w.cell? ⟨b', o' + k, none⟩ = some (.int .i64 y) := by rw [← hy]; exact cell_s (Below.refl _ w) hb' (fun j v hv => rd_get HA.out.sa hv) hks
      have hkd := HV.out.kind hlt
      have hsl := HV.out.salt k hks
      rw [hx] at hkd
      rw [hy] at hsl
      have hdr := dryAt_range HV.out hlt
      obtain ⟨dv, hdv⟩ : ∃ v, dryAt l s wt k = v := ⟨_, rfl⟩
      rw [hdv] at hdr
      have hde : dryI x.f2 y wt = dv := (dryAt_eq (wt := wt) hlt hks hx hy).symm.trans hdv
      have HDV := Lib.hid hdv
      have HL := Lib.hid hlt
      clear hx hy hdv
      go_wp2_with fail
      have c0_c := ((bcell X.below).1 _ _ hb).trans c0
      have c1_c := ((bcell X.below).1 _ _ hb).trans c1
      have c2_c := ((bcell X.below).1 _ _ hb).trans c2
      have c3_c := ((bcell X.below).1 _ _ hb').trans c3
      refine wp_region_text (fun w' => Box (w.heap.size) [.int .i64 wt, .slice (some ⟨b', o', none⟩) s.length c] w w') (by kernel_rfl) (by kernel_rfl) (X.drew) ?_
      clear c0_c
      clear c1_c
      clear c2_c
      clear c3_c
      iterate 13 (
        apply SeqH.one
        · intro uw K hS hK
          have qX := hS
          have qX_0 := qX.cells 0 _ rfl
          have qX_1 := qX.cells 1 _ rfl
          have qc0_c := ((bcell qX.below).1 _ _ hb).trans c0
          have qc1_c := ((bcell qX.below).1 _ _ hb).trans c1
          have qc2_c := ((bcell qX.below).1 _ _ hb).trans c2
          have qc3_c := ((bcell qX.below).1 _ _ hb').trans c3
          first
            | (go_simp; exact hK.out _ qX)
            | (go_simp; go_at_call 73; (with_reducible refine (dry_spec x y wt hkd.2.1 hkd.2.2 hsl.1 hsl.2 hw0 hw1 _).mono ?_); rintro e uw1 ⟨rfl, hv⟩; rw [hde]; go_wp2_with fail; exact hK.out _ (qX.more hv))
        try simp only [Act.put, List.setIfInBounds_toArray, List.set_cons_zero, List.set_cons_succ])
      refine SeqH.end' rfl ?_
      intro v1 hS
      clear X
      have X := hS; clear hS
      have c0_c := ((bcell X.below).1 _ _ hb).trans c0
      have c1_c := ((bcell X.below).1 _ _ hb).trans c1
      have c2_c := ((bcell X.below).1 _ _ hb).trans c2
      have c3_c := ((bcell X.below).1 _ _ hb').trans c3
      clear hde c0 c1 c2 c3
      by_cases hki2 : k = ki
      · have hq : ((k : Int) != (ki : Int)) = false := by rw [bne_eq_false_iff_eq]; omega
        have HN := Lib.hid ((hi_skip (wt := wt) (.inl hki2)).trans HF.out)
        clear hki2
        go_wp2
        go_roundw
        case rel => exact ⟨k + 1, HL.out, by go_num, ⟨m, rfl, HN⟩, X⟩
        case measure => have := HL.out; simp [intOf]; omega
      have hq : ((k : Int) != (ki : Int)) = true := by rw [bne_iff_ne]; omega
      by_cases hneg : dv < 0
      · have hq2 : decide ((0 : Int) ≤ dv) = false := decide_eq_false (by omega)
        have HN := Lib.hid ((hi_skip (wt := wt) (i := ki) (.inr (show dryAt l s wt k < 0 by rw [HDV.out]; exact hneg))).trans HF.out)
        clear hneg hki2
        go_wp2
        go_roundw
        case rel => exact ⟨k + 1, HL.out, by go_num, ⟨m, rfl, HN⟩, X⟩
        case measure => have := HL.out; simp [intOf]; omega
      · have hq2 : decide ((0 : Int) ≤ dv) = true := decide_eq_true (by omega)
        have HN := Lib.hid (hi_take (wt := wt) hki2 (show 0 ≤ dryAt l s wt k by rw [HDV.out]; omega))
        rw [HF.out, HDV.out] at HN
        have e1 : IntKind.i64.wrap (dv - 1) = dv - 1 := IntWalk.i64_in _ (by omega)
        clear hneg hki2
        go_wp2_with (go_at_call 75; (with_reducible refine (least_any _ _ _).mono ?_); rintro e _ ⟨rfl, rfl⟩)
        go_roundw
        case rel => exact ⟨k + 1, HL.out, by go_num, ⟨_, rfl, HN⟩, X⟩
        case measure => have := HL.out; simp [intOf]; omega
    · have hkk : k = l.length := by omega
      subst hkk
      rw [HF.out] at HY HNO
      by_cases h1 : di < 0
      · have HQ := Lib.hid (HNO.out (.inl h1))
        have hq : decide (di < 0) = true := decide_eq_true h1
        clear h1
        go_wp2
        go_ret3
        exact rpost (by rw [HQ.out] <;> rfl) X.below
      by_cases h2 : m < di
      · have HQ := Lib.hid (HNO.out (.inr h2))
        have hq : decide (di < 0) = false := decide_eq_false h1
        have hq2 : decide (m < di) = true := decide_eq_true h2
        clear h1 h2
        go_wp2
        go_ret3
        exact rpost (by rw [HQ.out] <;> rfl) X.below
      · have HQ := Lib.hid (HY.out (by omega) (by omega))
        have hq : decide (di < 0) = false := decide_eq_false h1
        have hq2 : decide (m < di) = false := decide_eq_false h2
        clear h1 h2
        go_wp2
        go_ret3
        exact rpost (by rw [HQ.out] <;> rfl) X.below
set_option maxHeartbeats 1600000 in
theorem pure_impl (P : Option Addr) (cap : Nat) (l : List R) (wt : Int) (A : Option Addr) (c : Nat) (s : List Int) (i : Int) (w : World) (h : Ak w P l A s) :
    Calls Try.prog 40 #[.slice P l.length cap, .agg #[.int .i64 wt, .slice A s.length c], .int .i64 i] w (RPost (pureV l wt s i) w) := by
  have HA := Lib.hid h
  have hln0 := h.n
  have hsm0 := h.m
  clear h
  go_enter Try.func40, Try.ntmps40
  go_wp2_with fail
  have X := Box.new (Below.refl _ w) [.int .i64 wt, .slice A s.length c] 27 (g := w.heap.size) rfl
  generalize (w.alloc (.cells #[.int .i64 wt, .slice A s.length c] 27)) = W1 at X ⊢
  have X_0 := X.cells 0 _ rfl
  have X_1 := X.cells 1 _ rfl
  have X_f0 := X.free 0 (by simp)
  have X_f1 := X.free 1 (by simp)
  have X_t := X.there
  go_wp2_with fail
  refine (asked_impl P cap l wt A c s i _ (HA.out.keep X.below)).mono ?_
  rintro e v2 ⟨rfl, hv2⟩
  clear X_0 X_1 X_f0 X_f1 X_t
  replace X := X.more hv2
  have zhv2 := hv2.size
  clear hv2
  have X_0 := X.cells 0 _ rfl
  have X_1 := X.cells 1 _ rfl
  have X_f0 := X.free 0 (by simp)
  have X_f1 := X.free 1 (by simp)
  have X_t := X.there
  cases h0 : askB l wt s i
  · have HQ := Lib.hid (pure_bad h0)
    clear h0
    go_wp2
    go_ret3
    exact rpost (by rw [HQ.out] <;> rfl) X.below
  obtain ⟨V, ki, rfl, hki, hkis⟩ := ask_split h0
  have HVL := Lib.hid V
  have hln : l.length ≤ 6 := V.n.2
  have hw0 := V.w0
  have hw1 := V.w1
  have hdri := dryAt_range V hki
  have HY := Lib.hid (fun h1 h2 => pure_yes (k := ki) h0 h1 h2)
  have HNO := Lib.hid (fun h1 => pure_no (l := l) (wt := wt) (s := s) (k := ki) h1)
  have HRG := Lib.hid (fun (k : Nat) (hk : k < l.length) => dryAt_range V hk)
  clear h0 V
  have hXt := X.there
  go_wp2_with fail
  refine (starts_impl P cap l wt A c s _ (HA.out.keep X.below) HVL.out).mono ?_
  rintro e v3 ⟨mb, rfl, hmb, M, hv3⟩
  clear X_0 X_1 X_f0 X_f1 X_t
  replace X := X.more hv3
  have zhv3 := hv3.size
  clear hv3
  have X_0 := X.cells 0 _ rfl
  have X_1 := X.cells 1 _ rfl
  have X_f0 := X.free 0 (by simp)
  have X_f1 := X.free 1 (by simp)
  have X_t := X.there
  obtain ⟨d, hd⟩ : ∃ d, dryAt l s wt = d := ⟨_, rfl⟩
  rw [hd] at M HY HRG HNO hdri
  clear hd
  have hXm : w.heap.size ≠ mb := by omega
  have hmw : w.heap.size ≤ mb := by omega
  have hlk := M.look_ok (ki : Int) (WalkArith.wf_i64 (by omega))
  rw [Int.toNat_natCast] at hlk
  obtain ⟨D, hown, F⟩ := M
  have HFT := Lib.hid F
  clear F
  obtain ⟨ev, hev⟩ : ∃ v, inM d l.length ki = v := ⟨_, rfl⟩
  have HEV := Lib.hid (show ev = decide (0 ≤ d ki) by
    rw [← hev]
    unfold inM
    apply decide_eq_decide.2
    rw [Int.toNat_natCast]
    omega)
  rw [hev] at hlk
  obtain ⟨di, hdi⟩ : ∃ v : Int, (if ev = true then d ki else 0) = v := ⟨_, rfl⟩
  rw [hdi] at hlk
  have HDI := Lib.hid hdi
  clear hev hdi
  have X_0 := X.cells 0 _ rfl
  have X_1 := X.cells 1 _ rfl
  have X_f0 := X.free 0 (by simp)
  have X_f1 := X.free 1 (by simp)
  have X_t := X.there
  go_upto_region 5 with fail
  clear hlk
  go_upto_region 6 with (at_delete; refine wpList_delete_own _ rfl _ _ 79 3 rfl 3 keyI Try.underlying79 _ mb _ D rfl hown _ _ rfl (keyOf_int_mk Try.underlying3 (WalkArith.wf_i64 (by omega))) ?_; intro w5 hown5 hturn5)
  have X5 := box_grown X hturn5.grown (fun j hj => by injection hj with hj; omega)
  clear X_0 X_1 X_f0 X_f1 X_t
  clear hown X
  have X5_0 := X5.cells 0 _ rfl
  go_upto_region 8 with (at_range; refine wpList_range_own _ rfl _ 79 rfl 3 3 keyI Try.underlying79 _ mb _ _ rfl hown5 ?_; intro w6 hrg hg6 hs6)
  go_frame
  have HB6 : Below w.heap.size w w6 := X5.below.grown hg6 X5.below.size (fun j hj => by cases hj)
  have HB5 := X5.below.size
  clear X5 X5_0 hown5 hturn5 hg6
  go_loopw [12] (fun q wr => ∃ (left : Lit → Bool) (cnt : Nat) (m : Int), q = .int .i64 m ∧ wr.ranges Try.prog 3 (plainElem Try.prog 3) mb w5.heap.size l.length (D.del (.int .i64 (ki : Int))) left cnt ∧ Hid (LastP d l.length ki wt m left) ∧ Below w.heap.size w wr) (fun _ wr => wr.rangeLeft mb w5.heap.size)
  case atStart => exact ⟨_, _, wt, rfl, hrg, Lib.hid (last_start HFT.out), HB6⟩
  case round =>
    clear hrg HB6 hs6
    obtain ⟨left, cnt, m, rfl, hrg, HM, HB⟩ := hrel
    go_wp2_with (first | (at_next; refine wpList_next_ranges_ii _ rfl _ rfl 3 3 .i64 .i64 keyI Try.underlying3 Try.underlying3 mb w5.heap.size _ _ _ _ rfl hrg ?_ ?_))
    · intro hc0 hl0
      have HE := Lib.hid (last_end HM.out hl0)
      have hq : ev = decide (0 ≤ d ki) := HEV.out
      by_cases h1 : d ki < 0
      · have HQ := Lib.hid (HNO.out (.inl h1))
        have hev : ev = false := by rw [hq]; exact decide_eq_false (by omega)
        subst hev
        clear h1 hq
        go_wp2
        go_ret3
        exact rpost (by rw [HQ.out] <;> rfl) HB
      have hev : ev = true := by rw [hq]; exact decide_eq_true (by omega)
      have hdd : di = d ki := by rw [← HDI.out, hev]; rfl
      subst hev
      rw [← hdd] at HNO HY
      by_cases h2 : m < di
      · have HQ := Lib.hid (HNO.out (.inr (by rw [← HE.out]; exact h2)))
        have hq2 : decide (m < di) = true := decide_eq_true h2
        clear h1 h2 hq hdd
        go_wp2
        go_ret3
        exact rpost (by rw [HQ.out] <;> rfl) HB
      · have HQ := Lib.hid (HY.out (by omega) (by rw [← HE.out]; omega))
        rw [← HE.out] at HQ
        have hq2 : decide (m < di) = false := decide_eq_false h2
        clear h1 h2 hq hdd
        go_wp2
        go_ret3
        exact rpost (by rw [HQ.out] <;> rfl) HB
    · intro x c w7 cnt7 hwx hwc hlx hat hrg7 hlt hg7 hs7 hen
      obtain ⟨⟨j, hxj, hj, hcj, hj0⟩, hL⟩ := last_step HFT.out HM.out hat
      have hr := HRG.out j hj
      have HN := Lib.hid hL
      have e1 : IntKind.i64.wrap (c - 1) = c - 1 := IntWalk.i64_in _ (by omega)
      have HB7 := HB.grown hg7 HB.size (fun j hj => by injection hj with hj; omega)
      have HMS := Lib.hid (show w7.rangeLeft mb w5.heap.size < wr.rangeLeft mb w5.heap.size by rw [hrg7.left_eq, hrg.left_eq]; exact hlt)
      clear hL hat hlx hxj hcj hlt hrg
      go_wp2
      go_roundw
      case rel => exact ⟨_, cnt7, _, rfl, hrg7, HN, HB7⟩
      case measure => exact HMS.out
end Go.Proofs.Ythilbpklmjpmcaa.StartH
