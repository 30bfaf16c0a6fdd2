/- A liquor: l10Liquor, IsLiquor, l10Asked, hasKind, IsFull, LiquorMass, l10Dry, waterFor, DryToKeep. Made by tools/mk_liqg.py. -/
import Derived.Test.YthilbpklmjpmcaaKindG
import Derived.Test.YthilbpklmjpmcaaLiqP
namespace Go.Proofs.Ythilbpklmjpmcaa.LiqG
open Go.RowKit Go.Proofs.Ythilbpklmjpmcaa.Mem Go.Proofs.Ythilbpklmjpmcaa.Base Go.Proofs.Ythilbpklmjpmcaa.SInt Go.Proofs.Ythilbpklmjpmcaa.Regn Go.Proofs.Ythilbpklmjpmcaa.Boxes Go.Proofs.Ythilbpklmjpmcaa.Keep Go.Proofs.Ythilbpklmjpmcaa.Within Go.Proofs.Ythilbpklmjpmcaa.Nest Go.Proofs.Ythilbpklmjpmcaa.SKind Go.Proofs.Ythilbpklmjpmcaa.KindP Go.Proofs.Ythilbpklmjpmcaa.KindG Go.Proofs.Ythilbpklmjpmcaa.LiqP
set_option linter.unusedVariables false
set_option maxRecDepth 100000
/-- kinds and a liquor's salts that can be read. -/
structure Ak (w : World) (P : Option Addr) (l : List SKind.R) (A : Option Addr) (s : List Int) : Prop where
  k : Rd w w.heap.size P (flat l)
  n : l.length ≤ 1048576
  z : ∀ x ∈ l, x.f0.size ≤ maxLen
  sa : Rd w w.heap.size A (iv s)
  m : s.length ≤ 1048576
theorem Ak.keep {w w' : World} {P A : Option Addr} {l : List SKind.R} {s : List Int} (h : Ak w P l A s) (hb : Below w.heap.size w w') : Ak w' P l A s :=
  ⟨rd_keep h.k hb, h.n, h.z, rd_keep h.sa hb, h.m⟩
theorem ak_keep {w w' : World} {P A : Option Addr} {l : List SKind.R} {s : List Int} (h : Ak w P l A s) (hb : Below w.heap.size w w') : Ak w' P l A s := h.keep hb
theorem cell_s {w wr : World} {b o k : Nat} {s : List Int} (hB : Below w.heap.size w wr) (hb : b < w.heap.size) (hc : ∀ (j : Nat) (v : Value), (iv s)[j]? = some v → w.cell? ⟨b, o + j, none⟩ = some v) (hk : k < s.length) :
    wr.cell? ⟨b, o + k, none⟩ = some (.int .i64 s[k]) := ((bcell hB).1 _ _ hb).trans (hc _ _ (iv_get s k hk))
set_option maxHeartbeats 1600000 in
theorem liq_spec (P : Option Addr) (cap : Nat) (l : List R) (wt : Int) (A : Option Addr) (c : Nat) (s : List Int) (w : World) (h : Ak w P l A s) :
    Calls Try.prog 55 #[.slice P l.length cap, .agg #[.int .i64 wt, .slice A s.length c]] w (RPost (.bool (liqB l wt s)) w) := by
  have HA := Lib.hid h
  have hsm := h.m
  have hln := h.n
  clear h
  go_enter Try.func55, Try.ntmps55
  go_upto_region 2 with fail
  have X := Box.new (Below.refl _ w) [.int .i64 wt, .slice A s.length c] 27 (g := w.heap.size) rfl
  generalize (w.alloc (.cells #[.int .i64 wt, .slice A s.length c] 27)) = W1 at X ⊢
  have X_0 := X.cells 0 _ rfl
  have X_1 := X.cells 1 _ rfl
  have X_f0 := X.free 0 (by simp)
  have X_f1 := X.free 1 (by simp)
  have X_t := X.there
  go_loopw [5] (fun i wr => ∃ k : Nat, k ≤ s.length ∧ i = .int .i64 k ∧ Hid (SaltTo s k) ∧ Box w.heap.size [.int .i64 wt, .slice A s.length c] w wr) (fun i _ => s.length - (intOf i).toNat)
  case atStart => exact ⟨0, Nat.zero_le _, rfl, Lib.hid (salt_start s), X⟩
  case round =>
    clear X
    obtain ⟨k, hk, rfl, HOK, X⟩ := hrel
    by_cases hlt : k < s.length
    · obtain ⟨b, o, rfl, hb, hc⟩ := HA.out.sa.at (k := k) (by rw [iv_len]; exact hlt)
      obtain ⟨y, hy⟩ : ∃ y, s[k] = y := ⟨_, rfl⟩
      have h0 : w.cell? ⟨b, o + k, none⟩ = some (.int .i64 y) := by rw [← hy]; exact hc k _ (iv_get s k hlt)
      have HY := Lib.hid hy; clear hy hc
      have HL := Lib.hid hlt
      have X_0 := X.cells 0 _ rfl
      have X_1 := X.cells 1 _ rfl
      have X_f0 := X.free 0 (by simp)
      have X_f1 := X.free 1 (by simp)
      have X_t := X.there
      have h0_c := ((bcell X.below).1 _ _ hb).trans h0
      have h0c := ((bcell X.below).1 _ _ hb).trans h0
      cases hok : inB y 0 1000000
      · have HF := Lib.hid (liq_no_salt (l := l) (wt := wt) (salt_no HL.out (by rw [HY.out]; exact hok)))
        go_wp2_with (go_at_call 66; (with_reducible refine (in_any _ _ _ _).mono ?_); rintro e _ ⟨rfl, rfl⟩)
        go_ret
        exact rpost (by rw [HF.out] <;> rfl) X.below
      · have HN := Lib.hid (salt_step HL.out HOK.out (by rw [HY.out]; exact hok))
        go_wp2_with (go_at_call 66; (with_reducible refine (in_any _ _ _ _).mono ?_); rintro e _ ⟨rfl, rfl⟩)
        go_roundw
        case rel => exact ⟨k + 1, HL.out, by go_num, HN, X⟩
        case measure => have := HL.out; simp [intOf]; omega
    · have HE := Lib.hid (liq_salt (l := l) (wt := wt) (salt_end (show s.length ≤ k by omega) HOK.out))
      have X_0 := X.cells 0 _ rfl
      have X_1 := X.cells 1 _ rfl
      have X_f0 := X.free 0 (by simp)
      have X_f1 := X.free 1 (by simp)
      have X_t := X.there
      go_wp2_with fail
      refine (good_spec P cap l _ (rd_keep HA.out.k X.below) hln HA.out.z).mono ?_
      rintro e v2 ⟨rfl, hv2⟩
      clear X_0 X_1 X_f0 X_f1 X_t
      replace X := X.more hv2
      have zhv2 := hv2.size
      clear hv2
      have X_0 := X.cells 0 _ rfl
      have X_1 := X.cells 1 _ rfl
      have X_f0 := X.free 0 (by simp)
      have X_f1 := X.free 1 (by simp)
      have X_t := X.there
      cases h0 : goodK l
      · go_wp2
        go_ret
        exact rpost (by rw [HE.out, h0] <;> rfl) X.below
      cases h1 : inB wt 0 1000000
      · go_wp2_with (go_at_call 66; (with_reducible refine (in_any _ _ _ _).mono ?_); rintro e _ ⟨rfl, rfl⟩)
        go_ret
        exact rpost (by rw [HE.out, h0, h1] <;> rfl) X.below
      by_cases h2 : s.length = l.length
      · have hq : ((s.length : Int) == (l.length : Int)) = true := by rw [beq_iff_eq]; omega
        have HE2 := Lib.hid (show liqB l wt s = true by rw [HE.out, h0, h1, decide_eq_true h2]; rfl)
        clear h2
        go_wp2_with (go_at_call 66; (with_reducible refine (in_any _ _ _ _).mono ?_); rintro e _ ⟨rfl, rfl⟩)
        go_ret
        exact rpost (by rw [HE2.out] <;> rfl) X.below
      · have hq : ((s.length : Int) == (l.length : Int)) = false := by rw [beq_eq_false_iff_ne]; omega
        have HE2 := Lib.hid (show liqB l wt s = false by rw [HE.out, h0, h1, decide_eq_false h2]; rfl)
        clear h2
        go_wp2_with (go_at_call 66; (with_reducible refine (in_any _ _ _ _).mono ?_); rintro e _ ⟨rfl, rfl⟩)
        go_ret
        exact rpost (by rw [HE2.out] <;> rfl) X.below
theorem isl_spec (P : Option Addr) (cap : Nat) (l : List R) (wt : Int) (A : Option Addr) (c : Nat) (s : List Int) (w : World) (h : Ak w P l A s) :
    Calls Try.prog 21 #[.slice P l.length cap, .agg #[.int .i64 wt, .slice A s.length c]] w (RPost (.bool (liqB l wt s)) w) := by
  go_enter Try.func21, Try.ntmps21
  go_wp2_with fail
  have X := Box.new (Below.refl _ w) [.int .i64 wt, .slice A s.length c] 27 (g := w.heap.size) rfl
  generalize (w.alloc (.cells #[.int .i64 wt, .slice A s.length c] 27)) = W1 at X ⊢
  have X_0 := X.cells 0 _ rfl
  have X_1 := X.cells 1 _ rfl
  have X_f0 := X.free 0 (by simp)
  have X_f1 := X.free 1 (by simp)
  have X_t := X.there
  go_wp2_with fail
  refine (liq_spec P cap l wt A c s _ (h.keep X.below)).mono ?_
  rintro e v2 ⟨rfl, hv2⟩
  clear X_0 X_1 X_f0 X_f1 X_t
  replace X := X.more hv2
  have zhv2 := hv2.size
  clear hv2
  have X_0 := X.cells 0 _ rfl
  have X_1 := X.cells 1 _ rfl
  have X_f0 := X.free 0 (by simp)
  have X_f1 := X.free 1 (by simp)
  have X_t := X.there
  go_wp2
  go_ret
  exact rpost rfl X.below
set_option maxHeartbeats 1600000 in
theorem isl_impl (P : Option Addr) (cap : Nat) (l : List R) (wt : Int) (A : Option Addr) (c : Nat) (s : List Int) (w : World) (h : Ak w P l A s) :
    Calls Try.prog 20 #[.slice P l.length cap, .agg #[.int .i64 wt, .slice A s.length c]] w (RPost (.bool (liqB l wt s)) w) := by
  have HA := Lib.hid h
  have hsm := h.m
  have hln := h.n
  clear h
  have HQ := Lib.hid (fun h : (goodK l && (inB wt 0 1000000 && decide (s.length = l.length))) = false => liq_head h)
  go_enter Try.func20, Try.ntmps20
  go_wp2_with fail
  have X := Box.new (Below.refl _ w) [.int .i64 wt, .slice A s.length c] 27 (g := w.heap.size) rfl
  generalize (w.alloc (.cells #[.int .i64 wt, .slice A s.length c] 27)) = W1 at X ⊢
  have X_0 := X.cells 0 _ rfl
  have X_1 := X.cells 1 _ rfl
  have X_f0 := X.free 0 (by simp)
  have X_f1 := X.free 1 (by simp)
  have X_t := X.there
  have X_0 := X.cells 0 _ rfl
  have X_1 := X.cells 1 _ rfl
  have X_f0 := X.free 0 (by simp)
  have X_f1 := X.free 1 (by simp)
  have X_t := X.there
  go_wp2_with fail
  refine (are_impl P cap l _ (rd_keep HA.out.k X.below) hln HA.out.z).mono ?_
  rintro e v2 ⟨rfl, hv2⟩
  clear X_0 X_1 X_f0 X_f1 X_t
  replace X := X.more hv2
  have zhv2 := hv2.size
  clear hv2
  have X_0 := X.cells 0 _ rfl
  have X_1 := X.cells 1 _ rfl
  have X_f0 := X.free 0 (by simp)
  have X_f1 := X.free 1 (by simp)
  have X_t := X.there
  cases h0 : goodK l
  · go_wp2
    go_ret
    exact rpost (by rw [HQ.out (by rw [h0]; rfl)] <;> rfl) X.below
  cases h1 : inB wt 0 1000000
  · go_wp2_with (go_at_call 57; (with_reducible refine (within_any _ _ _ _).mono ?_); rintro e _ ⟨rfl, rfl⟩)
    go_ret
    exact rpost (by rw [HQ.out (by rw [h0, h1]; rfl)] <;> rfl) X.below
  by_cases h2 : s.length = l.length
  · have hq : ((s.length : Int) != (l.length : Int)) = false := by rw [bne_eq_false_iff_eq]; omega
    have HE2 := Lib.hid (show (goodK l && (inB wt 0 1000000 && decide (s.length = l.length))) = true by rw [h0, h1, decide_eq_true h2]; rfl)
    clear h2
    go_wp2_with (go_at_call 57; (with_reducible refine (within_any _ _ _ _).mono ?_); rintro e _ ⟨rfl, rfl⟩)
    go_loopw [27] (fun i wr => ∃ k : Nat, k ≤ s.length ∧ i = .int .i64 k ∧ Hid (SaltTo s k) ∧ Below w.heap.size w wr) (fun i _ => s.length - (intOf i).toNat)
    case atStart => exact ⟨0, Nat.zero_le _, rfl, Lib.hid (salt_start s), X.below⟩
    case round =>
      clear X X_0 X_1 X_f0 X_f1 X_t
      obtain ⟨k, hk, rfl, HOK, HB⟩ := hrel
      by_cases hlt : k < s.length
      · obtain ⟨b, o, rfl, hb, hc⟩ := HA.out.sa.at (k := k) (by rw [iv_len]; exact hlt)
        obtain ⟨y, hy⟩ : ∃ y, s[k] = y := ⟨_, rfl⟩
        have h0c : wr.cell? ⟨b, o + k, none⟩ = some (.int .i64 y) := by rw [← hy]; exact cell_s HB hb hc hlt
        have HY := Lib.hid hy; clear hy hc
        have HL := Lib.hid hlt
        cases hok : inB y 0 1000000
        · have HF := Lib.hid (liq_no_salt (l := l) (wt := wt) (salt_no HL.out (by rw [HY.out]; exact hok)))
          go_wp2_with (go_at_call 57; (with_reducible refine (within_any _ _ _ _).mono ?_); rintro e _ ⟨rfl, rfl⟩)
          go_ret
          exact rpost (by rw [HF.out] <;> rfl) HB
        · have HN := Lib.hid (salt_step HL.out HOK.out (by rw [HY.out]; exact hok))
          go_wp2_with (go_at_call 57; (with_reducible refine (within_any _ _ _ _).mono ?_); rintro e _ ⟨rfl, rfl⟩)
          go_roundw
          case rel => exact ⟨k + 1, HL.out, by go_num, HN, HB⟩
          case measure => have := HL.out; simp [intOf]; omega
      · have HE := Lib.hid (liq_yes HE2.out (salt_end (show s.length ≤ k by omega) HOK.out))
        go_wp2
        go_ret
        exact rpost (by rw [HE.out] <;> rfl) HB
  · have hq : ((s.length : Int) != (l.length : Int)) = true := by rw [bne_iff_ne]; omega
    have HE2 := Lib.hid (HQ.out (by rw [h0, h1, decide_eq_false h2]; rfl))
    clear h2
    go_wp2_with (go_at_call 57; (with_reducible refine (within_any _ _ _ _).mono ?_); rintro e _ ⟨rfl, rfl⟩)
    go_ret
    exact rpost (by rw [HE2.out] <;> rfl) X.below
set_option maxHeartbeats 800000 in
theorem asked_spec (P : Option Addr) (cap : Nat) (l : List R) (wt : Int) (A : Option Addr) (c : Nat) (s : List Int) (i : Int) (w : World) (h : Ak w P l A s) :
    Calls Try.prog 70 #[.slice P l.length cap, .agg #[.int .i64 wt, .slice A s.length c], .int .i64 i] w (RPost (.bool (askB l wt s i)) w) := by
  have HA := Lib.hid h
  have hln := h.n
  clear h
  have HQ := Lib.hid (show askB l wt s i = (liqB l wt s && inB i 0 ((l.length : Int) - 1)) from rfl)
  go_enter Try.func70, Try.ntmps70
  go_wp2_with fail
  have X := Box.new (Below.refl _ w) [.int .i64 wt, .slice A s.length c] 27 (g := w.heap.size) rfl
  generalize (w.alloc (.cells #[.int .i64 wt, .slice A s.length c] 27)) = W1 at X ⊢
  have X_0 := X.cells 0 _ rfl
  have X_1 := X.cells 1 _ rfl
  have X_f0 := X.free 0 (by simp)
  have X_f1 := X.free 1 (by simp)
  have X_t := X.there
  go_wp2_with fail
  refine (liq_spec P cap l wt A c s _ (HA.out.keep X.below)).mono ?_
  rintro e v2 ⟨rfl, hv2⟩
  clear X_0 X_1 X_f0 X_f1 X_t
  replace X := X.more hv2
  have zhv2 := hv2.size
  clear hv2
  have X_0 := X.cells 0 _ rfl
  have X_1 := X.cells 1 _ rfl
  have X_f0 := X.free 0 (by simp)
  have X_f1 := X.free 1 (by simp)
  have X_t := X.there
  cases h0 : liqB l wt s
  · go_wp2
    go_ret
    exact rpost (by rw [HQ.out, h0] <;> rfl) X.below
  · go_wp2_with (go_at_call 66; (with_reducible refine (in_any _ _ _ _).mono ?_); rintro e _ ⟨rfl, rfl⟩)
    go_ret
    exact rpost (by rw [HQ.out, h0] <;> rfl) X.below
set_option maxHeartbeats 800000 in
theorem asked_impl (P : Option Addr) (cap : Nat) (l : List R) (wt : Int) (A : Option Addr) (c : Nat) (s : List Int) (i : Int) (w : World) (h : Ak w P l A s) :
    Calls Try.prog 68 #[.slice P l.length cap, .agg #[.int .i64 wt, .slice A s.length c], .int .i64 i] w (RPost (.bool (askB l wt s i)) w) := by
  have HA := Lib.hid h
  have hln := h.n
  clear h
  have HQ := Lib.hid (show askB l wt s i = (liqB l wt s && inB i 0 ((l.length : Int) - 1)) from rfl)
  go_enter Try.func68, Try.ntmps68
  go_wp2_with fail
  have X := Box.new (Below.refl _ w) [.int .i64 wt, .slice A s.length c] 27 (g := w.heap.size) rfl
  generalize (w.alloc (.cells #[.int .i64 wt, .slice A s.length c] 27)) = W1 at X ⊢
  have X_0 := X.cells 0 _ rfl
  have X_1 := X.cells 1 _ rfl
  have X_f0 := X.free 0 (by simp)
  have X_f1 := X.free 1 (by simp)
  have X_t := X.there
  go_wp2_with fail
  refine (isl_impl P cap l wt A c s _ (HA.out.keep X.below)).mono ?_
  rintro e v2 ⟨rfl, hv2⟩
  clear X_0 X_1 X_f0 X_f1 X_t
  replace X := X.more hv2
  have zhv2 := hv2.size
  clear hv2
  have X_0 := X.cells 0 _ rfl
  have X_1 := X.cells 1 _ rfl
  have X_f0 := X.free 0 (by simp)
  have X_f1 := X.free 1 (by simp)
  have X_t := X.there
  cases h0 : liqB l wt s
  · go_wp2
    go_ret
    exact rpost (by rw [HQ.out, h0] <;> rfl) X.below
  · go_wp2_with (go_at_call 57; (with_reducible refine (within_any _ _ _ _).mono ?_); rintro e _ ⟨rfl, rfl⟩)
    go_ret
    exact rpost (by rw [HQ.out, h0] <;> rfl) X.below
theorem keeps_spec (x : R) (wt : Int) (h0 : 1 ≤ x.f2) (h1 : x.f2 ≤ 1000) (h2 : 0 ≤ wt) (h3 : wt ≤ 1000000) (w : World) :
    Calls Try.prog 71 #[.agg #[.string x.f0, .int .i64 x.f1, .int .i64 x.f2], .int .i64 wt] w (RPost (.int .i64 (keepI x.f2 wt)) w) := by
  obtain ⟨⟨a0, a1⟩, b0, b1⟩ := keep_range (show 0 ≤ x.f2 by omega) h1 h2 h3
  have HK := Lib.hid (show keepI x.f2 wt = x.f2 * wt / 1000 from rfl)
  have e1 : IntKind.i64.wrap (x.f2 * wt) = x.f2 * wt := IntWalk.i64_in _ (by omega)
  have e2 : (x.f2 * wt).tdiv 1000 = x.f2 * wt / 1000 := Int.tdiv_eq_ediv_of_nonneg a0
  have e3 : IntKind.i64.wrap (x.f2 * wt / 1000) = x.f2 * wt / 1000 := by rw [← HK.out]; exact IntWalk.i64_in _ (by omega)
  clear a0 a1 b0 b1 h0 h1 h2 h3
  go_enter Try.func71, Try.ntmps71
  go_wp2
  go_ret
  exact rpost (by rw [HK.out] <;> rfl) (al (Below.refl _ _))
theorem keeps_impl (x : R) (wt : Int) (h0 : 1 ≤ x.f2) (h1 : x.f2 ≤ 1000) (h2 : 0 ≤ wt) (h3 : wt ≤ 1000000) (w : World) :
    Calls Try.prog 69 #[.int .i64 wt, .agg #[.string x.f0, .int .i64 x.f1, .int .i64 x.f2]] w (RPost (.int .i64 (keepI x.f2 wt)) w) := by
  obtain ⟨⟨a0, a1⟩, b0, b1⟩ := keep_range (show 0 ≤ x.f2 by omega) h1 h2 h3
  have HK := Lib.hid (show keepI x.f2 wt = x.f2 * wt / 1000 from rfl)
  have e1 : IntKind.i64.wrap (x.f2 * wt) = x.f2 * wt := IntWalk.i64_in _ (by omega)
  have e2 : (x.f2 * wt).tdiv 1000 = x.f2 * wt / 1000 := Int.tdiv_eq_ediv_of_nonneg a0
  have e3 : IntKind.i64.wrap (x.f2 * wt / 1000) = x.f2 * wt / 1000 := by rw [← HK.out]; exact IntWalk.i64_in _ (by omega)
  clear a0 a1 b0 b1 h0 h1 h2 h3
  go_enter Try.func69, Try.ntmps69
  go_wp2
  go_ret
  exact rpost (by rw [HK.out] <;> rfl) (al (Below.refl _ _))
set_option maxHeartbeats 1600000 in
theorem full_spec (P : Option Addr) (cap : Nat) (l : List R) (wt : Int) (A : Option Addr) (c : Nat) (s : List Int) (i : Int) (w : World) (h : Ak w P l A s) :
    Calls Try.prog 30 #[.slice P l.length cap, .agg #[.int .i64 wt, .slice A s.length c], .int .i64 i] w (RPost (fullV l wt s i) w) := by
  have HA := Lib.hid h
  have hln := h.n
  have hsm := h.m
  clear h
  go_enter Try.func30, Try.ntmps30
  go_wp2_with fail
  have X := Box.new (Below.refl _ w) [.int .i64 wt, .slice A s.length c] 27 (g := w.heap.size) rfl
  generalize (w.alloc (.cells #[.int .i64 wt, .slice A s.length c] 27)) = W1 at X ⊢
  have X_0 := X.cells 0 _ rfl
  have X_1 := X.cells 1 _ rfl
  have X_f0 := X.free 0 (by simp)
  have X_f1 := X.free 1 (by simp)
  have X_t := X.there
  go_wp2_with fail
  refine (asked_spec P cap l wt A c s i _ (HA.out.keep X.below)).mono ?_
  rintro e v2 ⟨rfl, hv2⟩
  clear X_0 X_1 X_f0 X_f1 X_t
  replace X := X.more hv2
  have zhv2 := hv2.size
  clear hv2
  have X_0 := X.cells 0 _ rfl
  have X_1 := X.cells 1 _ rfl
  have X_f0 := X.free 0 (by simp)
  have X_f1 := X.free 1 (by simp)
  have X_t := X.there
  cases h0 : askB l wt s i
  · have HQ := Lib.hid (full_no h0)
    clear h0
    go_wp2
    go_ret2
    exact rpost (by rw [HQ.out] <;> rfl) X.below
  obtain ⟨V, k, rfl, hk, hks⟩ := ask_split h0
  obtain ⟨b, o, rfl, hb, hc⟩ := HA.out.k.at (k := k * 3) (by rw [flat_n]; omega)
  obtain ⟨b', o', rfl, hb', hc'⟩ := HA.out.sa.at (k := k) (by rw [iv_len]; exact hks)
  obtain ⟨x, hx⟩ : ∃ x, l[k] = x := ⟨_, rfl⟩
  obtain ⟨y, hy⟩ : ∃ y, s[k] = y := ⟨_, rfl⟩
  obtain ⟨c0, c1, c2⟩ := cells3 (Below.refl _ w) hb hc hk hx
  have c3 : w.cell? ⟨b', o' + k, none⟩ = some (.int .i64 y) := by rw [← hy]; exact cell_s (Below.refl _ w) hb' hc' hks
  have hkd := V.kind hk
  have hsl := V.salt k hks
  rw [hx] at hkd
  rw [hy] at hsl
  have hw0 := V.w0
  have hw1 := V.w1
  have HX := Lib.hid hx
  have HY := Lib.hid hy
  have HKS := Lib.hid (And.intro hk hks)
  clear hc hc' hx hy
  have HQ := Lib.hid (full_yes h0 hk hks)
  rw [HX.out, HY.out] at HQ
  clear h0 V
  go_wp2_with fail
  have c0_c := ((bcell X.below).1 _ _ hb).trans c0
  have c1_c := ((bcell X.below).1 _ _ hb).trans c1
  have c2_c := ((bcell X.below).1 _ _ hb).trans c2
  have c3_c := ((bcell X.below).1 _ _ hb').trans c3
  refine wp_region_text (fun w' => Box (w.heap.size) [.int .i64 wt, .slice (some ⟨b', o', none⟩) s.length c] w w') (by kernel_rfl) (by kernel_rfl) (X.drew) ?_
  clear X_0 X_1 X_f0 X_f1 X_t
  clear c0_c
  clear c1_c
  clear c2_c
  clear c3_c
  iterate 15 (
    apply SeqH.one
    · intro uw K hS hK
      have qX := hS
      have qX_0 := qX.cells 0 _ rfl
      have qX_1 := qX.cells 1 _ rfl
      have qc0_c := ((bcell qX.below).1 _ _ hb).trans c0
      have qc1_c := ((bcell qX.below).1 _ _ hb).trans c1
      have qc2_c := ((bcell qX.below).1 _ _ hb).trans c2
      have qc3_c := ((bcell qX.below).1 _ _ hb').trans c3
      first
        | (go_simp; exact hK.out _ qX)
        | (go_simp; go_at_call 71; (with_reducible refine (keeps_spec x wt hkd.2.1 hkd.2.2 hw0 hw1 _).mono ?_); rintro e uw1 ⟨rfl, hv⟩; go_wp2_with fail; exact hK.out _ (qX.more hv))
    try simp only [Act.put, List.setIfInBounds_toArray, List.set_cons_zero, List.set_cons_succ])
  refine SeqH.end' rfl ?_
  intro v3 hS
  clear X
  have X := hS; clear hS
  have X_0 := X.cells 0 _ rfl
  have X_1 := X.cells 1 _ rfl
  have X_f0 := X.free 0 (by simp)
  have X_f1 := X.free 1 (by simp)
  have X_t := X.there
  have c0_c := ((bcell X.below).1 _ _ hb).trans c0
  have c1_c := ((bcell X.below).1 _ _ hb).trans c1
  have c2_c := ((bcell X.below).1 _ _ hb).trans c2
  have c3_c := ((bcell X.below).1 _ _ hb').trans c3
  go_wp2
  go_ret2
  exact rpost (by rw [HQ.out] <;> rfl) X.below
set_option maxHeartbeats 1600000 in
theorem full_impl (P : Option Addr) (cap : Nat) (l : List R) (wt : Int) (A : Option Addr) (c : Nat) (s : List Int) (i : Int) (w : World) (h : Ak w P l A s) :
    Calls Try.prog 29 #[.slice P l.length cap, .agg #[.int .i64 wt, .slice A s.length c], .int .i64 i] w (RPost (fullV l wt s i) w) := by
  have HA := Lib.hid h
  have hln := h.n
  have hsm := h.m
  clear h
  go_enter Try.func29, Try.ntmps29
  go_wp2_with fail
  have X := Box.new (Below.refl _ w) [.int .i64 wt, .slice A s.length c] 27 (g := w.heap.size) rfl
  generalize (w.alloc (.cells #[.int .i64 wt, .slice A s.length c] 27)) = W1 at X ⊢
  have X_0 := X.cells 0 _ rfl
  have X_1 := X.cells 1 _ rfl
  have X_f0 := X.free 0 (by simp)
  have X_f1 := X.free 1 (by simp)
  have X_t := X.there
  go_wp2_with fail
  refine (asked_impl P cap l wt A c s i _ (HA.out.keep X.below)).mono ?_
  rintro e v2 ⟨rfl, hv2⟩
  clear X_0 X_1 X_f0 X_f1 X_t
  replace X := X.more hv2
  have zhv2 := hv2.size
  clear hv2
  have X_0 := X.cells 0 _ rfl
  have X_1 := X.cells 1 _ rfl
  have X_f0 := X.free 0 (by simp)
  have X_f1 := X.free 1 (by simp)
  have X_t := X.there
  cases h0 : askB l wt s i
  · have HQ := Lib.hid (full_no h0)
    clear h0
    go_wp2
    go_ret2
    exact rpost (by rw [HQ.out] <;> rfl) X.below
  obtain ⟨V, k, rfl, hk, hks⟩ := ask_split h0
  obtain ⟨b, o, rfl, hb, hc⟩ := HA.out.k.at (k := k * 3) (by rw [flat_n]; omega)
  obtain ⟨b', o', rfl, hb', hc'⟩ := HA.out.sa.at (k := k) (by rw [iv_len]; exact hks)
  obtain ⟨x, hx⟩ : ∃ x, l[k] = x := ⟨_, rfl⟩
  obtain ⟨y, hy⟩ : ∃ y, s[k] = y := ⟨_, rfl⟩
  obtain ⟨c0, c1, c2⟩ := cells3 (Below.refl _ w) hb hc hk hx
  have c3 : w.cell? ⟨b', o' + k, none⟩ = some (.int .i64 y) := by rw [← hy]; exact cell_s (Below.refl _ w) hb' hc' hks
  have hkd := V.kind hk
  have hsl := V.salt k hks
  rw [hx] at hkd
  rw [hy] at hsl
  have hw0 := V.w0
  have hw1 := V.w1
  have HX := Lib.hid hx
  have HY := Lib.hid hy
  have HKS := Lib.hid (And.intro hk hks)
  clear hc hc' hx hy
  have HQ := Lib.hid (full_yes h0 hk hks)
  rw [HX.out, HY.out] at HQ
  clear h0 V
  go_wp2_with fail
  have c0_c := ((bcell X.below).1 _ _ hb).trans c0
  have c1_c := ((bcell X.below).1 _ _ hb).trans c1
  have c2_c := ((bcell X.below).1 _ _ hb).trans c2
  have c3_c := ((bcell X.below).1 _ _ hb').trans c3
  refine wp_region_text (fun w' => Box (w.heap.size) [.int .i64 wt, .slice (some ⟨b', o', none⟩) s.length c] w w') (by kernel_rfl) (by kernel_rfl) (X.drew) ?_
  clear X_0 X_1 X_f0 X_f1 X_t
  clear c0_c
  clear c1_c
  clear c2_c
  clear c3_c
  iterate 15 (
    apply SeqH.one
    · intro uw K hS hK
      have qX := hS
      have qX_0 := qX.cells 0 _ rfl
      have qX_1 := qX.cells 1 _ rfl
      have qc0_c := ((bcell qX.below).1 _ _ hb).trans c0
      have qc1_c := ((bcell qX.below).1 _ _ hb).trans c1
      have qc2_c := ((bcell qX.below).1 _ _ hb).trans c2
      have qc3_c := ((bcell qX.below).1 _ _ hb').trans c3
      first
        | (go_simp; exact hK.out _ qX)
        | (go_simp; go_at_call 69; (with_reducible refine (keeps_impl x wt hkd.2.1 hkd.2.2 hw0 hw1 _).mono ?_); rintro e uw1 ⟨rfl, hv⟩; go_wp2_with fail; exact hK.out _ (qX.more hv))
    try simp only [Act.put, List.setIfInBounds_toArray, List.set_cons_zero, List.set_cons_succ])
  refine SeqH.end' rfl ?_
  intro v3 hS
  clear X
  have X := hS; clear hS
  have X_0 := X.cells 0 _ rfl
  have X_1 := X.cells 1 _ rfl
  have X_f0 := X.free 0 (by simp)
  have X_f1 := X.free 1 (by simp)
  have X_t := X.there
  have c0_c := ((bcell X.below).1 _ _ hb).trans c0
  have c1_c := ((bcell X.below).1 _ _ hb).trans c1
  have c2_c := ((bcell X.below).1 _ _ hb).trans c2
  have c3_c := ((bcell X.below).1 _ _ hb').trans c3
  go_wp2
  go_ret2
  exact rpost (by rw [HQ.out] <;> rfl) X.below
set_option maxHeartbeats 1600000 in
theorem mass_spec (P : Option Addr) (cap : Nat) (l : List R) (wt : Int) (A : Option Addr) (c : Nat) (s : List Int) (w : World) (h : Ak w P l A s) :
    Calls Try.prog 32 #[.slice P l.length cap, .agg #[.int .i64 wt, .slice A s.length c]] w (RPost (massV l wt s) w) := by
  have HA := Lib.hid h
  have hln := h.n
  have hsm := h.m
  clear h
  go_enter Try.func32, Try.ntmps32
  go_wp2_with fail
  have X := Box.new (Below.refl _ w) [.int .i64 wt, .slice A s.length c] 27 (g := w.heap.size) rfl
  generalize (w.alloc (.cells #[.int .i64 wt, .slice A s.length c] 27)) = W1 at X ⊢
  have X_0 := X.cells 0 _ rfl
  have X_1 := X.cells 1 _ rfl
  have X_f0 := X.free 0 (by simp)
  have X_f1 := X.free 1 (by simp)
  have X_t := X.there
  go_wp2_with fail
  refine (liq_spec P cap l wt A c s _ (HA.out.keep X.below)).mono ?_
  rintro e v2 ⟨rfl, hv2⟩
  clear X_0 X_1 X_f0 X_f1 X_t
  replace X := X.more hv2
  have zhv2 := hv2.size
  clear hv2
  have X_0 := X.cells 0 _ rfl
  have X_1 := X.cells 1 _ rfl
  have X_f0 := X.free 0 (by simp)
  have X_f1 := X.free 1 (by simp)
  have X_t := X.there
  have X_0 := X.cells 0 _ rfl
  have X_1 := X.cells 1 _ rfl
  have X_f0 := X.free 0 (by simp)
  have X_f1 := X.free 1 (by simp)
  have X_t := X.there
  cases h0 : liqB l wt s
  · have HQ := Lib.hid (mass_no h0)
    clear h0
    go_wp2
    go_ret2
    exact rpost (by rw [HQ.out] <;> rfl) X.below
  have HQ := Lib.hid (mass_yes h0)
  have HV := Lib.hid (vld h0)
  clear h0
  have hw0 := HV.out.w0
  have hw1 := HV.out.w1
  have hsl := HV.out.len
  have hsn := HV.out.n
  have hs6 : s.length ≤ 6 := by omega
  clear hsl hsn
  go_wp2
  go_loopw [6, 7] (fun q i wr => ∃ k : Nat, k ≤ s.length ∧ i = .int .i64 k ∧ (∃ t : Int, q = .int .i64 (wt + t) ∧ Hid (t = (s.take k).sum)) ∧ Box w.heap.size [.int .i64 wt, .slice A s.length c] w wr) (fun _ i _ => s.length - (intOf i).toNat)
  case atStart => exact ⟨0, Nat.zero_le _, rfl, ⟨0, by simp, Lib.hid (by simp)⟩, X⟩
  case round =>
    clear X X_0 X_1 X_f0 X_f1 X_t
    obtain ⟨k, hk, rfl, ⟨t, rfl, HT⟩, X⟩ := hrel
    by_cases hlt : k < s.length
    · obtain ⟨b, o, rfl, hb, hc⟩ := HA.out.sa.at (k := k) (by rw [iv_len]; exact hlt)
      obtain ⟨y, hy⟩ : ∃ y, s[k] = y := ⟨_, rfl⟩
      have h0c : wr.cell? ⟨b, o + k, none⟩ = some (.int .i64 y) := by rw [← hy]; exact cell_s X.below hb hc hlt
      have hsy := HV.out.salt k hlt
      rw [hy] at hsy
      have htb := HV.out.sum k hk
      rw [← HT.out] at htb
      have HN := Lib.hid (show t + y = (s.take (k + 1)).sum by rw [sum_take s k hlt, HT.out, hy])
      have htk : t ≤ 6000000 := by omega
      have ht0 := htb.1
      have e1 : IntKind.i64.wrap (wt + t + y) = wt + t + y := IntWalk.i64_in _ (by omega)
      clear hy hc htb
      have HL := Lib.hid hlt
      have X_0 := X.cells 0 _ rfl
      have X_1 := X.cells 1 _ rfl
      have X_f0 := X.free 0 (by simp)
      have X_f1 := X.free 1 (by simp)
      have X_t := X.there
      go_wp2
      go_roundw
      case rel => exact ⟨k + 1, HL.out, by go_num, ⟨t + y, by simp [Int.add_assoc], HN⟩, X⟩
      case measure => have := HL.out; simp [intOf]; omega
    · have HE := Lib.hid (show t = s.sum by rw [HT.out, List.take_of_length_le (by omega)])
      have X_0 := X.cells 0 _ rfl
      have X_1 := X.cells 1 _ rfl
      have X_f0 := X.free 0 (by simp)
      have X_f1 := X.free 1 (by simp)
      have X_t := X.there
      go_wp2
      go_ret2
      exact rpost (by rw [HQ.out, HE.out] <;> rfl) X.below
set_option maxHeartbeats 1600000 in
theorem mass_impl (P : Option Addr) (cap : Nat) (l : List R) (wt : Int) (A : Option Addr) (c : Nat) (s : List Int) (w : World) (h : Ak w P l A s) :
    Calls Try.prog 24 #[.slice P l.length cap, .agg #[.int .i64 wt, .slice A s.length c]] w (RPost (massV l wt s) w) := by
  have HA := Lib.hid h
  have hln := h.n
  have hsm := h.m
  clear h
  go_enter Try.func24, Try.ntmps24
  go_wp2_with fail
  have X := Box.new (Below.refl _ w) [.int .i64 wt, .slice A s.length c] 27 (g := w.heap.size) rfl
  generalize (w.alloc (.cells #[.int .i64 wt, .slice A s.length c] 27)) = W1 at X ⊢
  have X_0 := X.cells 0 _ rfl
  have X_1 := X.cells 1 _ rfl
  have X_f0 := X.free 0 (by simp)
  have X_f1 := X.free 1 (by simp)
  have X_t := X.there
  go_wp2_with fail
  refine (isl_impl P cap l wt A c s _ (HA.out.keep X.below)).mono ?_
  rintro e v2 ⟨rfl, hv2⟩
  clear X_0 X_1 X_f0 X_f1 X_t
  replace X := X.more hv2
  have zhv2 := hv2.size
  clear hv2
  have X_0 := X.cells 0 _ rfl
  have X_1 := X.cells 1 _ rfl
  have X_f0 := X.free 0 (by simp)
  have X_f1 := X.free 1 (by simp)
  have X_t := X.there
  have X_0 := X.cells 0 _ rfl
  have X_1 := X.cells 1 _ rfl
  have X_f0 := X.free 0 (by simp)
  have X_f1 := X.free 1 (by simp)
  have X_t := X.there
  cases h0 : liqB l wt s
  · have HQ := Lib.hid (mass_no h0)
    clear h0
    go_wp2
    go_ret2
    exact rpost (by rw [HQ.out] <;> rfl) X.below
  have HQ := Lib.hid (mass_yes h0)
  have HV := Lib.hid (vld h0)
  clear h0
  have hw0 := HV.out.w0
  have hw1 := HV.out.w1
  have hsl := HV.out.len
  have hsn := HV.out.n
  have hs6 : s.length ≤ 6 := by omega
  clear hsl hsn
  go_wp2
  go_loopw [6, 18] (fun q i wr => ∃ k : Nat, k ≤ s.length ∧ i = .int .i64 k ∧ (∃ t : Int, q = .int .i64 (wt + t) ∧ Hid (t = (s.take k).sum)) ∧ Box w.heap.size [.int .i64 wt, .slice A s.length c] w wr) (fun _ i _ => s.length - (intOf i).toNat)
  case atStart => exact ⟨0, Nat.zero_le _, rfl, ⟨0, by simp, Lib.hid (by simp)⟩, X⟩
  case round =>
    clear X X_0 X_1 X_f0 X_f1 X_t
    obtain ⟨k, hk, rfl, ⟨t, rfl, HT⟩, X⟩ := hrel
    by_cases hlt : k < s.length
    · obtain ⟨b, o, rfl, hb, hc⟩ := HA.out.sa.at (k := k) (by rw [iv_len]; exact hlt)
      obtain ⟨y, hy⟩ : ∃ y, s[k] = y := ⟨_, rfl⟩
      have h0c : wr.cell? ⟨b, o + k, none⟩ = some (.int .i64 y) := by rw [← hy]; exact cell_s X.below hb hc hlt
      have hsy := HV.out.salt k hlt
      rw [hy] at hsy
      have htb := HV.out.sum k hk
      rw [← HT.out] at htb
      have HN := Lib.hid (show t + y = (s.take (k + 1)).sum by rw [sum_take s k hlt, HT.out, hy])
      have htk : t ≤ 6000000 := by omega
      have ht0 := htb.1
      have e1 : IntKind.i64.wrap (wt + t + y) = wt + t + y := IntWalk.i64_in _ (by omega)
      clear hy hc htb
      have HL := Lib.hid hlt
      have X_0 := X.cells 0 _ rfl
      have X_1 := X.cells 1 _ rfl
      have X_f0 := X.free 0 (by simp)
      have X_f1 := X.free 1 (by simp)
      have X_t := X.there
      go_wp2
      go_roundw
      case rel => exact ⟨k + 1, HL.out, by go_num, ⟨t + y, by simp [Int.add_assoc], HN⟩, X⟩
      case measure => have := HL.out; simp [intOf]; omega
    · have HE := Lib.hid (show t = s.sum by rw [HT.out, List.take_of_length_le (by omega)])
      have X_0 := X.cells 0 _ rfl
      have X_1 := X.cells 1 _ rfl
      have X_f0 := X.free 0 (by simp)
      have X_f1 := X.free 1 (by simp)
      have X_t := X.there
      go_wp2
      go_ret2
      exact rpost (by rw [HQ.out, HE.out] <;> rfl) X.below
theorem up_impl (m n : Int) (h0 : 0 ≤ m) (h1 : m ≤ 2000000000) (hn : 1 ≤ n) (hn1 : n ≤ 1000) (w : World) : Calls Try.prog 89 #[.int .i64 m, .int .i64 n] w fun e w' => e = .returned (.int .i64 ((m + n - 1) / n)) ∧ w = w' := by
  have m4 : (m + n - 1).tdiv n = (m + n - 1) / n := Int.tdiv_eq_ediv_of_nonneg (by omega)
  have m5 : 0 ≤ (m + n - 1) / n := Int.ediv_nonneg (by omega) (by omega)
  have m6 : (m + n - 1) / n ≤ m + n - 1 := Int.ediv_le_self _ (by omega)
  have m7 : IntKind.i64.wrap ((m + n - 1) / n) = (m + n - 1) / n := IntWalk.i64_in _ (by omega)
  have m8 : ¬ (n = 0) := by omega
  clear m5 m6
  go_enter Try.func89, Try.ntmps89
  go_wp2
  go_ret
  exact ⟨rfl, rfl⟩
theorem for_impl (x : R) (sl : Int) (h0 : 1 ≤ x.f2) (h1 : x.f2 ≤ 1000) (h2 : 0 ≤ sl) (h3 : sl ≤ 1000000) (w : World) :
    Calls Try.prog 74 #[.agg #[.string x.f0, .int .i64 x.f1, .int .i64 x.f2], .int .i64 sl] w (RPost (.int .i64 ((sl * 1000 + x.f2 - 1) / x.f2)) w) := by
  have e1 : IntKind.i64.wrap (sl * 1000) = sl * 1000 := IntWalk.i64_in _ (by omega)
  go_enter Try.func74, Try.ntmps74
  go_wp2_with fail
  have X := Box.new (Below.refl _ w) [.string x.f0, .int .i64 x.f1, .int .i64 x.f2] 37 (g := w.heap.size) rfl
  generalize (w.alloc (.cells #[.string x.f0, .int .i64 x.f1, .int .i64 x.f2] 37)) = W1 at X ⊢
  have X_0 := X.cells 0 _ rfl
  have X_1 := X.cells 1 _ rfl
  have X_2 := X.cells 2 _ rfl
  have X_f0 := X.free 0 (by simp)
  have X_f1 := X.free 1 (by simp)
  have X_f2 := X.free 2 (by simp)
  have X_t := X.there
  have X_0 := X.cells 0 _ rfl
  have X_1 := X.cells 1 _ rfl
  have X_2 := X.cells 2 _ rfl
  have X_f0 := X.free 0 (by simp)
  have X_f1 := X.free 1 (by simp)
  have X_f2 := X.free 2 (by simp)
  have X_t := X.there
  go_wp2_with (go_at_call 89; (with_reducible refine (up_impl _ _ (by omega) (by omega) h0 h1 _).mono ?_); rintro e _ ⟨rfl, rfl⟩)
  go_ret
  exact rpost rfl X.below
theorem dry_spec (x : R) (sl wt : Int) (h0 : 1 ≤ x.f2) (h1 : x.f2 ≤ 1000) (h2 : 0 ≤ sl) (h3 : sl ≤ 1000000) (h4 : 0 ≤ wt) (h5 : wt ≤ 1000000) (w : World) :
    Calls Try.prog 73 #[.agg #[.string x.f0, .int .i64 x.f1, .int .i64 x.f2], .int .i64 sl, .int .i64 wt] w (RPost (.int .i64 (dryI x.f2 sl wt)) w) := by
  by_cases hz : sl = 0
  · subst hz
    have H := Lib.hid (dry_zero (g := x.f2) (wt := wt))
    go_enter Try.func73, Try.ntmps73
    go_wp2
    go_ret
    exact rpost (by rw [H.out] <;> rfl) (al (Below.refl _ _))
  · have H := Lib.hid (show dryI x.f2 sl wt = most 0 (wt - (1000 * sl - 1) / x.f2) by unfold dryI; rw [if_neg hz])
    have hd := div_range (a := 1000 * sl - 1) (g := x.f2) (by omega) (by omega) h0
    have hq : ((sl : Int) == 0) = false := by rw [beq_eq_false_iff_ne]; exact hz
    have e1 : IntKind.i64.wrap (1000 * sl) = 1000 * sl := IntWalk.i64_in _ (by omega)
    have e2 : IntKind.i64.wrap (1000 * sl - 1) = 1000 * sl - 1 := IntWalk.i64_in _ (by omega)
    have e3 : (1000 * sl - 1).tdiv x.f2 = (1000 * sl - 1) / x.f2 := Int.tdiv_eq_ediv_of_nonneg (by omega)
    have e4 : ¬ (x.f2 = 0) := by omega
    have e5 : IntKind.i64.wrap ((1000 * sl - 1) / x.f2) = (1000 * sl - 1) / x.f2 := IntWalk.i64_in _ (by omega)
    have e6 : IntKind.i64.wrap (wt - (1000 * sl - 1) / x.f2) = wt - (1000 * sl - 1) / x.f2 := IntWalk.i64_in _ (by omega)
    clear hd hz h0 h1 h2 h3 h4 h5
    go_enter Try.func73, Try.ntmps73
    go_wp2_with (go_at_call 88; (with_reducible refine (most_any _ _ _).mono ?_); rintro e _ ⟨rfl, rfl⟩)
    go_ret
    exact rpost (by rw [H.out] <;> rfl) (al (Below.refl _ _))
set_option maxHeartbeats 1600000 in
theorem kept_spec (P : Option Addr) (cap : Nat) (l : List R) (wt : Int) (A : Option Addr) (c : Nat) (s : List Int) (i : Int) (w : World) (h : Ak w P l A s) :
    Calls Try.prog 38 #[.slice P l.length cap, .agg #[.int .i64 wt, .slice A s.length c], .int .i64 i] w (RPost (keptV l wt s i) w) := by
  have HA := Lib.hid h
  have hln := h.n
  have hsm := h.m
  clear h
  go_enter Try.func38, Try.ntmps38
  go_wp2_with fail
  have X := Box.new (Below.refl _ w) [.int .i64 wt, .slice A s.length c] 27 (g := w.heap.size) rfl
  generalize (w.alloc (.cells #[.int .i64 wt, .slice A s.length c] 27)) = W1 at X ⊢
  have X_0 := X.cells 0 _ rfl
  have X_1 := X.cells 1 _ rfl
  have X_f0 := X.free 0 (by simp)
  have X_f1 := X.free 1 (by simp)
  have X_t := X.there
  go_wp2_with fail
  refine (asked_spec P cap l wt A c s i _ (HA.out.keep X.below)).mono ?_
  rintro e v2 ⟨rfl, hv2⟩
  clear X_0 X_1 X_f0 X_f1 X_t
  replace X := X.more hv2
  have zhv2 := hv2.size
  clear hv2
  have X_0 := X.cells 0 _ rfl
  have X_1 := X.cells 1 _ rfl
  have X_f0 := X.free 0 (by simp)
  have X_f1 := X.free 1 (by simp)
  have X_t := X.there
  cases h0 : askB l wt s i
  · have HQ := Lib.hid (kept_no h0)
    clear h0
    go_wp2
    go_ret2
    exact rpost (by rw [HQ.out] <;> rfl) X.below
  obtain ⟨V, k, rfl, hk, hks⟩ := ask_split h0
  obtain ⟨b, o, rfl, hb, hc⟩ := HA.out.k.at (k := k * 3) (by rw [flat_n]; omega)
  obtain ⟨b', o', rfl, hb', hc'⟩ := HA.out.sa.at (k := k) (by rw [iv_len]; exact hks)
  obtain ⟨x, hx⟩ : ∃ x, l[k] = x := ⟨_, rfl⟩
  obtain ⟨y, hy⟩ : ∃ y, s[k] = y := ⟨_, rfl⟩
  obtain ⟨c0, c1, c2⟩ := cells3 (Below.refl _ w) hb hc hk hx
  have c3 : w.cell? ⟨b', o' + k, none⟩ = some (.int .i64 y) := by rw [← hy]; exact cell_s (Below.refl _ w) hb' hc' hks
  have hkd := V.kind hk
  have hsl := V.salt k hks
  rw [hx] at hkd
  rw [hy] at hsl
  have hw0 := V.w0
  have hw1 := V.w1
  have HX := Lib.hid hx
  have HY := Lib.hid hy
  have HKS := Lib.hid (And.intro hk hks)
  clear hc hc' hx hy
  have HQ := Lib.hid (kept_yes h0 hk hks)
  rw [HX.out, HY.out] at HQ
  have hdr := dry_range (g := x.f2) hsl.1 hsl.2 hkd.2.1 hw0 hw1
  clear h0 V
  go_wp2_with fail
  have c0_c := ((bcell X.below).1 _ _ hb).trans c0
  have c1_c := ((bcell X.below).1 _ _ hb).trans c1
  have c2_c := ((bcell X.below).1 _ _ hb).trans c2
  have c3_c := ((bcell X.below).1 _ _ hb').trans c3
  obtain ⟨d, hd⟩ : ∃ d, dryI x.f2 y wt = d := ⟨_, rfl⟩
  rw [hd] at HQ hdr
  refine wp_region_text (fun w' => Box (w.heap.size) [.int .i64 wt, .slice (some ⟨b', o', none⟩) s.length c] w w') (by kernel_rfl) (by kernel_rfl) (X.drew) ?_
  clear X_0 X_1 X_f0 X_f1 X_t
  clear c0_c
  clear c1_c
  clear c2_c
  clear c3_c
  iterate 13 (
    apply SeqH.one
    · intro uw K hS hK
      have qX := hS
      have qX_0 := qX.cells 0 _ rfl
      have qX_1 := qX.cells 1 _ rfl
      have qc0_c := ((bcell qX.below).1 _ _ hb).trans c0
      have qc1_c := ((bcell qX.below).1 _ _ hb).trans c1
      have qc2_c := ((bcell qX.below).1 _ _ hb).trans c2
      have qc3_c := ((bcell qX.below).1 _ _ hb').trans c3
      first
        | (go_simp; exact hK.out _ qX)
        | (go_simp; go_at_call 73; (with_reducible refine (dry_spec x y wt hkd.2.1 hkd.2.2 hsl.1 hsl.2 hw0 hw1 _).mono ?_); rintro e uw1 ⟨rfl, hv⟩; rw [hd]; go_wp2_with fail; exact hK.out _ (qX.more hv))
    try simp only [Act.put, List.setIfInBounds_toArray, List.set_cons_zero, List.set_cons_succ])
  refine SeqH.end' rfl ?_
  intro v3 hS
  clear X
  have X := hS; clear hS
  have X_0 := X.cells 0 _ rfl
  have X_1 := X.cells 1 _ rfl
  have X_f0 := X.free 0 (by simp)
  have X_f1 := X.free 1 (by simp)
  have X_t := X.there
  have c0_c := ((bcell X.below).1 _ _ hb).trans c0
  have c1_c := ((bcell X.below).1 _ _ hb).trans c1
  have c2_c := ((bcell X.below).1 _ _ hb).trans c2
  have c3_c := ((bcell X.below).1 _ _ hb').trans c3
  clear hd c0 c1 c2 c3
  have X_0 := X.cells 0 _ rfl
  have X_1 := X.cells 1 _ rfl
  have X_f0 := X.free 0 (by simp)
  have X_f1 := X.free 1 (by simp)
  have X_t := X.there
  by_cases hn : d < 0
  · rw [if_pos hn] at HQ
    go_wp2
    go_ret2
    exact rpost (by rw [HQ.out] <;> rfl) X.below
  · rw [if_neg hn] at HQ
    by_cases hz : d = 0
    · rw [if_pos hz] at HQ
      have hq : ((d : Int) == 0) = true := by rw [beq_iff_eq]; exact hz
      clear hz
      go_wp2
      go_ret2
      exact rpost (by rw [HQ.out] <;> rfl) X.below
    · rw [if_neg hz] at HQ
      have hq : ((d : Int) == 0) = false := by rw [beq_eq_false_iff_ne]; exact hz
      clear hz
      go_wp2
      go_ret2
      exact rpost (by rw [HQ.out] <;> rfl) X.below
set_option maxHeartbeats 1600000 in
theorem kept_impl (P : Option Addr) (cap : Nat) (l : List R) (wt : Int) (A : Option Addr) (c : Nat) (s : List Int) (i : Int) (w : World) (h : Ak w P l A s) :
    Calls Try.prog 37 #[.slice P l.length cap, .agg #[.int .i64 wt, .slice A s.length c], .int .i64 i] w (RPost (keptV l wt s i) w) := by
  have HA := Lib.hid h
  have hln := h.n
  have hsm := h.m
  clear h
  go_enter Try.func37, Try.ntmps37
  go_wp2_with fail
  have X := Box.new (Below.refl _ w) [.int .i64 wt, .slice A s.length c] 27 (g := w.heap.size) rfl
  generalize (w.alloc (.cells #[.int .i64 wt, .slice A s.length c] 27)) = W1 at X ⊢
  have X_0 := X.cells 0 _ rfl
  have X_1 := X.cells 1 _ rfl
  have X_f0 := X.free 0 (by simp)
  have X_f1 := X.free 1 (by simp)
  have X_t := X.there
  go_wp2_with fail
  refine (asked_impl P cap l wt A c s i _ (HA.out.keep X.below)).mono ?_
  rintro e v2 ⟨rfl, hv2⟩
  clear X_0 X_1 X_f0 X_f1 X_t
  replace X := X.more hv2
  have zhv2 := hv2.size
  clear hv2
  have X_0 := X.cells 0 _ rfl
  have X_1 := X.cells 1 _ rfl
  have X_f0 := X.free 0 (by simp)
  have X_f1 := X.free 1 (by simp)
  have X_t := X.there
  cases h0 : askB l wt s i
  · have HQ := Lib.hid (kept_no h0)
    clear h0
    go_wp2
    go_ret2
    exact rpost (by rw [HQ.out] <;> rfl) X.below
  obtain ⟨V, k, rfl, hk, hks⟩ := ask_split h0
  obtain ⟨b, o, rfl, hb, hc⟩ := HA.out.k.at (k := k * 3) (by rw [flat_n]; omega)
  obtain ⟨b', o', rfl, hb', hc'⟩ := HA.out.sa.at (k := k) (by rw [iv_len]; exact hks)
  obtain ⟨x, hx⟩ : ∃ x, l[k] = x := ⟨_, rfl⟩
  obtain ⟨y, hy⟩ : ∃ y, s[k] = y := ⟨_, rfl⟩
  obtain ⟨c0, c1, c2⟩ := cells3 (Below.refl _ w) hb hc hk hx
  have c3 : w.cell? ⟨b', o' + k, none⟩ = some (.int .i64 y) := by rw [← hy]; exact cell_s (Below.refl _ w) hb' hc' hks
  have hkd := V.kind hk
  have hsl := V.salt k hks
  rw [hx] at hkd
  rw [hy] at hsl
  have hw0 := V.w0
  have hw1 := V.w1
  have HX := Lib.hid hx
  have HY := Lib.hid hy
  have HKS := Lib.hid (And.intro hk hks)
  clear hc hc' hx hy
  have HQ := Lib.hid ((kept_yes h0 hk hks).trans (by rw [HX.out, HY.out]))
  have hrs := div_range (a := y * 1000 + x.f2 - 1) (g := x.f2) (by omega) (by omega) hkd.2.1
  obtain ⟨d, hd⟩ : ∃ d, (y * 1000 + x.f2 - 1) / x.f2 = d := ⟨_, rfl⟩
  have HZ := Lib.hid (show (y = 0 → d = 0 ∧ dryI x.f2 y wt = -1) ∧ (y ≠ 0 → dryI x.f2 y wt = most (wt - d + 1) 0) by
    refine ⟨fun e => ?_, fun e => ?_⟩
    · subst e
      refine ⟨?_, dry_zero⟩
      rw [← hd]
      exact Int.ediv_eq_zero_of_lt (by omega) (by omega)
    · rw [← hd]; exact dry_pos (by omega) hkd.2.1)
  rw [hd] at hrs
  have w1d : IntKind.i64.wrap (wt - d) = wt - d := IntWalk.i64_in _ (by omega)
  clear h0 V
  go_wp2_with fail
  have c0_c := ((bcell X.below).1 _ _ hb).trans c0
  have c1_c := ((bcell X.below).1 _ _ hb).trans c1
  have c2_c := ((bcell X.below).1 _ _ hb).trans c2
  have c3_c := ((bcell X.below).1 _ _ hb').trans c3
  refine wp_region_text (fun w' => Box (w.heap.size) [.int .i64 wt, .slice (some ⟨b', o', none⟩) s.length c] w w') (by kernel_rfl) (by kernel_rfl) (X.drew) ?_
  clear X_0 X_1 X_f0 X_f1 X_t
  clear c0_c
  clear c1_c
  clear c2_c
  clear c3_c
  iterate 14 (
    apply SeqH.one
    · intro uw K hS hK
      have qX := hS
      have qX_0 := qX.cells 0 _ rfl
      have qX_1 := qX.cells 1 _ rfl
      have qc0_c := ((bcell qX.below).1 _ _ hb).trans c0
      have qc1_c := ((bcell qX.below).1 _ _ hb).trans c1
      have qc2_c := ((bcell qX.below).1 _ _ hb).trans c2
      have qc3_c := ((bcell qX.below).1 _ _ hb').trans c3
      first
        | (go_simp; exact hK.out _ qX)
        | (go_simp; go_at_call 74; (with_reducible refine (for_impl x y hkd.2.1 hkd.2.2 hsl.1 hsl.2 _).mono ?_); rintro e uw1 ⟨rfl, hv⟩; rw [hd]; go_wp2_with fail; exact hK.out _ (qX.more hv))
    try simp only [Act.put, List.setIfInBounds_toArray, List.set_cons_zero, List.set_cons_succ])
  refine SeqH.end' rfl ?_
  intro v3 hS
  clear X
  have X := hS; clear hS
  have X_0 := X.cells 0 _ rfl
  have X_1 := X.cells 1 _ rfl
  have X_f0 := X.free 0 (by simp)
  have X_f1 := X.free 1 (by simp)
  have X_t := X.there
  have c0_c := ((bcell X.below).1 _ _ hb).trans c0
  have c1_c := ((bcell X.below).1 _ _ hb).trans c1
  have c2_c := ((bcell X.below).1 _ _ hb).trans c2
  have c3_c := ((bcell X.below).1 _ _ hb').trans c3
  clear hd c0 c1 c2 c3
  by_cases hn : wt - d < 0
  · have HE := Lib.hid (show (if dryI x.f2 y wt < 0 then Value.tuple #[.int .i64 wt, .bool true] else if dryI x.f2 y wt = 0 then .tuple #[.int .i64 0, .bool false] else .tuple #[.int .i64 (dryI x.f2 y wt - 1), .bool true]) = .tuple #[.int .i64 0, .bool false] by
      by_cases hy0 : y = 0
      · have := HZ.out.1 hy0; omega
      · have e : most (wt - d + 1) 0 = 0 := by unfold most; rw [if_neg (by omega)]
        rw [HZ.out.2 hy0, e]; rfl)
    go_wp2
    go_ret2
    exact rpost (by rw [HQ.out, HE.out] <;> rfl) X.below
  · have HE := Lib.hid (show (if dryI x.f2 y wt < 0 then Value.tuple #[.int .i64 wt, .bool true] else if dryI x.f2 y wt = 0 then .tuple #[.int .i64 0, .bool false] else .tuple #[.int .i64 (dryI x.f2 y wt - 1), .bool true]) = .tuple #[.int .i64 (wt - d), .bool true] by
      by_cases hy0 : y = 0
      · obtain ⟨e1, e2⟩ := HZ.out.1 hy0
        rw [e1, e2, if_pos (by omega), Int.sub_zero]
      · have e : most (wt - d + 1) 0 = wt - d + 1 := by unfold most; rw [if_pos (by omega)]
        rw [HZ.out.2 hy0, e, if_neg (by omega), if_neg (by omega), show wt - d + 1 - 1 = wt - d by omega])
    go_wp2
    go_ret2
    exact rpost (by rw [HQ.out, HE.out] <;> rfl) X.below
end Go.Proofs.Ythilbpklmjpmcaa.LiqG
