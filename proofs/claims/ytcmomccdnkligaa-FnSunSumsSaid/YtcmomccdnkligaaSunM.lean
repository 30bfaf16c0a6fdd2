/- Suns: SmallestArea, the model's and the program's. -/
import Derived.Test.YtcmomccdnkligaaSunB
import Derived.Test.YtcmomccdnkligaaSunF
import Derived.Test.YtcmomccdnkligaaBits
namespace Go.Proofs.Ytcmomccdnkligaa.SunM
open Go.RowKit Go.Proofs.Ytcmomccdnkligaa.Mem Go.Proofs.Ytcmomccdnkligaa.Base Go.Proofs.Ytcmomccdnkligaa.Within Go.Proofs.Ytcmomccdnkligaa.Brine Go.Proofs.Ytcmomccdnkligaa.Regn Go.Proofs.Ytcmomccdnkligaa.Boxes Go.Proofs.Ytcmomccdnkligaa.Keep Go.Proofs.Ytcmomccdnkligaa.SSun Go.Proofs.Ytcmomccdnkligaa.Sun Go.Proofs.Ytcmomccdnkligaa.SunA Go.Proofs.Ytcmomccdnkligaa.SunB Go.Proofs.Ytcmomccdnkligaa.SunS Go.Proofs.Ytcmomccdnkligaa.SunF
set_option linter.unusedVariables false
set_option maxRecDepth 100000
abbrev R := SSun.R
abbrev RPost := Brine.RPost
theorem rpost {v u : Value} {w w' : World} (h : u = v) (hw : Below w.heap.size w w') : RPost v w (.returned u) w' := ⟨by rw [h], hw⟩
theorem edge_top {l : List R} {p q f t g : Int} {n : Nat} (h : SunB.Edge l p q f t g n) (k : decide (g < aft l p q 100000 f t) = true) : ¬ n < 100000 := by
  have := (h.2 100000 (by omega) (by omega)).1 (of_decide_eq_true k)
  omega
theorem edge_low {l : List R} {p q f t g : Int} {n : Nat} (h : SunB.Edge l p q f t g n) (k : decide (g < aft l p q 100000 f t) = false) : n < 100000 := by
  have h1 := h.2 100000 (by omega) (by omega)
  have h2 : ¬ (g < aft l p q 100000 f t) := by simpa using k
  have h3 : ¬ ((100000 : Int) ≤ n) := fun e => h2 (h1.2 e)
  omega
/-- the water of a brine by value. -/
theorem field_water (u q : Int) (w : World) : (Instr.field 26 (.agg #[.int .i64 u, .int .i64 q]) 0).run Try.prog w = .ok (.int .i64 u) w := by
  have hag : (isAgg 3).run Try.prog w = .ok false w := by
    unfold isAgg
    rw [Sem.run_bind, run_underlying Try.underlying3 w]
    rfl
  simp [Instr.field, asAgg, run_underlying Try.underlying26, part, hag, Sem.run_bind, Sem.run_pure, Result.andThen]
set_option maxHeartbeats 800000 in
theorem area_spec (P : Option Addr) (cap : Nat) (l : List R) (p q f t g : Int) (n : Nat) (he : areaOk l p q f t g = true → SunB.Edge l p q f t g n) (w : World) (hr : Rd w w.heap.size P (flat l)) (hn : l.length ≤ 1048576) :
    Calls Try.prog 25 #[.slice P l.length cap, .agg #[.int .i64 p, .int .i64 q], .int .i64 f, .int .i64 t, .int .i64 g] w (RPost (areaV (areaOk l p q f t g) n) w) := by
  have HR := Lib.hid hr; clear hr
  have HE := Lib.hid he; clear he
  have hfw := field_water
  go_enter Try.func25, Try.ntmps25
  go_wp2_with fail
  have B := Box.new (Below.refl _ w) [.int .i64 p, .int .i64 q] 26 (g := w.heap.size) rfl
  generalize (w.alloc (.cells #[.int .i64 p, .int .i64 q] 26)) = W1 at B ⊢
  have B_0 := B.cells 0 _ rfl
  have B_1 := B.cells 1 _ rfl
  have B_f0 := B.free 0 (by simp)
  have B_f1 := B.free 1 (by simp)
  have B_t := B.there
  go_wp2_with fail
  refine (ask_spec P cap l p q 1 _ (rd_keep HR.out B.below) hn).mono ?_
  rintro e v2 ⟨rfl, hv2⟩
  clear B_0 B_1 B_f0 B_f1 B_t
  replace B := B.more hv2
  have zhv2 := hv2.size
  clear hv2
  have B_0 := B.cells 0 _ rfl
  have B_1 := B.cells 1 _ rfl
  have B_f0 := B.free 0 (by simp)
  have B_f1 := B.free 1 (by simp)
  have B_t := B.there
  cases hg : askOk l p q 1
  · have HV := Lib.hid (area_no (n := n) (ar1 (f := f) (t := t) (g := g) hg))
    go_wp2
    go_ret2
    exact rpost (by rw [HV.out] <;> rfl) B.below
  go_wp2_with fail
  refine (span_spec f t _).mono ?_
  rintro e _ ⟨rfl, rfl⟩
  cases h1 : spanOk f t
  · have HV := Lib.hid (area_no (n := n) (ar2 (l := l) (p := p) (q := q) (g := g) h1))
    go_wp2
    go_ret2
    exact rpost (by rw [HV.out] <;> rfl) B.below
  by_cases h2 : 0 ≤ g
  case neg =>
    have HV := Lib.hid (area_no (n := n) (ar3 (l := l) (p := p) (q := q) (f := f) (t := t) (g := g) (decide_eq_false h2)))
    have hz : decide (g < 0) = true := decide_eq_true (by omega)
    clear h2
    go_wp2
    go_ret2
    exact rpost (by rw [HV.out] <;> rfl) B.below
  have hz : decide (g < 0) = false := decide_eq_false (by omega)
  have HOK := Lib.hid (ar4 hg h1 (decide_eq_true h2))
  have HED := Lib.hid (HE.out HOK.out)
  obtain ⟨hgood, hp, hp1, hq, hq1, h0, ha, ha1⟩ := ask_true hg
  have HS := Lib.hid (good_sane hgood); clear hgood h0 hg h1 ha ha1 h2 HE
  go_wp2_with fail
  refine (SunF.after_spec P cap l p q 100000 f t hp hp1 hq hq1 (by omega) (by omega) _ (rd_keep HR.out B.below) HS.out).mono ?_
  rintro e v4 ⟨rfl, hv4⟩
  clear B_0 B_1 B_f0 B_f1 B_t
  replace B := B.more hv4
  have zhv4 := hv4.size
  clear hv4
  have B_0 := B.cells 0 _ rfl
  have B_1 := B.cells 1 _ rfl
  have B_f0 := B.free 0 (by simp)
  have B_f1 := B.free 1 (by simp)
  have B_t := B.there
  unfold br
  have HT := Lib.hid (edge_top HED.out)
  have HL := Lib.hid (edge_low HED.out)
  generalize aft l p q 100000 f t = u at HT HL ⊢
  cases hs : decide (g < u)
  · have HN := Lib.hid (HL.out hs)
    have HV := Lib.hid (area_yes HOK.out HN.out)
    clear HL HT
    go_wp2
    go_loopw [12, 13] (fun a b wr => ∃ (lo hi : Int), a = .int .i64 lo ∧ b = .int .i64 hi ∧ 1 ≤ lo ∧ lo ≤ n + 1 ∧ (n : Int) + 1 ≤ hi ∧ hi ≤ 100000 ∧ Box (w.heap.size) [.int .i64 p, .int .i64 q] w wr) (fun a b _ => (intOf b - intOf a).toNat)
    case atStart => exact ⟨1, 100000, rfl, rfl, by omega, by omega, by have := HN.out; omega, by omega, B⟩
    case round =>
      clear B_0 B_1 B_f0 B_f1 B_t
      clear B hs
      obtain ⟨lo, hi, rfl, rfl, l0, l1, l2, l3, B⟩ := hrel
      have B_0 := B.cells 0 _ rfl
      have B_1 := B.cells 1 _ rfl
      have B_f0 := B.free 0 (by simp)
      have B_f1 := B.free 1 (by simp)
      have B_t := B.there
      by_cases hlt : lo < hi
      · have hlt' : decide (lo < hi) = true := decide_eq_true hlt
        have y0 : IntKind.i64.wrap (lo + hi) = lo + hi := IntWalk.i64_in _ (by omega)
        have y1 : (lo + hi).tdiv 2 = (lo + hi) / 2 := Int.tdiv_eq_ediv_of_nonneg (by omega)
        obtain ⟨m, hm⟩ : ∃ m, (lo + hi) / 2 = m := ⟨_, rfl⟩
        rw [hm] at y1
        have hm1 : lo ≤ m ∧ m < hi := by omega
        have y2 : IntKind.i64.wrap m = m := IntWalk.i64_in _ (by omega)
        have y3 : IntKind.i64.wrap (m + 1) = m + 1 := IntWalk.i64_in _ (by omega)
        have HM := Lib.hid (HED.out.2 m (by omega) (by omega))
        clear hm
        go_wp2_with fail
        refine (SunF.after_spec P cap l p q m f t hp hp1 hq hq1 (by omega) (by omega) _ (rd_keep HR.out B.below) HS.out).mono ?_
        rintro e v5 ⟨rfl, hv5⟩
        clear B_0 B_1 B_f0 B_f1 B_t
        replace B := B.more hv5
        have zhv5 := hv5.size
        clear hv5
        have B_0 := B.cells 0 _ rfl
        have B_1 := B.cells 1 _ rfl
        have B_f0 := B.free 0 (by simp)
        have B_f1 := B.free 1 (by simp)
        have B_t := B.there
        unfold br
        generalize aft l p q m f t = v at HM ⊢
        cases hv : decide (v ≤ g)
        · have HN1 := Lib.hid (HM.out.1 (by have := of_decide_eq_false hv; omega))
          go_wp2
          go_roundw
          case rel => exact ⟨m + 1, hi, rfl, rfl, by omega, by have := HN1.out; omega, by omega, by omega, B⟩
          case measure => simp [intOf]; omega
        · have HN1 := Lib.hid (show ¬ (m ≤ n) from fun e => by have := HM.out.2 e; have := of_decide_eq_true hv; omega)
          go_wp2
          go_roundw
          case rel => exact ⟨lo, m, rfl, rfl, by omega, by omega, by have := HN1.out; omega, by omega, B⟩
          case measure => simp [intOf]; omega
      · have hlt' : decide (lo < hi) = false := decide_eq_false hlt
        have HX := Lib.hid (show (n : Int) + 1 = lo by omega)
        go_wp2
        go_ret2
        exact rpost (by rw [HV.out, HX.out] <;> rfl) B.below
  · have HV := Lib.hid (area_none (ok := areaOk l p q f t g) (HT.out hs))
    go_wp2
    go_ret2
    exact rpost (by rw [HV.out] <;> rfl) B.below
theorem two_pow_bd (j : Nat) (h : j ≤ 16) : 1 ≤ (2 : Int) ^ j ∧ (2 : Int) ^ j ≤ 65536 := by
  have : ∀ j : Nat, j ≤ 16 → 1 ≤ (2 : Int) ^ j ∧ (2 : Int) ^ j ≤ 65536 := by decide +kernel
  exact this j h
theorem two_half (j : Nat) : (2 : Int) ^ (j + 1) / 2 = 2 ^ j := by rw [Int.pow_succ]; omega
theorem stays {s u : Int} {n : Nat} (s0 : 0 ≤ s) (s1 : s ≤ n) (h : ¬ (s + u ≤ n)) (hh : (u / 2 = 0 ∧ u = 1) ∨ (2 * (u / 2) = u ∧ ∃ i : Nat, i ≤ 16 ∧ u / 2 = 2 ^ i)) :
    (u / 2 = 0 ∧ s = n) ∨ ((n : Int) < s + 2 * (u / 2) ∧ ∃ j : Nat, j ≤ 16 ∧ u / 2 = 2 ^ j) := by
  rcases hh with ⟨h1, h2⟩ | ⟨h1, h2⟩
  · exact .inl ⟨h1, by omega⟩
  · exact .inr ⟨by omega, h2⟩
theorem goes {s u : Int} {n : Nat} (h0 : (n : Int) < s + 2 * u) (h : s + u ≤ n) (hh : (u / 2 = 0 ∧ u = 1) ∨ (2 * (u / 2) = u ∧ ∃ i : Nat, i ≤ 16 ∧ u / 2 = 2 ^ i)) :
    (u / 2 = 0 ∧ s + u = n) ∨ ((n : Int) < s + u + 2 * (u / 2) ∧ ∃ j : Nat, j ≤ 16 ∧ u / 2 = 2 ^ j) := by
  rcases hh with ⟨h1, h2⟩ | ⟨h1, h2⟩
  · exact .inl ⟨h1, by omega⟩
  · exact .inr ⟨by omega, h2⟩
set_option maxHeartbeats 800000 in
theorem area_impl (P : Option Addr) (cap : Nat) (l : List R) (p q f t g : Int) (n : Nat) (he : areaOk l p q f t g = true → SunB.Edge l p q f t g n) (w : World) (hr : Rd w w.heap.size P (flat l)) (hc : l.length ≤ cap) (hn : l.length ≤ 1048576) :
    Calls Try.prog 24 #[.slice P l.length cap, .agg #[.int .i64 p, .int .i64 q], .int .i64 f, .int .i64 t, .int .i64 g] w (RPost (areaV (areaOk l p q f t g) n) w) := by
  have HR := Lib.hid hr; clear hr
  have HE := Lib.hid he; clear he
  have hfw := field_water
  have HA := Lib.hid (ask_area l p q 100000 rfl)
  go_enter Try.func24, Try.ntmps24
  go_wp2_with fail
  have B := Box.new (Below.refl _ w) [.int .i64 p, .int .i64 q] 26 (g := w.heap.size) rfl
  generalize (w.alloc (.cells #[.int .i64 p, .int .i64 q] 26)) = W1 at B ⊢
  have B_0 := B.cells 0 _ rfl
  have B_1 := B.cells 1 _ rfl
  have B_f0 := B.free 0 (by simp)
  have B_f1 := B.free 1 (by simp)
  have B_t := B.there
  go_wp2_with fail
  refine (ask_impl P cap l p q 100000 _ (rd_keep HR.out B.below) hn).mono ?_
  rintro e v2 ⟨rfl, hv2⟩
  clear B_0 B_1 B_f0 B_f1 B_t
  replace B := B.more hv2
  have zhv2 := hv2.size
  clear hv2
  have B_0 := B.cells 0 _ rfl
  have B_1 := B.cells 1 _ rfl
  have B_f0 := B.free 0 (by simp)
  have B_f1 := B.free 1 (by simp)
  have B_t := B.there
  rw [HA.out]
  cases hg : askOk l p q 1
  · have HV := Lib.hid (area_no (n := n) (ar1 (f := f) (t := t) (g := g) hg))
    go_wp2
    go_ret2
    exact rpost (by rw [HV.out] <;> rfl) B.below
  go_wp2_with fail
  refine (span_impl f t _).mono ?_
  rintro e _ ⟨rfl, rfl⟩
  cases h1 : spanOk f t
  · have HV := Lib.hid (area_no (n := n) (ar2 (l := l) (p := p) (q := q) (g := g) h1))
    go_wp2
    go_ret2
    exact rpost (by rw [HV.out] <;> rfl) B.below
  by_cases h2 : 0 ≤ g
  case neg =>
    have HV := Lib.hid (area_no (n := n) (ar3 (l := l) (p := p) (q := q) (f := f) (t := t) (g := g) (decide_eq_false h2)))
    have hz : decide (g < 0) = true := decide_eq_true (by omega)
    clear h2
    go_wp2
    go_ret2
    exact rpost (by rw [HV.out] <;> rfl) B.below
  have hz : decide (g < 0) = false := decide_eq_false (by omega)
  have HOK := Lib.hid (ar4 hg h1 (decide_eq_true h2))
  have HED := Lib.hid (HE.out HOK.out)
  have hn2 := HED.out.1
  obtain ⟨hgood, hp, hp1, hq, hq1, h0, ha, ha1⟩ := ask_true hg
  have HS := Lib.hid (good_sane hgood); clear hgood h0 hg h1 ha ha1 h2 HE
  go_wp2_with fail
  refine (Bits.len_any _).mono ?_
  rintro e _ ⟨rfl, rfl⟩
  go_wp2
  clear hz
  go_loopw [12, 13] (fun a b wr => ∃ (s u : Int), a = .int .i64 s ∧ b = .int .i64 u ∧ 0 ≤ s ∧ s ≤ n ∧ ((u = 0 ∧ s = n) ∨ ((n : Int) < s + 2 * u ∧ ∃ j : Nat, j ≤ 16 ∧ u = 2 ^ j)) ∧ Box (w.heap.size) [.int .i64 p, .int .i64 q] w wr) (fun a b _ => (intOf b).toNat)
  case atStart => exact ⟨0, 65536, rfl, rfl, by omega, by omega, .inr ⟨by omega, 16, by omega, rfl⟩, B⟩
  case round =>
    clear B_0 B_1 B_f0 B_f1 B_t
    clear B
    obtain ⟨s, u, rfl, rfl, s0, s1, hu, B⟩ := hrel
    have B_0 := B.cells 0 _ rfl
    have B_1 := B.cells 1 _ rfl
    have B_f0 := B.free 0 (by simp)
    have B_f1 := B.free 1 (by simp)
    have B_t := B.there
    rcases hu with ⟨rfl, rfl⟩ | ⟨hlt, j, hj, hu⟩
    · by_cases hn3 : n < 100000
      · have HV := Lib.hid (area_yes HOK.out hn3)
        have hne : ((n : Int) == 100000) = false := by rw [beq_eq_false_iff_ne]; omega
        go_wp2
        go_ret2
        exact rpost (by rw [HV.out] <;> rfl) B.below
      · have HV := Lib.hid (area_none (ok := areaOk l p q f t g) hn3)
        have hne : n = 100000 := by omega
        subst hne
        go_wp2
        go_ret2
        exact rpost (by rw [HV.out] <;> rfl) B.below
    · have hub := two_pow_bd j hj
      rw [← hu] at hub
      have y0 : IntKind.i64.wrap (s + u) = s + u := IntWalk.i64_in _ (by omega)
      have hpos : decide (0 < u) = true := decide_eq_true (by omega)
      have HU := Lib.hid hu; clear hu
      have HH : Hid (((u / 2 = 0 ∧ u = 1) ∨ (2 * (u / 2) = u ∧ ∃ i : Nat, i ≤ 16 ∧ u / 2 = 2 ^ i))) := Lib.hid (by
        rw [HU.out]
        cases j with
        | zero => left; exact ⟨rfl, rfl⟩
        | succ j => right; rw [two_half]; exact ⟨by rw [Int.pow_succ]; omega, j, by omega, rfl⟩)
      by_cases ht : s + u ≤ 100000
      · have ht' : decide (s + u ≤ 100000) = true := decide_eq_true ht
        have HM := Lib.hid (HED.out.2 (s + u) (by omega) (by omega))
        go_wp2_with fail
        refine (SunF.after_impl P cap l p q (s + u) f t hp hp1 hq hq1 (by omega) (by omega) _ (rd_keep HR.out B.below) HS.out).mono ?_
        rintro e v5 ⟨rfl, hv5⟩
        clear B_0 B_1 B_f0 B_f1 B_t
        replace B := B.more hv5
        have zhv5 := hv5.size
        clear hv5
        have B_0 := B.cells 0 _ rfl
        have B_1 := B.cells 1 _ rfl
        have B_f0 := B.free 0 (by simp)
        have B_f1 := B.free 1 (by simp)
        have B_t := B.there
        unfold br
        generalize aft l p q (s + u) f t = v at HM ⊢
        cases hv : decide (g < v)
        · have HN1 := Lib.hid (show ¬ (s + u ≤ n) from fun e => by have := HM.out.2 e; simp at hv; omega)
          go_wp2
          go_roundw
          case rel => exact ⟨s, u / 2, rfl, rfl, s0, s1, stays s0 s1 (by have := HN1.out; omega) HH.out, B⟩
          case measure => simp [intOf]; omega
        · have HN1 := Lib.hid (HM.out.1 (of_decide_eq_true hv))
          go_wp2
          go_roundw
          case rel => exact ⟨s + u, u / 2, rfl, rfl, by omega, HN1.out, goes hlt HN1.out HH.out, B⟩
          case measure => simp [intOf]; omega
      · have ht' : decide (s + u ≤ 100000) = false := decide_eq_false ht
        have HN1 := Lib.hid (show ¬ (s + u ≤ n) by omega)
        go_wp2
        go_roundw
        case rel => exact ⟨s, u / 2, rfl, rfl, s0, s1, stays s0 s1 (by have := HN1.out; omega) HH.out, B⟩
        case measure => simp [intOf]; omega
end Go.Proofs.Ytcmomccdnkligaa.SunM
