/- Suns: StrongOn, the model's and the program's. -/
import Derived.Test.YtcmomccdnkligaaSunH
namespace Go.Proofs.Ytcmomccdnkligaa.SunJ
open Go.RowKit Go.Proofs.Ytcmomccdnkligaa.Mem Go.Proofs.Ytcmomccdnkligaa.Base Go.Proofs.Ytcmomccdnkligaa.Within Go.Proofs.Ytcmomccdnkligaa.Brine Go.Proofs.Ytcmomccdnkligaa.Brine2 Go.Proofs.Ytcmomccdnkligaa.Brine4 Go.Proofs.Ytcmomccdnkligaa.Regn Go.Proofs.Ytcmomccdnkligaa.Boxes Go.Proofs.Ytcmomccdnkligaa.Keep Go.Proofs.Ytcmomccdnkligaa.SSun Go.Proofs.Ytcmomccdnkligaa.Sun Go.Proofs.Ytcmomccdnkligaa.SunA Go.Proofs.Ytcmomccdnkligaa.SunS Go.Proofs.Ytcmomccdnkligaa.SunF
set_option linter.unusedVariables false
set_option maxRecDepth 100000
abbrev R := SSun.R
abbrev RPost := Brine.RPost
theorem rpost {v u : Value} {w w' : World} (h : u = v) (hw : Below w.heap.size w w') : RPost v w (.returned u) w' := ⟨by rw [h], hw⟩
theorem str_first {l : List R} {p q a n d : Int} (hok : strOk l p q a n d = true) (hg : good l = true) (h : strong (aft l p q a 0 0) q n d = true) : strV l p q a n d = .tuple #[.int .i64 0, .bool true] := by
  cases h0 : strong p q n d
  · have hne : aft l p q a 0 0 ≠ p := fun e => by rw [e, h0] at h; cases h
    have hp := List.pairwise_iff_getElem.1 (good_pair hg)
    by_cases hl : 0 < l.length
    · have hb := (good_sane hg).2 l[0] (List.getElem_mem hl)
      by_cases hz : l[0].f0 = 0
      · have e := aft_day hg hl (p := p) (q := q) (a := a)
        rw [hz] at e
        rw [e] at h
        have := str_at (k := 0) hok h0 (fun j hj => by omega) hl rfl h
        rw [this, hz]
      · exfalso
        refine hne ((aft_upto hg (k := 0) (Nat.zero_le _) (fun j hj h => by omega) (fun j hj _ => ?_)).trans (by simp [run]))
        rcases Nat.eq_zero_or_pos j with h1 | h1
        · subst h1; omega
        · have := hp 0 j hl hj h1; omega
    · exfalso
      refine hne ((aft_upto hg (k := 0) (Nat.zero_le _) (fun j hj h => by omega) (fun j hj _ => by omega)).trans (by simp [run]))
  · exact str_start hok h0
theorem str_not {l : List R} {p q a n d : Int} (hr : Rates l) (hp : 0 ≤ p) (hq : 0 ≤ q) (ha : 0 ≤ a) (ha1 : a ≤ 100000) (hn : 1 ≤ n) (h : strong (aft l p q a 0 0) q n d = false) : strong p q n d = false := by
  cases h0 : strong p q n d
  · rfl
  · have hb := aft_bd hr (q := q) (a := a) (f := 0) (t := 0) hq ha ha1 p hp
    rw [strong_less hb.1 hb.2 hq hn h0] at h; cases h
theorem strong_dry {u n d : Int} (hn : 1 ≤ n) : strong u 0 n d = false := by
  cases h : strong u 0 n d
  · rfl
  · obtain ⟨h1, h2⟩ := strong_true h
    have := Int.mul_le_mul_of_nonneg_right hn (show 0 ≤ u + 0 by omega)
    omega
theorem str_lose_no {l : List R} {p q a n d : Int} (h : loseOk p q n d = false) : strV l p q a n d = .tuple #[.int .i64 0, .bool false] := by
  cases ho : okB p q
  · exact str_no (st1 (ask_okB ho))
  cases hr : okR n d
  · exact str_no (st2 hr)
  have hq : q = 0 := by
    unfold loseOk at h
    rw [ho, hr] at h
    simpa using h
  subst hq
  have := (okR_true hr).1
  exact str_none (strong_dry this) (fun j _ => strong_dry this)
theorem lose_ok {p q n d : Int} (h : loseOk p q n d = true) : 0 < q ∧ okR n d = true ∧ 0 ≤ p ∧ p ≤ 1000000 ∧ q ≤ 1000000 := by
  unfold loseOk at h
  simp only [Bool.and_eq_true, Bool.not_eq_true', beq_eq_false_iff_ne] at h
  have := okB_true h.1
  exact ⟨by omega, h.2.2, by omega, by omega, by omega⟩
theorem div_iff {q n d u : Int} (hn : 1 ≤ n) : (u + q ≤ q * d / n) ↔ n * (u + q) ≤ q * d := by
  rw [Int.le_ediv_iff_mul_le (by omega), Int.mul_comm n]
theorem most_if (a b : Int) : a ≤ most a b ∧ b ≤ most a b ∧ (most a b = a ∨ most a b = b) := by unfold most; split <;> omega
theorem lose_zero {p q n d : Int} (hq : 0 < q) (hp : 0 ≤ p) (hn : 1 ≤ n) (h : loseI p q n d = 0) : strong p q n d = true := by
  have m := most_if 0 (p + q - q * d / n)
  unfold loseI at h
  have := (div_iff (q := q) (d := d) (u := p) hn).1 (by omega)
  unfold strong
  rw [decide_eq_true this, decide_eq_true (by omega)]; rfl
theorem lose_some {p q n d : Int} (hq : 0 < q) (hn : 1 ≤ n) (h : ¬ loseI p q n d = 0) (u : Int) (hu : 0 ≤ u) : strong u q n d = decide (u ≤ p - loseI p q n d) := by
  have m := most_if 0 (p + q - q * d / n)
  have e : loseI p q n d = p + q - q * d / n := by unfold loseI at h ⊢; omega
  rw [e]
  unfold strong
  rw [decide_eq_true (show 0 < u + q by omega), Bool.and_true]
  have := div_iff (q := q) (d := d) (u := u) hn
  by_cases h1 : n * (u + q) ≤ q * d
  · rw [decide_eq_true h1, decide_eq_true (by have := this.2 h1; omega)]
  · rw [decide_eq_false h1, decide_eq_false (by intro k; exact h1 (this.1 (by omega)))]
theorem lose_bd {p q n d : Int} (hq : 0 < q) (hp : 0 ≤ p) (hr : okR n d = true) : 0 ≤ loseI p q n d ∧ loseI p q n d ≤ p := by
  obtain ⟨h1, h2, h3⟩ := okR_true hr
  have m := most_if 0 (p + q - q * d / n)
  have : q ≤ q * d / n := by
    rw [Int.le_ediv_iff_mul_le (by omega)]
    exact Int.mul_le_mul_of_nonneg_left h2 (by omega)
  unfold loseI
  omega
theorem strong_spec (p q n d : Int) (hp : 0 ≤ p) (hp1 : p ≤ 1000000) (hq : 0 ≤ q) (hq1 : q ≤ 1000000) (hn : 1 ≤ n) (hn1 : n ≤ 1000) (hd : 1 ≤ d) (hd1 : d ≤ 1000) (w : World) :
    Calls Try.prog 75 #[.agg #[.int .i64 p, .int .i64 q], .int .i64 n, .int .i64 d] w (RPost (.bool (strong p q n d)) w) := by
  have HV := Lib.hid (show strong p q n d = (decide (n * (p + q) ≤ q * d) && decide (0 < p + q)) from rfl)
  have m0 : 0 ≤ q * d := Int.mul_nonneg hq (by omega)
  have m1 : q * d ≤ 1000000 * 1000 := Int.mul_le_mul hq1 hd1 (by omega) (by omega)
  have m2 : 0 ≤ n * (p + q) := Int.mul_nonneg (by omega) (by omega)
  have m3 : n * (p + q) ≤ 1000 * 2000000 := Int.mul_le_mul hn1 (by omega) (by omega) (by omega)
  have y0 : IntKind.i64.wrap (q * d) = q * d := IntWalk.i64_in _ (by omega)
  have y1 : IntKind.i64.wrap (n * (p + q)) = n * (p + q) := IntWalk.i64_in _ (by omega)
  clear m0 m1 m2 m3
  cases c1 : decide (n * (p + q) ≤ q * d)
  · go_enter Try.func75, Try.ntmps75
    go_wp2_with fail
    have B := Box.new (Below.refl _ w) [.int .i64 p, .int .i64 q] 26 (g := w.heap.size) rfl
    generalize (w.alloc (.cells #[.int .i64 p, .int .i64 q] 26)) = W1 at B ⊢
    have B_0 := B.cells 0 _ rfl
    have B_1 := B.cells 1 _ rfl
    have B_f0 := B.free 0 (by simp)
    have B_f1 := B.free 1 (by simp)
    have B_t := B.there
    refine wp_region_text (fun w' => Box (w.heap.size) [.int .i64 p, .int .i64 q] w w') (by kernel_rfl) (by kernel_rfl) (B.drew) ?_
    clear B_0 B_1 B_f0 B_f1 B_t
    iterate 15 (
      apply SeqH.one
      · intro uw K hS hK
        have qB := hS
        have qB_0 := qB.cells 0 _ rfl
        have qB_1 := qB.cells 1 _ rfl
        first
          | (go_simp; exact hK.out _ qB)
          | (go_simp; go_at_call 86; (with_reducible refine (mass_spec p q hp hp1 hq hq1 _).mono ?_); rintro e uw1 ⟨rfl, hv⟩; go_wp2_with fail; exact hK.out _ (qB.more hv))
      try simp only [Act.put, List.setIfInBounds_toArray, List.set_cons_zero, List.set_cons_succ])
    refine SeqH.end' rfl ?_
    intro v2 hS
    clear B
    have B := hS; clear hS
    have B_0 := B.cells 0 _ rfl
    have B_1 := B.cells 1 _ rfl
    have B_f0 := B.free 0 (by simp)
    have B_f1 := B.free 1 (by simp)
    have B_t := B.there
    go_wp2
    go_ret
    exact rpost (by rw [HV.out, c1] <;> rfl) B.below
  cases c2 : decide (0 < p + q)
  all_goals
    go_enter Try.func75, Try.ntmps75
    go_wp2_with fail
    have B := Box.new (Below.refl _ w) [.int .i64 p, .int .i64 q] 26 (g := w.heap.size) rfl
    generalize (w.alloc (.cells #[.int .i64 p, .int .i64 q] 26)) = W1 at B ⊢
    have B_0 := B.cells 0 _ rfl
    have B_1 := B.cells 1 _ rfl
    have B_f0 := B.free 0 (by simp)
    have B_f1 := B.free 1 (by simp)
    have B_t := B.there
    refine wp_region_text (fun w' => Box (w.heap.size) [.int .i64 p, .int .i64 q] w w') (by kernel_rfl) (by kernel_rfl) (B.drew) ?_
    clear B_0 B_1 B_f0 B_f1 B_t
    iterate 15 (
      apply SeqH.one
      · intro uw K hS hK
        have qB := hS
        have qB_0 := qB.cells 0 _ rfl
        have qB_1 := qB.cells 1 _ rfl
        first
          | (go_simp; exact hK.out _ qB)
          | (go_simp; go_at_call 86; (with_reducible refine (mass_spec p q hp hp1 hq hq1 _).mono ?_); rintro e uw1 ⟨rfl, hv⟩; go_wp2_with fail; exact hK.out _ (qB.more hv))
      try simp only [Act.put, List.setIfInBounds_toArray, List.set_cons_zero, List.set_cons_succ])
    refine SeqH.end' rfl ?_
    intro v2 hS
    clear B
    have B := hS; clear hS
    have B_0 := B.cells 0 _ rfl
    have B_1 := B.cells 1 _ rfl
    have B_f0 := B.free 0 (by simp)
    have B_f1 := B.free 1 (by simp)
    have B_t := B.there
    go_wp2
    go_ret
    exact rpost (by rw [HV.out, c1, c2] <;> rfl) B.below
set_option maxHeartbeats 800000 in
theorem str_spec (P : Option Addr) (cap : Nat) (l : List R) (p q a n d : Int) (w : World) (hr : Rd w w.heap.size P (flat l)) (hn : l.length ≤ 1048576) :
    Calls Try.prog 28 #[.slice P l.length cap, .agg #[.int .i64 p, .int .i64 q], .int .i64 a, .int .i64 n, .int .i64 d] w (RPost (strV l p q a n d) w) := by
  have HR := Lib.hid hr; clear hr
  go_enter Try.func28, Try.ntmps28
  go_wp2_with fail
  have B := Box.new (Below.refl _ w) [.int .i64 p, .int .i64 q] 26 (g := w.heap.size) rfl
  generalize (w.alloc (.cells #[.int .i64 p, .int .i64 q] 26)) = W1 at B ⊢
  have B_0 := B.cells 0 _ rfl
  have B_1 := B.cells 1 _ rfl
  have B_f0 := B.free 0 (by simp)
  have B_f1 := B.free 1 (by simp)
  have B_t := B.there
  go_wp2_with fail
  refine (ask_spec P cap l p q a _ (rd_keep HR.out B.below) hn).mono ?_
  rintro e v2 ⟨rfl, hv2⟩
  clear B_0 B_1 B_f0 B_f1 B_t
  replace B := B.more hv2
  have zhv2 := hv2.size
  clear hv2
  have B_0 := B.cells 0 _ rfl
  have B_1 := B.cells 1 _ rfl
  have B_f0 := B.free 0 (by simp)
  have B_f1 := B.free 1 (by simp)
  have B_t := B.there
  cases hg : askOk l p q a
  · have HV := Lib.hid (str_no (st1 (n := n) (d := d) hg))
    go_wp2
    go_ret2
    exact rpost (by rw [HV.out] <;> rfl) B.below
  go_wp2_with fail
  refine (rate_spec n d _).mono ?_
  rintro e _ ⟨rfl, rfl⟩
  cases h1 : okR n d
  · have HV := Lib.hid (str_no (st2 (l := l) (p := p) (q := q) (a := a) h1))
    go_wp2
    go_ret2
    exact rpost (by rw [HV.out] <;> rfl) B.below
  have HOK := Lib.hid (st3 hg h1)
  obtain ⟨hgood, hp, hp1, hq, hq1, h0, ha, ha1⟩ := ask_true hg
  obtain ⟨n0, nd, d1⟩ := okR_true h1
  have HG := Lib.hid hgood
  have HS := Lib.hid (good_sane hgood); clear hgood h0 hg h1
  go_wp2_with fail
  refine (SunF.after_spec P cap l p q a 0 0 hp hp1 hq hq1 ha ha1 _ (rd_keep HR.out B.below) HS.out).mono ?_
  rintro e v4 ⟨rfl, hv4⟩
  clear B_0 B_1 B_f0 B_f1 B_t
  replace B := B.more hv4
  have zhv4 := hv4.size
  clear hv4
  have B_0 := B.cells 0 _ rfl
  have B_1 := B.cells 1 _ rfl
  have B_f0 := B.free 0 (by simp)
  have B_f1 := B.free 1 (by simp)
  have B_t := B.there
  unfold br
  have hab := aft_bd (Sane.rates HS.out) (q := q) (a := a) (f := 0) (t := 0) hq (by omega) ha1 p hp
  obtain ⟨u, hu⟩ : ∃ u, aft l p q a 0 0 = u := ⟨_, rfl⟩
  rw [hu] at hab ⊢
  have HU := Lib.hid hu; clear hu
  go_wp2_with fail
  refine (strong_spec u q n d hab.1 (by omega) hq hq1 n0 (by omega) (by omega) d1 _).mono ?_
  rintro e v5 ⟨rfl, hv5⟩
  clear B_0 B_1 B_f0 B_f1 B_t
  replace B := B.more hv5
  have zhv5 := hv5.size
  clear hv5
  have B_0 := B.cells 0 _ rfl
  have B_1 := B.cells 1 _ rfl
  have B_f0 := B.free 0 (by simp)
  have B_f1 := B.free 1 (by simp)
  have B_t := B.there
  cases hs : strong u q n d
  · have HW := Lib.hid (str_not (Sane.rates HS.out) hp hq (show 0 ≤ a by omega) ha1 n0 (by rw [HU.out]; exact hs))
    clear HU hab hs
    go_wp2
    go_loopw [12] (fun i wr => ∃ (k : Nat), k ≤ l.length ∧ i = .int .i64 k ∧ Hid (Weak l p q a n d k) ∧ Box (w.heap.size) [.int .i64 p, .int .i64 q] w wr) (fun i _ => l.length - (intOf i).toNat)
    case atStart => exact ⟨0, Nat.zero_le _, rfl, Lib.hid (fun j hj => by omega), B⟩
    case round =>
      clear B_0 B_1 B_f0 B_f1 B_t
      clear B
      obtain ⟨k, hk, rfl, HN, B⟩ := hrel
      have B_0 := B.cells 0 _ rfl
      have B_1 := B.cells 1 _ rfl
      have B_f0 := B.free 0 (by simp)
      have B_f1 := B.free 1 (by simp)
      have B_t := B.there
      by_cases hlt : k < l.length
      · obtain ⟨b, o, rfl, hb, hc⟩ := HR.out.at (k := k * 2) (by rw [flat_n]; omega)
        obtain ⟨x, hx⟩ : ∃ x, l[k] = x := ⟨_, rfl⟩
        obtain ⟨h0, h1⟩ := cells2 (Below.refl _ _) hb hc hlt hx
        have HL := Lib.hid hlt
        clear hc
        have hru := run_bd ((Sane.rates HS.out).take (k + 1)) (q := q) (a := a) hq (by omega) ha1 p hp
        obtain ⟨u, hu⟩ : ∃ u, run (l.take (k + 1)) p q a = u := ⟨_, rfl⟩
        have HE := Lib.hid (show aft l p q a 0 x.f0 = u by rw [← hx, aft_day HG.out hlt]; exact hu)
        have HX := Lib.hid hx; clear hx
        have HU := Lib.hid hu
        rw [hu] at hru; clear hu
        have h0_c := ((bcell B.below).1 _ _ hb).trans h0
        have h1_c := ((bcell B.below).1 _ _ hb).trans h1
        cases hs : strong u q n d
        · have HN1 := Lib.hid (HN.out.next (by rw [HU.out]; exact hs))
          go_wp2
          refine wp_region_text (fun w' => Box (w.heap.size) [.int .i64 p, .int .i64 q] w w') (by kernel_rfl) (by kernel_rfl) (B.drew) ?_
          clear B_0 B_1 B_f0 B_f1 B_t
          clear h0_c
          clear h1_c
          iterate 12 (
            apply SeqH.one
            · intro uw K hS hK
              have qB := hS
              have qB_0 := qB.cells 0 _ rfl
              have qB_1 := qB.cells 1 _ rfl
              have qh0_c := ((bcell qB.below).1 _ _ hb).trans h0
              have qh1_c := ((bcell qB.below).1 _ _ hb).trans h1
              first
                | (go_simp; exact hK.out _ qB)
                | (go_simp; go_at_call 70; (with_reducible refine (SunF.after_spec _ cap l p q a 0 x.f0 hp hp1 hq hq1 ha ha1 _ (rd_keep HR.out qB.below) HS.out).mono ?_); rintro e uw1 ⟨rfl, hv⟩; rw [HE.out]; unfold br; go_wp2_with fail; exact hK.out _ (qB.more hv))
                | (go_simp; go_at_call 75; (with_reducible refine (strong_spec u q n d hru.1 (by omega) hq hq1 n0 (by omega) (by omega) d1 _).mono ?_); rintro e uw1 ⟨rfl, hv⟩; rw [hs]; go_wp2_with fail; exact hK.out _ (qB.more hv))
            try simp only [Act.put, List.setIfInBounds_toArray, List.set_cons_zero, List.set_cons_succ])
          refine SeqH.end' rfl ?_
          intro v6 hS
          clear B
          have B := hS; clear hS
          have B_0 := B.cells 0 _ rfl
          have B_1 := B.cells 1 _ rfl
          have B_f0 := B.free 0 (by simp)
          have B_f1 := B.free 1 (by simp)
          have B_t := B.there
          have h0_c := ((bcell B.below).1 _ _ hb).trans h0
          have h1_c := ((bcell B.below).1 _ _ hb).trans h1
          go_wp2
          go_roundw
          case rel => exact ⟨k + 1, HL.out, by go_num, HN1, B⟩
          case measure => have := HL.out; simp [intOf]; omega
        · have HV := Lib.hid (str_at HOK.out HW.out HN.out HL.out HX.out (by rw [HU.out]; exact hs))
          go_wp2
          refine wp_region_text (fun w' => Box (w.heap.size) [.int .i64 p, .int .i64 q] w w') (by kernel_rfl) (by kernel_rfl) (B.drew) ?_
          clear B_0 B_1 B_f0 B_f1 B_t
          clear h0_c
          clear h1_c
          iterate 12 (
            apply SeqH.one
            · intro uw K hS hK
              have qB := hS
              have qB_0 := qB.cells 0 _ rfl
              have qB_1 := qB.cells 1 _ rfl
              have qh0_c := ((bcell qB.below).1 _ _ hb).trans h0
              have qh1_c := ((bcell qB.below).1 _ _ hb).trans h1
              first
                | (go_simp; exact hK.out _ qB)
                | (go_simp; go_at_call 70; (with_reducible refine (SunF.after_spec _ cap l p q a 0 x.f0 hp hp1 hq hq1 ha ha1 _ (rd_keep HR.out qB.below) HS.out).mono ?_); rintro e uw1 ⟨rfl, hv⟩; rw [HE.out]; unfold br; go_wp2_with fail; exact hK.out _ (qB.more hv))
                | (go_simp; go_at_call 75; (with_reducible refine (strong_spec u q n d hru.1 (by omega) hq hq1 n0 (by omega) (by omega) d1 _).mono ?_); rintro e uw1 ⟨rfl, hv⟩; rw [hs]; go_wp2_with fail; exact hK.out _ (qB.more hv))
            try simp only [Act.put, List.setIfInBounds_toArray, List.set_cons_zero, List.set_cons_succ])
          refine SeqH.end' rfl ?_
          intro v7 hS
          clear B
          have B := hS; clear hS
          have B_0 := B.cells 0 _ rfl
          have B_1 := B.cells 1 _ rfl
          have B_f0 := B.free 0 (by simp)
          have B_f1 := B.free 1 (by simp)
          have B_t := B.there
          have h0_c := ((bcell B.below).1 _ _ hb).trans h0
          have h1_c := ((bcell B.below).1 _ _ hb).trans h1
          go_wp2
          go_ret2
          exact rpost (by rw [HV.out] <;> rfl) B.below
      · have HV := Lib.hid (str_none (a := a) (l := l) HW.out (fun j hj => HN.out j (by omega)))
        go_wp2
        go_ret2
        exact rpost (by rw [HV.out] <;> rfl) B.below
  · have HV := Lib.hid (str_first HOK.out HG.out (by rw [HU.out]; exact hs))
    go_wp2
    go_ret2
    exact rpost (by rw [HV.out] <;> rfl) B.below
set_option maxHeartbeats 800000 in
theorem str_impl (P : Option Addr) (cap : Nat) (l : List R) (p q a n d : Int) (w : World) (hr : Rd w w.heap.size P (flat l)) (hc : l.length ≤ cap) (hn : l.length ≤ 1048576) :
    Calls Try.prog 27 #[.slice P l.length cap, .agg #[.int .i64 p, .int .i64 q], .int .i64 a, .int .i64 n, .int .i64 d] w (RPost (strV l p q a n d) w) := by
  have HR := Lib.hid hr; clear hr
  go_enter Try.func27, Try.ntmps27
  go_wp2_with fail
  have B := Box.new (Below.refl _ w) [.int .i64 p, .int .i64 q] 26 (g := w.heap.size) rfl
  generalize (w.alloc (.cells #[.int .i64 p, .int .i64 q] 26)) = W1 at B ⊢
  have B_0 := B.cells 0 _ rfl
  have B_1 := B.cells 1 _ rfl
  have B_f0 := B.free 0 (by simp)
  have B_f1 := B.free 1 (by simp)
  have B_t := B.there
  go_wp2_with fail
  refine (IBrine2.lose_impl p q n d _).mono ?_
  rintro e v2 ⟨rfl, hv2⟩
  clear B_0 B_1 B_f0 B_f1 B_t
  replace B := B.more hv2
  have zhv2 := hv2.size
  clear hv2
  have B_0 := B.cells 0 _ rfl
  have B_1 := B.cells 1 _ rfl
  have B_f0 := B.free 0 (by simp)
  have B_f1 := B.free 1 (by simp)
  have B_t := B.there
  cases hlo : loseOk p q n d
  · have HL := lose_no hlo
    have HV := Lib.hid (str_lose_no (l := l) (a := a) hlo)
    rw [HL.out]
    go_wp2
    go_ret2
    exact rpost (by rw [HV.out] <;> rfl) B.below
  have HL := lose_yes hlo
  rw [HL.out]
  obtain ⟨hq0, hrt, hp, hp1, hq1⟩ := lose_ok hlo
  clear hlo HL
  obtain ⟨n0, nd, d1⟩ := okR_true hrt
  have hlb := lose_bd (d := d) (n := n) hq0 hp hrt
  have HZ := Lib.hid (lose_zero (d := d) hq0 hp n0)
  have HM := Lib.hid (lose_some (p := p) (d := d) hq0 n0)
  generalize loseI p q n d = m at hlb HZ HM ⊢
  go_wp2_with fail
  go_wp2_with fail
  refine (ask_impl P cap l p q a _ (rd_keep HR.out B.below) hn).mono ?_
  rintro e v3 ⟨rfl, hv3⟩
  clear B_0 B_1 B_f0 B_f1 B_t
  replace B := B.more hv3
  have zhv3 := hv3.size
  clear hv3
  have B_0 := B.cells 0 _ rfl
  have B_1 := B.cells 1 _ rfl
  have B_f0 := B.free 0 (by simp)
  have B_f1 := B.free 1 (by simp)
  have B_t := B.there
  cases hg : askOk l p q a
  · have HV := Lib.hid (str_no (st1 (n := n) (d := d) hg))
    go_wp2
    go_ret2
    exact rpost (by rw [HV.out] <;> rfl) B.below
  have HOK := Lib.hid (st3 hg hrt)
  obtain ⟨hgood, _, _, hq, _, h0, ha, ha1⟩ := ask_true hg
  have HG := Lib.hid hgood
  have HS := Lib.hid (good_sane hgood); clear hgood h0 hg hrt
  by_cases hm : m = 0
  · have HV := Lib.hid (str_start HOK.out (HZ.out hm))
    subst hm
    go_wp2
    go_ret2
    exact rpost (by rw [HV.out] <;> rfl) B.below
  have hmz : (m == 0) = false := by rw [beq_eq_false_iff_ne]; exact hm
  have HM2 := Lib.hid (HM.out hm); clear HM HZ
  have HW := Lib.hid (show strong p q n d = false by rw [HM2.out p hp]; exact decide_eq_false (by omega))
  have y0 : IntKind.i64.wrap (p - m) = p - m := IntWalk.i64_in _ (by omega)
  clear hm
  go_wp2
  generalize p - m = g at HM2 y0 ⊢
  clear y0 hmz
  go_loopw [41] (fun i wr => ∃ (k : Nat) (u : Int), k ≤ l.length ∧ i = .int .i64 k ∧ Hid (run (l.take k) p q a = u) ∧ 0 ≤ u ∧ u ≤ p ∧ Hid (Weak l p q a n d k) ∧ Box (w.heap.size) [.int .i64 u, .int .i64 q] w wr) (fun i _ => l.length - (intOf i).toNat)
  case atStart => exact ⟨0, p, Nat.zero_le _, rfl, Lib.hid (by simp [run]), hp, Int.le_refl _, Lib.hid (fun j hj => by omega), B⟩
  case round =>
    clear B_0 B_1 B_f0 B_f1 B_t
    clear B
    obtain ⟨k, u, hk, rfl, HU, u0, u1, HN, B⟩ := hrel
    have B_0 := B.cells 0 _ rfl
    have B_1 := B.cells 1 _ rfl
    have B_f0 := B.free 0 (by simp)
    have B_f1 := B.free 1 (by simp)
    have B_t := B.there
    by_cases hlt : k < l.length
    · obtain ⟨b, o, rfl, hb, hc⟩ := HR.out.at (k := k * 2) (by rw [flat_n]; omega)
      obtain ⟨x, hx⟩ : ∃ x, l[k] = x := ⟨_, rfl⟩
      obtain ⟨h0, h1⟩ := cells2 (Below.refl _ _) hb hc hlt hx
      have HL := Lib.hid hlt
      have HX := Lib.hid (HS.out.get hlt hx)
      have HX2 := Lib.hid hx
      clear hc
      have h0_c := ((bcell B.below).1 _ _ hb).trans h0
      have h1_c := ((bcell B.below).1 _ _ hb).trans h1
      go_wp2_with fail
      have B_t4 := B.there
      have X := Box.new B.below [.int .i64 x.f0, .int .i64 x.f1] 42 (g := wr.heap.size) rfl
      clear B_0 B_1 B_f0 B_f1 B_t
      replace B := (B).alloc (.cells #[.int .i64 x.f0, .int .i64 x.f1] 42)
      generalize (wr.alloc (.cells #[.int .i64 x.f0, .int .i64 x.f1] 42)) = W4 at X B ⊢
      clear h0_c
      clear h1_c
      have B_0 := B.cells 0 _ rfl
      have B_1 := B.cells 1 _ rfl
      have B_f0 := B.free 0 (by simp)
      have B_f1 := B.free 1 (by simp)
      have B_t := B.there
      have X_0 := X.cells 0 _ rfl
      have X_1 := X.cells 1 _ rfl
      have X_f0 := X.free 0 (by simp)
      have X_f1 := X.free 1 (by simp)
      have X_t := X.there
      have h0_c := ((bcell B.below).1 _ _ hb).trans h0
      have h1_c := ((bcell B.below).1 _ _ hb).trans h1
      have HU1 := Lib.hid ((run_next hlt hx).trans (by rw [HU.out])); clear hx
      obtain ⟨_, _, r0, r1⟩ := HX.out
      have hbd := loss_bd (p := u) (q := q) (r := x.f1) (a := a) u0 hq r0 r1 (by omega) ha1
      have y1 : IntKind.i64.wrap (u - loss u q x.f1 a) = u - loss u q x.f1 a := IntWalk.i64_in _ (by omega)
      have HD := Lib.hid hbd; clear hbd
      refine wp_region_seq (fun L w' => BoxL (L 9) (w.heap.size) [.int .i64 u, .int .i64 q] [.int .i64 (u - loss u q x.f1 a), .int .i64 q] w w' ∧ Box (wr.heap.size) [.int .i64 x.f0, .int .i64 x.f1] w w') (by kernel_rfl) (by kernel_rfl) ⟨BoxL.start _ B.drew, X.drew⟩ ?_
      clear B_0 B_1 B_f0 B_f1 B_t
      clear X_0 X_1 X_f0 X_f1 X_t
      clear h0_c
      clear h1_c
      iterate 10 (
        apply SeqH.op
        · intro L uw K hN hS hK
          obtain ⟨qB, qX⟩ := hS
          try (have hh0 := qB.2 (hN.out.1 9 (by decide +kernel)); have qB_0 := hh0.cells 0 _ rfl; have qB_1 := hh0.cells 1 _ rfl; clear hh0)
          have qX_0 := qX.cells 0 _ rfl
          have qX_1 := qX.cells 1 _ rfl
          clear hN
          have qh0_c := ((bcell qX.below).1 _ _ hb).trans h0
          have qh1_c := ((bcell qX.below).1 _ _ hb).trans h1
          first
            | (go_simp; exact hK.out _ ⟨(qB).skip (by decide), qX⟩)
            | (go_simp; go_at_call 58; (with_reducible refine (SunE.loss_impl u q a x.f1 u0 (by omega) hq hq1 r0 r1 ha ha1 _).mono ?_); rintro e uw1 ⟨rfl, hv⟩; go_wp2_with fail; exact hK.out _ ⟨(qB.more hv).skip (by decide), qX.more hv⟩)
            | (rcases qB.two with hh | hh <;> (have h0 := hh.cells 0 _ rfl; have k0 := hh.free 0 (by simp); have h1 := hh.cells 1 _ rfl; have k1 := hh.free 1 (by simp); go_simp; exact hK.out _ ⟨BoxL.put (hh.set 0 (.int .i64 (u - loss u q x.f1 a))), (qX.far hh.base (by omega) 0 (.int .i64 (u - loss u q x.f1 a)))⟩))
        try simp only [Act.put, List.setIfInBounds_toArray, List.set_cons_zero, List.set_cons_succ])
      refine SeqH.done rfl ?_
      intro L v5 hL hS
      clear B X
      obtain ⟨B, X⟩ := hS
      replace B := B.done (hL 9 (by decide))
      clear hL
      have B_0 := B.cells 0 _ rfl
      have B_1 := B.cells 1 _ rfl
      have B_f0 := B.free 0 (by simp)
      have B_f1 := B.free 1 (by simp)
      have B_t := B.there
      have X_0 := X.cells 0 _ rfl
      have X_1 := X.cells 1 _ rfl
      have X_f0 := X.free 0 (by simp)
      have X_f1 := X.free 1 (by simp)
      have X_t := X.there
      have h0_c := ((bcell B.below).1 _ _ hb).trans h0
      have h1_c := ((bcell B.below).1 _ _ hb).trans h1
      have HM3 := Lib.hid (HM2.out (u - loss u q x.f1 a) (by have := HD.out; omega))
      cases hs : decide (u - loss u q x.f1 a ≤ g)
      · have HN1 := Lib.hid (HN.out.next (by rw [HU1.out, HM3.out]; exact hs))
        go_wp2
        go_roundw
        case rel => exact ⟨k + 1, u - loss u q x.f1 a, HL.out, by go_num, HU1, by have := HD.out; omega, by have := HD.out; omega, HN1, B⟩
        case measure => have := HL.out; simp [intOf]; omega
      · have HV := Lib.hid (str_at HOK.out HW.out HN.out HL.out HX2.out (by rw [HU1.out, HM3.out]; exact hs))
        go_wp2
        go_ret2
        exact rpost (by rw [HV.out] <;> rfl) B.below
    · have HV := Lib.hid (str_none (a := a) (l := l) HW.out (fun j hj => HN.out j (by omega)))
      go_wp2
      go_ret2
      exact rpost (by rw [HV.out] <;> rfl) B.below
end Go.Proofs.Ytcmomccdnkligaa.SunJ
