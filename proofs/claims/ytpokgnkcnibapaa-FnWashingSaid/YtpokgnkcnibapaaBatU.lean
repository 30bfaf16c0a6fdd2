/- Batches: a row of them, purity, drying, joining. Made by tools/mk_batu.py. -/
import Derived.Test.YtpokgnkcnibapaaBatV
namespace Go.Proofs.Ytpokgnkcnibapaa.BatU
open Go.RowKit Go.Proofs.Ytpokgnkcnibapaa.Mem Go.Proofs.Ytpokgnkcnibapaa.Base Go.Proofs.Ytpokgnkcnibapaa.Within Go.Proofs.Ytpokgnkcnibapaa.SBatch Go.Proofs.Ytpokgnkcnibapaa.Regn Go.Proofs.Ytpokgnkcnibapaa.Boxes Go.Proofs.Ytpokgnkcnibapaa.Keep Go.Proofs.Ytpokgnkcnibapaa.BatP Go.Proofs.Ytpokgnkcnibapaa.BatQ Go.Proofs.Ytpokgnkcnibapaa.BatS Go.Proofs.Ytpokgnkcnibapaa.BatR Go.Proofs.Ytpokgnkcnibapaa.BatV
set_option linter.unusedVariables false
set_option linter.unusedSimpArgs false
set_option maxRecDepth 100000
/-- all of the first k are valid. -/
def Ok (l : List R) (k : Nat) : Prop := ∀ j (h : j < l.length), j < k → okT l[j] = true
theorem Ok.next {l : List R} {k : Nat} {x : R} (h : Ok l k) (hk : k < l.length) (hx : l[k] = x) (ho : okT x = true) : Ok l (k + 1) := fun j hj h1 => by
  rcases Nat.lt_or_ge j k with h2 | h2
  · exact h j hj h2
  · have : j = k := by omega
    subst this; rw [hx]; exact ho
theorem Ok.end {l : List R} {k : Nat} (h : Ok l k) (hk : l.length ≤ k) : l.all okT = true := by
  rw [List.all_eq_true]
  intro x hx
  obtain ⟨i, hi, rfl⟩ := List.getElem_of_mem hx
  exact h i hi (by omega)
theorem not_ok {l : List R} {k : Nat} {x : R} (hk : k < l.length) (hx : l[k] = x) (ho : okT x = false) : l.all okT = false := by
  rw [List.all_eq_false]; exact ⟨l[k], List.getElem_mem hk, by rw [hx, ho]; simp⟩
set_option maxHeartbeats 800000 in
theorem are_impl (P : Option Addr) (cap : Nat) (l : List R) (w : World) (hr : Rd w w.heap.size P (flat l)) (hn : l.length ≤ 1048576) :
    Calls Try.prog 63 #[.slice P l.length cap] w (RPost (.bool (l.all okT)) w) := by
  have HR := Lib.hid hr; clear hr
  go_enter Try.func63, Try.ntmps63
  go_wp2
  go_loopw [7] (fun i wr => ∃ k : Nat, k ≤ l.length ∧ i = .int .i64 k ∧ Hid (Ok l k) ∧ Below w.heap.size w wr) (fun i _ => l.length - (intOf i).toNat)
  case atStart => exact ⟨0, Nat.zero_le _, rfl, Lib.hid (fun j _ hj => by omega), Below.refl _ _⟩
  case round =>
    obtain ⟨k, hk, rfl, HOK, HB0⟩ := hrel
    by_cases hlt : k < l.length
    · obtain ⟨b, o, rfl, hb, hc⟩ := HR.out.at (k := k * 3) (by rw [flat_n]; omega)
      obtain ⟨x, hx⟩ : ∃ x, l[k] = x := ⟨_, rfl⟩
      obtain ⟨h0, h1, h2⟩ := cells3 HB0 hb hc hlt hx
      have HX := Lib.hid hx; clear hx hc
      have HL := Lib.hid hlt
      go_wp2_with fail
      have B := Box.new HB0 [.int .i64 x.f0, .int .i64 x.f1, .int .i64 x.f2] 25 (g := wr.heap.size) rfl
      generalize (wr.alloc (.cells #[.int .i64 x.f0, .int .i64 x.f1, .int .i64 x.f2] 25)) = W1 at B ⊢
      have B_0 := B.cells 0 _ rfl
      have B_1 := B.cells 1 _ rfl
      have B_2 := B.cells 2 _ rfl
      have B_f0 := B.free 0 (by simp)
      have B_f1 := B.free 1 (by simp)
      have B_f2 := B.free 2 (by simp)
      have B_t := B.there
      clear h0 h1 h2
      go_wp2_with fail
      refine (is_impl x _).mono ?_
      rintro e v2 ⟨rfl, hv2⟩
      clear B_0 B_1 B_2 B_f0 B_f1 B_f2 B_t
      replace B := B.more hv2
      have zhv2 := hv2.size
      clear hv2
      have B_0 := B.cells 0 _ rfl
      have B_1 := B.cells 1 _ rfl
      have B_2 := B.cells 2 _ rfl
      have B_f0 := B.free 0 (by simp)
      have B_f1 := B.free 1 (by simp)
      have B_f2 := B.free 2 (by simp)
      have B_t := B.there
      cases hok : okT x
      · have HV := Lib.hid (not_ok HL.out HX.out hok)
        go_wp2
        go_ret
        exact rpost (by rw [HV.out] <;> rfl) B.below
      · have HN := Lib.hid (HOK.out.next HL.out HX.out hok)
        go_wp2
        go_roundw
        case rel => exact ⟨k + 1, HL.out, by go_num, HN, B.below⟩
        case measure => have := HL.out; simp [intOf]; omega
    · have HV := Lib.hid (HOK.out.end (show l.length ≤ k by omega))
      go_wp2
      go_ret
      exact rpost (by rw [HV.out] <;> rfl) HB0
theorem pu1 {x : R} (h : okT x = false) : purOk x = false := by unfold purOk; rw [h]; rfl
theorem pu2 {x : R} (h : x.f0 = 0) (h1 : x.f1 = 0) : purOk x = false := by unfold purOk; rw [h, h1]; simp
theorem pu3 {x : R} (h : okT x = true) (h0 : ¬ x.f0 = 0) : purOk x = true := by unfold purOk; rw [h, beq_eq_false_iff_ne.2 h0]; rfl
theorem pu4 {x : R} (h : okT x = true) (h0 : ¬ x.f1 = 0) : purOk x = true := by unfold purOk; rw [h, beq_eq_false_iff_ne.2 h0, Bool.and_false]; rfl
set_option maxHeartbeats 400000 in
theorem pur_spec (x : R) (w : World) : Calls Try.prog 41 #[.agg #[.int .i64 x.f0, .int .i64 x.f1, .int .i64 x.f2]] w (RPost (purV x) w) := by
  go_enter Try.func41, Try.ntmps41
  go_wp2_with fail
  have B := Box.new (Below.refl _ w) [.int .i64 x.f0, .int .i64 x.f1, .int .i64 x.f2] 25 (g := w.heap.size) rfl
  generalize (w.alloc (.cells #[.int .i64 x.f0, .int .i64 x.f1, .int .i64 x.f2] 25)) = W1 at B ⊢
  have B_0 := B.cells 0 _ rfl
  have B_1 := B.cells 1 _ rfl
  have B_2 := B.cells 2 _ rfl
  have B_f0 := B.free 0 (by simp)
  have B_f1 := B.free 1 (by simp)
  have B_f2 := B.free 2 (by simp)
  have B_t := B.there
  go_wp2_with fail
  refine (good_spec x _).mono ?_
  rintro e v2 ⟨rfl, hv2⟩
  clear B_0 B_1 B_2 B_f0 B_f1 B_f2 B_t
  replace B := B.more hv2
  have zhv2 := hv2.size
  clear hv2
  have B_0 := B.cells 0 _ rfl
  have B_1 := B.cells 1 _ rfl
  have B_2 := B.cells 2 _ rfl
  have B_f0 := B.free 0 (by simp)
  have B_f1 := B.free 1 (by simp)
  have B_f2 := B.free 2 (by simp)
  have B_t := B.there
  cases hx : okT x
  · have HV := Lib.hid (pur_no (pu1 hx))
    go_wp2
    go_ret3
    exact rpost (by rw [HV.out] <;> rfl) B.below
  obtain ⟨a0, a1, a2, a3, a4, a5⟩ := okT_true hx
  by_cases h0 : x.f0 = 0
  · by_cases h1 : x.f1 = 0
    · have HV := Lib.hid (pur_no (pu2 h0 h1))
      have q0 : (x.f0 == 0) = true := beq_iff_eq.2 h0
      have q1 : (x.f1 == 0) = true := beq_iff_eq.2 h1
      have HZ := Lib.hid (And.intro h0 h1)
      clear h0 h1
      go_wp2
      go_ret3
      exact rpost (by rw [HV.out] <;> rfl) B.below
    have q0 : (x.f0 == 0) = true := beq_iff_eq.2 h0
    have HZ0 := Lib.hid h0
    clear h0
    have HV := Lib.hid (pur_yes (pu4 hx h1))
    have q1 : (x.f1 == 0) = false := beq_eq_false_iff_ne.2 h1
    have HC := Lib.hid (fun W => red_spec (1000 * x.f0) (1000 * x.f0 + x.f1) (by omega) (by omega) (by omega) (by omega) W)
    have HZ := Lib.hid h1
    clear h1
    go_wp2_with fail
    refine (HC.out _).mono ?_
    rintro e v3 ⟨rfl, hv3⟩
    clear B_0 B_1 B_2 B_f0 B_f1 B_f2 B_t
    replace B := B.more hv3
    have zhv3 := hv3.size
    clear hv3
    have B_0 := B.cells 0 _ rfl
    have B_1 := B.cells 1 _ rfl
    have B_2 := B.cells 2 _ rfl
    have B_f0 := B.free 0 (by simp)
    have B_f1 := B.free 1 (by simp)
    have B_f2 := B.free 2 (by simp)
    have B_t := B.there
    go_wp2
    go_ret3
    exact rpost (by rw [HV.out] <;> rfl) B.below
  have HV := Lib.hid (pur_yes (pu3 hx h0))
  have q1 : (x.f0 == 0) = false := beq_eq_false_iff_ne.2 h0
  have HC := Lib.hid (fun W => red_spec (1000 * x.f0) (1000 * x.f0 + x.f1) (by omega) (by omega) (by omega) (by omega) W)
  have HZ := Lib.hid h0
  clear h0
  go_wp2_with fail
  refine (HC.out _).mono ?_
  rintro e v4 ⟨rfl, hv4⟩
  clear B_0 B_1 B_2 B_f0 B_f1 B_f2 B_t
  replace B := B.more hv4
  have zhv4 := hv4.size
  clear hv4
  have B_0 := B.cells 0 _ rfl
  have B_1 := B.cells 1 _ rfl
  have B_2 := B.cells 2 _ rfl
  have B_f0 := B.free 0 (by simp)
  have B_f1 := B.free 1 (by simp)
  have B_f2 := B.free 2 (by simp)
  have B_t := B.there
  go_wp2
  go_ret3
  exact rpost (by rw [HV.out] <;> rfl) B.below
set_option maxHeartbeats 400000 in
theorem pur_impl (x : R) (w : World) : Calls Try.prog 40 #[.agg #[.int .i64 x.f0, .int .i64 x.f1, .int .i64 x.f2]] w (RPost (purV x) w) := by
  go_enter Try.func40, Try.ntmps40
  go_wp2_with fail
  have B := (Box.new (Below.refl _ w) [.int .i64 x.f0, .int .i64 x.f1, .int .i64 x.f2] 25 (g := w.heap.size) rfl).alloc (.cells #[.int .i64 0, .int .i64 0, .int .i64 x.f2] 25)
  have D := Box.new (al (Below.refl _ w) (o := (.cells #[.int .i64 x.f0, .int .i64 x.f1, .int .i64 x.f2] 25))) [.int .i64 0, .int .i64 0, .int .i64 x.f2] 25 (g := w.heap.size + 1) (by simp only [size_alloc'])
  generalize ((w.alloc (.cells #[.int .i64 x.f0, .int .i64 x.f1, .int .i64 x.f2] 25)).alloc (.cells #[.int .i64 0, .int .i64 0, .int .i64 x.f2] 25)) = W1 at B D ⊢
  have B_0 := B.cells 0 _ rfl
  have B_1 := B.cells 1 _ rfl
  have B_2 := B.cells 2 _ rfl
  have B_f0 := B.free 0 (by simp)
  have B_f1 := B.free 1 (by simp)
  have B_f2 := B.free 2 (by simp)
  have B_t := B.there
  have D_0 := D.cells 0 _ rfl
  have D_1 := D.cells 1 _ rfl
  have D_2 := D.cells 2 _ rfl
  have D_f0 := D.free 0 (by simp)
  have D_f1 := D.free 1 (by simp)
  have D_f2 := D.free 2 (by simp)
  have D_t := D.there
  go_wp2_with fail
  refine (is_impl x _).mono ?_
  rintro e v2 ⟨rfl, hv2⟩
  clear B_0 B_1 B_2 B_f0 B_f1 B_f2 B_t
  clear D_0 D_1 D_2 D_f0 D_f1 D_f2 D_t
  replace B := B.more hv2
  replace D := D.more hv2
  have zhv2 := hv2.size
  clear hv2
  have B_0 := B.cells 0 _ rfl
  have B_1 := B.cells 1 _ rfl
  have B_2 := B.cells 2 _ rfl
  have B_f0 := B.free 0 (by simp)
  have B_f1 := B.free 1 (by simp)
  have B_f2 := B.free 2 (by simp)
  have B_t := B.there
  have D_0 := D.cells 0 _ rfl
  have D_1 := D.cells 1 _ rfl
  have D_2 := D.cells 2 _ rfl
  have D_f0 := D.free 0 (by simp)
  have D_f1 := D.free 1 (by simp)
  have D_f2 := D.free 2 (by simp)
  have D_t := D.there
  cases hx : okT x
  · have HV := Lib.hid (pur_no (pu1 hx))
    go_wp2
    go_ret3
    exact rpost (by rw [HV.out] <;> rfl) B.below
  obtain ⟨a0, a1, a2, a3, a4, a5⟩ := okT_true hx
  by_cases h0 : x.f0 = 0
  · by_cases h1 : x.f1 = 0
    · have HV := Lib.hid (pur_no (pu2 h0 h1))
      have q0 : (x.f0 == 0) = true := beq_iff_eq.2 h0
      have q1 : (x.f1 == 0) = true := beq_iff_eq.2 h1
      have HZ := Lib.hid (And.intro h0 h1)
      clear h0 h1
      go_wp2
      go_ret3
      exact rpost (by rw [HV.out] <;> rfl) B.below
    have q0 : (x.f0 == 0) = true := beq_iff_eq.2 h0
    have HZ0 := Lib.hid h0
    clear h0
    have HV := Lib.hid (pur_yes (pu4 hx h1))
    have q1 : (x.f1 == 0) = false := beq_eq_false_iff_ne.2 h1
    have HC := Lib.hid (fun W => red_impl (1000 * x.f0) (1000 * x.f0 + x.f1) (by omega) (by omega) (by omega) (by omega) W)
    have HZ := Lib.hid h1
    clear h1
    go_wp2_with fail
    refine (HC.out _).mono ?_
    rintro e v3 ⟨rfl, hv3⟩
    clear B_0 B_1 B_2 B_f0 B_f1 B_f2 B_t
    clear D_0 D_1 D_2 D_f0 D_f1 D_f2 D_t
    replace B := B.more hv3
    replace D := D.more hv3
    have zhv3 := hv3.size
    clear hv3
    have B_0 := B.cells 0 _ rfl
    have B_1 := B.cells 1 _ rfl
    have B_2 := B.cells 2 _ rfl
    have B_f0 := B.free 0 (by simp)
    have B_f1 := B.free 1 (by simp)
    have B_f2 := B.free 2 (by simp)
    have B_t := B.there
    have D_0 := D.cells 0 _ rfl
    have D_1 := D.cells 1 _ rfl
    have D_2 := D.cells 2 _ rfl
    have D_f0 := D.free 0 (by simp)
    have D_f1 := D.free 1 (by simp)
    have D_f2 := D.free 2 (by simp)
    have D_t := D.there
    go_wp2
    go_ret3
    exact rpost (by rw [HV.out] <;> rfl) B.below
  have HV := Lib.hid (pur_yes (pu3 hx h0))
  have q1 : (x.f0 == 0) = false := beq_eq_false_iff_ne.2 h0
  have HC := Lib.hid (fun W => red_impl (1000 * x.f0) (1000 * x.f0 + x.f1) (by omega) (by omega) (by omega) (by omega) W)
  have HZ := Lib.hid h0
  clear h0
  go_wp2_with fail
  refine (HC.out _).mono ?_
  rintro e v4 ⟨rfl, hv4⟩
  clear B_0 B_1 B_2 B_f0 B_f1 B_f2 B_t
  clear D_0 D_1 D_2 D_f0 D_f1 D_f2 D_t
  replace B := B.more hv4
  replace D := D.more hv4
  have zhv4 := hv4.size
  clear hv4
  have B_0 := B.cells 0 _ rfl
  have B_1 := B.cells 1 _ rfl
  have B_2 := B.cells 2 _ rfl
  have B_f0 := B.free 0 (by simp)
  have B_f1 := B.free 1 (by simp)
  have B_f2 := B.free 2 (by simp)
  have B_t := B.there
  have D_0 := D.cells 0 _ rfl
  have D_1 := D.cells 1 _ rfl
  have D_2 := D.cells 2 _ rfl
  have D_f0 := D.free 0 (by simp)
  have D_f1 := D.free 1 (by simp)
  have D_f2 := D.free 2 (by simp)
  have D_t := D.there
  go_wp2
  go_ret3
  exact rpost (by rw [HV.out] <;> rfl) B.below
theorem dry_impl (x : R) (p : Int) (w : World) : Calls Try.prog 37 #[.agg #[.int .i64 x.f0, .int .i64 x.f1, .int .i64 x.f2], .int .i64 p] w (RPost (dryV x p) w) := by
  go_enter Try.func37, Try.ntmps37
  go_wp2_with fail
  have B := (Box.new (Below.refl _ w) [.int .i64 x.f0, .int .i64 x.f1, .int .i64 x.f2] 25 (g := w.heap.size) rfl).alloc (.cells #[.int .i64 0, .int .i64 0, .int .i64 0] 25)
  have Z := Box.new (al (Below.refl _ w) (o := (.cells #[.int .i64 x.f0, .int .i64 x.f1, .int .i64 x.f2] 25))) [.int .i64 0, .int .i64 0, .int .i64 0] 25 (g := w.heap.size + 1) (by simp only [size_alloc'])
  generalize ((w.alloc (.cells #[.int .i64 x.f0, .int .i64 x.f1, .int .i64 x.f2] 25)).alloc (.cells #[.int .i64 0, .int .i64 0, .int .i64 0] 25)) = W1 at B Z ⊢
  have B_0 := B.cells 0 _ rfl
  have B_1 := B.cells 1 _ rfl
  have B_2 := B.cells 2 _ rfl
  have B_f0 := B.free 0 (by simp)
  have B_f1 := B.free 1 (by simp)
  have B_f2 := B.free 2 (by simp)
  have B_t := B.there
  have Z_0 := Z.cells 0 _ rfl
  have Z_1 := Z.cells 1 _ rfl
  have Z_2 := Z.cells 2 _ rfl
  have Z_f0 := Z.free 0 (by simp)
  have Z_f1 := Z.free 1 (by simp)
  have Z_f2 := Z.free 2 (by simp)
  have Z_t := Z.there
  go_wp2_with fail
  refine (is_impl x _).mono ?_
  rintro e v2 ⟨rfl, hv2⟩
  clear B_0 B_1 B_2 B_f0 B_f1 B_f2 B_t
  clear Z_0 Z_1 Z_2 Z_f0 Z_f1 Z_f2 Z_t
  replace B := B.more hv2
  replace Z := Z.more hv2
  have zhv2 := hv2.size
  clear hv2
  have B_0 := B.cells 0 _ rfl
  have B_1 := B.cells 1 _ rfl
  have B_2 := B.cells 2 _ rfl
  have B_f0 := B.free 0 (by simp)
  have B_f1 := B.free 1 (by simp)
  have B_f2 := B.free 2 (by simp)
  have B_t := B.there
  have Z_0 := Z.cells 0 _ rfl
  have Z_1 := Z.cells 1 _ rfl
  have Z_2 := Z.cells 2 _ rfl
  have Z_f0 := Z.free 0 (by simp)
  have Z_f1 := Z.free 1 (by simp)
  have Z_f2 := Z.free 2 (by simp)
  have Z_t := Z.there
  cases hx : okT x
  · have HV := Lib.hid (dry_no (show dryOk x p = false by unfold dryOk; rw [hx]; rfl))
    go_wp2
    clear B_0 B_1 B_2 B_f0 B_f1 B_f2 B_t
    clear Z_0 Z_1 Z_2 Z_f0 Z_f1 Z_f2 Z_t
    have B_t3 := B.there
    have Z_t3 := Z.there
    have B' : Box (w.heap.size) [.int .i64 x.f0, .int .i64 x.f1, .int .i64 x.f2] w _ := (((B.far Z.base (by omega) 0 (.int .i64 0)).far Z.base (by omega) 1 (.int .i64 0)).far Z.base (by omega) 2 (.int .i64 0))
    have Z' : Box (w.heap.size + 1) [.int .i64 0, .int .i64 0, .int .i64 0] w _ := (((Z.set 0 (.int .i64 0)).set 1 (.int .i64 0)).set 2 (.int .i64 0))
    clear B; have B := B'; clear B'
    clear Z; have Z := Z'; clear Z'
    have sz3 : (((v2.setCell ⟨w.heap.size + 1, 0, none⟩ (.int .i64 0)).setCell ⟨w.heap.size + 1, 1, none⟩ (.int .i64 0)).setCell ⟨w.heap.size + 1, 2, none⟩ (.int .i64 0)).heap.size = v2.heap.size := by simp only [size_set']
    generalize (((v2.setCell ⟨w.heap.size + 1, 0, none⟩ (.int .i64 0)).setCell ⟨w.heap.size + 1, 1, none⟩ (.int .i64 0)).setCell ⟨w.heap.size + 1, 2, none⟩ (.int .i64 0)) = W3 at B Z sz3 ⊢
    replace sz3 := Lib.hid sz3
    have B_0 := B.cells 0 _ rfl
    have B_1 := B.cells 1 _ rfl
    have B_2 := B.cells 2 _ rfl
    have B_f0 := B.free 0 (by simp)
    have B_f1 := B.free 1 (by simp)
    have B_f2 := B.free 2 (by simp)
    have B_t := B.there
    have Z_0 := Z.cells 0 _ rfl
    have Z_1 := Z.cells 1 _ rfl
    have Z_2 := Z.cells 2 _ rfl
    have Z_f0 := Z.free 0 (by simp)
    have Z_f1 := Z.free 1 (by simp)
    have Z_f2 := Z.free 2 (by simp)
    have Z_t := Z.there
    exact bodyPost_ret (v := .tuple #[zero.val, .int .i64 0, .bool false]) (by simp [R.val, zero, results, Try.results37, go_sem, Z_0, Z_1, Z_2]) rfl (rpost (HV.out.symm) Z.below)
  cases hp : inB p 0 100
  · have HV := Lib.hid (dry_no (show dryOk x p = false by unfold dryOk; rw [hp]; simp))
    go_wp2_with (go_at_call 53; (with_reducible refine (within_any _ _ _ _).mono ?_); rintro e' w' ⟨rfl, rfl⟩)
    clear B_0 B_1 B_2 B_f0 B_f1 B_f2 B_t
    clear Z_0 Z_1 Z_2 Z_f0 Z_f1 Z_f2 Z_t
    have B_t4 := B.there
    have Z_t4 := Z.there
    have B' : Box (w.heap.size) [.int .i64 x.f0, .int .i64 x.f1, .int .i64 x.f2] w _ := (((B.far Z.base (by omega) 0 (.int .i64 0)).far Z.base (by omega) 1 (.int .i64 0)).far Z.base (by omega) 2 (.int .i64 0))
    have Z' : Box (w.heap.size + 1) [.int .i64 0, .int .i64 0, .int .i64 0] w _ := (((Z.set 0 (.int .i64 0)).set 1 (.int .i64 0)).set 2 (.int .i64 0))
    clear B; have B := B'; clear B'
    clear Z; have Z := Z'; clear Z'
    have sz4 : (((v2.setCell ⟨w.heap.size + 1, 0, none⟩ (.int .i64 0)).setCell ⟨w.heap.size + 1, 1, none⟩ (.int .i64 0)).setCell ⟨w.heap.size + 1, 2, none⟩ (.int .i64 0)).heap.size = v2.heap.size := by simp only [size_set']
    generalize (((v2.setCell ⟨w.heap.size + 1, 0, none⟩ (.int .i64 0)).setCell ⟨w.heap.size + 1, 1, none⟩ (.int .i64 0)).setCell ⟨w.heap.size + 1, 2, none⟩ (.int .i64 0)) = W4 at B Z sz4 ⊢
    replace sz4 := Lib.hid sz4
    have B_0 := B.cells 0 _ rfl
    have B_1 := B.cells 1 _ rfl
    have B_2 := B.cells 2 _ rfl
    have B_f0 := B.free 0 (by simp)
    have B_f1 := B.free 1 (by simp)
    have B_f2 := B.free 2 (by simp)
    have B_t := B.there
    have Z_0 := Z.cells 0 _ rfl
    have Z_1 := Z.cells 1 _ rfl
    have Z_2 := Z.cells 2 _ rfl
    have Z_f0 := Z.free 0 (by simp)
    have Z_f1 := Z.free 1 (by simp)
    have Z_f2 := Z.free 2 (by simp)
    have Z_t := Z.there
    exact bodyPost_ret (v := .tuple #[zero.val, .int .i64 0, .bool false]) (by simp [R.val, zero, results, Try.results37, go_sem, Z_0, Z_1, Z_2]) rfl (rpost (HV.out.symm) Z.below)
  have HV := Lib.hid (dry_yes (show dryOk x p = true by unfold dryOk; rw [hx, hp]; rfl))
  obtain ⟨a0, a1, a2, a3, a4, a5⟩ := okT_true hx
  obtain ⟨h0, h1⟩ := of_inB hp
  obtain ⟨p0, p1, d0, d1⟩ := dry_bd hx h0 h1
  have e1 : IntKind.i64.wrap (x.f2 * p) = x.f2 * p := IntWalk.i64_in _ (by omega)
  have e2 : (x.f2 * p).tdiv 100 = dryN x p := Int.tdiv_eq_ediv_of_nonneg p0
  have e3 : IntKind.i64.wrap (dryN x p) = dryN x p := IntWalk.i64_in _ (by omega)
  obtain ⟨k, hk⟩ : ∃ k, dryN x p = k := ⟨_, rfl⟩
  rw [hk] at d0 d1 e2 e3
  have HK := Lib.hid hk; clear hk
  have e4 : IntKind.i64.wrap (x.f2 - k) = x.f2 - k := IntWalk.i64_in _ (by omega)
  go_upto_region 5 with (go_at_call 53; (with_reducible refine (within_any _ _ _ _).mono ?_); rintro e' w' ⟨rfl, rfl⟩)
  clear B_0 B_1 B_2 B_f0 B_f1 B_f2 B_t
  clear Z_0 Z_1 Z_2 Z_f0 Z_f1 Z_f2 Z_t
  have B_t5 := B.there
  have Z_t5 := Z.there
  have B' : Box (w.heap.size) [.int .i64 x.f0, .int .i64 x.f1, .int .i64 (x.f2-k)] w _ := (B.set 2 (.int .i64 (x.f2-k)))
  have Z' : Box (w.heap.size + 1) [.int .i64 0, .int .i64 0, .int .i64 0] w _ := (Z.far B.base (by omega) 2 (.int .i64 (x.f2-k)))
  clear B; have B := B'; clear B'
  clear Z; have Z := Z'; clear Z'
  have sz5 : (v2.setCell ⟨w.heap.size, 2, none⟩ (.int .i64 (x.f2-k))).heap.size = v2.heap.size := by simp only [size_set']
  generalize (v2.setCell ⟨w.heap.size, 2, none⟩ (.int .i64 (x.f2-k))) = W5 at B Z sz5 ⊢
  replace sz5 := Lib.hid sz5
  have B_0 := B.cells 0 _ rfl
  have B_1 := B.cells 1 _ rfl
  have B_2 := B.cells 2 _ rfl
  have B_f0 := B.free 0 (by simp)
  have B_f1 := B.free 1 (by simp)
  have B_f2 := B.free 2 (by simp)
  have B_t := B.there
  have Z_0 := Z.cells 0 _ rfl
  have Z_1 := Z.cells 1 _ rfl
  have Z_2 := Z.cells 2 _ rfl
  have Z_f0 := Z.free 0 (by simp)
  have Z_f1 := Z.free 1 (by simp)
  have Z_f2 := Z.free 2 (by simp)
  have Z_t := Z.there
  go_wp2
  clear B_0 B_1 B_2 B_f0 B_f1 B_f2 B_t
  clear Z_0 Z_1 Z_2 Z_f0 Z_f1 Z_f2 Z_t
  have B' : Box (w.heap.size) [.int .i64 x.f0, .int .i64 x.f1, .int .i64 (x.f2-k)] w _ := (((B.far Z.base (by omega) 0 (.int .i64 x.f0)).far Z.base (by omega) 1 (.int .i64 x.f1)).far Z.base (by omega) 2 (.int .i64 (x.f2-k)))
  have Z' : Box (w.heap.size + 1) [.int .i64 x.f0, .int .i64 x.f1, .int .i64 (x.f2-k)] w _ := (((Z.set 0 (.int .i64 x.f0)).set 1 (.int .i64 x.f1)).set 2 (.int .i64 (x.f2-k)))
  clear B; have B := B'; clear B'
  clear Z; have Z := Z'; clear Z'
  have sz6 : (((W5.setCell ⟨w.heap.size + 1, 0, none⟩ (.int .i64 x.f0)).setCell ⟨w.heap.size + 1, 1, none⟩ (.int .i64 x.f1)).setCell ⟨w.heap.size + 1, 2, none⟩ (.int .i64 (x.f2-k))).heap.size = v2.heap.size := by simp only [size_set', sz5.out]
  generalize (((W5.setCell ⟨w.heap.size + 1, 0, none⟩ (.int .i64 x.f0)).setCell ⟨w.heap.size + 1, 1, none⟩ (.int .i64 x.f1)).setCell ⟨w.heap.size + 1, 2, none⟩ (.int .i64 (x.f2-k))) = W6 at B Z sz6 ⊢
  replace sz6 := Lib.hid sz6
  have B_0 := B.cells 0 _ rfl
  have B_1 := B.cells 1 _ rfl
  have B_2 := B.cells 2 _ rfl
  have B_f0 := B.free 0 (by simp)
  have B_f1 := B.free 1 (by simp)
  have B_f2 := B.free 2 (by simp)
  have B_t := B.there
  have Z_0 := Z.cells 0 _ rfl
  have Z_1 := Z.cells 1 _ rfl
  have Z_2 := Z.cells 2 _ rfl
  have Z_f0 := Z.free 0 (by simp)
  have Z_f1 := Z.free 1 (by simp)
  have Z_f2 := Z.free 2 (by simp)
  have Z_t := Z.there
  exact bodyPost_ret (v := .tuple #[.agg #[.int .i64 x.f0, .int .i64 x.f1, .int .i64 (x.f2 - k)], .int .i64 k, .bool true]) (by simp [R.val, zero, results, Try.results37, go_sem, Z_0, Z_1, Z_2]) rfl (rpost (by rw [HV.out, HK.out] <;> rfl) Z.below)
theorem dry_spec (x : R) (p : Int) (w : World) : Calls Try.prog 38 #[.agg #[.int .i64 x.f0, .int .i64 x.f1, .int .i64 x.f2], .int .i64 p] w (RPost (dryV x p) w) := by
  go_enter Try.func38, Try.ntmps38
  go_wp2_with fail
  have B := (Box.new (Below.refl _ w) [.int .i64 x.f0, .int .i64 x.f1, .int .i64 x.f2] 25 (g := w.heap.size) rfl).alloc (.cells #[.int .i64 0, .int .i64 0, .int .i64 0] 25)
  have Z := Box.new (al (Below.refl _ w) (o := (.cells #[.int .i64 x.f0, .int .i64 x.f1, .int .i64 x.f2] 25))) [.int .i64 0, .int .i64 0, .int .i64 0] 25 (g := w.heap.size + 1) (by simp only [size_alloc'])
  generalize ((w.alloc (.cells #[.int .i64 x.f0, .int .i64 x.f1, .int .i64 x.f2] 25)).alloc (.cells #[.int .i64 0, .int .i64 0, .int .i64 0] 25)) = W1 at B Z ⊢
  have B_0 := B.cells 0 _ rfl
  have B_1 := B.cells 1 _ rfl
  have B_2 := B.cells 2 _ rfl
  have B_f0 := B.free 0 (by simp)
  have B_f1 := B.free 1 (by simp)
  have B_f2 := B.free 2 (by simp)
  have B_t := B.there
  have Z_0 := Z.cells 0 _ rfl
  have Z_1 := Z.cells 1 _ rfl
  have Z_2 := Z.cells 2 _ rfl
  have Z_f0 := Z.free 0 (by simp)
  have Z_f1 := Z.free 1 (by simp)
  have Z_f2 := Z.free 2 (by simp)
  have Z_t := Z.there
  go_wp2_with fail
  refine (good_spec x _).mono ?_
  rintro e v2 ⟨rfl, hv2⟩
  clear B_0 B_1 B_2 B_f0 B_f1 B_f2 B_t
  clear Z_0 Z_1 Z_2 Z_f0 Z_f1 Z_f2 Z_t
  replace B := B.more hv2
  replace Z := Z.more hv2
  have zhv2 := hv2.size
  clear hv2
  have B_0 := B.cells 0 _ rfl
  have B_1 := B.cells 1 _ rfl
  have B_2 := B.cells 2 _ rfl
  have B_f0 := B.free 0 (by simp)
  have B_f1 := B.free 1 (by simp)
  have B_f2 := B.free 2 (by simp)
  have B_t := B.there
  have Z_0 := Z.cells 0 _ rfl
  have Z_1 := Z.cells 1 _ rfl
  have Z_2 := Z.cells 2 _ rfl
  have Z_f0 := Z.free 0 (by simp)
  have Z_f1 := Z.free 1 (by simp)
  have Z_f2 := Z.free 2 (by simp)
  have Z_t := Z.there
  cases hx : okT x
  · have HV := Lib.hid (dry_no (show dryOk x p = false by unfold dryOk; rw [hx]; rfl))
    go_wp2
    clear B_0 B_1 B_2 B_f0 B_f1 B_f2 B_t
    clear Z_0 Z_1 Z_2 Z_f0 Z_f1 Z_f2 Z_t
    have B_t3 := B.there
    have Z_t3 := Z.there
    have B' : Box (w.heap.size) [.int .i64 x.f0, .int .i64 x.f1, .int .i64 x.f2] w _ := (((B.far Z.base (by omega) 0 (.int .i64 0)).far Z.base (by omega) 1 (.int .i64 0)).far Z.base (by omega) 2 (.int .i64 0))
    have Z' : Box (w.heap.size + 1) [.int .i64 0, .int .i64 0, .int .i64 0] w _ := (((Z.set 0 (.int .i64 0)).set 1 (.int .i64 0)).set 2 (.int .i64 0))
    clear B; have B := B'; clear B'
    clear Z; have Z := Z'; clear Z'
    have sz3 : (((v2.setCell ⟨w.heap.size + 1, 0, none⟩ (.int .i64 0)).setCell ⟨w.heap.size + 1, 1, none⟩ (.int .i64 0)).setCell ⟨w.heap.size + 1, 2, none⟩ (.int .i64 0)).heap.size = v2.heap.size := by simp only [size_set']
    generalize (((v2.setCell ⟨w.heap.size + 1, 0, none⟩ (.int .i64 0)).setCell ⟨w.heap.size + 1, 1, none⟩ (.int .i64 0)).setCell ⟨w.heap.size + 1, 2, none⟩ (.int .i64 0)) = W3 at B Z sz3 ⊢
    replace sz3 := Lib.hid sz3
    have B_0 := B.cells 0 _ rfl
    have B_1 := B.cells 1 _ rfl
    have B_2 := B.cells 2 _ rfl
    have B_f0 := B.free 0 (by simp)
    have B_f1 := B.free 1 (by simp)
    have B_f2 := B.free 2 (by simp)
    have B_t := B.there
    have Z_0 := Z.cells 0 _ rfl
    have Z_1 := Z.cells 1 _ rfl
    have Z_2 := Z.cells 2 _ rfl
    have Z_f0 := Z.free 0 (by simp)
    have Z_f1 := Z.free 1 (by simp)
    have Z_f2 := Z.free 2 (by simp)
    have Z_t := Z.there
    exact bodyPost_ret (v := .tuple #[zero.val, .int .i64 0, .bool false]) (by simp [R.val, zero, results, Try.results38, go_sem, Z_0, Z_1, Z_2]) rfl (rpost (HV.out.symm) Z.below)
  cases hp : inB p 0 100
  · have HV := Lib.hid (dry_no (show dryOk x p = false by unfold dryOk; rw [hp]; simp))
    go_wp2_with (go_at_call 59; (with_reducible refine (in_any _ _ _ _).mono ?_); rintro e' w' ⟨rfl, rfl⟩)
    clear B_0 B_1 B_2 B_f0 B_f1 B_f2 B_t
    clear Z_0 Z_1 Z_2 Z_f0 Z_f1 Z_f2 Z_t
    have B_t4 := B.there
    have Z_t4 := Z.there
    have B' : Box (w.heap.size) [.int .i64 x.f0, .int .i64 x.f1, .int .i64 x.f2] w _ := (((B.far Z.base (by omega) 0 (.int .i64 0)).far Z.base (by omega) 1 (.int .i64 0)).far Z.base (by omega) 2 (.int .i64 0))
    have Z' : Box (w.heap.size + 1) [.int .i64 0, .int .i64 0, .int .i64 0] w _ := (((Z.set 0 (.int .i64 0)).set 1 (.int .i64 0)).set 2 (.int .i64 0))
    clear B; have B := B'; clear B'
    clear Z; have Z := Z'; clear Z'
    have sz4 : (((v2.setCell ⟨w.heap.size + 1, 0, none⟩ (.int .i64 0)).setCell ⟨w.heap.size + 1, 1, none⟩ (.int .i64 0)).setCell ⟨w.heap.size + 1, 2, none⟩ (.int .i64 0)).heap.size = v2.heap.size := by simp only [size_set']
    generalize (((v2.setCell ⟨w.heap.size + 1, 0, none⟩ (.int .i64 0)).setCell ⟨w.heap.size + 1, 1, none⟩ (.int .i64 0)).setCell ⟨w.heap.size + 1, 2, none⟩ (.int .i64 0)) = W4 at B Z sz4 ⊢
    replace sz4 := Lib.hid sz4
    have B_0 := B.cells 0 _ rfl
    have B_1 := B.cells 1 _ rfl
    have B_2 := B.cells 2 _ rfl
    have B_f0 := B.free 0 (by simp)
    have B_f1 := B.free 1 (by simp)
    have B_f2 := B.free 2 (by simp)
    have B_t := B.there
    have Z_0 := Z.cells 0 _ rfl
    have Z_1 := Z.cells 1 _ rfl
    have Z_2 := Z.cells 2 _ rfl
    have Z_f0 := Z.free 0 (by simp)
    have Z_f1 := Z.free 1 (by simp)
    have Z_f2 := Z.free 2 (by simp)
    have Z_t := Z.there
    exact bodyPost_ret (v := .tuple #[zero.val, .int .i64 0, .bool false]) (by simp [R.val, zero, results, Try.results38, go_sem, Z_0, Z_1, Z_2]) rfl (rpost (HV.out.symm) Z.below)
  have HV := Lib.hid (dry_yes (show dryOk x p = true by unfold dryOk; rw [hx, hp]; rfl))
  obtain ⟨a0, a1, a2, a3, a4, a5⟩ := okT_true hx
  obtain ⟨h0, h1⟩ := of_inB hp
  obtain ⟨p0, p1, d0, d1⟩ := dry_bd hx h0 h1
  have e1 : IntKind.i64.wrap (x.f2 * p) = x.f2 * p := IntWalk.i64_in _ (by omega)
  have e2 : (x.f2 * p).tdiv 100 = dryN x p := Int.tdiv_eq_ediv_of_nonneg p0
  have e3 : IntKind.i64.wrap (dryN x p) = dryN x p := IntWalk.i64_in _ (by omega)
  obtain ⟨k, hk⟩ : ∃ k, dryN x p = k := ⟨_, rfl⟩
  rw [hk] at d0 d1 e2 e3
  have HK := Lib.hid hk; clear hk
  have e4 : IntKind.i64.wrap (x.f2 - k) = x.f2 - k := IntWalk.i64_in _ (by omega)
  go_wp2_with (go_at_call 59; (with_reducible refine (in_any _ _ _ _).mono ?_); rintro e' w' ⟨rfl, rfl⟩)
  clear B_0 B_1 B_2 B_f0 B_f1 B_f2 B_t
  clear Z_0 Z_1 Z_2 Z_f0 Z_f1 Z_f2 Z_t
  have B_t5 := B.there
  have Z_t5 := Z.there
  have B' : Box (w.heap.size) [.int .i64 x.f0, .int .i64 x.f1, .int .i64 x.f2] w _ := (((B.far Z.base (by omega) 0 (.int .i64 x.f0)).far Z.base (by omega) 1 (.int .i64 x.f1)).far Z.base (by omega) 2 (.int .i64 (x.f2-k)))
  have Z' : Box (w.heap.size + 1) [.int .i64 x.f0, .int .i64 x.f1, .int .i64 (x.f2-k)] w _ := (((Z.set 0 (.int .i64 x.f0)).set 1 (.int .i64 x.f1)).set 2 (.int .i64 (x.f2-k)))
  clear B; have B := B'; clear B'
  clear Z; have Z := Z'; clear Z'
  have sz5 : (((v2.setCell ⟨w.heap.size + 1, 0, none⟩ (.int .i64 x.f0)).setCell ⟨w.heap.size + 1, 1, none⟩ (.int .i64 x.f1)).setCell ⟨w.heap.size + 1, 2, none⟩ (.int .i64 (x.f2-k))).heap.size = v2.heap.size := by simp only [size_set']
  generalize (((v2.setCell ⟨w.heap.size + 1, 0, none⟩ (.int .i64 x.f0)).setCell ⟨w.heap.size + 1, 1, none⟩ (.int .i64 x.f1)).setCell ⟨w.heap.size + 1, 2, none⟩ (.int .i64 (x.f2-k))) = W5 at B Z sz5 ⊢
  replace sz5 := Lib.hid sz5
  have B_0 := B.cells 0 _ rfl
  have B_1 := B.cells 1 _ rfl
  have B_2 := B.cells 2 _ rfl
  have B_f0 := B.free 0 (by simp)
  have B_f1 := B.free 1 (by simp)
  have B_f2 := B.free 2 (by simp)
  have B_t := B.there
  have Z_0 := Z.cells 0 _ rfl
  have Z_1 := Z.cells 1 _ rfl
  have Z_2 := Z.cells 2 _ rfl
  have Z_f0 := Z.free 0 (by simp)
  have Z_f1 := Z.free 1 (by simp)
  have Z_f2 := Z.free 2 (by simp)
  have Z_t := Z.there
  exact bodyPost_ret (v := .tuple #[.agg #[.int .i64 x.f0, .int .i64 x.f1, .int .i64 (x.f2 - k)], .int .i64 k, .bool true]) (by simp [R.val, zero, results, Try.results38, go_sem, Z_0, Z_1, Z_2]) rfl (rpost (by rw [HV.out, HK.out] <;> rfl) Z.below)
theorem jo1 {x y : R} (h : (okT x && okT y) = false) : joinOk x y = false := by unfold joinOk; rw [h]; rfl
theorem jo2 {x y : R} (h : okT (sumR x y) = false) : joinOk x y = false := by unfold joinOk; rw [h, Bool.and_false]
theorem jo3 {x y : R} (h : (okT x && okT y) = true) (h1 : okT (sumR x y) = true) : joinOk x y = true := by unfold joinOk; rw [h, h1]; rfl
theorem all2 (x y : R) : [x, y].all okT = (okT x && okT y) := by simp
set_option maxHeartbeats 400000 in
theorem join_impl (x y : R) (w : World) : Calls Try.prog 34 #[.agg #[.int .i64 x.f0, .int .i64 x.f1, .int .i64 x.f2], .agg #[.int .i64 y.f0, .int .i64 y.f1, .int .i64 y.f2]] w (RPost (joinV x y) w) := by
  go_enter Try.func34, Try.ntmps34
  go_wp2_with fail
  have B := (((Box.new (Below.refl _ w) [.int .i64 x.f0, .int .i64 x.f1, .int .i64 x.f2] 25 (g := w.heap.size) rfl).alloc (.cells #[.int .i64 y.f0, .int .i64 y.f1, .int .i64 y.f2] 25)).alloc (.cells #[.int .i64 0, .int .i64 0, .int .i64 0] 25)).alloc (.cells #[.int .i64 x.f0, .int .i64 x.f1, .int .i64 x.f2, .int .i64 y.f0, .int .i64 y.f1, .int .i64 y.f2] 25)
  have C := ((Box.new (al (Below.refl _ w) (o := (.cells #[.int .i64 x.f0, .int .i64 x.f1, .int .i64 x.f2] 25))) [.int .i64 y.f0, .int .i64 y.f1, .int .i64 y.f2] 25 (g := w.heap.size + 1) (by simp only [size_alloc'])).alloc (.cells #[.int .i64 0, .int .i64 0, .int .i64 0] 25)).alloc (.cells #[.int .i64 x.f0, .int .i64 x.f1, .int .i64 x.f2, .int .i64 y.f0, .int .i64 y.f1, .int .i64 y.f2] 25)
  have Z := (Box.new (al (al (Below.refl _ w) (o := (.cells #[.int .i64 x.f0, .int .i64 x.f1, .int .i64 x.f2] 25))) (o := (.cells #[.int .i64 y.f0, .int .i64 y.f1, .int .i64 y.f2] 25))) [.int .i64 0, .int .i64 0, .int .i64 0] 25 (g := w.heap.size + 1 + 1) (by simp only [size_alloc'])).alloc (.cells #[.int .i64 x.f0, .int .i64 x.f1, .int .i64 x.f2, .int .i64 y.f0, .int .i64 y.f1, .int .i64 y.f2] 25)
  have S := Box.new (al (al (al (Below.refl _ w) (o := (.cells #[.int .i64 x.f0, .int .i64 x.f1, .int .i64 x.f2] 25))) (o := (.cells #[.int .i64 y.f0, .int .i64 y.f1, .int .i64 y.f2] 25))) (o := (.cells #[.int .i64 0, .int .i64 0, .int .i64 0] 25))) [.int .i64 x.f0, .int .i64 x.f1, .int .i64 x.f2, .int .i64 y.f0, .int .i64 y.f1, .int .i64 y.f2] 25 (g := w.heap.size + 1 + 1 + 1) (by simp only [size_alloc'])
  generalize ((((w.alloc (.cells #[.int .i64 x.f0, .int .i64 x.f1, .int .i64 x.f2] 25)).alloc (.cells #[.int .i64 y.f0, .int .i64 y.f1, .int .i64 y.f2] 25)).alloc (.cells #[.int .i64 0, .int .i64 0, .int .i64 0] 25)).alloc (.cells #[.int .i64 x.f0, .int .i64 x.f1, .int .i64 x.f2, .int .i64 y.f0, .int .i64 y.f1, .int .i64 y.f2] 25)) = W1 at B C Z S ⊢
  have B_0 := B.cells 0 _ rfl
  have B_1 := B.cells 1 _ rfl
  have B_2 := B.cells 2 _ rfl
  have B_f0 := B.free 0 (by simp)
  have B_f1 := B.free 1 (by simp)
  have B_f2 := B.free 2 (by simp)
  have B_t := B.there
  have C_0 := C.cells 0 _ rfl
  have C_1 := C.cells 1 _ rfl
  have C_2 := C.cells 2 _ rfl
  have C_f0 := C.free 0 (by simp)
  have C_f1 := C.free 1 (by simp)
  have C_f2 := C.free 2 (by simp)
  have C_t := C.there
  have Z_0 := Z.cells 0 _ rfl
  have Z_1 := Z.cells 1 _ rfl
  have Z_2 := Z.cells 2 _ rfl
  have Z_f0 := Z.free 0 (by simp)
  have Z_f1 := Z.free 1 (by simp)
  have Z_f2 := Z.free 2 (by simp)
  have Z_t := Z.there
  have S_0 := S.cells 0 _ rfl
  have S_1 := S.cells 1 _ rfl
  have S_2 := S.cells 2 _ rfl
  have S_3 := S.cells 3 _ rfl
  have S_4 := S.cells 4 _ rfl
  have S_5 := S.cells 5 _ rfl
  have S_f0 := S.free 0 (by simp)
  have S_f1 := S.free 1 (by simp)
  have S_f2 := S.free 2 (by simp)
  have S_f3 := S.free 3 (by simp)
  have S_f4 := S.free 4 (by simp)
  have S_f5 := S.free 5 (by simp)
  have S_t := S.there
  go_wp2_with fail
  refine (are_impl _ _ [x, y] _ S.rd (by simp)).mono ?_
  rintro e v2 ⟨rfl, hv2⟩
  clear B_0 B_1 B_2 B_f0 B_f1 B_f2 B_t
  clear C_0 C_1 C_2 C_f0 C_f1 C_f2 C_t
  clear Z_0 Z_1 Z_2 Z_f0 Z_f1 Z_f2 Z_t
  clear S_0 S_1 S_2 S_3 S_4 S_5 S_f0 S_f1 S_f2 S_f3 S_f4 S_f5 S_t
  replace B := B.more hv2
  replace C := C.more hv2
  replace Z := Z.more hv2
  replace S := S.more hv2
  have zhv2 := hv2.size
  clear hv2
  have B_0 := B.cells 0 _ rfl
  have B_1 := B.cells 1 _ rfl
  have B_2 := B.cells 2 _ rfl
  have B_f0 := B.free 0 (by simp)
  have B_f1 := B.free 1 (by simp)
  have B_f2 := B.free 2 (by simp)
  have B_t := B.there
  have C_0 := C.cells 0 _ rfl
  have C_1 := C.cells 1 _ rfl
  have C_2 := C.cells 2 _ rfl
  have C_f0 := C.free 0 (by simp)
  have C_f1 := C.free 1 (by simp)
  have C_f2 := C.free 2 (by simp)
  have C_t := C.there
  have Z_0 := Z.cells 0 _ rfl
  have Z_1 := Z.cells 1 _ rfl
  have Z_2 := Z.cells 2 _ rfl
  have Z_f0 := Z.free 0 (by simp)
  have Z_f1 := Z.free 1 (by simp)
  have Z_f2 := Z.free 2 (by simp)
  have Z_t := Z.there
  have S_0 := S.cells 0 _ rfl
  have S_1 := S.cells 1 _ rfl
  have S_2 := S.cells 2 _ rfl
  have S_3 := S.cells 3 _ rfl
  have S_4 := S.cells 4 _ rfl
  have S_5 := S.cells 5 _ rfl
  have S_f0 := S.free 0 (by simp)
  have S_f1 := S.free 1 (by simp)
  have S_f2 := S.free 2 (by simp)
  have S_f3 := S.free 3 (by simp)
  have S_f4 := S.free 4 (by simp)
  have S_f5 := S.free 5 (by simp)
  have S_t := S.there
  rw [all2]
  clear S_0 S_1 S_2 S_3 S_4 S_5 S_f0 S_f1 S_f2 S_f3 S_f4 S_f5 S_t
  cases hq : (okT x && okT y)
  · have HV := Lib.hid (join_no (jo1 hq))
    go_wp2
    clear B_0 B_1 B_2 B_f0 B_f1 B_f2 B_t
    clear C_0 C_1 C_2 C_f0 C_f1 C_f2 C_t
    clear Z_0 Z_1 Z_2 Z_f0 Z_f1 Z_f2 Z_t
    have B_t3 := B.there
    have C_t3 := C.there
    have Z_t3 := Z.there
    have B' : Box (w.heap.size) [.int .i64 x.f0, .int .i64 x.f1, .int .i64 x.f2] w _ := (((B.far Z.base (by omega) 0 (.int .i64 0)).far Z.base (by omega) 1 (.int .i64 0)).far Z.base (by omega) 2 (.int .i64 0))
    have C' : Box (w.heap.size + 1) [.int .i64 y.f0, .int .i64 y.f1, .int .i64 y.f2] w _ := (((C.far Z.base (by omega) 0 (.int .i64 0)).far Z.base (by omega) 1 (.int .i64 0)).far Z.base (by omega) 2 (.int .i64 0))
    have Z' : Box (w.heap.size + 1 + 1) [.int .i64 0, .int .i64 0, .int .i64 0] w _ := (((Z.set 0 (.int .i64 0)).set 1 (.int .i64 0)).set 2 (.int .i64 0))
    clear B; have B := B'; clear B'
    clear C; have C := C'; clear C'
    clear Z; have Z := Z'; clear Z'
    have sz3 : (((v2.setCell ⟨w.heap.size + 1 + 1, 0, none⟩ (.int .i64 0)).setCell ⟨w.heap.size + 1 + 1, 1, none⟩ (.int .i64 0)).setCell ⟨w.heap.size + 1 + 1, 2, none⟩ (.int .i64 0)).heap.size = v2.heap.size := by simp only [size_set']
    generalize (((v2.setCell ⟨w.heap.size + 1 + 1, 0, none⟩ (.int .i64 0)).setCell ⟨w.heap.size + 1 + 1, 1, none⟩ (.int .i64 0)).setCell ⟨w.heap.size + 1 + 1, 2, none⟩ (.int .i64 0)) = W3 at B C Z sz3 ⊢
    replace sz3 := Lib.hid sz3
    have B_0 := B.cells 0 _ rfl
    have B_1 := B.cells 1 _ rfl
    have B_2 := B.cells 2 _ rfl
    have B_f0 := B.free 0 (by simp)
    have B_f1 := B.free 1 (by simp)
    have B_f2 := B.free 2 (by simp)
    have B_t := B.there
    have C_0 := C.cells 0 _ rfl
    have C_1 := C.cells 1 _ rfl
    have C_2 := C.cells 2 _ rfl
    have C_f0 := C.free 0 (by simp)
    have C_f1 := C.free 1 (by simp)
    have C_f2 := C.free 2 (by simp)
    have C_t := C.there
    have Z_0 := Z.cells 0 _ rfl
    have Z_1 := Z.cells 1 _ rfl
    have Z_2 := Z.cells 2 _ rfl
    have Z_f0 := Z.free 0 (by simp)
    have Z_f1 := Z.free 1 (by simp)
    have Z_f2 := Z.free 2 (by simp)
    have Z_t := Z.there
    exact bodyPost_ret (v := .tuple #[zero.val, .bool false]) (by simp [R.val, zero, results, Try.results34, go_sem, Z_0, Z_1, Z_2]) rfl (rpost (HV.out.symm) Z.below)
  obtain ⟨hx, hy⟩ := Bool.and_eq_true _ _ ▸ hq
  obtain ⟨a0, a1, a2, a3, a4, a5⟩ := okT_true hx
  obtain ⟨b0, b1, b2, b3, b4, b5⟩ := okT_true hy
  have HQ := Lib.hid hq; clear hq
  have e0 : IntKind.i64.wrap (x.f0 + y.f0) = x.f0 + y.f0 := IntWalk.i64_in _ (by omega)
  have e1 : IntKind.i64.wrap (x.f1 + y.f1) = x.f1 + y.f1 := IntWalk.i64_in _ (by omega)
  have e2 : IntKind.i64.wrap (x.f2 + y.f2) = x.f2 + y.f2 := IntWalk.i64_in _ (by omega)
  go_upto_region 4 with fail
  have B_t4 := B.there
  have C_t4 := C.there
  have Z_t4 := Z.there
  have D := Box.new B.below [.int .i64 (x.f0+y.f0), .int .i64 (x.f1+y.f1), .int .i64 (x.f2+y.f2)] 25 (g := v2.heap.size) rfl
  clear B_0 B_1 B_2 B_f0 B_f1 B_f2 B_t
  replace B := (B).alloc (.cells #[.int .i64 (x.f0+y.f0), .int .i64 (x.f1+y.f1), .int .i64 (x.f2+y.f2)] 25)
  clear C_0 C_1 C_2 C_f0 C_f1 C_f2 C_t
  replace C := (C).alloc (.cells #[.int .i64 (x.f0+y.f0), .int .i64 (x.f1+y.f1), .int .i64 (x.f2+y.f2)] 25)
  clear Z_0 Z_1 Z_2 Z_f0 Z_f1 Z_f2 Z_t
  replace Z := (Z).alloc (.cells #[.int .i64 (x.f0+y.f0), .int .i64 (x.f1+y.f1), .int .i64 (x.f2+y.f2)] 25)
  generalize (v2.alloc (.cells #[.int .i64 (x.f0+y.f0), .int .i64 (x.f1+y.f1), .int .i64 (x.f2+y.f2)] 25)) = W4 at D B C Z ⊢
  have B_0 := B.cells 0 _ rfl
  have B_1 := B.cells 1 _ rfl
  have B_2 := B.cells 2 _ rfl
  have B_f0 := B.free 0 (by simp)
  have B_f1 := B.free 1 (by simp)
  have B_f2 := B.free 2 (by simp)
  have B_t := B.there
  have C_0 := C.cells 0 _ rfl
  have C_1 := C.cells 1 _ rfl
  have C_2 := C.cells 2 _ rfl
  have C_f0 := C.free 0 (by simp)
  have C_f1 := C.free 1 (by simp)
  have C_f2 := C.free 2 (by simp)
  have C_t := C.there
  have Z_0 := Z.cells 0 _ rfl
  have Z_1 := Z.cells 1 _ rfl
  have Z_2 := Z.cells 2 _ rfl
  have Z_f0 := Z.free 0 (by simp)
  have Z_f1 := Z.free 1 (by simp)
  have Z_f2 := Z.free 2 (by simp)
  have Z_t := Z.there
  have D_0 := D.cells 0 _ rfl
  have D_1 := D.cells 1 _ rfl
  have D_2 := D.cells 2 _ rfl
  have D_f0 := D.free 0 (by simp)
  have D_f1 := D.free 1 (by simp)
  have D_f2 := D.free 2 (by simp)
  have D_t := D.there
  go_wp2_with fail
  refine (is_impl (sumR x y) _).mono ?_
  rintro e v5 ⟨rfl, hv5⟩
  clear B_0 B_1 B_2 B_f0 B_f1 B_f2 B_t
  clear C_0 C_1 C_2 C_f0 C_f1 C_f2 C_t
  clear Z_0 Z_1 Z_2 Z_f0 Z_f1 Z_f2 Z_t
  clear D_0 D_1 D_2 D_f0 D_f1 D_f2 D_t
  replace B := B.more hv5
  replace C := C.more hv5
  replace Z := Z.more hv5
  replace D := D.more hv5
  have zhv5 := hv5.size
  clear hv5
  have B_0 := B.cells 0 _ rfl
  have B_1 := B.cells 1 _ rfl
  have B_2 := B.cells 2 _ rfl
  have B_f0 := B.free 0 (by simp)
  have B_f1 := B.free 1 (by simp)
  have B_f2 := B.free 2 (by simp)
  have B_t := B.there
  have C_0 := C.cells 0 _ rfl
  have C_1 := C.cells 1 _ rfl
  have C_2 := C.cells 2 _ rfl
  have C_f0 := C.free 0 (by simp)
  have C_f1 := C.free 1 (by simp)
  have C_f2 := C.free 2 (by simp)
  have C_t := C.there
  have Z_0 := Z.cells 0 _ rfl
  have Z_1 := Z.cells 1 _ rfl
  have Z_2 := Z.cells 2 _ rfl
  have Z_f0 := Z.free 0 (by simp)
  have Z_f1 := Z.free 1 (by simp)
  have Z_f2 := Z.free 2 (by simp)
  have Z_t := Z.there
  have D_0 := D.cells 0 _ rfl
  have D_1 := D.cells 1 _ rfl
  have D_2 := D.cells 2 _ rfl
  have D_f0 := D.free 0 (by simp)
  have D_f1 := D.free 1 (by simp)
  have D_f2 := D.free 2 (by simp)
  have D_t := D.there
  cases hs : okT (sumR x y)
  · have HV := Lib.hid (join_no (jo2 hs))
    go_wp2
    clear B_0 B_1 B_2 B_f0 B_f1 B_f2 B_t
    clear C_0 C_1 C_2 C_f0 C_f1 C_f2 C_t
    clear Z_0 Z_1 Z_2 Z_f0 Z_f1 Z_f2 Z_t
    clear D_0 D_1 D_2 D_f0 D_f1 D_f2 D_t
    have B_t6 := B.there
    have C_t6 := C.there
    have Z_t6 := Z.there
    have D_t6 := D.there
    have B' : Box (w.heap.size) [.int .i64 x.f0, .int .i64 x.f1, .int .i64 x.f2] w _ := (((B.far Z.base (by omega) 0 (.int .i64 0)).far Z.base (by omega) 1 (.int .i64 0)).far Z.base (by omega) 2 (.int .i64 0))
    have C' : Box (w.heap.size + 1) [.int .i64 y.f0, .int .i64 y.f1, .int .i64 y.f2] w _ := (((C.far Z.base (by omega) 0 (.int .i64 0)).far Z.base (by omega) 1 (.int .i64 0)).far Z.base (by omega) 2 (.int .i64 0))
    have Z' : Box (w.heap.size + 1 + 1) [.int .i64 0, .int .i64 0, .int .i64 0] w _ := (((Z.set 0 (.int .i64 0)).set 1 (.int .i64 0)).set 2 (.int .i64 0))
    have D' : Box (v2.heap.size) [.int .i64 (x.f0+y.f0), .int .i64 (x.f1+y.f1), .int .i64 (x.f2+y.f2)] w _ := (((D.far Z.base (by omega) 0 (.int .i64 0)).far Z.base (by omega) 1 (.int .i64 0)).far Z.base (by omega) 2 (.int .i64 0))
    clear B; have B := B'; clear B'
    clear C; have C := C'; clear C'
    clear Z; have Z := Z'; clear Z'
    clear D; have D := D'; clear D'
    have sz6 : (((v5.setCell ⟨w.heap.size + 1 + 1, 0, none⟩ (.int .i64 0)).setCell ⟨w.heap.size + 1 + 1, 1, none⟩ (.int .i64 0)).setCell ⟨w.heap.size + 1 + 1, 2, none⟩ (.int .i64 0)).heap.size = v5.heap.size := by simp only [size_set']
    generalize (((v5.setCell ⟨w.heap.size + 1 + 1, 0, none⟩ (.int .i64 0)).setCell ⟨w.heap.size + 1 + 1, 1, none⟩ (.int .i64 0)).setCell ⟨w.heap.size + 1 + 1, 2, none⟩ (.int .i64 0)) = W6 at B C Z D sz6 ⊢
    replace sz6 := Lib.hid sz6
    have B_0 := B.cells 0 _ rfl
    have B_1 := B.cells 1 _ rfl
    have B_2 := B.cells 2 _ rfl
    have B_f0 := B.free 0 (by simp)
    have B_f1 := B.free 1 (by simp)
    have B_f2 := B.free 2 (by simp)
    have B_t := B.there
    have C_0 := C.cells 0 _ rfl
    have C_1 := C.cells 1 _ rfl
    have C_2 := C.cells 2 _ rfl
    have C_f0 := C.free 0 (by simp)
    have C_f1 := C.free 1 (by simp)
    have C_f2 := C.free 2 (by simp)
    have C_t := C.there
    have Z_0 := Z.cells 0 _ rfl
    have Z_1 := Z.cells 1 _ rfl
    have Z_2 := Z.cells 2 _ rfl
    have Z_f0 := Z.free 0 (by simp)
    have Z_f1 := Z.free 1 (by simp)
    have Z_f2 := Z.free 2 (by simp)
    have Z_t := Z.there
    have D_0 := D.cells 0 _ rfl
    have D_1 := D.cells 1 _ rfl
    have D_2 := D.cells 2 _ rfl
    have D_f0 := D.free 0 (by simp)
    have D_f1 := D.free 1 (by simp)
    have D_f2 := D.free 2 (by simp)
    have D_t := D.there
    exact bodyPost_ret (v := .tuple #[zero.val, .bool false]) (by simp [R.val, zero, results, Try.results34, go_sem, Z_0, Z_1, Z_2]) rfl (rpost (HV.out.symm) Z.below)
  have HV := Lib.hid (join_yes (jo3 HQ.out hs))
  go_wp2
  clear B_0 B_1 B_2 B_f0 B_f1 B_f2 B_t
  clear C_0 C_1 C_2 C_f0 C_f1 C_f2 C_t
  clear Z_0 Z_1 Z_2 Z_f0 Z_f1 Z_f2 Z_t
  clear D_0 D_1 D_2 D_f0 D_f1 D_f2 D_t
  have B_t7 := B.there
  have C_t7 := C.there
  have Z_t7 := Z.there
  have D_t7 := D.there
  have B' : Box (w.heap.size) [.int .i64 x.f0, .int .i64 x.f1, .int .i64 x.f2] w _ := (((B.far Z.base (by omega) 0 (.int .i64 (x.f0+y.f0))).far Z.base (by omega) 1 (.int .i64 (x.f1+y.f1))).far Z.base (by omega) 2 (.int .i64 (x.f2+y.f2)))
  have C' : Box (w.heap.size + 1) [.int .i64 y.f0, .int .i64 y.f1, .int .i64 y.f2] w _ := (((C.far Z.base (by omega) 0 (.int .i64 (x.f0+y.f0))).far Z.base (by omega) 1 (.int .i64 (x.f1+y.f1))).far Z.base (by omega) 2 (.int .i64 (x.f2+y.f2)))
  have Z' : Box (w.heap.size + 1 + 1) [.int .i64 (x.f0+y.f0), .int .i64 (x.f1+y.f1), .int .i64 (x.f2+y.f2)] w _ := (((Z.set 0 (.int .i64 (x.f0+y.f0))).set 1 (.int .i64 (x.f1+y.f1))).set 2 (.int .i64 (x.f2+y.f2)))
  have D' : Box (v2.heap.size) [.int .i64 (x.f0+y.f0), .int .i64 (x.f1+y.f1), .int .i64 (x.f2+y.f2)] w _ := (((D.far Z.base (by omega) 0 (.int .i64 (x.f0+y.f0))).far Z.base (by omega) 1 (.int .i64 (x.f1+y.f1))).far Z.base (by omega) 2 (.int .i64 (x.f2+y.f2)))
  clear B; have B := B'; clear B'
  clear C; have C := C'; clear C'
  clear Z; have Z := Z'; clear Z'
  clear D; have D := D'; clear D'
  have sz7 : (((v5.setCell ⟨w.heap.size + 1 + 1, 0, none⟩ (.int .i64 (x.f0+y.f0))).setCell ⟨w.heap.size + 1 + 1, 1, none⟩ (.int .i64 (x.f1+y.f1))).setCell ⟨w.heap.size + 1 + 1, 2, none⟩ (.int .i64 (x.f2+y.f2))).heap.size = v5.heap.size := by simp only [size_set']
  generalize (((v5.setCell ⟨w.heap.size + 1 + 1, 0, none⟩ (.int .i64 (x.f0+y.f0))).setCell ⟨w.heap.size + 1 + 1, 1, none⟩ (.int .i64 (x.f1+y.f1))).setCell ⟨w.heap.size + 1 + 1, 2, none⟩ (.int .i64 (x.f2+y.f2))) = W7 at B C Z D sz7 ⊢
  replace sz7 := Lib.hid sz7
  have B_0 := B.cells 0 _ rfl
  have B_1 := B.cells 1 _ rfl
  have B_2 := B.cells 2 _ rfl
  have B_f0 := B.free 0 (by simp)
  have B_f1 := B.free 1 (by simp)
  have B_f2 := B.free 2 (by simp)
  have B_t := B.there
  have C_0 := C.cells 0 _ rfl
  have C_1 := C.cells 1 _ rfl
  have C_2 := C.cells 2 _ rfl
  have C_f0 := C.free 0 (by simp)
  have C_f1 := C.free 1 (by simp)
  have C_f2 := C.free 2 (by simp)
  have C_t := C.there
  have Z_0 := Z.cells 0 _ rfl
  have Z_1 := Z.cells 1 _ rfl
  have Z_2 := Z.cells 2 _ rfl
  have Z_f0 := Z.free 0 (by simp)
  have Z_f1 := Z.free 1 (by simp)
  have Z_f2 := Z.free 2 (by simp)
  have Z_t := Z.there
  have D_0 := D.cells 0 _ rfl
  have D_1 := D.cells 1 _ rfl
  have D_2 := D.cells 2 _ rfl
  have D_f0 := D.free 0 (by simp)
  have D_f1 := D.free 1 (by simp)
  have D_f2 := D.free 2 (by simp)
  have D_t := D.there
  exact bodyPost_ret (v := .tuple #[.agg #[.int .i64 (x.f0 + y.f0), .int .i64 (x.f1 + y.f1), .int .i64 (x.f2 + y.f2)], .bool true]) (by simp [R.val, zero, results, Try.results34, go_sem, Z_0, Z_1, Z_2]) rfl (rpost (by rw [HV.out] <;> rfl) Z.below)
set_option maxHeartbeats 400000 in
theorem join_spec (x y : R) (w : World) : Calls Try.prog 35 #[.agg #[.int .i64 x.f0, .int .i64 x.f1, .int .i64 x.f2], .agg #[.int .i64 y.f0, .int .i64 y.f1, .int .i64 y.f2]] w (RPost (joinV x y) w) := by
  go_enter Try.func35, Try.ntmps35
  obtain ⟨z, hz⟩ : ∃ z : R, z = ⟨IntKind.i64.wrap (x.f0 + y.f0), IntKind.i64.wrap (x.f1 + y.f1), IntKind.i64.wrap (x.f2 + y.f2)⟩ := ⟨_, rfl⟩
  have z0 : IntKind.i64.wrap (x.f0 + y.f0) = z.f0 := by rw [hz]
  have z1 : IntKind.i64.wrap (x.f1 + y.f1) = z.f1 := by rw [hz]
  have z2 : IntKind.i64.wrap (x.f2 + y.f2) = z.f2 := by rw [hz]
  have HZ := Lib.hid hz; clear hz
  go_upto_region 2 with fail
  have B := (((Box.new (Below.refl _ w) [.int .i64 x.f0, .int .i64 x.f1, .int .i64 x.f2] 25 (g := w.heap.size) rfl).alloc (.cells #[.int .i64 y.f0, .int .i64 y.f1, .int .i64 y.f2] 25)).alloc (.cells #[.int .i64 0, .int .i64 0, .int .i64 0] 25)).alloc (.cells #[.int .i64 z.f0, .int .i64 z.f1, .int .i64 z.f2] 25)
  have C := ((Box.new (al (Below.refl _ w) (o := (.cells #[.int .i64 x.f0, .int .i64 x.f1, .int .i64 x.f2] 25))) [.int .i64 y.f0, .int .i64 y.f1, .int .i64 y.f2] 25 (g := w.heap.size + 1) (by simp only [size_alloc'])).alloc (.cells #[.int .i64 0, .int .i64 0, .int .i64 0] 25)).alloc (.cells #[.int .i64 z.f0, .int .i64 z.f1, .int .i64 z.f2] 25)
  have Z := (Box.new (al (al (Below.refl _ w) (o := (.cells #[.int .i64 x.f0, .int .i64 x.f1, .int .i64 x.f2] 25))) (o := (.cells #[.int .i64 y.f0, .int .i64 y.f1, .int .i64 y.f2] 25))) [.int .i64 0, .int .i64 0, .int .i64 0] 25 (g := w.heap.size + 1 + 1) (by simp only [size_alloc'])).alloc (.cells #[.int .i64 z.f0, .int .i64 z.f1, .int .i64 z.f2] 25)
  have D := Box.new (al (al (al (Below.refl _ w) (o := (.cells #[.int .i64 x.f0, .int .i64 x.f1, .int .i64 x.f2] 25))) (o := (.cells #[.int .i64 y.f0, .int .i64 y.f1, .int .i64 y.f2] 25))) (o := (.cells #[.int .i64 0, .int .i64 0, .int .i64 0] 25))) [.int .i64 z.f0, .int .i64 z.f1, .int .i64 z.f2] 25 (g := w.heap.size + 1 + 1 + 1) (by simp only [size_alloc'])
  generalize ((((w.alloc (.cells #[.int .i64 x.f0, .int .i64 x.f1, .int .i64 x.f2] 25)).alloc (.cells #[.int .i64 y.f0, .int .i64 y.f1, .int .i64 y.f2] 25)).alloc (.cells #[.int .i64 0, .int .i64 0, .int .i64 0] 25)).alloc (.cells #[.int .i64 z.f0, .int .i64 z.f1, .int .i64 z.f2] 25)) = W1 at B C Z D ⊢
  have B_0 := B.cells 0 _ rfl
  have B_1 := B.cells 1 _ rfl
  have B_2 := B.cells 2 _ rfl
  have B_f0 := B.free 0 (by simp)
  have B_f1 := B.free 1 (by simp)
  have B_f2 := B.free 2 (by simp)
  have B_t := B.there
  have C_0 := C.cells 0 _ rfl
  have C_1 := C.cells 1 _ rfl
  have C_2 := C.cells 2 _ rfl
  have C_f0 := C.free 0 (by simp)
  have C_f1 := C.free 1 (by simp)
  have C_f2 := C.free 2 (by simp)
  have C_t := C.there
  have Z_0 := Z.cells 0 _ rfl
  have Z_1 := Z.cells 1 _ rfl
  have Z_2 := Z.cells 2 _ rfl
  have Z_f0 := Z.free 0 (by simp)
  have Z_f1 := Z.free 1 (by simp)
  have Z_f2 := Z.free 2 (by simp)
  have Z_t := Z.there
  have D_0 := D.cells 0 _ rfl
  have D_1 := D.cells 1 _ rfl
  have D_2 := D.cells 2 _ rfl
  have D_f0 := D.free 0 (by simp)
  have D_f1 := D.free 1 (by simp)
  have D_f2 := D.free 2 (by simp)
  have D_t := D.there
  go_wp2_with fail
  refine (good_spec x _).mono ?_
  rintro e v2 ⟨rfl, hv2⟩
  clear B_0 B_1 B_2 B_f0 B_f1 B_f2 B_t
  clear C_0 C_1 C_2 C_f0 C_f1 C_f2 C_t
  clear Z_0 Z_1 Z_2 Z_f0 Z_f1 Z_f2 Z_t
  clear D_0 D_1 D_2 D_f0 D_f1 D_f2 D_t
  replace B := B.more hv2
  replace C := C.more hv2
  replace Z := Z.more hv2
  replace D := D.more hv2
  have zhv2 := hv2.size
  clear hv2
  have B_0 := B.cells 0 _ rfl
  have B_1 := B.cells 1 _ rfl
  have B_2 := B.cells 2 _ rfl
  have B_f0 := B.free 0 (by simp)
  have B_f1 := B.free 1 (by simp)
  have B_f2 := B.free 2 (by simp)
  have B_t := B.there
  have C_0 := C.cells 0 _ rfl
  have C_1 := C.cells 1 _ rfl
  have C_2 := C.cells 2 _ rfl
  have C_f0 := C.free 0 (by simp)
  have C_f1 := C.free 1 (by simp)
  have C_f2 := C.free 2 (by simp)
  have C_t := C.there
  have Z_0 := Z.cells 0 _ rfl
  have Z_1 := Z.cells 1 _ rfl
  have Z_2 := Z.cells 2 _ rfl
  have Z_f0 := Z.free 0 (by simp)
  have Z_f1 := Z.free 1 (by simp)
  have Z_f2 := Z.free 2 (by simp)
  have Z_t := Z.there
  have D_0 := D.cells 0 _ rfl
  have D_1 := D.cells 1 _ rfl
  have D_2 := D.cells 2 _ rfl
  have D_f0 := D.free 0 (by simp)
  have D_f1 := D.free 1 (by simp)
  have D_f2 := D.free 2 (by simp)
  have D_t := D.there
  cases hx : okT x
  · have HV := Lib.hid (join_no (jo1 (x := x) (y := y) (by rw [hx]; rfl)))
    go_wp2
    clear B_0 B_1 B_2 B_f0 B_f1 B_f2 B_t
    clear C_0 C_1 C_2 C_f0 C_f1 C_f2 C_t
    clear Z_0 Z_1 Z_2 Z_f0 Z_f1 Z_f2 Z_t
    clear D_0 D_1 D_2 D_f0 D_f1 D_f2 D_t
    have B_t3 := B.there
    have C_t3 := C.there
    have Z_t3 := Z.there
    have D_t3 := D.there
    have B' : Box (w.heap.size) [.int .i64 x.f0, .int .i64 x.f1, .int .i64 x.f2] w _ := (((B.far Z.base (by omega) 0 (.int .i64 0)).far Z.base (by omega) 1 (.int .i64 0)).far Z.base (by omega) 2 (.int .i64 0))
    have C' : Box (w.heap.size + 1) [.int .i64 y.f0, .int .i64 y.f1, .int .i64 y.f2] w _ := (((C.far Z.base (by omega) 0 (.int .i64 0)).far Z.base (by omega) 1 (.int .i64 0)).far Z.base (by omega) 2 (.int .i64 0))
    have Z' : Box (w.heap.size + 1 + 1) [.int .i64 0, .int .i64 0, .int .i64 0] w _ := (((Z.set 0 (.int .i64 0)).set 1 (.int .i64 0)).set 2 (.int .i64 0))
    have D' : Box (w.heap.size + 1 + 1 + 1) [.int .i64 z.f0, .int .i64 z.f1, .int .i64 z.f2] w _ := (((D.far Z.base (by omega) 0 (.int .i64 0)).far Z.base (by omega) 1 (.int .i64 0)).far Z.base (by omega) 2 (.int .i64 0))
    clear B; have B := B'; clear B'
    clear C; have C := C'; clear C'
    clear Z; have Z := Z'; clear Z'
    clear D; have D := D'; clear D'
    have sz3 : (((v2.setCell ⟨w.heap.size + 1 + 1, 0, none⟩ (.int .i64 0)).setCell ⟨w.heap.size + 1 + 1, 1, none⟩ (.int .i64 0)).setCell ⟨w.heap.size + 1 + 1, 2, none⟩ (.int .i64 0)).heap.size = v2.heap.size := by simp only [size_set']
    generalize (((v2.setCell ⟨w.heap.size + 1 + 1, 0, none⟩ (.int .i64 0)).setCell ⟨w.heap.size + 1 + 1, 1, none⟩ (.int .i64 0)).setCell ⟨w.heap.size + 1 + 1, 2, none⟩ (.int .i64 0)) = W3 at B C Z D sz3 ⊢
    replace sz3 := Lib.hid sz3
    have B_0 := B.cells 0 _ rfl
    have B_1 := B.cells 1 _ rfl
    have B_2 := B.cells 2 _ rfl
    have B_f0 := B.free 0 (by simp)
    have B_f1 := B.free 1 (by simp)
    have B_f2 := B.free 2 (by simp)
    have B_t := B.there
    have C_0 := C.cells 0 _ rfl
    have C_1 := C.cells 1 _ rfl
    have C_2 := C.cells 2 _ rfl
    have C_f0 := C.free 0 (by simp)
    have C_f1 := C.free 1 (by simp)
    have C_f2 := C.free 2 (by simp)
    have C_t := C.there
    have Z_0 := Z.cells 0 _ rfl
    have Z_1 := Z.cells 1 _ rfl
    have Z_2 := Z.cells 2 _ rfl
    have Z_f0 := Z.free 0 (by simp)
    have Z_f1 := Z.free 1 (by simp)
    have Z_f2 := Z.free 2 (by simp)
    have Z_t := Z.there
    have D_0 := D.cells 0 _ rfl
    have D_1 := D.cells 1 _ rfl
    have D_2 := D.cells 2 _ rfl
    have D_f0 := D.free 0 (by simp)
    have D_f1 := D.free 1 (by simp)
    have D_f2 := D.free 2 (by simp)
    have D_t := D.there
    exact bodyPost_ret (v := .tuple #[zero.val, .bool false]) (by simp [R.val, zero, results, Try.results35, go_sem, Z_0, Z_1, Z_2]) rfl (rpost (HV.out.symm) Z.below)
  go_wp2_with fail
  refine (good_spec y _).mono ?_
  rintro e v4 ⟨rfl, hv4⟩
  clear B_0 B_1 B_2 B_f0 B_f1 B_f2 B_t
  clear C_0 C_1 C_2 C_f0 C_f1 C_f2 C_t
  clear Z_0 Z_1 Z_2 Z_f0 Z_f1 Z_f2 Z_t
  clear D_0 D_1 D_2 D_f0 D_f1 D_f2 D_t
  replace B := B.more hv4
  replace C := C.more hv4
  replace Z := Z.more hv4
  replace D := D.more hv4
  have zhv4 := hv4.size
  clear hv4
  have B_0 := B.cells 0 _ rfl
  have B_1 := B.cells 1 _ rfl
  have B_2 := B.cells 2 _ rfl
  have B_f0 := B.free 0 (by simp)
  have B_f1 := B.free 1 (by simp)
  have B_f2 := B.free 2 (by simp)
  have B_t := B.there
  have C_0 := C.cells 0 _ rfl
  have C_1 := C.cells 1 _ rfl
  have C_2 := C.cells 2 _ rfl
  have C_f0 := C.free 0 (by simp)
  have C_f1 := C.free 1 (by simp)
  have C_f2 := C.free 2 (by simp)
  have C_t := C.there
  have Z_0 := Z.cells 0 _ rfl
  have Z_1 := Z.cells 1 _ rfl
  have Z_2 := Z.cells 2 _ rfl
  have Z_f0 := Z.free 0 (by simp)
  have Z_f1 := Z.free 1 (by simp)
  have Z_f2 := Z.free 2 (by simp)
  have Z_t := Z.there
  have D_0 := D.cells 0 _ rfl
  have D_1 := D.cells 1 _ rfl
  have D_2 := D.cells 2 _ rfl
  have D_f0 := D.free 0 (by simp)
  have D_f1 := D.free 1 (by simp)
  have D_f2 := D.free 2 (by simp)
  have D_t := D.there
  cases hy : okT y
  · have HV := Lib.hid (join_no (jo1 (x := x) (y := y) (by rw [hy, Bool.and_false])))
    go_wp2
    clear B_0 B_1 B_2 B_f0 B_f1 B_f2 B_t
    clear C_0 C_1 C_2 C_f0 C_f1 C_f2 C_t
    clear Z_0 Z_1 Z_2 Z_f0 Z_f1 Z_f2 Z_t
    clear D_0 D_1 D_2 D_f0 D_f1 D_f2 D_t
    have B_t5 := B.there
    have C_t5 := C.there
    have Z_t5 := Z.there
    have D_t5 := D.there
    have B' : Box (w.heap.size) [.int .i64 x.f0, .int .i64 x.f1, .int .i64 x.f2] w _ := (((B.far Z.base (by omega) 0 (.int .i64 0)).far Z.base (by omega) 1 (.int .i64 0)).far Z.base (by omega) 2 (.int .i64 0))
    have C' : Box (w.heap.size + 1) [.int .i64 y.f0, .int .i64 y.f1, .int .i64 y.f2] w _ := (((C.far Z.base (by omega) 0 (.int .i64 0)).far Z.base (by omega) 1 (.int .i64 0)).far Z.base (by omega) 2 (.int .i64 0))
    have Z' : Box (w.heap.size + 1 + 1) [.int .i64 0, .int .i64 0, .int .i64 0] w _ := (((Z.set 0 (.int .i64 0)).set 1 (.int .i64 0)).set 2 (.int .i64 0))
    have D' : Box (w.heap.size + 1 + 1 + 1) [.int .i64 z.f0, .int .i64 z.f1, .int .i64 z.f2] w _ := (((D.far Z.base (by omega) 0 (.int .i64 0)).far Z.base (by omega) 1 (.int .i64 0)).far Z.base (by omega) 2 (.int .i64 0))
    clear B; have B := B'; clear B'
    clear C; have C := C'; clear C'
    clear Z; have Z := Z'; clear Z'
    clear D; have D := D'; clear D'
    have sz5 : (((v4.setCell ⟨w.heap.size + 1 + 1, 0, none⟩ (.int .i64 0)).setCell ⟨w.heap.size + 1 + 1, 1, none⟩ (.int .i64 0)).setCell ⟨w.heap.size + 1 + 1, 2, none⟩ (.int .i64 0)).heap.size = v4.heap.size := by simp only [size_set']
    generalize (((v4.setCell ⟨w.heap.size + 1 + 1, 0, none⟩ (.int .i64 0)).setCell ⟨w.heap.size + 1 + 1, 1, none⟩ (.int .i64 0)).setCell ⟨w.heap.size + 1 + 1, 2, none⟩ (.int .i64 0)) = W5 at B C Z D sz5 ⊢
    replace sz5 := Lib.hid sz5
    have B_0 := B.cells 0 _ rfl
    have B_1 := B.cells 1 _ rfl
    have B_2 := B.cells 2 _ rfl
    have B_f0 := B.free 0 (by simp)
    have B_f1 := B.free 1 (by simp)
    have B_f2 := B.free 2 (by simp)
    have B_t := B.there
    have C_0 := C.cells 0 _ rfl
    have C_1 := C.cells 1 _ rfl
    have C_2 := C.cells 2 _ rfl
    have C_f0 := C.free 0 (by simp)
    have C_f1 := C.free 1 (by simp)
    have C_f2 := C.free 2 (by simp)
    have C_t := C.there
    have Z_0 := Z.cells 0 _ rfl
    have Z_1 := Z.cells 1 _ rfl
    have Z_2 := Z.cells 2 _ rfl
    have Z_f0 := Z.free 0 (by simp)
    have Z_f1 := Z.free 1 (by simp)
    have Z_f2 := Z.free 2 (by simp)
    have Z_t := Z.there
    have D_0 := D.cells 0 _ rfl
    have D_1 := D.cells 1 _ rfl
    have D_2 := D.cells 2 _ rfl
    have D_f0 := D.free 0 (by simp)
    have D_f1 := D.free 1 (by simp)
    have D_f2 := D.free 2 (by simp)
    have D_t := D.there
    exact bodyPost_ret (v := .tuple #[zero.val, .bool false]) (by simp [R.val, zero, results, Try.results35, go_sem, Z_0, Z_1, Z_2]) rfl (rpost (HV.out.symm) Z.below)
  obtain ⟨a0, a1, a2, a3, a4, a5⟩ := okT_true hx
  obtain ⟨b0, b1, b2, b3, b4, b5⟩ := okT_true hy
  have HS := Lib.hid (show z = sumR x y by
    rw [HZ.out]; unfold sumR
    rw [IntWalk.i64_in (x.f0 + y.f0) (by omega), IntWalk.i64_in (x.f1 + y.f1) (by omega), IntWalk.i64_in (x.f2 + y.f2) (by omega)])
  go_wp2_with fail
  refine (good_spec z _).mono ?_
  rintro e v6 ⟨rfl, hv6⟩
  clear B_0 B_1 B_2 B_f0 B_f1 B_f2 B_t
  clear C_0 C_1 C_2 C_f0 C_f1 C_f2 C_t
  clear Z_0 Z_1 Z_2 Z_f0 Z_f1 Z_f2 Z_t
  clear D_0 D_1 D_2 D_f0 D_f1 D_f2 D_t
  replace B := B.more hv6
  replace C := C.more hv6
  replace Z := Z.more hv6
  replace D := D.more hv6
  have zhv6 := hv6.size
  clear hv6
  have B_0 := B.cells 0 _ rfl
  have B_1 := B.cells 1 _ rfl
  have B_2 := B.cells 2 _ rfl
  have B_f0 := B.free 0 (by simp)
  have B_f1 := B.free 1 (by simp)
  have B_f2 := B.free 2 (by simp)
  have B_t := B.there
  have C_0 := C.cells 0 _ rfl
  have C_1 := C.cells 1 _ rfl
  have C_2 := C.cells 2 _ rfl
  have C_f0 := C.free 0 (by simp)
  have C_f1 := C.free 1 (by simp)
  have C_f2 := C.free 2 (by simp)
  have C_t := C.there
  have Z_0 := Z.cells 0 _ rfl
  have Z_1 := Z.cells 1 _ rfl
  have Z_2 := Z.cells 2 _ rfl
  have Z_f0 := Z.free 0 (by simp)
  have Z_f1 := Z.free 1 (by simp)
  have Z_f2 := Z.free 2 (by simp)
  have Z_t := Z.there
  have D_0 := D.cells 0 _ rfl
  have D_1 := D.cells 1 _ rfl
  have D_2 := D.cells 2 _ rfl
  have D_f0 := D.free 0 (by simp)
  have D_f1 := D.free 1 (by simp)
  have D_f2 := D.free 2 (by simp)
  have D_t := D.there
  cases hs : okT z
  · have HV := Lib.hid (join_no (jo2 (by rw [← HS.out]; exact hs)))
    go_wp2
    clear B_0 B_1 B_2 B_f0 B_f1 B_f2 B_t
    clear C_0 C_1 C_2 C_f0 C_f1 C_f2 C_t
    clear Z_0 Z_1 Z_2 Z_f0 Z_f1 Z_f2 Z_t
    clear D_0 D_1 D_2 D_f0 D_f1 D_f2 D_t
    have B_t7 := B.there
    have C_t7 := C.there
    have Z_t7 := Z.there
    have D_t7 := D.there
    have B' : Box (w.heap.size) [.int .i64 x.f0, .int .i64 x.f1, .int .i64 x.f2] w _ := (((B.far Z.base (by omega) 0 (.int .i64 0)).far Z.base (by omega) 1 (.int .i64 0)).far Z.base (by omega) 2 (.int .i64 0))
    have C' : Box (w.heap.size + 1) [.int .i64 y.f0, .int .i64 y.f1, .int .i64 y.f2] w _ := (((C.far Z.base (by omega) 0 (.int .i64 0)).far Z.base (by omega) 1 (.int .i64 0)).far Z.base (by omega) 2 (.int .i64 0))
    have Z' : Box (w.heap.size + 1 + 1) [.int .i64 0, .int .i64 0, .int .i64 0] w _ := (((Z.set 0 (.int .i64 0)).set 1 (.int .i64 0)).set 2 (.int .i64 0))
    have D' : Box (w.heap.size + 1 + 1 + 1) [.int .i64 z.f0, .int .i64 z.f1, .int .i64 z.f2] w _ := (((D.far Z.base (by omega) 0 (.int .i64 0)).far Z.base (by omega) 1 (.int .i64 0)).far Z.base (by omega) 2 (.int .i64 0))
    clear B; have B := B'; clear B'
    clear C; have C := C'; clear C'
    clear Z; have Z := Z'; clear Z'
    clear D; have D := D'; clear D'
    have sz7 : (((v6.setCell ⟨w.heap.size + 1 + 1, 0, none⟩ (.int .i64 0)).setCell ⟨w.heap.size + 1 + 1, 1, none⟩ (.int .i64 0)).setCell ⟨w.heap.size + 1 + 1, 2, none⟩ (.int .i64 0)).heap.size = v6.heap.size := by simp only [size_set']
    generalize (((v6.setCell ⟨w.heap.size + 1 + 1, 0, none⟩ (.int .i64 0)).setCell ⟨w.heap.size + 1 + 1, 1, none⟩ (.int .i64 0)).setCell ⟨w.heap.size + 1 + 1, 2, none⟩ (.int .i64 0)) = W7 at B C Z D sz7 ⊢
    replace sz7 := Lib.hid sz7
    have B_0 := B.cells 0 _ rfl
    have B_1 := B.cells 1 _ rfl
    have B_2 := B.cells 2 _ rfl
    have B_f0 := B.free 0 (by simp)
    have B_f1 := B.free 1 (by simp)
    have B_f2 := B.free 2 (by simp)
    have B_t := B.there
    have C_0 := C.cells 0 _ rfl
    have C_1 := C.cells 1 _ rfl
    have C_2 := C.cells 2 _ rfl
    have C_f0 := C.free 0 (by simp)
    have C_f1 := C.free 1 (by simp)
    have C_f2 := C.free 2 (by simp)
    have C_t := C.there
    have Z_0 := Z.cells 0 _ rfl
    have Z_1 := Z.cells 1 _ rfl
    have Z_2 := Z.cells 2 _ rfl
    have Z_f0 := Z.free 0 (by simp)
    have Z_f1 := Z.free 1 (by simp)
    have Z_f2 := Z.free 2 (by simp)
    have Z_t := Z.there
    have D_0 := D.cells 0 _ rfl
    have D_1 := D.cells 1 _ rfl
    have D_2 := D.cells 2 _ rfl
    have D_f0 := D.free 0 (by simp)
    have D_f1 := D.free 1 (by simp)
    have D_f2 := D.free 2 (by simp)
    have D_t := D.there
    exact bodyPost_ret (v := .tuple #[zero.val, .bool false]) (by simp [R.val, zero, results, Try.results35, go_sem, Z_0, Z_1, Z_2]) rfl (rpost (HV.out.symm) Z.below)
  have HV := Lib.hid (join_yes (jo3 (x := x) (y := y) (by rw [hx, hy]; rfl) (by rw [← HS.out]; exact hs)))
  go_wp2
  clear B_0 B_1 B_2 B_f0 B_f1 B_f2 B_t
  clear C_0 C_1 C_2 C_f0 C_f1 C_f2 C_t
  clear Z_0 Z_1 Z_2 Z_f0 Z_f1 Z_f2 Z_t
  clear D_0 D_1 D_2 D_f0 D_f1 D_f2 D_t
  have B_t8 := B.there
  have C_t8 := C.there
  have Z_t8 := Z.there
  have D_t8 := D.there
  have B' : Box (w.heap.size) [.int .i64 x.f0, .int .i64 x.f1, .int .i64 x.f2] w _ := (((B.far Z.base (by omega) 0 (.int .i64 z.f0)).far Z.base (by omega) 1 (.int .i64 z.f1)).far Z.base (by omega) 2 (.int .i64 z.f2))
  have C' : Box (w.heap.size + 1) [.int .i64 y.f0, .int .i64 y.f1, .int .i64 y.f2] w _ := (((C.far Z.base (by omega) 0 (.int .i64 z.f0)).far Z.base (by omega) 1 (.int .i64 z.f1)).far Z.base (by omega) 2 (.int .i64 z.f2))
  have Z' : Box (w.heap.size + 1 + 1) [.int .i64 z.f0, .int .i64 z.f1, .int .i64 z.f2] w _ := (((Z.set 0 (.int .i64 z.f0)).set 1 (.int .i64 z.f1)).set 2 (.int .i64 z.f2))
  have D' : Box (w.heap.size + 1 + 1 + 1) [.int .i64 z.f0, .int .i64 z.f1, .int .i64 z.f2] w _ := (((D.far Z.base (by omega) 0 (.int .i64 z.f0)).far Z.base (by omega) 1 (.int .i64 z.f1)).far Z.base (by omega) 2 (.int .i64 z.f2))
  clear B; have B := B'; clear B'
  clear C; have C := C'; clear C'
  clear Z; have Z := Z'; clear Z'
  clear D; have D := D'; clear D'
  have sz8 : (((v6.setCell ⟨w.heap.size + 1 + 1, 0, none⟩ (.int .i64 z.f0)).setCell ⟨w.heap.size + 1 + 1, 1, none⟩ (.int .i64 z.f1)).setCell ⟨w.heap.size + 1 + 1, 2, none⟩ (.int .i64 z.f2)).heap.size = v6.heap.size := by simp only [size_set']
  generalize (((v6.setCell ⟨w.heap.size + 1 + 1, 0, none⟩ (.int .i64 z.f0)).setCell ⟨w.heap.size + 1 + 1, 1, none⟩ (.int .i64 z.f1)).setCell ⟨w.heap.size + 1 + 1, 2, none⟩ (.int .i64 z.f2)) = W8 at B C Z D sz8 ⊢
  replace sz8 := Lib.hid sz8
  have B_0 := B.cells 0 _ rfl
  have B_1 := B.cells 1 _ rfl
  have B_2 := B.cells 2 _ rfl
  have B_f0 := B.free 0 (by simp)
  have B_f1 := B.free 1 (by simp)
  have B_f2 := B.free 2 (by simp)
  have B_t := B.there
  have C_0 := C.cells 0 _ rfl
  have C_1 := C.cells 1 _ rfl
  have C_2 := C.cells 2 _ rfl
  have C_f0 := C.free 0 (by simp)
  have C_f1 := C.free 1 (by simp)
  have C_f2 := C.free 2 (by simp)
  have C_t := C.there
  have Z_0 := Z.cells 0 _ rfl
  have Z_1 := Z.cells 1 _ rfl
  have Z_2 := Z.cells 2 _ rfl
  have Z_f0 := Z.free 0 (by simp)
  have Z_f1 := Z.free 1 (by simp)
  have Z_f2 := Z.free 2 (by simp)
  have Z_t := Z.there
  have D_0 := D.cells 0 _ rfl
  have D_1 := D.cells 1 _ rfl
  have D_2 := D.cells 2 _ rfl
  have D_f0 := D.free 0 (by simp)
  have D_f1 := D.free 1 (by simp)
  have D_f2 := D.free 2 (by simp)
  have D_t := D.there
  exact bodyPost_ret (v := .tuple #[.agg #[.int .i64 z.f0, .int .i64 z.f1, .int .i64 z.f2], .bool true]) (by simp [R.val, zero, results, Try.results35, go_sem, Z_0, Z_1, Z_2]) rfl (rpost (by rw [HV.out, ← HS.out] <;> rfl) Z.below)
end Go.Proofs.Ytpokgnkcnibapaa.BatU
