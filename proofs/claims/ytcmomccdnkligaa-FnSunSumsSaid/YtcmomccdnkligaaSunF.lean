/- Suns: who may ask, spans, the brine after all days of a span. -/
import Derived.Test.YtcmomccdnkligaaSunE
namespace Go.Proofs.Ytcmomccdnkligaa.SunF
open Go.RowKit Go.Proofs.Ytcmomccdnkligaa.Mem Go.Proofs.Ytcmomccdnkligaa.Base Go.Proofs.Ytcmomccdnkligaa.Within Go.Proofs.Ytcmomccdnkligaa.Brine Go.Proofs.Ytcmomccdnkligaa.Brine2 Go.Proofs.Ytcmomccdnkligaa.Regn Go.Proofs.Ytcmomccdnkligaa.Boxes Go.Proofs.Ytcmomccdnkligaa.Keep Go.Proofs.Ytcmomccdnkligaa.SSun Go.Proofs.Ytcmomccdnkligaa.Sun Go.Proofs.Ytcmomccdnkligaa.SunA Go.Proofs.Ytcmomccdnkligaa.SunS Go.Proofs.Ytcmomccdnkligaa.SunE
set_option linter.unusedVariables false
set_option maxRecDepth 100000
abbrev RPost := Brine.RPost
theorem rpost {v u : Value} {w w' : World} (h : u = v) (hw : Below w.heap.size w w') : RPost v w (.returned u) w' := ⟨by rw [h], hw⟩
theorem ask_okB {l : List R} {p q a : Int} (h : okB p q = false) : askOk l p q a = false := ask2 (by unfold IBrine.okM; rw [h]; rfl)
theorem ask_mass {l : List R} {p q a : Int} (h : p + q = 0) : askOk l p q a = false := ask2 (by unfold IBrine.okM; simp [h])
theorem okM_mk {p q : Int} (h : okB p q = true) (h1 : ¬ (p + q = 0)) : IBrine.okM ⟨p, q⟩ = true := by unfold IBrine.okM; simp [h, h1]
theorem ask_spec (P : Option Addr) (cap : Nat) (l : List R) (p q a : Int) (w : World) (hr : Rd w w.heap.size P (flat l)) (hn : l.length ≤ 1048576) :
    Calls Try.prog 60 #[.slice P l.length cap, .agg #[.int .i64 p, .int .i64 q], .int .i64 a] w (RPost (.bool (askOk l p q a)) w) := by
  have HR := Lib.hid hr; clear hr
  go_enter Try.func60, Try.ntmps60
  go_wp2_with fail
  have B := Box.new (Below.refl _ w) [.int .i64 p, .int .i64 q] 26 (g := w.heap.size) rfl
  generalize (w.alloc (.cells #[.int .i64 p, .int .i64 q] 26)) = W1 at B ⊢
  have B_0 := B.cells 0 _ rfl
  have B_1 := B.cells 1 _ rfl
  have B_f0 := B.free 0 (by simp)
  have B_f1 := B.free 1 (by simp)
  have B_t := B.there
  go_wp2_with fail
  refine (SunG.good_spec P cap l _ (rd_keep HR.out B.below) hn).mono ?_
  rintro e v2 ⟨rfl, hv2⟩
  clear B_0 B_1 B_f0 B_f1 B_t
  replace B := B.more hv2
  have zhv2 := hv2.size
  clear hv2
  have B_0 := B.cells 0 _ rfl
  have B_1 := B.cells 1 _ rfl
  have B_f0 := B.free 0 (by simp)
  have B_f1 := B.free 1 (by simp)
  have B_t := B.there
  cases hg : good l
  · have HV := Lib.hid (ask1 (p := p) (q := q) (a := a) hg)
    go_wp2
    go_ret
    exact rpost (by rw [HV.out] <;> rfl) B.below
  go_wp2_with fail
  refine (brine_spec p q _).mono ?_
  rintro e v3 ⟨rfl, hv3⟩
  clear B_0 B_1 B_f0 B_f1 B_t
  replace B := B.more hv3
  have zhv3 := hv3.size
  clear hv3
  have B_0 := B.cells 0 _ rfl
  have B_1 := B.cells 1 _ rfl
  have B_f0 := B.free 0 (by simp)
  have B_f1 := B.free 1 (by simp)
  have B_t := B.there
  cases hok : okB p q
  · have HV := Lib.hid (ask_okB (l := l) (a := a) hok)
    go_wp2
    go_ret
    exact rpost (by rw [HV.out] <;> rfl) B.below
  obtain ⟨hp, hp1, hq, hq1⟩ := okB_true hok
  go_wp2_with fail
  refine (mass_spec p q hp hp1 hq hq1 _).mono ?_
  rintro e v4 ⟨rfl, hv4⟩
  clear B_0 B_1 B_f0 B_f1 B_t
  replace B := B.more hv4
  have zhv4 := hv4.size
  clear hv4
  have B_0 := B.cells 0 _ rfl
  have B_1 := B.cells 1 _ rfl
  have B_f0 := B.free 0 (by simp)
  have B_f1 := B.free 1 (by simp)
  have B_t := B.there
  by_cases h0 : p + q = 0
  · have HV := Lib.hid (ask_mass (l := l) (a := a) h0)
    have hz : decide (0 < p + q) = false := decide_eq_false (by omega)
    clear h0
    go_wp2
    go_ret
    exact rpost (by rw [HV.out] <;> rfl) B.below
  have hz : decide (0 < p + q) = true := decide_eq_true (by omega)
  have HM := Lib.hid (okM_mk hok h0)
  clear h0 hok
  go_wp2_with fail
  refine (in_any a 1 100000 _).mono ?_
  rintro e _ ⟨rfl, rfl⟩
  cases ha : inB a 1 100000
  · have HV := Lib.hid (ask3 (l := l) (p := p) (q := q) ha)
    go_wp2
    go_ret
    exact rpost (by rw [HV.out] <;> rfl) B.below
  · have HV := Lib.hid (ask4 hg HM.out ha)
    go_wp2
    go_ret
    exact rpost (by rw [HV.out] <;> rfl) B.below
theorem ask_impl (P : Option Addr) (cap : Nat) (l : List R) (p q a : Int) (w : World) (hr : Rd w w.heap.size P (flat l)) (hn : l.length ≤ 1048576) :
    Calls Try.prog 56 #[.slice P l.length cap, .agg #[.int .i64 p, .int .i64 q], .int .i64 a] w (RPost (.bool (askOk l p q a)) w) := by
  have HR := Lib.hid hr; clear hr
  go_enter Try.func56, Try.ntmps56
  go_wp2_with fail
  have B := Box.new (Below.refl _ w) [.int .i64 p, .int .i64 q] 26 (g := w.heap.size) rfl
  generalize (w.alloc (.cells #[.int .i64 p, .int .i64 q] 26)) = W1 at B ⊢
  have B_0 := B.cells 0 _ rfl
  have B_1 := B.cells 1 _ rfl
  have B_f0 := B.free 0 (by simp)
  have B_f1 := B.free 1 (by simp)
  have B_t := B.there
  go_wp2_with fail
  refine (SunG.are_impl P cap l _ (rd_keep HR.out B.below) hn).mono ?_
  rintro e v2 ⟨rfl, hv2⟩
  clear B_0 B_1 B_f0 B_f1 B_t
  replace B := B.more hv2
  have zhv2 := hv2.size
  clear hv2
  have B_0 := B.cells 0 _ rfl
  have B_1 := B.cells 1 _ rfl
  have B_f0 := B.free 0 (by simp)
  have B_f1 := B.free 1 (by simp)
  have B_t := B.there
  cases hg : good l
  · have HV := Lib.hid (ask1 (p := p) (q := q) (a := a) hg)
    go_wp2
    go_ret
    exact rpost (by rw [HV.out] <;> rfl) B.below
  go_wp2_with fail
  have B_t3 := B.there
  have X := Box.new B.below [.int .i64 p, .int .i64 q] 26 (g := v2.heap.size) rfl
  clear B_0 B_1 B_f0 B_f1 B_t
  replace B := (B).alloc (.cells #[.int .i64 p, .int .i64 q] 26)
  generalize (v2.alloc (.cells #[.int .i64 p, .int .i64 q] 26)) = W3 at X B ⊢
  have B_0 := B.cells 0 _ rfl
  have B_1 := B.cells 1 _ rfl
  have B_f0 := B.free 0 (by simp)
  have B_f1 := B.free 1 (by simp)
  have B_t := B.there
  have X_0 := X.cells 0 _ rfl
  have X_1 := X.cells 1 _ rfl
  have X_f0 := X.free 0 (by simp)
  have X_f1 := X.free 1 (by simp)
  have X_t := X.there
  go_wp2_with fail
  refine (IBrine.have_any _ _ [⟨p, q⟩] _ X.rd (by simp)).mono ?_
  rintro e v4 ⟨rfl, hv4⟩
  clear B_0 B_1 B_f0 B_f1 B_t
  clear X_0 X_1 X_f0 X_f1 X_t
  replace B := B.more hv4
  replace X := X.more hv4
  have zhv4 := hv4.size
  clear hv4
  have B_0 := B.cells 0 _ rfl
  have B_1 := B.cells 1 _ rfl
  have B_f0 := B.free 0 (by simp)
  have B_f1 := B.free 1 (by simp)
  have B_t := B.there
  have X_0 := X.cells 0 _ rfl
  have X_1 := X.cells 1 _ rfl
  have X_f0 := X.free 0 (by simp)
  have X_f1 := X.free 1 (by simp)
  have X_t := X.there
  rw [IBrine.all1]
  cases hm : IBrine.okM ⟨p, q⟩
  · have HV := Lib.hid (ask2 (l := l) (a := a) hm)
    go_wp2
    go_ret
    exact rpost (by rw [HV.out] <;> rfl) B.below
  go_wp2_with fail
  refine (within_any a 1 100000 _).mono ?_
  rintro e _ ⟨rfl, rfl⟩
  cases ha : inB a 1 100000
  · have HV := Lib.hid (ask3 (l := l) (p := p) (q := q) ha)
    go_wp2
    go_ret
    exact rpost (by rw [HV.out] <;> rfl) B.below
  · have HV := Lib.hid (ask4 hg hm ha)
    go_wp2
    go_ret
    exact rpost (by rw [HV.out] <;> rfl) B.below
theorem span_spec (f t : Int) (w : World) : Calls Try.prog 69 #[.int .i64 f, .int .i64 t] w (BPost (spanOk f t) w) := by
  have HV := Lib.hid (show spanOk f t = (inB f 0 4000 && inB t 0 4000 && decide (f ≤ t)) from rfl)
  cases h1 : inB f 0 4000
  · go_enter Try.func69, Try.ntmps69
    go_wp2_with (go_at_call 61; (with_reducible refine (day_spec _ _).mono ?_); rintro e' w' ⟨rfl, rfl⟩)
    go_ret
    exact bpost (by rw [HV.out, h1] <;> rfl)
  cases h2 : inB t 0 4000
  · go_enter Try.func69, Try.ntmps69
    go_wp2_with (go_at_call 61; (with_reducible refine (day_spec _ _).mono ?_); rintro e' w' ⟨rfl, rfl⟩)
    go_ret
    exact bpost (by rw [HV.out, h1, h2] <;> rfl)
  · go_enter Try.func69, Try.ntmps69
    go_wp2_with (go_at_call 61; (with_reducible refine (day_spec _ _).mono ?_); rintro e' w' ⟨rfl, rfl⟩)
    go_ret
    exact bpost (by rw [HV.out, h1, h2] <;> rfl)
theorem span_impl (f t : Int) (w : World) : Calls Try.prog 66 #[.int .i64 f, .int .i64 t] w (BPost (spanOk f t) w) := by
  have HV := Lib.hid (span_eq f t)
  cases h1 : inB f 0 t
  all_goals
    go_enter Try.func66, Try.ntmps66
    go_wp2_with (go_at_call 57; (with_reducible refine (within_any _ _ _ _).mono ?_); rintro e' w' ⟨rfl, rfl⟩)
    go_ret
    exact bpost (by rw [← HV.out, h1] <;> rfl)
set_option maxHeartbeats 800000 in
theorem after_spec (P : Option Addr) (cap : Nat) (l : List R) (p q a f t : Int) (hp : 0 ≤ p) (hp1 : p ≤ 1000000) (hq : 0 ≤ q) (hq1 : q ≤ 1000000) (ha : 1 ≤ a) (ha1 : a ≤ 100000) (w : World) (hr : Rd w w.heap.size P (flat l)) (hs : Sane l) :
    Calls Try.prog 70 #[.slice P l.length cap, .agg #[.int .i64 p, .int .i64 q], .int .i64 a, .int .i64 f, .int .i64 t] w (RPost (br (aft l p q a f t) q) w) := by
  have HR := Lib.hid hr; clear hr
  have HS := Lib.hid hs
  have hn := hs.1; clear hs
  go_enter Try.func70, Try.ntmps70
  go_wp2
  have B := (Box.new (Below.refl _ w) [.int .i64 p, .int .i64 q] 26 (g := w.heap.size) rfl).alloc (.cells #[.int .i64 0, .int .i64 0] 26)
  have O := Box.new (al (Below.refl _ w) (o := (.cells #[.int .i64 p, .int .i64 q] 26))) [.int .i64 0, .int .i64 0] 26 (g := w.heap.size + 1) (by simp only [size_alloc'])
  generalize ((w.alloc (.cells #[.int .i64 p, .int .i64 q] 26)).alloc (.cells #[.int .i64 0, .int .i64 0] 26)) = W1 at B O ⊢
  have B_0 := B.cells 0 _ rfl
  have B_1 := B.cells 1 _ rfl
  have B_f0 := B.free 0 (by simp)
  have B_f1 := B.free 1 (by simp)
  have B_t := B.there
  have O_0 := O.cells 0 _ rfl
  have O_1 := O.cells 1 _ rfl
  have O_f0 := O.free 0 (by simp)
  have O_f1 := O.free 1 (by simp)
  have O_t := O.there
  go_loopw [11] (fun i wr => ∃ (k : Nat) (u : Int), k ≤ l.length ∧ i = .int .i64 k ∧ Hid (aft (l.take k) p q a f t = u) ∧ 0 ≤ u ∧ u ≤ p ∧ Box (w.heap.size) [.int .i64 u, .int .i64 q] w wr ∧ Box (w.heap.size + 1) [.int .i64 0, .int .i64 0] w wr) (fun i _ => l.length - (intOf i).toNat)
  case atStart => exact ⟨0, p, Nat.zero_le _, rfl, Lib.hid (by simp [aft]), hp, Int.le_refl _, B, O⟩
  case round =>
    clear B_0 B_1 B_f0 B_f1 B_t
    clear O_0 O_1 O_f0 O_f1 O_t
    clear B O
    obtain ⟨k, u, hk, rfl, HU, u0, u1, B, O⟩ := hrel
    have B_0 := B.cells 0 _ rfl
    have B_1 := B.cells 1 _ rfl
    have B_f0 := B.free 0 (by simp)
    have B_f1 := B.free 1 (by simp)
    have B_t := B.there
    have O_0 := O.cells 0 _ rfl
    have O_1 := O.cells 1 _ rfl
    have O_f0 := O.free 0 (by simp)
    have O_f1 := O.free 1 (by simp)
    have O_t := O.there
    by_cases hlt : k < l.length
    · obtain ⟨b, o, rfl, hb, hc⟩ := HR.out.at (k := k * 2) (by rw [flat_n]; omega)
      obtain ⟨x, hx⟩ : ∃ x, l[k] = x := ⟨_, rfl⟩
      obtain ⟨h0, h1⟩ := cells2 (Below.refl _ _) hb hc hlt hx
      have HL := Lib.hid hlt
      have HX := Lib.hid (HS.out.get hlt hx)
      clear hc
      have h0_c := ((bcell B.below).1 _ _ hb).trans h0
      have h1_c := ((bcell B.below).1 _ _ hb).trans h1
      go_wp2_with fail
      refine (in_any x.f0 f t _).mono ?_
      rintro e _ ⟨rfl, rfl⟩
      cases he : inB x.f0 f t
      · have HN := Lib.hid ((aft_skip hlt hx he).trans HU.out); clear hx
        go_wp2
        go_roundw
        case rel => exact ⟨k + 1, u, HL.out, by go_num, HN, u0, u1, B, O⟩
        case measure => have := HL.out; simp [intOf]; omega
      · have HN := Lib.hid ((aft_yes hlt hx he).trans (by rw [HU.out])); clear hx
        obtain ⟨_, _, r0, r1⟩ := HX.out
        have hbd := loss_bd (p := u) (q := q) (r := x.f1) (a := a) u0 hq r0 r1 (by omega) ha1
        have y1 : IntKind.i64.wrap (u - loss u q x.f1 a) = u - loss u q x.f1 a := IntWalk.i64_in _ (by omega)
        have HD := Lib.hid hbd; clear hbd
        go_wp2
        refine wp_region_seq (fun L w' => BoxL (L 14) (w.heap.size) [.int .i64 u, .int .i64 q] [.int .i64 (u - loss u q x.f1 a), .int .i64 q] w w' ∧ Box (w.heap.size + 1) [.int .i64 0, .int .i64 0] w w') (by kernel_rfl) (by kernel_rfl) ⟨BoxL.start _ B.drew, O.drew⟩ ?_
        clear B_0 B_1 B_f0 B_f1 B_t
        clear O_0 O_1 O_f0 O_f1 O_t
        clear h0_c
        clear h1_c
        iterate 15 (
          apply SeqH.op
          · intro L uw K hN hS hK
            obtain ⟨qB, qO⟩ := hS
            try (have hh0 := qB.2 (hN.out.1 14 (by decide +kernel)); have qB_0 := hh0.cells 0 _ rfl; have qB_1 := hh0.cells 1 _ rfl; clear hh0)
            have qO_0 := qO.cells 0 _ rfl
            have qO_1 := qO.cells 1 _ rfl
            clear hN
            have qh0_c := ((bcell qO.below).1 _ _ hb).trans h0
            have qh1_c := ((bcell qO.below).1 _ _ hb).trans h1
            first
              | (go_simp; exact hK.out _ ⟨(qB).skip (by decide), qO⟩)
              | (go_simp; go_at_call 62; (with_reducible refine (loss_spec u q a x.f1 u0 (by omega) hq hq1 r0 r1 ha ha1 _).mono ?_); rintro e uw1 ⟨rfl, hv⟩; go_wp2_with fail; exact hK.out _ ⟨(qB.more hv).skip (by decide), qO.more hv⟩)
              | (rcases qB.two with hh | hh <;> (have h0 := hh.cells 0 _ rfl; have k0 := hh.free 0 (by simp); have h1 := hh.cells 1 _ rfl; have k1 := hh.free 1 (by simp); go_simp; exact hK.out _ ⟨BoxL.put ((hh.set 0 (.int .i64 (u - loss u q x.f1 a))).set 1 (.int .i64 q)), ((qO.far hh.base (by omega) 0 (.int .i64 (u - loss u q x.f1 a))).far hh.base (by omega) 1 (.int .i64 q))⟩))
          try simp only [Act.put, List.setIfInBounds_toArray, List.set_cons_zero, List.set_cons_succ])
        refine SeqH.done rfl ?_
        intro L v3 hL hS
        clear B O
        obtain ⟨B, O⟩ := hS
        replace B := B.done (hL 14 (by decide))
        clear hL
        have B_0 := B.cells 0 _ rfl
        have B_1 := B.cells 1 _ rfl
        have B_f0 := B.free 0 (by simp)
        have B_f1 := B.free 1 (by simp)
        have B_t := B.there
        have O_0 := O.cells 0 _ rfl
        have O_1 := O.cells 1 _ rfl
        have O_f0 := O.free 0 (by simp)
        have O_f1 := O.free 1 (by simp)
        have O_t := O.there
        have h0_c := ((bcell B.below).1 _ _ hb).trans h0
        have h1_c := ((bcell B.below).1 _ _ hb).trans h1
        go_wp2
        go_roundw
        case rel => exact ⟨k + 1, u - loss u q x.f1 a, HL.out, by go_num, HN, by have := HD.out; omega, by have := HD.out; omega, B, O⟩
        case measure => have := HL.out; simp [intOf]; omega
    · have HF := Lib.hid (show aft l p q a f t = u by have := HU.out; rwa [List.take_of_length_le (by omega)] at this)
      go_wp2
      clear B_0 B_1 B_f0 B_f1 B_t
      clear O_0 O_1 O_f0 O_f1 O_t
      have B_t4 := B.there
      have O_t4 := O.there
      have B' : Box (w.heap.size) [.int .i64 u, .int .i64 q] w _ := ((B.far O.base (by omega) 0 (.int .i64 u)).far O.base (by omega) 1 (.int .i64 q))
      have O' : Box (w.heap.size + 1) [.int .i64 u, .int .i64 q] w _ := ((O.set 0 (.int .i64 u)).set 1 (.int .i64 q))
      clear B; have B := B'; clear B'
      clear O; have O := O'; clear O'
      have sz4 : ((wr.setCell ⟨w.heap.size + 1, 0, none⟩ (.int .i64 u)).setCell ⟨w.heap.size + 1, 1, none⟩ (.int .i64 q)).heap.size = wr.heap.size := by simp only [size_set']
      generalize ((wr.setCell ⟨w.heap.size + 1, 0, none⟩ (.int .i64 u)).setCell ⟨w.heap.size + 1, 1, none⟩ (.int .i64 q)) = W4 at B O sz4 ⊢
      replace sz4 := Lib.hid sz4
      have B_0 := B.cells 0 _ rfl
      have B_1 := B.cells 1 _ rfl
      have B_f0 := B.free 0 (by simp)
      have B_f1 := B.free 1 (by simp)
      have B_t := B.there
      have O_0 := O.cells 0 _ rfl
      have O_1 := O.cells 1 _ rfl
      have O_f0 := O.free 0 (by simp)
      have O_f1 := O.free 1 (by simp)
      have O_t := O.there
      exact bodyPost_ret (v := br u q) (by simp [br, results, Try.results70, go_sem, O_0, O_1]) rfl (rpost (by rw [HF.out]) O.below)
set_option maxHeartbeats 800000 in
theorem after_impl (P : Option Addr) (cap : Nat) (l : List R) (p q a f t : Int) (hp : 0 ≤ p) (hp1 : p ≤ 1000000) (hq : 0 ≤ q) (hq1 : q ≤ 1000000) (ha : 1 ≤ a) (ha1 : a ≤ 100000) (w : World) (hr : Rd w w.heap.size P (flat l)) (hs : Sane l) :
    Calls Try.prog 67 #[.slice P l.length cap, .agg #[.int .i64 p, .int .i64 q], .int .i64 a, .int .i64 f, .int .i64 t] w (RPost (br (aft l p q a f t) q) w) := by
  have HR := Lib.hid hr; clear hr
  have HS := Lib.hid hs
  have hn := hs.1; clear hs
  go_enter Try.func67, Try.ntmps67
  go_wp2
  have B := (Box.new (Below.refl _ w) [.int .i64 p, .int .i64 q] 26 (g := w.heap.size) rfl).alloc (.cells #[.int .i64 0, .int .i64 0] 26)
  have O := Box.new (al (Below.refl _ w) (o := (.cells #[.int .i64 p, .int .i64 q] 26))) [.int .i64 0, .int .i64 0] 26 (g := w.heap.size + 1) (by simp only [size_alloc'])
  generalize ((w.alloc (.cells #[.int .i64 p, .int .i64 q] 26)).alloc (.cells #[.int .i64 0, .int .i64 0] 26)) = W1 at B O ⊢
  have B_0 := B.cells 0 _ rfl
  have B_1 := B.cells 1 _ rfl
  have B_f0 := B.free 0 (by simp)
  have B_f1 := B.free 1 (by simp)
  have B_t := B.there
  have O_0 := O.cells 0 _ rfl
  have O_1 := O.cells 1 _ rfl
  have O_f0 := O.free 0 (by simp)
  have O_f1 := O.free 1 (by simp)
  have O_t := O.there
  go_loopw [15] (fun i wr => ∃ (k : Nat) (u : Int), k ≤ l.length ∧ i = .int .i64 k ∧ Hid (aft (l.take k) p q a f t = u) ∧ 0 ≤ u ∧ u ≤ p ∧ Box (w.heap.size) [.int .i64 u, .int .i64 q] w wr ∧ Box (w.heap.size + 1) [.int .i64 0, .int .i64 0] w wr) (fun i _ => l.length - (intOf i).toNat)
  case atStart => exact ⟨0, p, Nat.zero_le _, rfl, Lib.hid (by simp [aft]), hp, Int.le_refl _, B, O⟩
  case round =>
    clear B_0 B_1 B_f0 B_f1 B_t
    clear O_0 O_1 O_f0 O_f1 O_t
    clear B O
    obtain ⟨k, u, hk, rfl, HU, u0, u1, B, O⟩ := hrel
    have B_0 := B.cells 0 _ rfl
    have B_1 := B.cells 1 _ rfl
    have B_f0 := B.free 0 (by simp)
    have B_f1 := B.free 1 (by simp)
    have B_t := B.there
    have O_0 := O.cells 0 _ rfl
    have O_1 := O.cells 1 _ rfl
    have O_f0 := O.free 0 (by simp)
    have O_f1 := O.free 1 (by simp)
    have O_t := O.there
    by_cases hlt : k < l.length
    · obtain ⟨b, o, rfl, hb, hc⟩ := HR.out.at (k := k * 2) (by rw [flat_n]; omega)
      obtain ⟨x, hx⟩ : ∃ x, l[k] = x := ⟨_, rfl⟩
      obtain ⟨h0, h1⟩ := cells2 (Below.refl _ _) hb hc hlt hx
      have HL := Lib.hid hlt
      have HX := Lib.hid (HS.out.get hlt hx)
      clear hc
      have h0_c := ((bcell B.below).1 _ _ hb).trans h0
      have h1_c := ((bcell B.below).1 _ _ hb).trans h1
      go_wp2_with fail
      have B_t2 := B.there
      have O_t2 := O.there
      have X := Box.new B.below [.int .i64 x.f0, .int .i64 x.f1] 42 (g := wr.heap.size) rfl
      clear B_0 B_1 B_f0 B_f1 B_t
      replace B := (B).alloc (.cells #[.int .i64 x.f0, .int .i64 x.f1] 42)
      clear O_0 O_1 O_f0 O_f1 O_t
      replace O := (O).alloc (.cells #[.int .i64 x.f0, .int .i64 x.f1] 42)
      generalize (wr.alloc (.cells #[.int .i64 x.f0, .int .i64 x.f1] 42)) = W2 at X B O ⊢
      clear h0_c
      clear h1_c
      have B_0 := B.cells 0 _ rfl
      have B_1 := B.cells 1 _ rfl
      have B_f0 := B.free 0 (by simp)
      have B_f1 := B.free 1 (by simp)
      have B_t := B.there
      have O_0 := O.cells 0 _ rfl
      have O_1 := O.cells 1 _ rfl
      have O_f0 := O.free 0 (by simp)
      have O_f1 := O.free 1 (by simp)
      have O_t := O.there
      have X_0 := X.cells 0 _ rfl
      have X_1 := X.cells 1 _ rfl
      have X_f0 := X.free 0 (by simp)
      have X_f1 := X.free 1 (by simp)
      have X_t := X.there
      have h0_c := ((bcell B.below).1 _ _ hb).trans h0
      have h1_c := ((bcell B.below).1 _ _ hb).trans h1
      go_wp2_with fail
      refine (within_any x.f0 f t _).mono ?_
      rintro e _ ⟨rfl, rfl⟩
      cases he : inB x.f0 f t
      · have HN := Lib.hid ((aft_skip hlt hx he).trans HU.out); clear hx
        go_wp2
        go_roundw
        case rel => exact ⟨k + 1, u, HL.out, by go_num, HN, u0, u1, B, O⟩
        case measure => have := HL.out; simp [intOf]; omega
      · have HN := Lib.hid ((aft_yes hlt hx he).trans (by rw [HU.out])); clear hx
        obtain ⟨_, _, r0, r1⟩ := HX.out
        have hbd := loss_bd (p := u) (q := q) (r := x.f1) (a := a) u0 hq r0 r1 (by omega) ha1
        have y1 : IntKind.i64.wrap (u - loss u q x.f1 a) = u - loss u q x.f1 a := IntWalk.i64_in _ (by omega)
        have HD := Lib.hid hbd; clear hbd
        go_wp2
        refine wp_region_seq (fun L w' => BoxL (L 9) (w.heap.size) [.int .i64 u, .int .i64 q] [.int .i64 (u - loss u q x.f1 a), .int .i64 q] w w' ∧ Box (w.heap.size + 1) [.int .i64 0, .int .i64 0] w w' ∧ Box (wr.heap.size) [.int .i64 x.f0, .int .i64 x.f1] w w') (by kernel_rfl) (by kernel_rfl) ⟨BoxL.start _ B.drew, O.drew, X.drew⟩ ?_
        clear B_0 B_1 B_f0 B_f1 B_t
        clear O_0 O_1 O_f0 O_f1 O_t
        clear X_0 X_1 X_f0 X_f1 X_t
        clear h0_c
        clear h1_c
        iterate 10 (
          apply SeqH.op
          · intro L uw K hN hS hK
            obtain ⟨qB, qO, qX⟩ := hS
            try (have hh0 := qB.2 (hN.out.1 9 (by decide +kernel)); have qB_0 := hh0.cells 0 _ rfl; have qB_1 := hh0.cells 1 _ rfl; clear hh0)
            have qO_0 := qO.cells 0 _ rfl
            have qO_1 := qO.cells 1 _ rfl
            have qX_0 := qX.cells 0 _ rfl
            have qX_1 := qX.cells 1 _ rfl
            clear hN
            have qh0_c := ((bcell qO.below).1 _ _ hb).trans h0
            have qh1_c := ((bcell qO.below).1 _ _ hb).trans h1
            first
              | (go_simp; exact hK.out _ ⟨(qB).skip (by decide), qO, qX⟩)
              | (go_simp; go_at_call 58; (with_reducible refine (loss_impl u q a x.f1 u0 (by omega) hq hq1 r0 r1 ha ha1 _).mono ?_); rintro e uw1 ⟨rfl, hv⟩; go_wp2_with fail; exact hK.out _ ⟨(qB.more hv).skip (by decide), qO.more hv, qX.more hv⟩)
              | (rcases qB.two with hh | hh <;> (have h0 := hh.cells 0 _ rfl; have k0 := hh.free 0 (by simp); have h1 := hh.cells 1 _ rfl; have k1 := hh.free 1 (by simp); go_simp; exact hK.out _ ⟨BoxL.put (hh.set 0 (.int .i64 (u - loss u q x.f1 a))), (qO.far hh.base (by omega) 0 (.int .i64 (u - loss u q x.f1 a))), (qX.far hh.base (by omega) 0 (.int .i64 (u - loss u q x.f1 a)))⟩))
          try simp only [Act.put, List.setIfInBounds_toArray, List.set_cons_zero, List.set_cons_succ])
        refine SeqH.done rfl ?_
        intro L v4 hL hS
        clear B O X
        obtain ⟨B, O, X⟩ := hS
        replace B := B.done (hL 9 (by decide))
        clear hL
        have B_0 := B.cells 0 _ rfl
        have B_1 := B.cells 1 _ rfl
        have B_f0 := B.free 0 (by simp)
        have B_f1 := B.free 1 (by simp)
        have B_t := B.there
        have O_0 := O.cells 0 _ rfl
        have O_1 := O.cells 1 _ rfl
        have O_f0 := O.free 0 (by simp)
        have O_f1 := O.free 1 (by simp)
        have O_t := O.there
        have X_0 := X.cells 0 _ rfl
        have X_1 := X.cells 1 _ rfl
        have X_f0 := X.free 0 (by simp)
        have X_f1 := X.free 1 (by simp)
        have X_t := X.there
        have h0_c := ((bcell B.below).1 _ _ hb).trans h0
        have h1_c := ((bcell B.below).1 _ _ hb).trans h1
        go_wp2
        go_roundw
        case rel => exact ⟨k + 1, u - loss u q x.f1 a, HL.out, by go_num, HN, by have := HD.out; omega, by have := HD.out; omega, B, O⟩
        case measure => have := HL.out; simp [intOf]; omega
    · have HF := Lib.hid (show aft l p q a f t = u by have := HU.out; rwa [List.take_of_length_le (by omega)] at this)
      go_wp2
      clear B_0 B_1 B_f0 B_f1 B_t
      clear O_0 O_1 O_f0 O_f1 O_t
      have B_t5 := B.there
      have O_t5 := O.there
      have B' : Box (w.heap.size) [.int .i64 u, .int .i64 q] w _ := ((B.far O.base (by omega) 0 (.int .i64 u)).far O.base (by omega) 1 (.int .i64 q))
      have O' : Box (w.heap.size + 1) [.int .i64 u, .int .i64 q] w _ := ((O.set 0 (.int .i64 u)).set 1 (.int .i64 q))
      clear B; have B := B'; clear B'
      clear O; have O := O'; clear O'
      have sz5 : ((wr.setCell ⟨w.heap.size + 1, 0, none⟩ (.int .i64 u)).setCell ⟨w.heap.size + 1, 1, none⟩ (.int .i64 q)).heap.size = wr.heap.size := by simp only [size_set']
      generalize ((wr.setCell ⟨w.heap.size + 1, 0, none⟩ (.int .i64 u)).setCell ⟨w.heap.size + 1, 1, none⟩ (.int .i64 q)) = W5 at B O sz5 ⊢
      replace sz5 := Lib.hid sz5
      have B_0 := B.cells 0 _ rfl
      have B_1 := B.cells 1 _ rfl
      have B_f0 := B.free 0 (by simp)
      have B_f1 := B.free 1 (by simp)
      have B_t := B.there
      have O_0 := O.cells 0 _ rfl
      have O_1 := O.cells 1 _ rfl
      have O_f0 := O.free 0 (by simp)
      have O_f1 := O.free 1 (by simp)
      have O_t := O.there
      exact bodyPost_ret (v := br u q) (by simp [br, results, Try.results67, go_sem, O_0, O_1]) rfl (rpost (by rw [HF.out]) O.below)
end Go.Proofs.Ytcmomccdnkligaa.SunF
