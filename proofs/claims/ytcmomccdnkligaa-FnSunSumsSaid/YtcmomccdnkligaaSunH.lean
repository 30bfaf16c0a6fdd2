/- Suns: LossOn and AfterSun, the model's and the program's. -/
import Derived.Test.YtcmomccdnkligaaSunF
namespace Go.Proofs.Ytcmomccdnkligaa.SunH
open Go.RowKit Go.Proofs.Ytcmomccdnkligaa.Mem Go.Proofs.Ytcmomccdnkligaa.Base Go.Proofs.Ytcmomccdnkligaa.Within Go.Proofs.Ytcmomccdnkligaa.Brine Go.Proofs.Ytcmomccdnkligaa.Brine2 Go.Proofs.Ytcmomccdnkligaa.Regn Go.Proofs.Ytcmomccdnkligaa.Boxes Go.Proofs.Ytcmomccdnkligaa.Keep Go.Proofs.Ytcmomccdnkligaa.SSun Go.Proofs.Ytcmomccdnkligaa.Sun Go.Proofs.Ytcmomccdnkligaa.SunA Go.Proofs.Ytcmomccdnkligaa.SunS Go.Proofs.Ytcmomccdnkligaa.SunE Go.Proofs.Ytcmomccdnkligaa.SunF
set_option linter.unusedVariables false
set_option maxRecDepth 100000
abbrev R := SSun.R
abbrev RPost := Brine.RPost
theorem rpost {v u : Value} {w w' : World} (h : u = v) (hw : Below w.heap.size w w') : RPost v w (.returned u) w' := ⟨by rw [h], hw⟩
set_option maxHeartbeats 400000 in
theorem loss_spec (P : Option Addr) (cap : Nat) (l : List R) (p q a d : Int) (w : World) (hr : Rd w w.heap.size P (flat l)) (hn : l.length ≤ 1048576) :
    Calls Try.prog 17 #[.slice P l.length cap, .agg #[.int .i64 p, .int .i64 q], .int .i64 a, .int .i64 d] w (RPost (lossV l p q a d) w) := by
  have HR := Lib.hid hr; clear hr
  go_enter Try.func17, Try.ntmps17
  go_wp2_with fail
  have B := Box.new (Below.refl _ w) [.int .i64 p, .int .i64 q] 26 (g := w.heap.size) rfl
  generalize (w.alloc (.cells #[.int .i64 p, .int .i64 q] 26)) = W1 at B ⊢
  have B_0 := B.cells 0 _ rfl
  have B_1 := B.cells 1 _ rfl
  have B_f0 := B.free 0 (by simp)
  have B_f1 := B.free 1 (by simp)
  have B_t := B.there
  go_wp2_with fail
  refine (ask_spec P cap l p q a _ (rd_keep HR.out B.below) hn).mono ?_
  rintro e v2 ⟨rfl, hv2⟩
  clear B_0 B_1 B_f0 B_f1 B_t
  replace B := B.more hv2
  have zhv2 := hv2.size
  clear hv2
  have B_0 := B.cells 0 _ rfl
  have B_1 := B.cells 1 _ rfl
  have B_f0 := B.free 0 (by simp)
  have B_f1 := B.free 1 (by simp)
  have B_t := B.there
  cases hg : askOk l p q a
  · have HV := Lib.hid (ls1 (d := d) hg)
    go_wp2
    go_ret2
    exact rpost (by rw [HV.out] <;> rfl) B.below
  go_wp2_with fail
  refine (day_spec d _).mono ?_
  rintro e _ ⟨rfl, rfl⟩
  cases h1 : inB d 0 4000
  · have HV := Lib.hid (ls2 (l := l) (p := p) (q := q) (a := a) h1)
    go_wp2
    go_ret2
    exact rpost (by rw [HV.out] <;> rfl) B.below
  have HV := Lib.hid (ls3 hg h1)
  obtain ⟨hgood, hp, hp1, hq, hq1, h0, ha, ha1⟩ := ask_true hg
  have ho := Sane.on hgood d
  have HO := Lib.hid ho; clear ho hg hgood h0
  go_wp2
  refine wp_region_text (fun w' => Box (w.heap.size) [.int .i64 p, .int .i64 q] w w') (by kernel_rfl) (by kernel_rfl) (B.drew) ?_
  clear B_0 B_1 B_f0 B_f1 B_t
  iterate 8 (
    apply SeqH.one
    · intro uw K hS hK
      have qB := hS
      have qB_0 := qB.cells 0 _ rfl
      have qB_1 := qB.cells 1 _ rfl
      first
        | (go_simp; exact hK.out _ qB)
        | (go_simp; go_at_call 63; (with_reducible refine (SunL.on_spec P cap l d _ (rd_keep HR.out qB.below) hn).mono ?_); rintro e _ ⟨rfl, rfl⟩; go_wp2_with fail; exact hK.out _ qB)
        | (go_simp; go_at_call 62; (with_reducible refine (SunE.loss_spec p q a (on l d) hp hp1 hq hq1 HO.out.1 HO.out.2 ha ha1 _).mono ?_); rintro e uw1 ⟨rfl, hv⟩; go_wp2_with fail; exact hK.out _ (qB.more hv))
    try simp only [Act.put, List.setIfInBounds_toArray, List.set_cons_zero, List.set_cons_succ])
  refine SeqH.end' rfl ?_
  intro v4 hS
  clear B
  have B := hS; clear hS
  have B_0 := B.cells 0 _ rfl
  have B_1 := B.cells 1 _ rfl
  have B_f0 := B.free 0 (by simp)
  have B_f1 := B.free 1 (by simp)
  have B_t := B.there
  go_wp2
  go_ret2
  exact rpost (by rw [HV.out] <;> rfl) B.below
set_option maxHeartbeats 400000 in
theorem loss_impl (P : Option Addr) (cap : Nat) (l : List R) (p q a d : Int) (w : World) (hr : Rd w w.heap.size P (flat l)) (hc : l.length ≤ cap) (hn : l.length ≤ 1048576) :
    Calls Try.prog 16 #[.slice P l.length cap, .agg #[.int .i64 p, .int .i64 q], .int .i64 a, .int .i64 d] w (RPost (lossV l p q a d) w) := by
  have HR := Lib.hid hr; clear hr
  go_enter Try.func16, Try.ntmps16
  go_wp2_with fail
  have B := Box.new (Below.refl _ w) [.int .i64 p, .int .i64 q] 26 (g := w.heap.size) rfl
  generalize (w.alloc (.cells #[.int .i64 p, .int .i64 q] 26)) = W1 at B ⊢
  have B_0 := B.cells 0 _ rfl
  have B_1 := B.cells 1 _ rfl
  have B_f0 := B.free 0 (by simp)
  have B_f1 := B.free 1 (by simp)
  have B_t := B.there
  go_wp2_with fail
  refine (ask_impl P cap l p q a _ (rd_keep HR.out B.below) hn).mono ?_
  rintro e v2 ⟨rfl, hv2⟩
  clear B_0 B_1 B_f0 B_f1 B_t
  replace B := B.more hv2
  have zhv2 := hv2.size
  clear hv2
  have B_0 := B.cells 0 _ rfl
  have B_1 := B.cells 1 _ rfl
  have B_f0 := B.free 0 (by simp)
  have B_f1 := B.free 1 (by simp)
  have B_t := B.there
  cases hg : askOk l p q a
  · have HV := Lib.hid (ls1 (d := d) hg)
    go_wp2
    go_ret2
    exact rpost (by rw [HV.out] <;> rfl) B.below
  go_wp2_with fail
  refine (within_any d 0 4000 _).mono ?_
  rintro e _ ⟨rfl, rfl⟩
  cases h1 : inB d 0 4000
  · have HV := Lib.hid (ls2 (l := l) (p := p) (q := q) (a := a) h1)
    go_wp2
    go_ret2
    exact rpost (by rw [HV.out] <;> rfl) B.below
  have HV := Lib.hid (ls3 hg h1)
  obtain ⟨hgood, hp, hp1, hq, hq1, h0, ha, ha1⟩ := ask_true hg
  have ho := Sane.on hgood d
  have HE := Lib.hid (on_sum hgood d)
  have HS := Lib.hid (good_sane hgood)
  have HO := Lib.hid ho; clear ho hg hgood h0
  go_wp2
  refine wp_region_text (fun w' => Box (w.heap.size) [.int .i64 p, .int .i64 q] w w') (by kernel_rfl) (by kernel_rfl) (B.drew) ?_
  clear B_0 B_1 B_f0 B_f1 B_t
  iterate 9 (
    apply SeqH.one
    · intro uw K hS hK
      have qB := hS
      have qB_0 := qB.cells 0 _ rfl
      have qB_1 := qB.cells 1 _ rfl
      first
        | (go_simp; exact hK.out _ qB)
        | (go_simp; go_at_call 59; (with_reducible refine (SunL.sum_impl P cap l d d _ (rd_keep HR.out qB.below) HS.out).mono ?_); rintro e uw1 ⟨rfl, hv⟩; rw [HE.out]; go_wp2_with fail; exact hK.out _ (qB.more hv))
        | (go_simp; go_at_call 58; (with_reducible refine (SunE.loss_impl p q a (on l d) hp hp1 hq hq1 HO.out.1 HO.out.2 ha ha1 _).mono ?_); rintro e uw1 ⟨rfl, hv⟩; go_wp2_with fail; exact hK.out _ (qB.more hv))
    try simp only [Act.put, List.setIfInBounds_toArray, List.set_cons_zero, List.set_cons_succ])
  refine SeqH.end' rfl ?_
  intro v4 hS
  clear B
  have B := hS; clear hS
  have B_0 := B.cells 0 _ rfl
  have B_1 := B.cells 1 _ rfl
  have B_f0 := B.free 0 (by simp)
  have B_f1 := B.free 1 (by simp)
  have B_t := B.there
  go_wp2
  go_ret2
  exact rpost (by rw [HV.out] <;> rfl) B.below
theorem after_spec (P : Option Addr) (cap : Nat) (l : List R) (p q a f t : Int) (w : World) (hr : Rd w w.heap.size P (flat l)) (hn : l.length ≤ 1048576) :
    Calls Try.prog 22 #[.slice P l.length cap, .agg #[.int .i64 p, .int .i64 q], .int .i64 a, .int .i64 f, .int .i64 t] w (RPost (afterV l p q a f t) w) := by
  have HR := Lib.hid hr; clear hr
  go_enter Try.func22, Try.ntmps22
  go_wp2_with fail
  have B := (Box.new (Below.refl _ w) [.int .i64 p, .int .i64 q] 26 (g := w.heap.size) rfl).alloc (.cells #[.int .i64 0, .int .i64 0] 26)
  have O := Box.new (al (Below.refl _ w) (o := (.cells #[.int .i64 p, .int .i64 q] 26))) [.int .i64 0, .int .i64 0] 26 (g := w.heap.size + 1) (by simp only [size_alloc'])
  generalize ((w.alloc (.cells #[.int .i64 p, .int .i64 q] 26)).alloc (.cells #[.int .i64 0, .int .i64 0] 26)) = W1 at B O ⊢
  have B_0 := B.cells 0 _ rfl
  have B_1 := B.cells 1 _ rfl
  have B_f0 := B.free 0 (by simp)
  have B_f1 := B.free 1 (by simp)
  have B_t := B.there
  have O_0 := O.cells 0 _ rfl
  have O_1 := O.cells 1 _ rfl
  have O_f0 := O.free 0 (by simp)
  have O_f1 := O.free 1 (by simp)
  have O_t := O.there
  go_wp2_with fail
  refine (ask_spec P cap l p q a _ (rd_keep HR.out B.below) hn).mono ?_
  rintro e v2 ⟨rfl, hv2⟩
  clear B_0 B_1 B_f0 B_f1 B_t
  clear O_0 O_1 O_f0 O_f1 O_t
  replace B := B.more hv2
  replace O := O.more hv2
  have zhv2 := hv2.size
  clear hv2
  have B_0 := B.cells 0 _ rfl
  have B_1 := B.cells 1 _ rfl
  have B_f0 := B.free 0 (by simp)
  have B_f1 := B.free 1 (by simp)
  have B_t := B.there
  have O_0 := O.cells 0 _ rfl
  have O_1 := O.cells 1 _ rfl
  have O_f0 := O.free 0 (by simp)
  have O_f1 := O.free 1 (by simp)
  have O_t := O.there
  cases hg : askOk l p q a
  · have HV := Lib.hid (after_no (af1 (f := f) (t := t) hg))
    go_wp2
    clear B_0 B_1 B_f0 B_f1 B_t
    clear O_0 O_1 O_f0 O_f1 O_t
    have B_t3 := B.there
    have O_t3 := O.there
    have B' : Box (w.heap.size) [.int .i64 p, .int .i64 q] w _ := ((B.far O.base (by omega) 0 (.int .i64 0)).far O.base (by omega) 1 (.int .i64 0))
    have O' : Box (w.heap.size + 1) [.int .i64 0, .int .i64 0] w _ := ((O.set 0 (.int .i64 0)).set 1 (.int .i64 0))
    clear B; have B := B'; clear B'
    clear O; have O := O'; clear O'
    have sz3 : ((v2.setCell ⟨w.heap.size + 1, 0, none⟩ (.int .i64 0)).setCell ⟨w.heap.size + 1, 1, none⟩ (.int .i64 0)).heap.size = v2.heap.size := by simp only [size_set']
    generalize ((v2.setCell ⟨w.heap.size + 1, 0, none⟩ (.int .i64 0)).setCell ⟨w.heap.size + 1, 1, none⟩ (.int .i64 0)) = W3 at B O sz3 ⊢
    replace sz3 := Lib.hid sz3
    have B_0 := B.cells 0 _ rfl
    have B_1 := B.cells 1 _ rfl
    have B_f0 := B.free 0 (by simp)
    have B_f1 := B.free 1 (by simp)
    have B_t := B.there
    have O_0 := O.cells 0 _ rfl
    have O_1 := O.cells 1 _ rfl
    have O_f0 := O.free 0 (by simp)
    have O_f1 := O.free 1 (by simp)
    have O_t := O.there
    exact bodyPost_ret (v := .tuple #[br 0 0, .bool false]) (by simp [br, results, Try.results22, go_sem, O_0, O_1]) rfl (rpost (by rw [HV.out]) O.below)
  go_wp2_with fail
  refine (span_spec f t _).mono ?_
  rintro e _ ⟨rfl, rfl⟩
  cases h1 : spanOk f t
  · have HV := Lib.hid (after_no (af2 (l := l) (p := p) (q := q) (a := a) h1))
    go_wp2
    clear B_0 B_1 B_f0 B_f1 B_t
    clear O_0 O_1 O_f0 O_f1 O_t
    have B_t5 := B.there
    have O_t5 := O.there
    have B' : Box (w.heap.size) [.int .i64 p, .int .i64 q] w _ := ((B.far O.base (by omega) 0 (.int .i64 0)).far O.base (by omega) 1 (.int .i64 0))
    have O' : Box (w.heap.size + 1) [.int .i64 0, .int .i64 0] w _ := ((O.set 0 (.int .i64 0)).set 1 (.int .i64 0))
    clear B; have B := B'; clear B'
    clear O; have O := O'; clear O'
    have sz5 : ((v2.setCell ⟨w.heap.size + 1, 0, none⟩ (.int .i64 0)).setCell ⟨w.heap.size + 1, 1, none⟩ (.int .i64 0)).heap.size = v2.heap.size := by simp only [size_set']
    generalize ((v2.setCell ⟨w.heap.size + 1, 0, none⟩ (.int .i64 0)).setCell ⟨w.heap.size + 1, 1, none⟩ (.int .i64 0)) = W5 at B O sz5 ⊢
    replace sz5 := Lib.hid sz5
    have B_0 := B.cells 0 _ rfl
    have B_1 := B.cells 1 _ rfl
    have B_f0 := B.free 0 (by simp)
    have B_f1 := B.free 1 (by simp)
    have B_t := B.there
    have O_0 := O.cells 0 _ rfl
    have O_1 := O.cells 1 _ rfl
    have O_f0 := O.free 0 (by simp)
    have O_f1 := O.free 1 (by simp)
    have O_t := O.there
    exact bodyPost_ret (v := .tuple #[br 0 0, .bool false]) (by simp [br, results, Try.results22, go_sem, O_0, O_1]) rfl (rpost (by rw [HV.out]) O.below)
  have HV := Lib.hid (after_yes (af3 hg h1))
  obtain ⟨hgood, hp, hp1, hq, hq1, h0, ha, ha1⟩ := ask_true hg
  have HS := Lib.hid (good_sane hgood); clear hgood h0 hg
  go_wp2_with fail
  refine (SunF.after_spec P cap l p q a f t hp hp1 hq hq1 ha ha1 _ (rd_keep HR.out B.below) HS.out).mono ?_
  rintro e v6 ⟨rfl, hv6⟩
  clear B_0 B_1 B_f0 B_f1 B_t
  clear O_0 O_1 O_f0 O_f1 O_t
  replace B := B.more hv6
  replace O := O.more hv6
  have zhv6 := hv6.size
  clear hv6
  have B_0 := B.cells 0 _ rfl
  have B_1 := B.cells 1 _ rfl
  have B_f0 := B.free 0 (by simp)
  have B_f1 := B.free 1 (by simp)
  have B_t := B.there
  have O_0 := O.cells 0 _ rfl
  have O_1 := O.cells 1 _ rfl
  have O_f0 := O.free 0 (by simp)
  have O_f1 := O.free 1 (by simp)
  have O_t := O.there
  unfold br
  generalize aft l p q a f t = u at HV ⊢
  go_wp2
  clear B_0 B_1 B_f0 B_f1 B_t
  clear O_0 O_1 O_f0 O_f1 O_t
  have B_t7 := B.there
  have O_t7 := O.there
  have B' : Box (w.heap.size) [.int .i64 p, .int .i64 q] w _ := ((B.far O.base (by omega) 0 (.int .i64 u)).far O.base (by omega) 1 (.int .i64 q))
  have O' : Box (w.heap.size + 1) [.int .i64 u, .int .i64 q] w _ := ((O.set 0 (.int .i64 u)).set 1 (.int .i64 q))
  clear B; have B := B'; clear B'
  clear O; have O := O'; clear O'
  have sz7 : ((v6.setCell ⟨w.heap.size + 1, 0, none⟩ (.int .i64 u)).setCell ⟨w.heap.size + 1, 1, none⟩ (.int .i64 q)).heap.size = v6.heap.size := by simp only [size_set']
  generalize ((v6.setCell ⟨w.heap.size + 1, 0, none⟩ (.int .i64 u)).setCell ⟨w.heap.size + 1, 1, none⟩ (.int .i64 q)) = W7 at B O sz7 ⊢
  replace sz7 := Lib.hid sz7
  have B_0 := B.cells 0 _ rfl
  have B_1 := B.cells 1 _ rfl
  have B_f0 := B.free 0 (by simp)
  have B_f1 := B.free 1 (by simp)
  have B_t := B.there
  have O_0 := O.cells 0 _ rfl
  have O_1 := O.cells 1 _ rfl
  have O_f0 := O.free 0 (by simp)
  have O_f1 := O.free 1 (by simp)
  have O_t := O.there
  exact bodyPost_ret (v := .tuple #[br u q, .bool true]) (by simp [br, results, Try.results22, go_sem, O_0, O_1]) rfl (rpost (by rw [HV.out]) O.below)
theorem after_impl (P : Option Addr) (cap : Nat) (l : List R) (p q a f t : Int) (w : World) (hr : Rd w w.heap.size P (flat l)) (hc : l.length ≤ cap) (hn : l.length ≤ 1048576) :
    Calls Try.prog 20 #[.slice P l.length cap, .agg #[.int .i64 p, .int .i64 q], .int .i64 a, .int .i64 f, .int .i64 t] w (RPost (afterV l p q a f t) w) := by
  have HR := Lib.hid hr; clear hr
  go_enter Try.func20, Try.ntmps20
  go_wp2_with fail
  have B := (Box.new (Below.refl _ w) [.int .i64 p, .int .i64 q] 26 (g := w.heap.size) rfl).alloc (.cells #[.int .i64 0, .int .i64 0] 26)
  have O := Box.new (al (Below.refl _ w) (o := (.cells #[.int .i64 p, .int .i64 q] 26))) [.int .i64 0, .int .i64 0] 26 (g := w.heap.size + 1) (by simp only [size_alloc'])
  generalize ((w.alloc (.cells #[.int .i64 p, .int .i64 q] 26)).alloc (.cells #[.int .i64 0, .int .i64 0] 26)) = W1 at B O ⊢
  have B_0 := B.cells 0 _ rfl
  have B_1 := B.cells 1 _ rfl
  have B_f0 := B.free 0 (by simp)
  have B_f1 := B.free 1 (by simp)
  have B_t := B.there
  have O_0 := O.cells 0 _ rfl
  have O_1 := O.cells 1 _ rfl
  have O_f0 := O.free 0 (by simp)
  have O_f1 := O.free 1 (by simp)
  have O_t := O.there
  go_wp2_with fail
  refine (ask_impl P cap l p q a _ (rd_keep HR.out B.below) hn).mono ?_
  rintro e v2 ⟨rfl, hv2⟩
  clear B_0 B_1 B_f0 B_f1 B_t
  clear O_0 O_1 O_f0 O_f1 O_t
  replace B := B.more hv2
  replace O := O.more hv2
  have zhv2 := hv2.size
  clear hv2
  have B_0 := B.cells 0 _ rfl
  have B_1 := B.cells 1 _ rfl
  have B_f0 := B.free 0 (by simp)
  have B_f1 := B.free 1 (by simp)
  have B_t := B.there
  have O_0 := O.cells 0 _ rfl
  have O_1 := O.cells 1 _ rfl
  have O_f0 := O.free 0 (by simp)
  have O_f1 := O.free 1 (by simp)
  have O_t := O.there
  cases hg : askOk l p q a
  · have HV := Lib.hid (after_no (af1 (f := f) (t := t) hg))
    go_wp2
    clear B_0 B_1 B_f0 B_f1 B_t
    clear O_0 O_1 O_f0 O_f1 O_t
    have B_t3 := B.there
    have O_t3 := O.there
    have B' : Box (w.heap.size) [.int .i64 p, .int .i64 q] w _ := ((B.far O.base (by omega) 0 (.int .i64 0)).far O.base (by omega) 1 (.int .i64 0))
    have O' : Box (w.heap.size + 1) [.int .i64 0, .int .i64 0] w _ := ((O.set 0 (.int .i64 0)).set 1 (.int .i64 0))
    clear B; have B := B'; clear B'
    clear O; have O := O'; clear O'
    have sz3 : ((v2.setCell ⟨w.heap.size + 1, 0, none⟩ (.int .i64 0)).setCell ⟨w.heap.size + 1, 1, none⟩ (.int .i64 0)).heap.size = v2.heap.size := by simp only [size_set']
    generalize ((v2.setCell ⟨w.heap.size + 1, 0, none⟩ (.int .i64 0)).setCell ⟨w.heap.size + 1, 1, none⟩ (.int .i64 0)) = W3 at B O sz3 ⊢
    replace sz3 := Lib.hid sz3
    have B_0 := B.cells 0 _ rfl
    have B_1 := B.cells 1 _ rfl
    have B_f0 := B.free 0 (by simp)
    have B_f1 := B.free 1 (by simp)
    have B_t := B.there
    have O_0 := O.cells 0 _ rfl
    have O_1 := O.cells 1 _ rfl
    have O_f0 := O.free 0 (by simp)
    have O_f1 := O.free 1 (by simp)
    have O_t := O.there
    exact bodyPost_ret (v := .tuple #[br 0 0, .bool false]) (by simp [br, results, Try.results20, go_sem, O_0, O_1]) rfl (rpost (by rw [HV.out]) O.below)
  go_wp2_with fail
  refine (span_impl f t _).mono ?_
  rintro e _ ⟨rfl, rfl⟩
  cases h1 : spanOk f t
  · have HV := Lib.hid (after_no (af2 (l := l) (p := p) (q := q) (a := a) h1))
    go_wp2
    clear B_0 B_1 B_f0 B_f1 B_t
    clear O_0 O_1 O_f0 O_f1 O_t
    have B_t5 := B.there
    have O_t5 := O.there
    have B' : Box (w.heap.size) [.int .i64 p, .int .i64 q] w _ := ((B.far O.base (by omega) 0 (.int .i64 0)).far O.base (by omega) 1 (.int .i64 0))
    have O' : Box (w.heap.size + 1) [.int .i64 0, .int .i64 0] w _ := ((O.set 0 (.int .i64 0)).set 1 (.int .i64 0))
    clear B; have B := B'; clear B'
    clear O; have O := O'; clear O'
    have sz5 : ((v2.setCell ⟨w.heap.size + 1, 0, none⟩ (.int .i64 0)).setCell ⟨w.heap.size + 1, 1, none⟩ (.int .i64 0)).heap.size = v2.heap.size := by simp only [size_set']
    generalize ((v2.setCell ⟨w.heap.size + 1, 0, none⟩ (.int .i64 0)).setCell ⟨w.heap.size + 1, 1, none⟩ (.int .i64 0)) = W5 at B O sz5 ⊢
    replace sz5 := Lib.hid sz5
    have B_0 := B.cells 0 _ rfl
    have B_1 := B.cells 1 _ rfl
    have B_f0 := B.free 0 (by simp)
    have B_f1 := B.free 1 (by simp)
    have B_t := B.there
    have O_0 := O.cells 0 _ rfl
    have O_1 := O.cells 1 _ rfl
    have O_f0 := O.free 0 (by simp)
    have O_f1 := O.free 1 (by simp)
    have O_t := O.there
    exact bodyPost_ret (v := .tuple #[br 0 0, .bool false]) (by simp [br, results, Try.results20, go_sem, O_0, O_1]) rfl (rpost (by rw [HV.out]) O.below)
  have HV := Lib.hid (after_yes (af3 hg h1))
  obtain ⟨hgood, hp, hp1, hq, hq1, h0, ha, ha1⟩ := ask_true hg
  have HS := Lib.hid (good_sane hgood); clear hgood h0 hg
  go_wp2_with fail
  refine (SunF.after_impl P cap l p q a f t hp hp1 hq hq1 ha ha1 _ (rd_keep HR.out B.below) HS.out).mono ?_
  rintro e v6 ⟨rfl, hv6⟩
  clear B_0 B_1 B_f0 B_f1 B_t
  clear O_0 O_1 O_f0 O_f1 O_t
  replace B := B.more hv6
  replace O := O.more hv6
  have zhv6 := hv6.size
  clear hv6
  have B_0 := B.cells 0 _ rfl
  have B_1 := B.cells 1 _ rfl
  have B_f0 := B.free 0 (by simp)
  have B_f1 := B.free 1 (by simp)
  have B_t := B.there
  have O_0 := O.cells 0 _ rfl
  have O_1 := O.cells 1 _ rfl
  have O_f0 := O.free 0 (by simp)
  have O_f1 := O.free 1 (by simp)
  have O_t := O.there
  unfold br
  generalize aft l p q a f t = u at HV ⊢
  go_wp2
  clear B_0 B_1 B_f0 B_f1 B_t
  clear O_0 O_1 O_f0 O_f1 O_t
  have B_t7 := B.there
  have O_t7 := O.there
  have B' : Box (w.heap.size) [.int .i64 p, .int .i64 q] w _ := ((B.far O.base (by omega) 0 (.int .i64 u)).far O.base (by omega) 1 (.int .i64 q))
  have O' : Box (w.heap.size + 1) [.int .i64 u, .int .i64 q] w _ := ((O.set 0 (.int .i64 u)).set 1 (.int .i64 q))
  clear B; have B := B'; clear B'
  clear O; have O := O'; clear O'
  have sz7 : ((v6.setCell ⟨w.heap.size + 1, 0, none⟩ (.int .i64 u)).setCell ⟨w.heap.size + 1, 1, none⟩ (.int .i64 q)).heap.size = v6.heap.size := by simp only [size_set']
  generalize ((v6.setCell ⟨w.heap.size + 1, 0, none⟩ (.int .i64 u)).setCell ⟨w.heap.size + 1, 1, none⟩ (.int .i64 q)) = W7 at B O sz7 ⊢
  replace sz7 := Lib.hid sz7
  have B_0 := B.cells 0 _ rfl
  have B_1 := B.cells 1 _ rfl
  have B_f0 := B.free 0 (by simp)
  have B_f1 := B.free 1 (by simp)
  have B_t := B.there
  have O_0 := O.cells 0 _ rfl
  have O_1 := O.cells 1 _ rfl
  have O_f0 := O.free 0 (by simp)
  have O_f1 := O.free 1 (by simp)
  have O_t := O.there
  exact bodyPost_ret (v := .tuple #[br u q, .bool true]) (by simp [br, results, Try.results20, go_sem, O_0, O_1]) rfl (rpost (by rw [HV.out]) O.below)
end Go.Proofs.Ytcmomccdnkligaa.SunH
