/- Showers and brines: what comes in with a cover; AfterRain, CoverNeeded. -/
import Derived.Lib.MinMax
import Derived.Test.YtpbmncecejchjaaShwL
import Derived.Test.YtpbmncecejchjaaIBrine
namespace Go.Proofs.Ytpbmncecejchjaa.ShwM
open Go.RowKit Go.Proofs.Ytpbmncecejchjaa.Mem Go.Proofs.Ytpbmncecejchjaa.Base Go.Proofs.Ytpbmncecejchjaa.Within Go.Proofs.Ytpbmncecejchjaa.Brine Go.Proofs.Ytpbmncecejchjaa.Brine2 Go.Proofs.Ytpbmncecejchjaa.Regn Go.Proofs.Ytpbmncecejchjaa.Boxes Go.Proofs.Ytpbmncecejchjaa.Keep Go.Proofs.Ytpbmncecejchjaa.SShower Go.Proofs.Ytpbmncecejchjaa.Shw Go.Proofs.Ytpbmncecejchjaa.ShwS Go.Proofs.Ytpbmncecejchjaa.ShwG Go.Proofs.Ytpbmncecejchjaa.ShwL
set_option linter.unusedVariables false
set_option maxRecDepth 100000
abbrev RPost := Brine.RPost
theorem rpost {v u : Value} {w w' : World} (h : u = v) (hw : Below w.heap.size w w') : RPost v w (.returned u) w' := ⟨by rw [h], hw⟩
theorem comes_spec (k c : Int) (hk : 0 ≤ k) (hk1 : k ≤ 20000000) (hc : 0 ≤ c) (hc1 : c ≤ 100) (w : World) : Calls Try.prog 83 #[.int .i64 k, .int .i64 c] w (IPost (comes k c) w) := by
  obtain ⟨y0, y1, y2, y3, y4, y5, y6, y7, y8⟩ := comes_nums hk hk1 hc hc1
  go_enter Try.func83, Try.ntmps83
  go_wp2
  go_ret
  exact ipost rfl
theorem up_any (m : Int) (h0 : 0 ≤ m) (h1 : m ≤ 2000000000) (w : World) : Calls Try.prog 134 #[.int .i64 m, .int .i64 100] w (IPost ((m + 99) / 100) w) := by
  have m4 : (m + 99).tdiv 100 = (m + 99) / 100 := Int.tdiv_eq_ediv_of_nonneg (by omega)
  have m6 : IntKind.i64.wrap (m + 100) = m + 100 := IntWalk.i64_in _ (by omega)
  have m5 : IntKind.i64.wrap (m + 100 - 1) = m + 99 := by rw [show m + 100 - 1 = m + 99 by omega]; exact IntWalk.i64_in _ (by omega)
  have m7 : IntKind.i64.wrap ((m + 99) / 100) = (m + 99) / 100 := IntWalk.i64_in _ (by omega)
  go_enter Try.func134, Try.ntmps134
  go_wp2
  go_ret
  exact ipost rfl
theorem comes_impl (k c : Int) (hk : 0 ≤ k) (hk1 : k ≤ 20000000) (hc : 0 ≤ c) (hc1 : c ≤ 100) (w : World) : Calls Try.prog 79 #[.int .i64 k, .int .i64 c] w (IPost (comes k c) w) := by
  obtain ⟨y0, y1, y2, y3, y4, y5, y6, y7, y8⟩ := comes_nums hk hk1 hc hc1
  go_enter Try.func79, Try.ntmps79
  go_wp2_with (go_at_call 134; (with_reducible refine (up_any (k * c) y0 y1 _).mono ?_); rintro e' w' ⟨rfl, rfl⟩)
  go_ret
  exact ipost rfl
/-- AfterRain. -/
def aftOk (l : List R) (p q c v d : Int) : Bool := canOk l c d && okB p q && inB v 0 100 && okB (aftW l p c v d) q
def aftV (l : List R) (p q c v d : Int) : Value := if aftOk l p q c v d = true then .tuple #[br (aftW l p c v d) q, .bool true] else .tuple #[br 0 0, .bool false]
theorem ao1 {l : List R} {p q c v d : Int} (h : canOk l c d = false) : aftOk l p q c v d = false := by unfold aftOk; rw [h]; rfl
theorem ao2 {l : List R} {p q c v d : Int} (h : okB p q = false) : aftOk l p q c v d = false := by unfold aftOk; rw [h, Bool.and_false]; rfl
theorem ao3 {l : List R} {p q c v d : Int} (h : inB v 0 100 = false) : aftOk l p q c v d = false := by unfold aftOk; rw [h, Bool.and_false]; rfl
theorem ao4 {l : List R} {p q c v d : Int} (h : okB (aftW l p c v d) q = false) : aftOk l p q c v d = false := by unfold aftOk; rw [h, Bool.and_false]
theorem ao5 {l : List R} {p q c v d : Int} (h : canOk l c d = true) (h1 : okB p q = true) (h2 : inB v 0 100 = true) (h3 : okB (aftW l p c v d) q = true) : aftOk l p q c v d = true := by unfold aftOk; rw [h, h1, h2, h3]; rfl
theorem aft_true {l : List R} {p q c v d : Int} (h : aftOk l p q c v d = true) : canOk l c d = true ∧ okB p q = true ∧ (0 ≤ v ∧ v ≤ 100) ∧ okB (aftW l p c v d) q = true := by
  unfold aftOk at h; simp only [Bool.and_eq_true] at h; exact ⟨h.1.1.1, h.1.1.2, of_inB h.1.2, h.2⟩
theorem aftV_no {l : List R} {p q c v d : Int} (h : aftOk l p q c v d = false) : aftV l p q c v d = .tuple #[br 0 0, .bool false] := by unfold aftV; rw [h]; rfl
theorem aftV_yes {l : List R} {p q c v d : Int} (h : aftOk l p q c v d = true) : aftV l p q c v d = .tuple #[br (aftW l p c v d) q, .bool true] := by unfold aftV; rw [if_pos h]
theorem aft_form (l : List R) (p q c v d : Int) : ∃ x y z, aftV l p q c v d = .tuple #[.agg #[.int .i64 x, .int .i64 y], .bool z] := by
  unfold aftV br; split
  · exact ⟨_, _, _, rfl⟩
  · exact ⟨_, _, _, rfl⟩
set_option maxHeartbeats 800000 in
theorem aft_spec (P : Option Addr) (cap : Nat) (l : List R) (p q c v d : Int) (w : World) (hr : Rd w w.heap.size P (flat l)) (hn : l.length ≤ 1048576) :
    Calls Try.prog 18 #[.slice P l.length cap, .agg #[.int .i64 p, .int .i64 q], .int .i64 c, .int .i64 v, .int .i64 d] w (RPost (aftV l p q c v d) w) := by
  have HR := Lib.hid hr; clear hr
  go_enter Try.func18, Try.ntmps18
  go_wp2_with fail
  have B := (Box.new (Below.refl _ w) [.int .i64 p, .int .i64 q] 26 (g := w.heap.size) rfl).alloc (.cells #[.int .i64 0, .int .i64 0] 26)
  have O := Box.new (al (Below.refl _ w) (o := (.cells #[.int .i64 p, .int .i64 q] 26))) [.int .i64 0, .int .i64 0] 26 (g := w.heap.size + 1) (by simp only [size_alloc'])
  generalize ((w.alloc (.cells #[.int .i64 p, .int .i64 q] 26)).alloc (.cells #[.int .i64 0, .int .i64 0] 26)) = W1 at B O ⊢
  have B_0 := B.cells 0 _ rfl
  have B_1 := B.cells 1 _ rfl
  have B_f0 := B.free 0 (by simp)
  have B_f1 := B.free 1 (by simp)
  have B_t := B.there
  have O_0 := O.cells 0 _ rfl
  have O_1 := O.cells 1 _ rfl
  have O_f0 := O.free 0 (by simp)
  have O_f1 := O.free 1 (by simp)
  have O_t := O.there
  go_wp2_with fail
  refine (rain_spec P cap l c d _ (rd_keep HR.out B.below) hn).mono ?_
  rintro e v2 ⟨rfl, hv2⟩
  clear B_0 B_1 B_f0 B_f1 B_t
  clear O_0 O_1 O_f0 O_f1 O_t
  replace B := B.more hv2
  replace O := O.more hv2
  have zhv2 := hv2.size
  clear hv2
  have B_0 := B.cells 0 _ rfl
  have B_1 := B.cells 1 _ rfl
  have B_f0 := B.free 0 (by simp)
  have B_f1 := B.free 1 (by simp)
  have B_t := B.there
  have O_0 := O.cells 0 _ rfl
  have O_1 := O.cells 1 _ rfl
  have O_f0 := O.free 0 (by simp)
  have O_f1 := O.free 1 (by simp)
  have O_t := O.there
  cases hg : canOk l c d
  · have HV := Lib.hid (aftV_no (ao1 (p := p) (q := q) (v := v) hg))
    rw [rainV_no hg]
    clear hg
    go_wp2
    clear B_0 B_1 B_f0 B_f1 B_t
    clear O_0 O_1 O_f0 O_f1 O_t
    have B_t3 := B.there
    have O_t3 := O.there
    have B' : Box (w.heap.size) [.int .i64 p, .int .i64 q] w _ := ((B.far O.base (by omega) 0 (.int .i64 0)).far O.base (by omega) 1 (.int .i64 0))
    have O' : Box (w.heap.size + 1) [.int .i64 0, .int .i64 0] w _ := ((O.set 0 (.int .i64 0)).set 1 (.int .i64 0))
    clear B; have B := B'; clear B'
    clear O; have O := O'; clear O'
    have sz3 : ((v2.setCell ⟨w.heap.size + 1, 0, none⟩ (.int .i64 0)).setCell ⟨w.heap.size + 1, 1, none⟩ (.int .i64 0)).heap.size = v2.heap.size := by simp only [size_set']
    generalize ((v2.setCell ⟨w.heap.size + 1, 0, none⟩ (.int .i64 0)).setCell ⟨w.heap.size + 1, 1, none⟩ (.int .i64 0)) = W3 at B O sz3 ⊢
    replace sz3 := Lib.hid sz3
    have B_0 := B.cells 0 _ rfl
    have B_1 := B.cells 1 _ rfl
    have B_f0 := B.free 0 (by simp)
    have B_f1 := B.free 1 (by simp)
    have B_t := B.there
    have O_0 := O.cells 0 _ rfl
    have O_1 := O.cells 1 _ rfl
    have O_f0 := O.free 0 (by simp)
    have O_f1 := O.free 1 (by simp)
    have O_t := O.there
    exact bodyPost_ret (v := .tuple #[br 0 0, .bool false]) (by simp [br, results, Try.results18, go_sem, O_0, O_1]) rfl (rpost (by rw [HV.out]) O.below)
  rw [rainV_yes hg]
  go_wp2_with fail
  refine (brine_spec p q _).mono ?_
  rintro e v4 ⟨rfl, hv4⟩
  clear B_0 B_1 B_f0 B_f1 B_t
  clear O_0 O_1 O_f0 O_f1 O_t
  replace B := B.more hv4
  replace O := O.more hv4
  have zhv4 := hv4.size
  clear hv4
  have B_0 := B.cells 0 _ rfl
  have B_1 := B.cells 1 _ rfl
  have B_f0 := B.free 0 (by simp)
  have B_f1 := B.free 1 (by simp)
  have B_t := B.there
  have O_0 := O.cells 0 _ rfl
  have O_1 := O.cells 1 _ rfl
  have O_f0 := O.free 0 (by simp)
  have O_f1 := O.free 1 (by simp)
  have O_t := O.there
  cases hok : okB p q
  · have HV := Lib.hid (aftV_no (ao2 (l := l) (c := c) (v := v) (d := d) hok))
    go_wp2
    clear B_0 B_1 B_f0 B_f1 B_t
    clear O_0 O_1 O_f0 O_f1 O_t
    have B_t5 := B.there
    have O_t5 := O.there
    have B' : Box (w.heap.size) [.int .i64 p, .int .i64 q] w _ := ((B.far O.base (by omega) 0 (.int .i64 0)).far O.base (by omega) 1 (.int .i64 0))
    have O' : Box (w.heap.size + 1) [.int .i64 0, .int .i64 0] w _ := ((O.set 0 (.int .i64 0)).set 1 (.int .i64 0))
    clear B; have B := B'; clear B'
    clear O; have O := O'; clear O'
    have sz5 : ((v4.setCell ⟨w.heap.size + 1, 0, none⟩ (.int .i64 0)).setCell ⟨w.heap.size + 1, 1, none⟩ (.int .i64 0)).heap.size = v4.heap.size := by simp only [size_set']
    generalize ((v4.setCell ⟨w.heap.size + 1, 0, none⟩ (.int .i64 0)).setCell ⟨w.heap.size + 1, 1, none⟩ (.int .i64 0)) = W5 at B O sz5 ⊢
    replace sz5 := Lib.hid sz5
    have B_0 := B.cells 0 _ rfl
    have B_1 := B.cells 1 _ rfl
    have B_f0 := B.free 0 (by simp)
    have B_f1 := B.free 1 (by simp)
    have B_t := B.there
    have O_0 := O.cells 0 _ rfl
    have O_1 := O.cells 1 _ rfl
    have O_f0 := O.free 0 (by simp)
    have O_f1 := O.free 1 (by simp)
    have O_t := O.there
    exact bodyPost_ret (v := .tuple #[br 0 0, .bool false]) (by simp [br, results, Try.results18, go_sem, O_0, O_1]) rfl (rpost (by rw [HV.out]) O.below)
  go_wp2_with fail
  refine (in_any v 0 100 _).mono ?_
  rintro e _ ⟨rfl, rfl⟩
  cases hv : inB v 0 100
  · have HV := Lib.hid (aftV_no (ao3 (l := l) (p := p) (q := q) (c := c) (d := d) hv))
    go_wp2
    clear B_0 B_1 B_f0 B_f1 B_t
    clear O_0 O_1 O_f0 O_f1 O_t
    have B_t7 := B.there
    have O_t7 := O.there
    have B' : Box (w.heap.size) [.int .i64 p, .int .i64 q] w _ := ((B.far O.base (by omega) 0 (.int .i64 0)).far O.base (by omega) 1 (.int .i64 0))
    have O' : Box (w.heap.size + 1) [.int .i64 0, .int .i64 0] w _ := ((O.set 0 (.int .i64 0)).set 1 (.int .i64 0))
    clear B; have B := B'; clear B'
    clear O; have O := O'; clear O'
    have sz7 : ((v4.setCell ⟨w.heap.size + 1, 0, none⟩ (.int .i64 0)).setCell ⟨w.heap.size + 1, 1, none⟩ (.int .i64 0)).heap.size = v4.heap.size := by simp only [size_set']
    generalize ((v4.setCell ⟨w.heap.size + 1, 0, none⟩ (.int .i64 0)).setCell ⟨w.heap.size + 1, 1, none⟩ (.int .i64 0)) = W7 at B O sz7 ⊢
    replace sz7 := Lib.hid sz7
    have B_0 := B.cells 0 _ rfl
    have B_1 := B.cells 1 _ rfl
    have B_f0 := B.free 0 (by simp)
    have B_f1 := B.free 1 (by simp)
    have B_t := B.there
    have O_0 := O.cells 0 _ rfl
    have O_1 := O.cells 1 _ rfl
    have O_f0 := O.free 0 (by simp)
    have O_f1 := O.free 1 (by simp)
    have O_t := O.there
    exact bodyPost_ret (v := .tuple #[br 0 0, .bool false]) (by simp [br, results, Try.results18, go_sem, O_0, O_1]) rfl (rpost (by rw [HV.out]) O.below)
  obtain ⟨hp, hp1, hq, hq1⟩ := okB_true hok
  obtain ⟨k0, k1⟩ := kilo_bd hg
  obtain ⟨v0, v1⟩ := of_inB hv
  have HNO := Lib.hid (fun h => aftV_no (ao4 (l := l) (p := p) (q := q) (c := c) (v := v) (d := d) h))
  have HYES := Lib.hid (fun h => aftV_yes (ao5 hg hok hv h))
  unfold aftW at HNO HYES
  clear hg hok hv
  generalize kilo l c d = k at k0 k1 HNO HYES ⊢
  have hcb := (comes_nums k0 k1 v0 v1).2.2.2.2.2.2.2
  have HCS := Lib.hid (comes_spec k v k0 k1 v0 v1)
  generalize comes k v = x at hcb HNO HYES HCS ⊢
  have y0 : IntKind.i64.wrap (p + x) = p + x := IntWalk.i64_in _ (by omega)
  obtain ⟨z, hz⟩ : ∃ z, p + x = z := ⟨_, rfl⟩
  rw [hz] at HNO HYES
  have y9 : IntKind.i64.wrap (p + x) = z := y0.trans hz
  clear hcb k0 k1 v0 v1 y0 hz
  go_wp2
  clear B_0 B_1 B_f0 B_f1 B_t
  clear O_0 O_1 O_f0 O_f1 O_t
  obtain ⟨v8, hV8⟩ : ∃ V : World, V = v4.drew := ⟨_, rfl⟩
  replace B : Box (w.heap.size) [.int .i64 p, .int .i64 q] w v8 := by rw [hV8]; exact B.drew
  replace O : Box (w.heap.size + 1) [.int .i64 0, .int .i64 0] w v8 := by rw [hV8]; exact O.drew
  refine wp_region_tail 10 (fun L w' => Pin (L 9) v8 (v8.alloc (.cells #[.int .i64 0, .int .i64 0] 26)) w') (by kernel_rfl) (by kernel_rfl) (by kernel_rfl) (by rw [← hV8]; exact Pin.start _ _) ?_
  clear hV8
  have B_0 := B.cells 0 _ rfl
  have B_1 := B.cells 1 _ rfl
  have B_f0 := B.free 0 (by simp)
  have B_f1 := B.free 1 (by simp)
  have B_t := B.there
  have O_0 := O.cells 0 _ rfl
  have O_1 := O.cells 1 _ rfl
  have O_f0 := O.free 0 (by simp)
  have O_f1 := O.free 1 (by simp)
  have O_t := O.there
  simp only [List.take_succ_cons, List.take_zero]
  iterate 10 (
    apply SeqH.op
    · intro L uw K hN hS hK
      first
        | (go_simp; exact hK.out _ (hS.skip (by decide)))
        | (have hE := (hS.2 (hN.out.1 9 (by decide +kernel))).symm; subst hE; clear hN; first | (go_simp; exact hK.out _ (hS.skip (by decide))) | (go_simp; go_at_call 83; (with_reducible refine (HCS.out _).mono ?_); rintro e _ ⟨rfl, rfl⟩; go_wp2_with fail; exact hK.out _ (hS.skip (by decide))) | (go_simp; exact hK.out _ Pin.put))
        | (rcases hS.two with hE | hE <;> (subst hE; clear hN; first | (go_simp; exact hK.out _ (hS.skip (by decide))) | (go_simp; go_at_call 83; (with_reducible refine (HCS.out _).mono ?_); rintro e _ ⟨rfl, rfl⟩; go_wp2_with fail; exact hK.out _ (hS.skip (by decide)))))
    try simp only [Act.put, List.setIfInBounds_toArray, List.set_cons_zero, List.set_cons_succ])
  refine SeqH.rest' rfl ?_
  intro L uv hL hS
  have hE := (hS.1 (hL 9 (by decide))).symm
  subst hE
  clear hS hL
  simp only [List.drop_succ_cons, List.drop_zero]
  go_wp2_with fail
  have B_t9 := B.there
  have O_t9 := O.there
  have X := Box.new B.below [.int .i64 z, .int .i64 q] 26 (g := v8.heap.size) rfl
  clear B_0 B_1 B_f0 B_f1 B_t
  replace B := (B).alloc (.cells #[.int .i64 z, .int .i64 q] 26)
  clear O_0 O_1 O_f0 O_f1 O_t
  replace O := (O).alloc (.cells #[.int .i64 z, .int .i64 q] 26)
  generalize (v8.alloc (.cells #[.int .i64 z, .int .i64 q] 26)) = W9 at X B O ⊢
  have B_0 := B.cells 0 _ rfl
  have B_1 := B.cells 1 _ rfl
  have B_f0 := B.free 0 (by simp)
  have B_f1 := B.free 1 (by simp)
  have B_t := B.there
  have O_0 := O.cells 0 _ rfl
  have O_1 := O.cells 1 _ rfl
  have O_f0 := O.free 0 (by simp)
  have O_f1 := O.free 1 (by simp)
  have O_t := O.there
  have X_0 := X.cells 0 _ rfl
  have X_1 := X.cells 1 _ rfl
  have X_f0 := X.free 0 (by simp)
  have X_f1 := X.free 1 (by simp)
  have X_t := X.there
  go_wp2_with fail
  refine (brine_spec z q _).mono ?_
  rintro e v10 ⟨rfl, hv10⟩
  clear B_0 B_1 B_f0 B_f1 B_t
  clear O_0 O_1 O_f0 O_f1 O_t
  clear X_0 X_1 X_f0 X_f1 X_t
  replace B := B.more hv10
  replace O := O.more hv10
  replace X := X.more hv10
  have zhv10 := hv10.size
  clear hv10
  have B_0 := B.cells 0 _ rfl
  have B_1 := B.cells 1 _ rfl
  have B_f0 := B.free 0 (by simp)
  have B_f1 := B.free 1 (by simp)
  have B_t := B.there
  have O_0 := O.cells 0 _ rfl
  have O_1 := O.cells 1 _ rfl
  have O_f0 := O.free 0 (by simp)
  have O_f1 := O.free 1 (by simp)
  have O_t := O.there
  have X_0 := X.cells 0 _ rfl
  have X_1 := X.cells 1 _ rfl
  have X_f0 := X.free 0 (by simp)
  have X_f1 := X.free 1 (by simp)
  have X_t := X.there
  cases ho : okB z q
  · have HV := Lib.hid (HNO.out ho)
    go_wp2
    clear B_0 B_1 B_f0 B_f1 B_t
    clear O_0 O_1 O_f0 O_f1 O_t
    clear X_0 X_1 X_f0 X_f1 X_t
    have B_t11 := B.there
    have O_t11 := O.there
    have X_t11 := X.there
    have B' : Box (w.heap.size) [.int .i64 p, .int .i64 q] w _ := ((B.far O.base (by omega) 0 (.int .i64 0)).far O.base (by omega) 1 (.int .i64 0))
    have O' : Box (w.heap.size + 1) [.int .i64 0, .int .i64 0] w _ := ((O.set 0 (.int .i64 0)).set 1 (.int .i64 0))
    have X' : Box (v8.heap.size) [.int .i64 z, .int .i64 q] w _ := ((X.far O.base (by omega) 0 (.int .i64 0)).far O.base (by omega) 1 (.int .i64 0))
    clear B; have B := B'; clear B'
    clear O; have O := O'; clear O'
    clear X; have X := X'; clear X'
    have sz11 : ((v10.setCell ⟨w.heap.size + 1, 0, none⟩ (.int .i64 0)).setCell ⟨w.heap.size + 1, 1, none⟩ (.int .i64 0)).heap.size = v10.heap.size := by simp only [size_set']
    generalize ((v10.setCell ⟨w.heap.size + 1, 0, none⟩ (.int .i64 0)).setCell ⟨w.heap.size + 1, 1, none⟩ (.int .i64 0)) = W11 at B O X sz11 ⊢
    replace sz11 := Lib.hid sz11
    have B_0 := B.cells 0 _ rfl
    have B_1 := B.cells 1 _ rfl
    have B_f0 := B.free 0 (by simp)
    have B_f1 := B.free 1 (by simp)
    have B_t := B.there
    have O_0 := O.cells 0 _ rfl
    have O_1 := O.cells 1 _ rfl
    have O_f0 := O.free 0 (by simp)
    have O_f1 := O.free 1 (by simp)
    have O_t := O.there
    have X_0 := X.cells 0 _ rfl
    have X_1 := X.cells 1 _ rfl
    have X_f0 := X.free 0 (by simp)
    have X_f1 := X.free 1 (by simp)
    have X_t := X.there
    exact bodyPost_ret (v := .tuple #[br 0 0, .bool false]) (by simp [br, results, Try.results18, go_sem, O_0, O_1]) rfl (rpost (by rw [HV.out]) O.below)
  · have HV := Lib.hid (HYES.out ho)
    go_wp2
    clear B_0 B_1 B_f0 B_f1 B_t
    clear O_0 O_1 O_f0 O_f1 O_t
    clear X_0 X_1 X_f0 X_f1 X_t
    have B_t12 := B.there
    have O_t12 := O.there
    have X_t12 := X.there
    have B' : Box (w.heap.size) [.int .i64 p, .int .i64 q] w _ := ((B.far O.base (by omega) 0 (.int .i64 z)).far O.base (by omega) 1 (.int .i64 q))
    have O' : Box (w.heap.size + 1) [.int .i64 z, .int .i64 q] w _ := ((O.set 0 (.int .i64 z)).set 1 (.int .i64 q))
    have X' : Box (v8.heap.size) [.int .i64 z, .int .i64 q] w _ := ((X.far O.base (by omega) 0 (.int .i64 z)).far O.base (by omega) 1 (.int .i64 q))
    clear B; have B := B'; clear B'
    clear O; have O := O'; clear O'
    clear X; have X := X'; clear X'
    have sz12 : ((v10.setCell ⟨w.heap.size + 1, 0, none⟩ (.int .i64 z)).setCell ⟨w.heap.size + 1, 1, none⟩ (.int .i64 q)).heap.size = v10.heap.size := by simp only [size_set']
    generalize ((v10.setCell ⟨w.heap.size + 1, 0, none⟩ (.int .i64 z)).setCell ⟨w.heap.size + 1, 1, none⟩ (.int .i64 q)) = W12 at B O X sz12 ⊢
    replace sz12 := Lib.hid sz12
    have B_0 := B.cells 0 _ rfl
    have B_1 := B.cells 1 _ rfl
    have B_f0 := B.free 0 (by simp)
    have B_f1 := B.free 1 (by simp)
    have B_t := B.there
    have O_0 := O.cells 0 _ rfl
    have O_1 := O.cells 1 _ rfl
    have O_f0 := O.free 0 (by simp)
    have O_f1 := O.free 1 (by simp)
    have O_t := O.there
    have X_0 := X.cells 0 _ rfl
    have X_1 := X.cells 1 _ rfl
    have X_f0 := X.free 0 (by simp)
    have X_f1 := X.free 1 (by simp)
    have X_t := X.there
    exact bodyPost_ret (v := .tuple #[br z q, .bool true]) (by simp [br, results, Try.results18, go_sem, O_0, O_1]) rfl (rpost (by rw [HV.out]) O.below)
set_option maxHeartbeats 800000 in
theorem aft_impl (P : Option Addr) (cap : Nat) (l : List R) (p q c v d : Int) (w : World) (hr : Rd w w.heap.size P (flat l)) (hc : l.length ≤ cap) (hn : l.length ≤ 1048576) :
    Calls Try.prog 17 #[.slice P l.length cap, .agg #[.int .i64 p, .int .i64 q], .int .i64 c, .int .i64 v, .int .i64 d] w (RPost (aftV l p q c v d) w) := by
  have HR := Lib.hid hr; clear hr
  go_enter Try.func17, Try.ntmps17
  go_wp2_with fail
  have B := (Box.new (Below.refl _ w) [.int .i64 p, .int .i64 q] 26 (g := w.heap.size) rfl).alloc (.cells #[.int .i64 0, .int .i64 0] 26)
  have O := Box.new (al (Below.refl _ w) (o := (.cells #[.int .i64 p, .int .i64 q] 26))) [.int .i64 0, .int .i64 0] 26 (g := w.heap.size + 1) (by simp only [size_alloc'])
  generalize ((w.alloc (.cells #[.int .i64 p, .int .i64 q] 26)).alloc (.cells #[.int .i64 0, .int .i64 0] 26)) = W1 at B O ⊢
  have B_0 := B.cells 0 _ rfl
  have B_1 := B.cells 1 _ rfl
  have B_f0 := B.free 0 (by simp)
  have B_f1 := B.free 1 (by simp)
  have B_t := B.there
  have O_0 := O.cells 0 _ rfl
  have O_1 := O.cells 1 _ rfl
  have O_f0 := O.free 0 (by simp)
  have O_f1 := O.free 1 (by simp)
  have O_t := O.there
  go_wp2_with fail
  refine (can_impl P cap l c d _ (rd_keep HR.out B.below) hn).mono ?_
  rintro e v2 ⟨rfl, hv2⟩
  clear B_0 B_1 B_f0 B_f1 B_t
  clear O_0 O_1 O_f0 O_f1 O_t
  replace B := B.more hv2
  replace O := O.more hv2
  have zhv2 := hv2.size
  clear hv2
  have B_0 := B.cells 0 _ rfl
  have B_1 := B.cells 1 _ rfl
  have B_f0 := B.free 0 (by simp)
  have B_f1 := B.free 1 (by simp)
  have B_t := B.there
  have O_0 := O.cells 0 _ rfl
  have O_1 := O.cells 1 _ rfl
  have O_f0 := O.free 0 (by simp)
  have O_f1 := O.free 1 (by simp)
  have O_t := O.there
  cases hg : canOk l c d
  · have HV := Lib.hid (aftV_no (ao1 (p := p) (q := q) (v := v) hg))
    go_wp2
    clear B_0 B_1 B_f0 B_f1 B_t
    clear O_0 O_1 O_f0 O_f1 O_t
    have B_t3 := B.there
    have O_t3 := O.there
    have B' : Box (w.heap.size) [.int .i64 p, .int .i64 q] w _ := ((B.far O.base (by omega) 0 (.int .i64 0)).far O.base (by omega) 1 (.int .i64 0))
    have O' : Box (w.heap.size + 1) [.int .i64 0, .int .i64 0] w _ := ((O.set 0 (.int .i64 0)).set 1 (.int .i64 0))
    clear B; have B := B'; clear B'
    clear O; have O := O'; clear O'
    have sz3 : ((v2.setCell ⟨w.heap.size + 1, 0, none⟩ (.int .i64 0)).setCell ⟨w.heap.size + 1, 1, none⟩ (.int .i64 0)).heap.size = v2.heap.size := by simp only [size_set']
    generalize ((v2.setCell ⟨w.heap.size + 1, 0, none⟩ (.int .i64 0)).setCell ⟨w.heap.size + 1, 1, none⟩ (.int .i64 0)) = W3 at B O sz3 ⊢
    replace sz3 := Lib.hid sz3
    have B_0 := B.cells 0 _ rfl
    have B_1 := B.cells 1 _ rfl
    have B_f0 := B.free 0 (by simp)
    have B_f1 := B.free 1 (by simp)
    have B_t := B.there
    have O_0 := O.cells 0 _ rfl
    have O_1 := O.cells 1 _ rfl
    have O_f0 := O.free 0 (by simp)
    have O_f1 := O.free 1 (by simp)
    have O_t := O.there
    exact bodyPost_ret (v := .tuple #[br 0 0, .bool false]) (by simp [br, results, Try.results17, go_sem, O_0, O_1]) rfl (rpost (by rw [HV.out]) O.below)
  go_wp2_with fail
  refine (IBrine.brine_impl p q _).mono ?_
  rintro e v4 ⟨rfl, hv4⟩
  clear B_0 B_1 B_f0 B_f1 B_t
  clear O_0 O_1 O_f0 O_f1 O_t
  replace B := B.more hv4
  replace O := O.more hv4
  have zhv4 := hv4.size
  clear hv4
  have B_0 := B.cells 0 _ rfl
  have B_1 := B.cells 1 _ rfl
  have B_f0 := B.free 0 (by simp)
  have B_f1 := B.free 1 (by simp)
  have B_t := B.there
  have O_0 := O.cells 0 _ rfl
  have O_1 := O.cells 1 _ rfl
  have O_f0 := O.free 0 (by simp)
  have O_f1 := O.free 1 (by simp)
  have O_t := O.there
  cases hok : okB p q
  · have HV := Lib.hid (aftV_no (ao2 (l := l) (c := c) (v := v) (d := d) hok))
    go_wp2
    clear B_0 B_1 B_f0 B_f1 B_t
    clear O_0 O_1 O_f0 O_f1 O_t
    have B_t5 := B.there
    have O_t5 := O.there
    have B' : Box (w.heap.size) [.int .i64 p, .int .i64 q] w _ := ((B.far O.base (by omega) 0 (.int .i64 0)).far O.base (by omega) 1 (.int .i64 0))
    have O' : Box (w.heap.size + 1) [.int .i64 0, .int .i64 0] w _ := ((O.set 0 (.int .i64 0)).set 1 (.int .i64 0))
    clear B; have B := B'; clear B'
    clear O; have O := O'; clear O'
    have sz5 : ((v4.setCell ⟨w.heap.size + 1, 0, none⟩ (.int .i64 0)).setCell ⟨w.heap.size + 1, 1, none⟩ (.int .i64 0)).heap.size = v4.heap.size := by simp only [size_set']
    generalize ((v4.setCell ⟨w.heap.size + 1, 0, none⟩ (.int .i64 0)).setCell ⟨w.heap.size + 1, 1, none⟩ (.int .i64 0)) = W5 at B O sz5 ⊢
    replace sz5 := Lib.hid sz5
    have B_0 := B.cells 0 _ rfl
    have B_1 := B.cells 1 _ rfl
    have B_f0 := B.free 0 (by simp)
    have B_f1 := B.free 1 (by simp)
    have B_t := B.there
    have O_0 := O.cells 0 _ rfl
    have O_1 := O.cells 1 _ rfl
    have O_f0 := O.free 0 (by simp)
    have O_f1 := O.free 1 (by simp)
    have O_t := O.there
    exact bodyPost_ret (v := .tuple #[br 0 0, .bool false]) (by simp [br, results, Try.results17, go_sem, O_0, O_1]) rfl (rpost (by rw [HV.out]) O.below)
  go_wp2_with fail
  refine (within_any v 0 100 _).mono ?_
  rintro e _ ⟨rfl, rfl⟩
  cases hv : inB v 0 100
  · have HV := Lib.hid (aftV_no (ao3 (l := l) (p := p) (q := q) (c := c) (d := d) hv))
    go_wp2
    clear B_0 B_1 B_f0 B_f1 B_t
    clear O_0 O_1 O_f0 O_f1 O_t
    have B_t7 := B.there
    have O_t7 := O.there
    have B' : Box (w.heap.size) [.int .i64 p, .int .i64 q] w _ := ((B.far O.base (by omega) 0 (.int .i64 0)).far O.base (by omega) 1 (.int .i64 0))
    have O' : Box (w.heap.size + 1) [.int .i64 0, .int .i64 0] w _ := ((O.set 0 (.int .i64 0)).set 1 (.int .i64 0))
    clear B; have B := B'; clear B'
    clear O; have O := O'; clear O'
    have sz7 : ((v4.setCell ⟨w.heap.size + 1, 0, none⟩ (.int .i64 0)).setCell ⟨w.heap.size + 1, 1, none⟩ (.int .i64 0)).heap.size = v4.heap.size := by simp only [size_set']
    generalize ((v4.setCell ⟨w.heap.size + 1, 0, none⟩ (.int .i64 0)).setCell ⟨w.heap.size + 1, 1, none⟩ (.int .i64 0)) = W7 at B O sz7 ⊢
    replace sz7 := Lib.hid sz7
    have B_0 := B.cells 0 _ rfl
    have B_1 := B.cells 1 _ rfl
    have B_f0 := B.free 0 (by simp)
    have B_f1 := B.free 1 (by simp)
    have B_t := B.there
    have O_0 := O.cells 0 _ rfl
    have O_1 := O.cells 1 _ rfl
    have O_f0 := O.free 0 (by simp)
    have O_f1 := O.free 1 (by simp)
    have O_t := O.there
    exact bodyPost_ret (v := .tuple #[br 0 0, .bool false]) (by simp [br, results, Try.results17, go_sem, O_0, O_1]) rfl (rpost (by rw [HV.out]) O.below)
  obtain ⟨hp, hp1, hq, hq1⟩ := okB_true hok
  obtain ⟨k0, k1⟩ := kilo_bd hg
  obtain ⟨v0, v1⟩ := of_inB hv
  obtain ⟨g1, g2, _⟩ := can_true hg
  have HE := Lib.hid (on_sum g1 c d)
  have HSN := Lib.hid (good_sane g1)
  have HNO := Lib.hid (fun h => aftV_no (ao4 (l := l) (p := p) (q := q) (c := c) (v := v) (d := d) h))
  have HYES := Lib.hid (fun h => aftV_yes (ao5 hg hok hv h))
  unfold aftW at HNO HYES
  unfold kilo at HNO HYES k0 k1
  rw [← on_sum g1 c d] at k0 k1
  rw [← on_sum g1 c d] at HNO HYES
  clear hg hok hv g1 HE
  have hcb := (comes_nums k0 k1 v0 v1).2.2.2.2.2.2.2
  have y0 : IntKind.i64.wrap (p + comes (sumF l c d d) v) = p + comes (sumF l c d d) v := IntWalk.i64_in _ (by omega)
  obtain ⟨z, hz⟩ : ∃ z, p + comes (sumF l c d d) v = z := ⟨_, rfl⟩
  rw [hz] at HNO HYES
  have y9 : IntKind.i64.wrap (p + comes (sumF l c d d) v) = z := y0.trans hz
  clear hcb y0 hz
  go_wp2
  refine wp_region_seq (fun L w' => BoxL (L 11) (w.heap.size) [.int .i64 p, .int .i64 q] [.int .i64 z, .int .i64 q] w w' ∧ Box (w.heap.size + 1) [.int .i64 0, .int .i64 0] w w') (by kernel_rfl) (by kernel_rfl) ⟨BoxL.start _ B.drew, O.drew⟩ ?_
  clear B_0 B_1 B_f0 B_f1 B_t
  clear O_0 O_1 O_f0 O_f1 O_t
  iterate 12 (
    apply SeqH.op
    · intro L uw K hN hS hK
      obtain ⟨qB, qO⟩ := hS
      try (have hh0 := qB.2 (hN.out.1 11 (by decide +kernel)); have qB_0 := hh0.cells 0 _ rfl; have qB_1 := hh0.cells 1 _ rfl; clear hh0)
      have qO_0 := qO.cells 0 _ rfl
      have qO_1 := qO.cells 1 _ rfl
      clear hN
      first
        | (go_simp; exact hK.out _ ⟨(qB).skip (by decide), qO⟩)
        | (go_simp; go_at_call 80; (with_reducible refine (sum_impl P cap l c d d g2.1 g2.2 _ (rd_keep HR.out qO.below) HSN.out).mono ?_); rintro e uw1 ⟨rfl, hv⟩; go_wp2_with fail; exact hK.out _ ⟨(qB.more hv).skip (by decide), qO.more hv⟩)
        | (go_simp; go_at_call 79; (with_reducible refine (comes_impl _ v k0 k1 v0 v1 _).mono ?_); rintro e _ ⟨rfl, rfl⟩; go_wp2_with fail; exact hK.out _ ⟨(qB).skip (by decide), qO⟩)
        | (rcases qB.two with hh | hh <;> (have h0 := hh.cells 0 _ rfl; have k0 := hh.free 0 (by simp); have h1 := hh.cells 1 _ rfl; have k1 := hh.free 1 (by simp); go_simp; exact hK.out _ ⟨BoxL.put (hh.set 0 (.int .i64 z)), (qO.far hh.base (by omega) 0 (.int .i64 z))⟩))
    try simp only [Act.put, List.setIfInBounds_toArray, List.set_cons_zero, List.set_cons_succ])
  refine SeqH.done rfl ?_
  intro L v8 hL hS
  clear B O
  obtain ⟨B, O⟩ := hS
  replace B := B.done (hL 11 (by decide))
  clear hL
  have B_0 := B.cells 0 _ rfl
  have B_1 := B.cells 1 _ rfl
  have B_f0 := B.free 0 (by simp)
  have B_f1 := B.free 1 (by simp)
  have B_t := B.there
  have O_0 := O.cells 0 _ rfl
  have O_1 := O.cells 1 _ rfl
  have O_f0 := O.free 0 (by simp)
  have O_f1 := O.free 1 (by simp)
  have O_t := O.there
  go_wp2_with fail
  refine (IBrine.brine_impl z q _).mono ?_
  rintro e v9 ⟨rfl, hv9⟩
  clear B_0 B_1 B_f0 B_f1 B_t
  clear O_0 O_1 O_f0 O_f1 O_t
  replace B := B.more hv9
  replace O := O.more hv9
  have zhv9 := hv9.size
  clear hv9
  have B_0 := B.cells 0 _ rfl
  have B_1 := B.cells 1 _ rfl
  have B_f0 := B.free 0 (by simp)
  have B_f1 := B.free 1 (by simp)
  have B_t := B.there
  have O_0 := O.cells 0 _ rfl
  have O_1 := O.cells 1 _ rfl
  have O_f0 := O.free 0 (by simp)
  have O_f1 := O.free 1 (by simp)
  have O_t := O.there
  cases ho : okB z q
  · have HV := Lib.hid (HNO.out ho)
    go_wp2
    clear B_0 B_1 B_f0 B_f1 B_t
    clear O_0 O_1 O_f0 O_f1 O_t
    have B_t10 := B.there
    have O_t10 := O.there
    have B' : Box (w.heap.size) [.int .i64 z, .int .i64 q] w _ := ((B.far O.base (by omega) 0 (.int .i64 0)).far O.base (by omega) 1 (.int .i64 0))
    have O' : Box (w.heap.size + 1) [.int .i64 0, .int .i64 0] w _ := ((O.set 0 (.int .i64 0)).set 1 (.int .i64 0))
    clear B; have B := B'; clear B'
    clear O; have O := O'; clear O'
    have sz10 : ((v9.setCell ⟨w.heap.size + 1, 0, none⟩ (.int .i64 0)).setCell ⟨w.heap.size + 1, 1, none⟩ (.int .i64 0)).heap.size = v9.heap.size := by simp only [size_set']
    generalize ((v9.setCell ⟨w.heap.size + 1, 0, none⟩ (.int .i64 0)).setCell ⟨w.heap.size + 1, 1, none⟩ (.int .i64 0)) = W10 at B O sz10 ⊢
    replace sz10 := Lib.hid sz10
    have B_0 := B.cells 0 _ rfl
    have B_1 := B.cells 1 _ rfl
    have B_f0 := B.free 0 (by simp)
    have B_f1 := B.free 1 (by simp)
    have B_t := B.there
    have O_0 := O.cells 0 _ rfl
    have O_1 := O.cells 1 _ rfl
    have O_f0 := O.free 0 (by simp)
    have O_f1 := O.free 1 (by simp)
    have O_t := O.there
    exact bodyPost_ret (v := .tuple #[br 0 0, .bool false]) (by simp [br, results, Try.results17, go_sem, O_0, O_1]) rfl (rpost (by rw [HV.out]) O.below)
  · have HV := Lib.hid (HYES.out ho)
    go_wp2
    clear B_0 B_1 B_f0 B_f1 B_t
    clear O_0 O_1 O_f0 O_f1 O_t
    have B_t11 := B.there
    have O_t11 := O.there
    have B' : Box (w.heap.size) [.int .i64 z, .int .i64 q] w _ := ((B.far O.base (by omega) 0 (.int .i64 z)).far O.base (by omega) 1 (.int .i64 q))
    have O' : Box (w.heap.size + 1) [.int .i64 z, .int .i64 q] w _ := ((O.set 0 (.int .i64 z)).set 1 (.int .i64 q))
    clear B; have B := B'; clear B'
    clear O; have O := O'; clear O'
    have sz11 : ((v9.setCell ⟨w.heap.size + 1, 0, none⟩ (.int .i64 z)).setCell ⟨w.heap.size + 1, 1, none⟩ (.int .i64 q)).heap.size = v9.heap.size := by simp only [size_set']
    generalize ((v9.setCell ⟨w.heap.size + 1, 0, none⟩ (.int .i64 z)).setCell ⟨w.heap.size + 1, 1, none⟩ (.int .i64 q)) = W11 at B O sz11 ⊢
    replace sz11 := Lib.hid sz11
    have B_0 := B.cells 0 _ rfl
    have B_1 := B.cells 1 _ rfl
    have B_f0 := B.free 0 (by simp)
    have B_f1 := B.free 1 (by simp)
    have B_t := B.there
    have O_0 := O.cells 0 _ rfl
    have O_1 := O.cells 1 _ rfl
    have O_f0 := O.free 0 (by simp)
    have O_f1 := O.free 1 (by simp)
    have O_t := O.there
    exact bodyPost_ret (v := .tuple #[br z q, .bool true]) (by simp [br, results, Try.results17, go_sem, O_0, O_1]) rfl (rpost (by rw [HV.out]) O.below)
end Go.Proofs.Ytpbmncecejchjaa.ShwM
