/- Showers and suns: NetOn. -/
import Derived.Test.YtpbmncecejchjaaShwM
import Derived.Test.YtpbmncecejchjaaSunE
namespace Go.Proofs.Ytpbmncecejchjaa.ShwN
open Go.RowKit Go.Proofs.Ytpbmncecejchjaa.Mem Go.Proofs.Ytpbmncecejchjaa.Base Go.Proofs.Ytpbmncecejchjaa.Within Go.Proofs.Ytpbmncecejchjaa.Brine Go.Proofs.Ytpbmncecejchjaa.Brine2 Go.Proofs.Ytpbmncecejchjaa.Regn Go.Proofs.Ytpbmncecejchjaa.Boxes Go.Proofs.Ytpbmncecejchjaa.Keep Go.Proofs.Ytpbmncecejchjaa.SShower Go.Proofs.Ytpbmncecejchjaa.Shw Go.Proofs.Ytpbmncecejchjaa.ShwS Go.Proofs.Ytpbmncecejchjaa.ShwG Go.Proofs.Ytpbmncecejchjaa.ShwL Go.Proofs.Ytpbmncecejchjaa.ShwM
set_option linter.unusedVariables false
set_option maxRecDepth 100000
abbrev RPost := Brine.RPost
theorem rpost {v u : Value} {w w' : World} (h : u = v) (hw : Below w.heap.size w w') : RPost v w (.returned u) w' := ⟨by rw [h], hw⟩
/-- the water behind the sun, and behind the rain. -/
def dryW (m : List SSun.R) (p q c d : Int) : Int := p - SunA.loss p q (Sun.on m d) c
def netW (l : List R) (m : List SSun.R) (p q c d : Int) : Int := dryW m p q c d + kilo l c d
def netOk (l : List R) (m : List SSun.R) (p q c d : Int) : Bool := canOk l c d && Sun.good m && okB p q && okB (netW l m p q c d) q
def netV (l : List R) (m : List SSun.R) (p q c d : Int) : Value := if netOk l m p q c d = true then .tuple #[br (netW l m p q c d) q, .bool true] else .tuple #[br 0 0, .bool false]
theorem no1 {l : List R} {m : List SSun.R} {p q c d : Int} (h : canOk l c d = false) : netOk l m p q c d = false := by unfold netOk; rw [h]; rfl
theorem no2 {l : List R} {m : List SSun.R} {p q c d : Int} (h : Sun.good m = false) : netOk l m p q c d = false := by unfold netOk; rw [h, Bool.and_false]; rfl
theorem no3 {l : List R} {m : List SSun.R} {p q c d : Int} (h : okB p q = false) : netOk l m p q c d = false := by unfold netOk; rw [h, Bool.and_false]; rfl
theorem no4 {l : List R} {m : List SSun.R} {p q c d : Int} (h : okB (netW l m p q c d) q = false) : netOk l m p q c d = false := by unfold netOk; rw [h, Bool.and_false]
theorem no5 {l : List R} {m : List SSun.R} {p q c d : Int} (h : canOk l c d = true) (h1 : Sun.good m = true) (h2 : okB p q = true) (h3 : okB (netW l m p q c d) q = true) : netOk l m p q c d = true := by unfold netOk; rw [h, h1, h2, h3]; rfl
theorem netV_no {l : List R} {m : List SSun.R} {p q c d : Int} (h : netOk l m p q c d = false) : netV l m p q c d = .tuple #[br 0 0, .bool false] := by unfold netV; rw [h]; rfl
theorem netV_yes {l : List R} {m : List SSun.R} {p q c d : Int} (h : netOk l m p q c d = true) : netV l m p q c d = .tuple #[br (netW l m p q c d) q, .bool true] := by unfold netV; rw [if_pos h]
theorem net_form (l : List R) (m : List SSun.R) (p q c d : Int) : ∃ x y z, netV l m p q c d = .tuple #[.agg #[.int .i64 x, .int .i64 y], .bool z] := by
  unfold netV br; split
  · exact ⟨_, _, _, rfl⟩
  · exact ⟨_, _, _, rfl⟩
theorem comes_zero (k : Int) : comes k 0 = k := by unfold comes; omega
/-- the program's way: the rain on what is left. -/
theorem net_aft {l : List R} {m : List SSun.R} {p q c d : Int} (h : canOk l c d = true) (h1 : Sun.good m = true) (h2 : okB p q = true) (h3 : okB (dryW m p q c d) q = true) : aftV l (dryW m p q c d) q c 0 d = netV l m p q c d := by
  have e : aftW l (dryW m p q c d) c 0 d = netW l m p q c d := by unfold aftW netW; rw [comes_zero]
  have e2 : aftOk l (dryW m p q c d) q c 0 d = netOk l m p q c d := by
    unfold aftOk netOk; rw [e, h, h1, h2, h3]; rfl
  unfold aftV netV; rw [e2, e]
theorem dry_bd {l : List R} {m : List SSun.R} {p q c d : Int} (h : canOk l c d = true) (h1 : Sun.good m = true) (h2 : okB p q = true) :
    0 ≤ SunA.loss p q (Sun.on m d) c ∧ 0 ≤ dryW m p q c d ∧ dryW m p q c d ≤ p := by
  obtain ⟨hp, hp1, hq, hq1⟩ := okB_true h2
  obtain ⟨_, hc, _⟩ := can_true h
  have r := Sun.Sane.on h1 d
  have := SunA.loss_bd (p := p) (q := q) (r := Sun.on m d) (a := c) hp hq r.1 r.2 (by omega) hc.2
  unfold dryW; omega
theorem okB_mk {a b : Int} (h : 0 ≤ a ∧ a ≤ 1000000) (h1 : 0 ≤ b ∧ b ≤ 1000000) : okB a b = true := by unfold okB; rw [inB_true h, inB_true h1]; rfl
set_option maxHeartbeats 1600000 in
theorem net_spec (P : Option Addr) (cap : Nat) (l : List R) (P' : Option Addr) (cap' : Nat) (m : List SSun.R) (p q c d : Int) (w : World) (hr : Rd w w.heap.size P (flat l)) (hr' : Rd w w.heap.size P' (SSun.flat m)) (hn : l.length ≤ 1048576) (hn' : m.length ≤ 1048576) :
    Calls Try.prog 27 #[.slice P l.length cap, .slice P' m.length cap', .agg #[.int .i64 p, .int .i64 q], .int .i64 c, .int .i64 d] w (RPost (netV l m p q c d) w) := by
  have HR := Lib.hid hr; clear hr
  have HR' := Lib.hid hr'; clear hr'
  go_enter Try.func27, Try.ntmps27
  go_wp2_with fail
  have B := (Box.new (Below.refl _ w) [.int .i64 p, .int .i64 q] 26 (g := w.heap.size) rfl).alloc (.cells #[.int .i64 0, .int .i64 0] 26)
  have O := Box.new (al (Below.refl _ w) (o := (.cells #[.int .i64 p, .int .i64 q] 26))) [.int .i64 0, .int .i64 0] 26 (g := w.heap.size + 1) (by simp only [size_alloc'])
  generalize ((w.alloc (.cells #[.int .i64 p, .int .i64 q] 26)).alloc (.cells #[.int .i64 0, .int .i64 0] 26)) = W1 at B O ⊢
  have B_0 := B.cells 0 _ rfl
  have B_1 := B.cells 1 _ rfl
  have B_f0 := B.free 0 (by simp)
  have B_f1 := B.free 1 (by simp)
  have B_t := B.there
  have O_0 := O.cells 0 _ rfl
  have O_1 := O.cells 1 _ rfl
  have O_f0 := O.free 0 (by simp)
  have O_f1 := O.free 1 (by simp)
  have O_t := O.there
  go_wp2_with fail
  refine (area_spec P cap l c _ (rd_keep HR.out B.below) hn).mono ?_
  rintro e v2 ⟨rfl, hv2⟩
  clear B_0 B_1 B_f0 B_f1 B_t
  clear O_0 O_1 O_f0 O_f1 O_t
  replace B := B.more hv2
  replace O := O.more hv2
  have zhv2 := hv2.size
  clear hv2
  have B_0 := B.cells 0 _ rfl
  have B_1 := B.cells 1 _ rfl
  have B_f0 := B.free 0 (by simp)
  have B_f1 := B.free 1 (by simp)
  have B_t := B.there
  have O_0 := O.cells 0 _ rfl
  have O_1 := O.cells 1 _ rfl
  have O_f0 := O.free 0 (by simp)
  have O_f1 := O.free 1 (by simp)
  have O_t := O.there
  cases hg : (good l && inB c 1 100000)
  · have HV := Lib.hid (netV_no (no1 (m := m) (p := p) (q := q) (show canOk l c d = false by unfold canOk; rw [hg]; rfl)))
    go_wp2
    clear B_0 B_1 B_f0 B_f1 B_t
    clear O_0 O_1 O_f0 O_f1 O_t
    have B_t3 := B.there
    have O_t3 := O.there
    have B' : Box (w.heap.size) [.int .i64 p, .int .i64 q] w _ := ((B.far O.base (by omega) 0 (.int .i64 0)).far O.base (by omega) 1 (.int .i64 0))
    have O' : Box (w.heap.size + 1) [.int .i64 0, .int .i64 0] w _ := ((O.set 0 (.int .i64 0)).set 1 (.int .i64 0))
    clear B; have B := B'; clear B'
    clear O; have O := O'; clear O'
    have sz3 : ((v2.setCell ⟨w.heap.size + 1, 0, none⟩ (.int .i64 0)).setCell ⟨w.heap.size + 1, 1, none⟩ (.int .i64 0)).heap.size = v2.heap.size := by simp only [size_set']
    generalize ((v2.setCell ⟨w.heap.size + 1, 0, none⟩ (.int .i64 0)).setCell ⟨w.heap.size + 1, 1, none⟩ (.int .i64 0)) = W3 at B O sz3 ⊢
    replace sz3 := Lib.hid sz3
    have B_0 := B.cells 0 _ rfl
    have B_1 := B.cells 1 _ rfl
    have B_f0 := B.free 0 (by simp)
    have B_f1 := B.free 1 (by simp)
    have B_t := B.there
    have O_0 := O.cells 0 _ rfl
    have O_1 := O.cells 1 _ rfl
    have O_f0 := O.free 0 (by simp)
    have O_f1 := O.free 1 (by simp)
    have O_t := O.there
    exact bodyPost_ret (v := .tuple #[br 0 0, .bool false]) (by simp [br, results, Try.results27, go_sem, O_0, O_1]) rfl (rpost (by rw [HV.out]) O.below)
  go_wp2_with fail
  refine (SunG.good_spec P' cap' m _ (rd_keep HR'.out B.below) hn').mono ?_
  rintro e v4 ⟨rfl, hv4⟩
  clear B_0 B_1 B_f0 B_f1 B_t
  clear O_0 O_1 O_f0 O_f1 O_t
  replace B := B.more hv4
  replace O := O.more hv4
  have zhv4 := hv4.size
  clear hv4
  have B_0 := B.cells 0 _ rfl
  have B_1 := B.cells 1 _ rfl
  have B_f0 := B.free 0 (by simp)
  have B_f1 := B.free 1 (by simp)
  have B_t := B.there
  have O_0 := O.cells 0 _ rfl
  have O_1 := O.cells 1 _ rfl
  have O_f0 := O.free 0 (by simp)
  have O_f1 := O.free 1 (by simp)
  have O_t := O.there
  cases hs : Sun.good m
  · have HV := Lib.hid (netV_no (no2 (l := l) (p := p) (q := q) (c := c) (d := d) hs))
    go_wp2
    clear B_0 B_1 B_f0 B_f1 B_t
    clear O_0 O_1 O_f0 O_f1 O_t
    have B_t5 := B.there
    have O_t5 := O.there
    have B' : Box (w.heap.size) [.int .i64 p, .int .i64 q] w _ := ((B.far O.base (by omega) 0 (.int .i64 0)).far O.base (by omega) 1 (.int .i64 0))
    have O' : Box (w.heap.size + 1) [.int .i64 0, .int .i64 0] w _ := ((O.set 0 (.int .i64 0)).set 1 (.int .i64 0))
    clear B; have B := B'; clear B'
    clear O; have O := O'; clear O'
    have sz5 : ((v4.setCell ⟨w.heap.size + 1, 0, none⟩ (.int .i64 0)).setCell ⟨w.heap.size + 1, 1, none⟩ (.int .i64 0)).heap.size = v4.heap.size := by simp only [size_set']
    generalize ((v4.setCell ⟨w.heap.size + 1, 0, none⟩ (.int .i64 0)).setCell ⟨w.heap.size + 1, 1, none⟩ (.int .i64 0)) = W5 at B O sz5 ⊢
    replace sz5 := Lib.hid sz5
    have B_0 := B.cells 0 _ rfl
    have B_1 := B.cells 1 _ rfl
    have B_f0 := B.free 0 (by simp)
    have B_f1 := B.free 1 (by simp)
    have B_t := B.there
    have O_0 := O.cells 0 _ rfl
    have O_1 := O.cells 1 _ rfl
    have O_f0 := O.free 0 (by simp)
    have O_f1 := O.free 1 (by simp)
    have O_t := O.there
    exact bodyPost_ret (v := .tuple #[br 0 0, .bool false]) (by simp [br, results, Try.results27, go_sem, O_0, O_1]) rfl (rpost (by rw [HV.out]) O.below)
  go_wp2_with fail
  refine (brine_spec p q _).mono ?_
  rintro e v6 ⟨rfl, hv6⟩
  clear B_0 B_1 B_f0 B_f1 B_t
  clear O_0 O_1 O_f0 O_f1 O_t
  replace B := B.more hv6
  replace O := O.more hv6
  have zhv6 := hv6.size
  clear hv6
  have B_0 := B.cells 0 _ rfl
  have B_1 := B.cells 1 _ rfl
  have B_f0 := B.free 0 (by simp)
  have B_f1 := B.free 1 (by simp)
  have B_t := B.there
  have O_0 := O.cells 0 _ rfl
  have O_1 := O.cells 1 _ rfl
  have O_f0 := O.free 0 (by simp)
  have O_f1 := O.free 1 (by simp)
  have O_t := O.there
  cases hok : okB p q
  · have HV := Lib.hid (netV_no (no3 (l := l) (m := m) (c := c) (d := d) hok))
    go_wp2
    clear B_0 B_1 B_f0 B_f1 B_t
    clear O_0 O_1 O_f0 O_f1 O_t
    have B_t7 := B.there
    have O_t7 := O.there
    have B' : Box (w.heap.size) [.int .i64 p, .int .i64 q] w _ := ((B.far O.base (by omega) 0 (.int .i64 0)).far O.base (by omega) 1 (.int .i64 0))
    have O' : Box (w.heap.size + 1) [.int .i64 0, .int .i64 0] w _ := ((O.set 0 (.int .i64 0)).set 1 (.int .i64 0))
    clear B; have B := B'; clear B'
    clear O; have O := O'; clear O'
    have sz7 : ((v6.setCell ⟨w.heap.size + 1, 0, none⟩ (.int .i64 0)).setCell ⟨w.heap.size + 1, 1, none⟩ (.int .i64 0)).heap.size = v6.heap.size := by simp only [size_set']
    generalize ((v6.setCell ⟨w.heap.size + 1, 0, none⟩ (.int .i64 0)).setCell ⟨w.heap.size + 1, 1, none⟩ (.int .i64 0)) = W7 at B O sz7 ⊢
    replace sz7 := Lib.hid sz7
    have B_0 := B.cells 0 _ rfl
    have B_1 := B.cells 1 _ rfl
    have B_f0 := B.free 0 (by simp)
    have B_f1 := B.free 1 (by simp)
    have B_t := B.there
    have O_0 := O.cells 0 _ rfl
    have O_1 := O.cells 1 _ rfl
    have O_f0 := O.free 0 (by simp)
    have O_f1 := O.free 1 (by simp)
    have O_t := O.there
    exact bodyPost_ret (v := .tuple #[br 0 0, .bool false]) (by simp [br, results, Try.results27, go_sem, O_0, O_1]) rfl (rpost (by rw [HV.out]) O.below)
  go_wp2_with fail
  refine (day_spec d _).mono ?_
  rintro e _ ⟨rfl, rfl⟩
  cases hd : inB d 0 4000
  · have HV := Lib.hid (netV_no (no1 (m := m) (p := p) (q := q) (can3 (l := l) (c := c) hd)))
    go_wp2
    clear B_0 B_1 B_f0 B_f1 B_t
    clear O_0 O_1 O_f0 O_f1 O_t
    have B_t9 := B.there
    have O_t9 := O.there
    have B' : Box (w.heap.size) [.int .i64 p, .int .i64 q] w _ := ((B.far O.base (by omega) 0 (.int .i64 0)).far O.base (by omega) 1 (.int .i64 0))
    have O' : Box (w.heap.size + 1) [.int .i64 0, .int .i64 0] w _ := ((O.set 0 (.int .i64 0)).set 1 (.int .i64 0))
    clear B; have B := B'; clear B'
    clear O; have O := O'; clear O'
    have sz9 : ((v6.setCell ⟨w.heap.size + 1, 0, none⟩ (.int .i64 0)).setCell ⟨w.heap.size + 1, 1, none⟩ (.int .i64 0)).heap.size = v6.heap.size := by simp only [size_set']
    generalize ((v6.setCell ⟨w.heap.size + 1, 0, none⟩ (.int .i64 0)).setCell ⟨w.heap.size + 1, 1, none⟩ (.int .i64 0)) = W9 at B O sz9 ⊢
    replace sz9 := Lib.hid sz9
    have B_0 := B.cells 0 _ rfl
    have B_1 := B.cells 1 _ rfl
    have B_f0 := B.free 0 (by simp)
    have B_f1 := B.free 1 (by simp)
    have B_t := B.there
    have O_0 := O.cells 0 _ rfl
    have O_1 := O.cells 1 _ rfl
    have O_f0 := O.free 0 (by simp)
    have O_f1 := O.free 1 (by simp)
    have O_t := O.there
    exact bodyPost_ret (v := .tuple #[br 0 0, .bool false]) (by simp [br, results, Try.results27, go_sem, O_0, O_1]) rfl (rpost (by rw [HV.out]) O.below)
  have hcan : canOk l c d = true := by unfold canOk; rw [hg, hd]; rfl
  have HNO := Lib.hid (fun h => netV_no (no4 (l := l) (m := m) (p := p) (q := q) (c := c) (d := d) h))
  have HYES := Lib.hid (fun h => netV_yes (no5 hcan hs hok h))
  obtain ⟨b0, b1, b2⟩ := dry_bd hcan hs hok
  obtain ⟨hp, hp1, hq, hq1⟩ := okB_true hok
  obtain ⟨g1, g2, _⟩ := can_true hcan
  obtain ⟨o0, o1⟩ := on_bd g1 d
  obtain ⟨y1, y2, y3⟩ := kil_nums o0 o1 g2.1 g2.2
  obtain ⟨_, _, k0, k1⟩ := kil_bd o0 o1 g2.1 g2.2
  obtain ⟨s0, s1⟩ := Sun.Sane.on hs d
  have y4 : IntKind.i64.wrap (p - SunA.loss p q (Sun.on m d) c) = dryW m p q c d := by unfold dryW at *; exact IntWalk.i64_in _ (by omega)
  have y5 : IntKind.i64.wrap (dryW m p q c d + kil (on l d) c) = netW l m p q c d := by unfold netW kilo; exact IntWalk.i64_in _ (by omega)
  clear hg hs hok hd hcan g1 b0 b1 b2 o0 o1 k0 k1
  generalize netW l m p q c d = z at HNO HYES y5
  generalize dryW m p q c d = z1 at y4 y5
  go_wp2
  refine wp_region_text (fun w' => Box (w.heap.size) [.int .i64 p, .int .i64 q] w w' ∧ Box (w.heap.size + 1) [.int .i64 0, .int .i64 0] w w') (by kernel_rfl) (by kernel_rfl) ⟨B.drew, O.drew⟩ ?_
  clear B_0 B_1 B_f0 B_f1 B_t
  clear O_0 O_1 O_f0 O_f1 O_t
  iterate 17 (
    apply SeqH.one
    · intro uw K hS hK
      obtain ⟨qB, qO⟩ := hS
      have qB_0 := qB.cells 0 _ rfl
      have qB_1 := qB.cells 1 _ rfl
      have qO_0 := qO.cells 0 _ rfl
      have qO_1 := qO.cells 1 _ rfl
      first
        | (go_simp; exact hK.out _ ⟨qB, qO⟩)
        | (go_simp; go_at_call 95; (with_reducible refine (SunL.on_spec P' cap' m d _ (rd_keep HR'.out qB.below) hn').mono ?_); rintro e _ ⟨rfl, rfl⟩; go_wp2_with fail; exact hK.out _ ⟨qB, qO⟩)
        | (go_simp; go_at_call 94; (with_reducible refine (SunE.loss_spec p q c (Sun.on m d) hp hp1 hq hq1 s0 s1 g2.1 g2.2 _).mono ?_); rintro e uw1 ⟨rfl, hv⟩; go_wp2_with fail; exact hK.out _ ⟨qB.more hv, qO.more hv⟩)
        | (go_simp; go_at_call 96; (with_reducible refine (on_spec P cap l d _ (rd_keep HR.out qB.below) hn).mono ?_); rintro e _ ⟨rfl, rfl⟩; go_wp2_with fail; exact hK.out _ ⟨qB, qO⟩)
    try simp only [Act.put, List.setIfInBounds_toArray, List.set_cons_zero, List.set_cons_succ])
  refine SeqH.end' rfl ?_
  intro v10 hS
  clear B O
  obtain ⟨B, O⟩ := hS
  have B_0 := B.cells 0 _ rfl
  have B_1 := B.cells 1 _ rfl
  have B_f0 := B.free 0 (by simp)
  have B_f1 := B.free 1 (by simp)
  have B_t := B.there
  have O_0 := O.cells 0 _ rfl
  have O_1 := O.cells 1 _ rfl
  have O_f0 := O.free 0 (by simp)
  have O_f1 := O.free 1 (by simp)
  have O_t := O.there
  go_wp2_with fail
  have B_t11 := B.there
  have O_t11 := O.there
  have X := Box.new B.below [.int .i64 z, .int .i64 q] 26 (g := v10.heap.size) rfl
  clear B_0 B_1 B_f0 B_f1 B_t
  replace B := (B).alloc (.cells #[.int .i64 z, .int .i64 q] 26)
  clear O_0 O_1 O_f0 O_f1 O_t
  replace O := (O).alloc (.cells #[.int .i64 z, .int .i64 q] 26)
  generalize (v10.alloc (.cells #[.int .i64 z, .int .i64 q] 26)) = W11 at X B O ⊢
  have B_0 := B.cells 0 _ rfl
  have B_1 := B.cells 1 _ rfl
  have B_f0 := B.free 0 (by simp)
  have B_f1 := B.free 1 (by simp)
  have B_t := B.there
  have O_0 := O.cells 0 _ rfl
  have O_1 := O.cells 1 _ rfl
  have O_f0 := O.free 0 (by simp)
  have O_f1 := O.free 1 (by simp)
  have O_t := O.there
  have X_0 := X.cells 0 _ rfl
  have X_1 := X.cells 1 _ rfl
  have X_f0 := X.free 0 (by simp)
  have X_f1 := X.free 1 (by simp)
  have X_t := X.there
  go_wp2_with fail
  refine (brine_spec z q _).mono ?_
  rintro e v12 ⟨rfl, hv12⟩
  clear B_0 B_1 B_f0 B_f1 B_t
  clear O_0 O_1 O_f0 O_f1 O_t
  clear X_0 X_1 X_f0 X_f1 X_t
  replace B := B.more hv12
  replace O := O.more hv12
  replace X := X.more hv12
  have zhv12 := hv12.size
  clear hv12
  have B_0 := B.cells 0 _ rfl
  have B_1 := B.cells 1 _ rfl
  have B_f0 := B.free 0 (by simp)
  have B_f1 := B.free 1 (by simp)
  have B_t := B.there
  have O_0 := O.cells 0 _ rfl
  have O_1 := O.cells 1 _ rfl
  have O_f0 := O.free 0 (by simp)
  have O_f1 := O.free 1 (by simp)
  have O_t := O.there
  have X_0 := X.cells 0 _ rfl
  have X_1 := X.cells 1 _ rfl
  have X_f0 := X.free 0 (by simp)
  have X_f1 := X.free 1 (by simp)
  have X_t := X.there
  cases ho : okB z q
  · have HV := Lib.hid (HNO.out ho)
    go_wp2
    clear B_0 B_1 B_f0 B_f1 B_t
    clear O_0 O_1 O_f0 O_f1 O_t
    clear X_0 X_1 X_f0 X_f1 X_t
    have B_t13 := B.there
    have O_t13 := O.there
    have X_t13 := X.there
    have B' : Box (w.heap.size) [.int .i64 p, .int .i64 q] w _ := ((B.far O.base (by omega) 0 (.int .i64 0)).far O.base (by omega) 1 (.int .i64 0))
    have O' : Box (w.heap.size + 1) [.int .i64 0, .int .i64 0] w _ := ((O.set 0 (.int .i64 0)).set 1 (.int .i64 0))
    have X' : Box (v10.heap.size) [.int .i64 z, .int .i64 q] w _ := ((X.far O.base (by omega) 0 (.int .i64 0)).far O.base (by omega) 1 (.int .i64 0))
    clear B; have B := B'; clear B'
    clear O; have O := O'; clear O'
    clear X; have X := X'; clear X'
    have sz13 : ((v12.setCell ⟨w.heap.size + 1, 0, none⟩ (.int .i64 0)).setCell ⟨w.heap.size + 1, 1, none⟩ (.int .i64 0)).heap.size = v12.heap.size := by simp only [size_set']
    generalize ((v12.setCell ⟨w.heap.size + 1, 0, none⟩ (.int .i64 0)).setCell ⟨w.heap.size + 1, 1, none⟩ (.int .i64 0)) = W13 at B O X sz13 ⊢
    replace sz13 := Lib.hid sz13
    have B_0 := B.cells 0 _ rfl
    have B_1 := B.cells 1 _ rfl
    have B_f0 := B.free 0 (by simp)
    have B_f1 := B.free 1 (by simp)
    have B_t := B.there
    have O_0 := O.cells 0 _ rfl
    have O_1 := O.cells 1 _ rfl
    have O_f0 := O.free 0 (by simp)
    have O_f1 := O.free 1 (by simp)
    have O_t := O.there
    have X_0 := X.cells 0 _ rfl
    have X_1 := X.cells 1 _ rfl
    have X_f0 := X.free 0 (by simp)
    have X_f1 := X.free 1 (by simp)
    have X_t := X.there
    exact bodyPost_ret (v := .tuple #[br 0 0, .bool false]) (by simp [br, results, Try.results27, go_sem, O_0, O_1]) rfl (rpost (by rw [HV.out]) O.below)
  · have HV := Lib.hid (HYES.out ho)
    go_wp2
    clear B_0 B_1 B_f0 B_f1 B_t
    clear O_0 O_1 O_f0 O_f1 O_t
    clear X_0 X_1 X_f0 X_f1 X_t
    have B_t14 := B.there
    have O_t14 := O.there
    have X_t14 := X.there
    have B' : Box (w.heap.size) [.int .i64 p, .int .i64 q] w _ := ((B.far O.base (by omega) 0 (.int .i64 z)).far O.base (by omega) 1 (.int .i64 q))
    have O' : Box (w.heap.size + 1) [.int .i64 z, .int .i64 q] w _ := ((O.set 0 (.int .i64 z)).set 1 (.int .i64 q))
    have X' : Box (v10.heap.size) [.int .i64 z, .int .i64 q] w _ := ((X.far O.base (by omega) 0 (.int .i64 z)).far O.base (by omega) 1 (.int .i64 q))
    clear B; have B := B'; clear B'
    clear O; have O := O'; clear O'
    clear X; have X := X'; clear X'
    have sz14 : ((v12.setCell ⟨w.heap.size + 1, 0, none⟩ (.int .i64 z)).setCell ⟨w.heap.size + 1, 1, none⟩ (.int .i64 q)).heap.size = v12.heap.size := by simp only [size_set']
    generalize ((v12.setCell ⟨w.heap.size + 1, 0, none⟩ (.int .i64 z)).setCell ⟨w.heap.size + 1, 1, none⟩ (.int .i64 q)) = W14 at B O X sz14 ⊢
    replace sz14 := Lib.hid sz14
    have B_0 := B.cells 0 _ rfl
    have B_1 := B.cells 1 _ rfl
    have B_f0 := B.free 0 (by simp)
    have B_f1 := B.free 1 (by simp)
    have B_t := B.there
    have O_0 := O.cells 0 _ rfl
    have O_1 := O.cells 1 _ rfl
    have O_f0 := O.free 0 (by simp)
    have O_f1 := O.free 1 (by simp)
    have O_t := O.there
    have X_0 := X.cells 0 _ rfl
    have X_1 := X.cells 1 _ rfl
    have X_f0 := X.free 0 (by simp)
    have X_f1 := X.free 1 (by simp)
    have X_t := X.there
    exact bodyPost_ret (v := .tuple #[br z q, .bool true]) (by simp [br, results, Try.results27, go_sem, O_0, O_1]) rfl (rpost (by rw [HV.out]) O.below)
set_option maxHeartbeats 1600000 in
theorem net_impl (P : Option Addr) (cap : Nat) (l : List R) (P' : Option Addr) (cap' : Nat) (m : List SSun.R) (p q c d : Int) (w : World) (hr : Rd w w.heap.size P (flat l)) (hr' : Rd w w.heap.size P' (SSun.flat m)) (hcp : l.length ≤ cap) (hcp' : m.length ≤ cap') (hn : l.length ≤ 1048576) (hn' : m.length ≤ 1048576) :
    Calls Try.prog 26 #[.slice P l.length cap, .slice P' m.length cap', .agg #[.int .i64 p, .int .i64 q], .int .i64 c, .int .i64 d] w (RPost (netV l m p q c d) w) := by
  have HR := Lib.hid hr; clear hr
  have HR' := Lib.hid hr'; clear hr'
  go_enter Try.func26, Try.ntmps26
  go_wp2_with fail
  have B := (Box.new (Below.refl _ w) [.int .i64 p, .int .i64 q] 26 (g := w.heap.size) rfl).alloc (.cells #[.int .i64 0, .int .i64 0] 26)
  have O := Box.new (al (Below.refl _ w) (o := (.cells #[.int .i64 p, .int .i64 q] 26))) [.int .i64 0, .int .i64 0] 26 (g := w.heap.size + 1) (by simp only [size_alloc'])
  generalize ((w.alloc (.cells #[.int .i64 p, .int .i64 q] 26)).alloc (.cells #[.int .i64 0, .int .i64 0] 26)) = W1 at B O ⊢
  have B_0 := B.cells 0 _ rfl
  have B_1 := B.cells 1 _ rfl
  have B_f0 := B.free 0 (by simp)
  have B_f1 := B.free 1 (by simp)
  have B_t := B.there
  have O_0 := O.cells 0 _ rfl
  have O_1 := O.cells 1 _ rfl
  have O_f0 := O.free 0 (by simp)
  have O_f1 := O.free 1 (by simp)
  have O_t := O.there
  go_wp2_with fail
  refine (can_impl P cap l c d _ (rd_keep HR.out B.below) hn).mono ?_
  rintro e v2 ⟨rfl, hv2⟩
  clear B_0 B_1 B_f0 B_f1 B_t
  clear O_0 O_1 O_f0 O_f1 O_t
  replace B := B.more hv2
  replace O := O.more hv2
  have zhv2 := hv2.size
  clear hv2
  have B_0 := B.cells 0 _ rfl
  have B_1 := B.cells 1 _ rfl
  have B_f0 := B.free 0 (by simp)
  have B_f1 := B.free 1 (by simp)
  have B_t := B.there
  have O_0 := O.cells 0 _ rfl
  have O_1 := O.cells 1 _ rfl
  have O_f0 := O.free 0 (by simp)
  have O_f1 := O.free 1 (by simp)
  have O_t := O.there
  cases hg : canOk l c d
  · have HV := Lib.hid (netV_no (no1 (m := m) (p := p) (q := q) hg))
    go_wp2
    clear B_0 B_1 B_f0 B_f1 B_t
    clear O_0 O_1 O_f0 O_f1 O_t
    have B_t3 := B.there
    have O_t3 := O.there
    have B' : Box (w.heap.size) [.int .i64 p, .int .i64 q] w _ := ((B.far O.base (by omega) 0 (.int .i64 0)).far O.base (by omega) 1 (.int .i64 0))
    have O' : Box (w.heap.size + 1) [.int .i64 0, .int .i64 0] w _ := ((O.set 0 (.int .i64 0)).set 1 (.int .i64 0))
    clear B; have B := B'; clear B'
    clear O; have O := O'; clear O'
    have sz3 : ((v2.setCell ⟨w.heap.size + 1, 0, none⟩ (.int .i64 0)).setCell ⟨w.heap.size + 1, 1, none⟩ (.int .i64 0)).heap.size = v2.heap.size := by simp only [size_set']
    generalize ((v2.setCell ⟨w.heap.size + 1, 0, none⟩ (.int .i64 0)).setCell ⟨w.heap.size + 1, 1, none⟩ (.int .i64 0)) = W3 at B O sz3 ⊢
    replace sz3 := Lib.hid sz3
    have B_0 := B.cells 0 _ rfl
    have B_1 := B.cells 1 _ rfl
    have B_f0 := B.free 0 (by simp)
    have B_f1 := B.free 1 (by simp)
    have B_t := B.there
    have O_0 := O.cells 0 _ rfl
    have O_1 := O.cells 1 _ rfl
    have O_f0 := O.free 0 (by simp)
    have O_f1 := O.free 1 (by simp)
    have O_t := O.there
    exact bodyPost_ret (v := .tuple #[br 0 0, .bool false]) (by simp [br, results, Try.results26, go_sem, O_0, O_1]) rfl (rpost (by rw [HV.out]) O.below)
  go_wp2_with fail
  refine (SunG.are_impl P' cap' m _ (rd_keep HR'.out B.below) hn').mono ?_
  rintro e v4 ⟨rfl, hv4⟩
  clear B_0 B_1 B_f0 B_f1 B_t
  clear O_0 O_1 O_f0 O_f1 O_t
  replace B := B.more hv4
  replace O := O.more hv4
  have zhv4 := hv4.size
  clear hv4
  have B_0 := B.cells 0 _ rfl
  have B_1 := B.cells 1 _ rfl
  have B_f0 := B.free 0 (by simp)
  have B_f1 := B.free 1 (by simp)
  have B_t := B.there
  have O_0 := O.cells 0 _ rfl
  have O_1 := O.cells 1 _ rfl
  have O_f0 := O.free 0 (by simp)
  have O_f1 := O.free 1 (by simp)
  have O_t := O.there
  cases hs : Sun.good m
  · have HV := Lib.hid (netV_no (no2 (l := l) (p := p) (q := q) (c := c) (d := d) hs))
    go_wp2
    clear B_0 B_1 B_f0 B_f1 B_t
    clear O_0 O_1 O_f0 O_f1 O_t
    have B_t5 := B.there
    have O_t5 := O.there
    have B' : Box (w.heap.size) [.int .i64 p, .int .i64 q] w _ := ((B.far O.base (by omega) 0 (.int .i64 0)).far O.base (by omega) 1 (.int .i64 0))
    have O' : Box (w.heap.size + 1) [.int .i64 0, .int .i64 0] w _ := ((O.set 0 (.int .i64 0)).set 1 (.int .i64 0))
    clear B; have B := B'; clear B'
    clear O; have O := O'; clear O'
    have sz5 : ((v4.setCell ⟨w.heap.size + 1, 0, none⟩ (.int .i64 0)).setCell ⟨w.heap.size + 1, 1, none⟩ (.int .i64 0)).heap.size = v4.heap.size := by simp only [size_set']
    generalize ((v4.setCell ⟨w.heap.size + 1, 0, none⟩ (.int .i64 0)).setCell ⟨w.heap.size + 1, 1, none⟩ (.int .i64 0)) = W5 at B O sz5 ⊢
    replace sz5 := Lib.hid sz5
    have B_0 := B.cells 0 _ rfl
    have B_1 := B.cells 1 _ rfl
    have B_f0 := B.free 0 (by simp)
    have B_f1 := B.free 1 (by simp)
    have B_t := B.there
    have O_0 := O.cells 0 _ rfl
    have O_1 := O.cells 1 _ rfl
    have O_f0 := O.free 0 (by simp)
    have O_f1 := O.free 1 (by simp)
    have O_t := O.there
    exact bodyPost_ret (v := .tuple #[br 0 0, .bool false]) (by simp [br, results, Try.results26, go_sem, O_0, O_1]) rfl (rpost (by rw [HV.out]) O.below)
  go_wp2_with fail
  refine (IBrine.brine_impl p q _).mono ?_
  rintro e v6 ⟨rfl, hv6⟩
  clear B_0 B_1 B_f0 B_f1 B_t
  clear O_0 O_1 O_f0 O_f1 O_t
  replace B := B.more hv6
  replace O := O.more hv6
  have zhv6 := hv6.size
  clear hv6
  have B_0 := B.cells 0 _ rfl
  have B_1 := B.cells 1 _ rfl
  have B_f0 := B.free 0 (by simp)
  have B_f1 := B.free 1 (by simp)
  have B_t := B.there
  have O_0 := O.cells 0 _ rfl
  have O_1 := O.cells 1 _ rfl
  have O_f0 := O.free 0 (by simp)
  have O_f1 := O.free 1 (by simp)
  have O_t := O.there
  cases hok : okB p q
  · have HV := Lib.hid (netV_no (no3 (l := l) (m := m) (c := c) (d := d) hok))
    go_wp2
    clear B_0 B_1 B_f0 B_f1 B_t
    clear O_0 O_1 O_f0 O_f1 O_t
    have B_t7 := B.there
    have O_t7 := O.there
    have B' : Box (w.heap.size) [.int .i64 p, .int .i64 q] w _ := ((B.far O.base (by omega) 0 (.int .i64 0)).far O.base (by omega) 1 (.int .i64 0))
    have O' : Box (w.heap.size + 1) [.int .i64 0, .int .i64 0] w _ := ((O.set 0 (.int .i64 0)).set 1 (.int .i64 0))
    clear B; have B := B'; clear B'
    clear O; have O := O'; clear O'
    have sz7 : ((v6.setCell ⟨w.heap.size + 1, 0, none⟩ (.int .i64 0)).setCell ⟨w.heap.size + 1, 1, none⟩ (.int .i64 0)).heap.size = v6.heap.size := by simp only [size_set']
    generalize ((v6.setCell ⟨w.heap.size + 1, 0, none⟩ (.int .i64 0)).setCell ⟨w.heap.size + 1, 1, none⟩ (.int .i64 0)) = W7 at B O sz7 ⊢
    replace sz7 := Lib.hid sz7
    have B_0 := B.cells 0 _ rfl
    have B_1 := B.cells 1 _ rfl
    have B_f0 := B.free 0 (by simp)
    have B_f1 := B.free 1 (by simp)
    have B_t := B.there
    have O_0 := O.cells 0 _ rfl
    have O_1 := O.cells 1 _ rfl
    have O_f0 := O.free 0 (by simp)
    have O_f1 := O.free 1 (by simp)
    have O_t := O.there
    exact bodyPost_ret (v := .tuple #[br 0 0, .bool false]) (by simp [br, results, Try.results26, go_sem, O_0, O_1]) rfl (rpost (by rw [HV.out]) O.below)
  obtain ⟨b0, b1, b2⟩ := dry_bd hg hs hok
  obtain ⟨hp, hp1, hq, hq1⟩ := okB_true hok
  obtain ⟨x, y, z, hv⟩ := net_form l m p q c d
  have HV := Lib.hid ((net_aft hg hs hok (okB_mk ⟨b1, by omega⟩ ⟨hq, hq1⟩)).trans hv)
  have HV2 := Lib.hid hv; clear hv
  obtain ⟨g1, g2, _⟩ := can_true hg
  obtain ⟨s0, s1⟩ := Sun.Sane.on hs d
  have HE := Lib.hid (Sun.on_sum hs d)
  have HSN := Lib.hid (Sun.good_sane hs)
  have y4 : IntKind.i64.wrap (p - SunA.loss p q (Sun.on m d) c) = dryW m p q c d := by unfold dryW at *; exact IntWalk.i64_in _ (by omega)
  clear hg hs hok g1 b0 b1 b2
  generalize dryW m p q c d = z1 at y4 HV
  go_wp2
  refine wp_region_seq (fun L w' => BoxL (L 11) (w.heap.size) [.int .i64 p, .int .i64 q] [.int .i64 z1, .int .i64 q] w w' ∧ Box (w.heap.size + 1) [.int .i64 0, .int .i64 0] w w') (by kernel_rfl) (by kernel_rfl) ⟨BoxL.start _ B.drew, O.drew⟩ ?_
  clear B_0 B_1 B_f0 B_f1 B_t
  clear O_0 O_1 O_f0 O_f1 O_t
  iterate 12 (
    apply SeqH.op
    · intro L uw K hN hS hK
      obtain ⟨qB, qO⟩ := hS
      try (have hh0 := qB.2 (hN.out.1 11 (by decide +kernel)); have qB_0 := hh0.cells 0 _ rfl; have qB_1 := hh0.cells 1 _ rfl; clear hh0)
      have qO_0 := qO.cells 0 _ rfl
      have qO_1 := qO.cells 1 _ rfl
      clear hN
      first
        | (go_simp; exact hK.out _ ⟨(qB).skip (by decide), qO⟩)
        | (go_simp; go_at_call 90; (with_reducible refine (SunL.sum_impl P' cap' m d d _ (rd_keep HR'.out qO.below) HSN.out).mono ?_); rintro e uw1 ⟨rfl, hv⟩; rw [HE.out]; go_wp2_with fail; exact hK.out _ ⟨(qB.more hv).skip (by decide), qO.more hv⟩)
        | (go_simp; go_at_call 89; (with_reducible refine (SunE.loss_impl p q c (Sun.on m d) hp hp1 hq hq1 s0 s1 g2.1 g2.2 _).mono ?_); rintro e uw1 ⟨rfl, hv⟩; go_wp2_with fail; exact hK.out _ ⟨(qB.more hv).skip (by decide), qO.more hv⟩)
        | (rcases qB.two with hh | hh <;> (have h0 := hh.cells 0 _ rfl; have k0 := hh.free 0 (by simp); have h1 := hh.cells 1 _ rfl; have k1 := hh.free 1 (by simp); go_simp; exact hK.out _ ⟨BoxL.put (hh.set 0 (.int .i64 z1)), (qO.far hh.base (by omega) 0 (.int .i64 z1))⟩))
    try simp only [Act.put, List.setIfInBounds_toArray, List.set_cons_zero, List.set_cons_succ])
  refine SeqH.done rfl ?_
  intro L v8 hL hS
  clear B O
  obtain ⟨B, O⟩ := hS
  replace B := B.done (hL 11 (by decide))
  clear hL
  have B_0 := B.cells 0 _ rfl
  have B_1 := B.cells 1 _ rfl
  have B_f0 := B.free 0 (by simp)
  have B_f1 := B.free 1 (by simp)
  have B_t := B.there
  have O_0 := O.cells 0 _ rfl
  have O_1 := O.cells 1 _ rfl
  have O_f0 := O.free 0 (by simp)
  have O_f1 := O.free 1 (by simp)
  have O_t := O.there
  go_wp2_with fail
  refine (aft_impl P cap l z1 q c 0 d _ (rd_keep HR.out B.below) hcp hn).mono ?_
  rintro e v9 ⟨rfl, hv9⟩
  clear B_0 B_1 B_f0 B_f1 B_t
  clear O_0 O_1 O_f0 O_f1 O_t
  replace B := B.more hv9
  replace O := O.more hv9
  have zhv9 := hv9.size
  clear hv9
  have B_0 := B.cells 0 _ rfl
  have B_1 := B.cells 1 _ rfl
  have B_f0 := B.free 0 (by simp)
  have B_f1 := B.free 1 (by simp)
  have B_t := B.there
  have O_0 := O.cells 0 _ rfl
  have O_1 := O.cells 1 _ rfl
  have O_f0 := O.free 0 (by simp)
  have O_f1 := O.free 1 (by simp)
  have O_t := O.there
  rw [HV.out]
  go_wp2
  clear B_0 B_1 B_f0 B_f1 B_t
  clear O_0 O_1 O_f0 O_f1 O_t
  have B_t10 := B.there
  have O_t10 := O.there
  have B' : Box (w.heap.size) [.int .i64 z1, .int .i64 q] w _ := ((B.far O.base (by omega) 0 (.int .i64 x)).far O.base (by omega) 1 (.int .i64 y))
  have O' : Box (w.heap.size + 1) [.int .i64 x, .int .i64 y] w _ := ((O.set 0 (.int .i64 x)).set 1 (.int .i64 y))
  clear B; have B := B'; clear B'
  clear O; have O := O'; clear O'
  have sz10 : ((v9.setCell ⟨w.heap.size + 1, 0, none⟩ (.int .i64 x)).setCell ⟨w.heap.size + 1, 1, none⟩ (.int .i64 y)).heap.size = v9.heap.size := by simp only [size_set']
  generalize ((v9.setCell ⟨w.heap.size + 1, 0, none⟩ (.int .i64 x)).setCell ⟨w.heap.size + 1, 1, none⟩ (.int .i64 y)) = W10 at B O sz10 ⊢
  replace sz10 := Lib.hid sz10
  have B_0 := B.cells 0 _ rfl
  have B_1 := B.cells 1 _ rfl
  have B_f0 := B.free 0 (by simp)
  have B_f1 := B.free 1 (by simp)
  have B_t := B.there
  have O_0 := O.cells 0 _ rfl
  have O_1 := O.cells 1 _ rfl
  have O_f0 := O.free 0 (by simp)
  have O_f1 := O.free 1 (by simp)
  have O_t := O.there
  exact bodyPost_ret (v := .tuple #[.agg #[.int .i64 x, .int .i64 y], .bool z]) (by simp [br, results, Try.results26, go_sem, O_0, O_1]) rfl (rpost (by rw [HV2.out]) O.below)
end Go.Proofs.Ytpbmncecejchjaa.ShwN
