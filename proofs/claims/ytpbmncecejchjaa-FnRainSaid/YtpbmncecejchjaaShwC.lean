/- Showers: CoverNeeded, the model's and the program's. -/
import Derived.Lib.MinMax
import Derived.Test.YtpbmncecejchjaaShwM
namespace Go.Proofs.Ytpbmncecejchjaa.ShwC
open Go.RowKit Go.Proofs.Ytpbmncecejchjaa.Mem Go.Proofs.Ytpbmncecejchjaa.Base Go.Proofs.Ytpbmncecejchjaa.Within Go.Proofs.Ytpbmncecejchjaa.Brine Go.Proofs.Ytpbmncecejchjaa.Brine2 Go.Proofs.Ytpbmncecejchjaa.Regn Go.Proofs.Ytpbmncecejchjaa.Boxes Go.Proofs.Ytpbmncecejchjaa.Keep Go.Proofs.Ytpbmncecejchjaa.SShower Go.Proofs.Ytpbmncecejchjaa.Shw Go.Proofs.Ytpbmncecejchjaa.ShwS Go.Proofs.Ytpbmncecejchjaa.ShwG Go.Proofs.Ytpbmncecejchjaa.ShwL Go.Proofs.Ytpbmncecejchjaa.ShwM
set_option linter.unusedVariables false
set_option maxRecDepth 100000
abbrev RPost := Brine.RPost
theorem rpost {v u : Value} {w w' : World} (h : u = v) (hw : Below w.heap.size w w') : RPost v w (.returned u) w' := ⟨by rw [h], hw⟩
def ndOk (l : List R) (p q c d t : Int) : Bool := canOk l c d && okB p q && decide (0 ≤ t)
theorem nd1 {l : List R} {p q c d t : Int} (h : canOk l c d = false) : ndOk l p q c d t = false := by unfold ndOk; rw [h]; rfl
theorem nd2 {l : List R} {p q c d t : Int} (h : okB p q = false) : ndOk l p q c d t = false := by unfold ndOk; rw [h, Bool.and_false]; rfl
theorem nd3 {l : List R} {p q c d t : Int} (h : ¬ 0 ≤ t) : ndOk l p q c d t = false := by unfold ndOk; rw [decide_eq_false h, Bool.and_false]
theorem nd4 {l : List R} {p q c d t : Int} (h : canOk l c d = true) (h1 : okB p q = true) (h2 : 0 ≤ t) : ndOk l p q c d t = true := by unfold ndOk; rw [h, h1, decide_eq_true h2]; rfl
theorem nd_true {l : List R} {p q c d t : Int} (h : ndOk l p q c d t = true) : canOk l c d = true ∧ okB p q = true ∧ 0 ≤ t := by
  unfold ndOk at h; simp only [Bool.and_eq_true, decide_eq_true_eq] at h; exact ⟨h.1.1, h.1.2, h.2⟩
/-- with this cover, at most so much. -/
def fits (p k t : Int) (v : Nat) : Bool := decide (p + comes k v ≤ least t 1000000)
def first (p k t : Int) : Option Nat := (List.range 101).find? (fits p k t)
def None (p k t : Int) (n : Nat) : Prop := ∀ j, j < n → fits p k t j = false
theorem None.next {p k t : Int} {n : Nat} (h : None p k t n) (h1 : fits p k t n = false) : None p k t (n + 1) := fun j hj => by
  rcases Nat.lt_or_ge j n with h2 | h2
  · exact h j h2
  · have : j = n := by omega
    subst this; exact h1
theorem first_at {p k t : Int} {n : Nat} (h : None p k t n) (h1 : fits p k t n = true) (hn : n ≤ 100) : first p k t = some n := by
  unfold first
  rw [List.find?_eq_some_iff_getElem]
  exact ⟨h1, n, by simp; omega, by simp, fun j hj => by simpa using h j hj⟩
theorem first_none {p k t : Int} (h : None p k t 101) : first p k t = none := by
  unfold first
  rw [List.find?_eq_none]
  intro x hx
  have := List.mem_range.1 hx
  simp [h x this]
theorem first_some {p k t : Int} {n : Nat} (h : first p k t = some n) : n ≤ 100 ∧ fits p k t n = true ∧ None p k t n := by
  unfold first at h
  rw [List.find?_eq_some_iff_getElem] at h
  obtain ⟨h1, i, hi, he, hj⟩ := h
  simp at hi he
  subst he
  exact ⟨by omega, h1, fun j hj2 => by simpa using hj j hj2⟩
def needV (ok : Bool) (r : Option Nat) : Value := match ok, r with
  | true, some v => .tuple #[.int .i64 (v : Int), .bool true]
  | _, _ => .tuple #[.int .i64 0, .bool false]
theorem need_no {ok : Bool} {r : Option Nat} (h : ok = false) : needV ok r = .tuple #[.int .i64 0, .bool false] := by subst h; cases r <;> rfl
theorem need_none {ok : Bool} {r : Option Nat} (h : r = none) : needV ok r = .tuple #[.int .i64 0, .bool false] := by subst h; cases ok <;> rfl
theorem need_yes {ok : Bool} {r : Option Nat} {v : Nat} (h : ok = true) (h1 : r = some v) : needV ok r = .tuple #[.int .i64 (v : Int), .bool true] := by subst h; subst h1; rfl
theorem need_form (ok : Bool) (r : Option Nat) : ∃ x q, needV ok r = .tuple #[.int .i64 x, .bool q] := by
  unfold needV; split
  · exact ⟨_, _, rfl⟩
  · exact ⟨_, _, rfl⟩
theorem min_least (t : Int) : min t 1000000 = least t 1000000 := by unfold least; split <;> omega
set_option maxHeartbeats 800000 in
theorem need_spec (P : Option Addr) (cap : Nat) (l : List R) (p q c d t : Int) (w : World) (hr : Rd w w.heap.size P (flat l)) (hn : l.length ≤ 1048576) :
    Calls Try.prog 24 #[.slice P l.length cap, .agg #[.int .i64 p, .int .i64 q], .int .i64 c, .int .i64 d, .int .i64 t] w (RPost (needV (ndOk l p q c d t) (first p (kilo l c d) t)) w) := by
  have HR := Lib.hid hr; clear hr
  go_enter Try.func24, Try.ntmps24
  go_wp2_with fail
  have B := Box.new (Below.refl _ w) [.int .i64 p, .int .i64 q] 26 (g := w.heap.size) rfl
  generalize (w.alloc (.cells #[.int .i64 p, .int .i64 q] 26)) = W1 at B ⊢
  have B_0 := B.cells 0 _ rfl
  have B_1 := B.cells 1 _ rfl
  have B_f0 := B.free 0 (by simp)
  have B_f1 := B.free 1 (by simp)
  have B_t := B.there
  go_wp2_with fail
  refine (rain_spec P cap l c d _ (rd_keep HR.out B.below) hn).mono ?_
  rintro e v2 ⟨rfl, hv2⟩
  clear B_0 B_1 B_f0 B_f1 B_t
  replace B := B.more hv2
  have zhv2 := hv2.size
  clear hv2
  have B_0 := B.cells 0 _ rfl
  have B_1 := B.cells 1 _ rfl
  have B_f0 := B.free 0 (by simp)
  have B_f1 := B.free 1 (by simp)
  have B_t := B.there
  cases hg : canOk l c d
  · have HV := Lib.hid (need_no (r := first p (kilo l c d) t) (nd1 (p := p) (q := q) (t := t) hg))
    rw [rainV_no hg]
    clear hg
    go_wp2
    go_ret2
    exact rpost (by rw [HV.out] <;> rfl) B.below
  rw [rainV_yes hg]
  go_wp2_with fail
  refine (brine_spec p q _).mono ?_
  rintro e v3 ⟨rfl, hv3⟩
  clear B_0 B_1 B_f0 B_f1 B_t
  replace B := B.more hv3
  have zhv3 := hv3.size
  clear hv3
  have B_0 := B.cells 0 _ rfl
  have B_1 := B.cells 1 _ rfl
  have B_f0 := B.free 0 (by simp)
  have B_f1 := B.free 1 (by simp)
  have B_t := B.there
  cases hok : okB p q
  · have HV := Lib.hid (need_no (r := first p (kilo l c d) t) (nd2 (l := l) (c := c) (d := d) (t := t) hok))
    go_wp2
    go_ret2
    exact rpost (by rw [HV.out] <;> rfl) B.below
  by_cases ht : 0 ≤ t
  case neg =>
    have HV := Lib.hid (need_no (r := first p (kilo l c d) t) (nd3 (l := l) (p := p) (q := q) (c := c) (d := d) ht))
    have hz : decide (t < 0) = true := decide_eq_true (by omega)
    clear ht
    go_wp2
    go_ret2
    exact rpost (by rw [HV.out] <;> rfl) B.below
  have hz : decide (t < 0) = false := decide_eq_false (by omega)
  obtain ⟨hp, hp1, hq, hq1⟩ := okB_true hok
  obtain ⟨k0, k1⟩ := kilo_bd hg
  have HOK := Lib.hid (nd4 hg hok ht)
  clear hg hok
  obtain ⟨y, hy⟩ : ∃ y, kilo l c d = y := ⟨_, rfl⟩
  rw [hy] at k0 k1
  rw [hy]
  have HY := Lib.hid hy; clear hy
  go_wp2
  go_loopw [14] (fun i wr => ∃ k : Nat, k ≤ 101 ∧ i = .int .i64 k ∧ Hid (None p y t k) ∧ Box (w.heap.size) [.int .i64 p, .int .i64 q] w wr) (fun i _ => 101 - (intOf i).toNat)
  case atStart => exact ⟨0, by omega, rfl, Lib.hid (fun j hj => by omega), B⟩
  case round =>
    clear B_0 B_1 B_f0 B_f1 B_t
    clear B
    obtain ⟨k, hk, rfl, HN, B⟩ := hrel
    have B_0 := B.cells 0 _ rfl
    have B_1 := B.cells 1 _ rfl
    have B_f0 := B.free 0 (by simp)
    have B_f1 := B.free 1 (by simp)
    have B_t := B.there
    by_cases hlt : k ≤ 100
    · have hlt' : (k : Int) ≤ 100 := by omega
      have hcb := (comes_nums k0 k1 (show 0 ≤ (k : Int) by omega) hlt').2.2.2.2.2.2.2
      have HCS := Lib.hid (comes_spec y k k0 k1 (by omega) hlt')
      have y0 : IntKind.i64.wrap (p + comes y k) = p + comes y k := IntWalk.i64_in _ (by omega)
      have HF := Lib.hid (show fits p y t k = decide (p + comes y k ≤ least t 1000000) from rfl)
      have HL := Lib.hid hlt
      clear hcb
      go_wp2
      refine wp_region_text (fun w' => Box (w.heap.size) [.int .i64 p, .int .i64 q] w w') (by kernel_rfl) (by kernel_rfl) (B.drew) ?_
      clear B_0 B_1 B_f0 B_f1 B_t
      iterate 9 (
        apply SeqH.one
        · intro uw K hS hK
          have qB := hS
          have qB_0 := qB.cells 0 _ rfl
          have qB_1 := qB.cells 1 _ rfl
          first
            | (go_simp; exact hK.out _ qB)
            | (go_simp; go_at_call 83; (with_reducible refine (HCS.out _).mono ?_); rintro e _ ⟨rfl, rfl⟩; go_wp2_with fail; exact hK.out _ qB)
            | (go_simp; go_at_call 86; (with_reducible refine (least_any _ _ _).mono ?_); rintro e _ ⟨rfl, rfl⟩; go_wp2_with fail; exact hK.out _ qB)
        try simp only [Act.put, List.setIfInBounds_toArray, List.set_cons_zero, List.set_cons_succ])
      refine SeqH.end' rfl ?_
      intro v4 hS
      clear B
      have B := hS; clear hS
      have B_0 := B.cells 0 _ rfl
      have B_1 := B.cells 1 _ rfl
      have B_f0 := B.free 0 (by simp)
      have B_f1 := B.free 1 (by simp)
      have B_t := B.there
      cases hf : decide (p + comes y k ≤ least t 1000000)
      · have HN1 := Lib.hid (HN.out.next (HF.out.trans hf))
        go_wp2
        go_roundw
        case rel => exact ⟨k + 1, by have := HL.out; omega, by go_num, HN1, B⟩
        case measure => have := HL.out; simp [intOf]; omega
      · have HV := Lib.hid (need_yes HOK.out (first_at HN.out (HF.out.trans hf) HL.out))
        go_wp2
        go_ret2
        exact rpost (by rw [HY.out, HV.out] <;> rfl) B.below
    · have hlt' : ¬ (k : Int) ≤ 100 := by omega
      have HV := Lib.hid (need_none (ok := ndOk l p q c d t) (first_none (p := p) (k := y) (t := t) (by have : k = 101 := by omega
                                                                                                        subst this; exact HN.out)))
      go_wp2
      go_ret2
      exact rpost (by rw [HY.out, HV.out] <;> rfl) B.below
set_option maxHeartbeats 800000 in
theorem need_impl (P : Option Addr) (cap : Nat) (l : List R) (p q c d t : Int) (w : World) (hr : Rd w w.heap.size P (flat l)) (hc : l.length ≤ cap) (hn : l.length ≤ 1048576) :
    Calls Try.prog 23 #[.slice P l.length cap, .agg #[.int .i64 p, .int .i64 q], .int .i64 c, .int .i64 d, .int .i64 t] w (RPost (needV (ndOk l p q c d t) (first p (kilo l c d) t)) w) := by
  have HR := Lib.hid hr; clear hr
  go_enter Try.func23, Try.ntmps23
  go_wp2_with fail
  have B := Box.new (Below.refl _ w) [.int .i64 p, .int .i64 q] 26 (g := w.heap.size) rfl
  generalize (w.alloc (.cells #[.int .i64 p, .int .i64 q] 26)) = W1 at B ⊢
  have B_0 := B.cells 0 _ rfl
  have B_1 := B.cells 1 _ rfl
  have B_f0 := B.free 0 (by simp)
  have B_f1 := B.free 1 (by simp)
  have B_t := B.there
  go_wp2_with fail
  refine (can_impl P cap l c d _ (rd_keep HR.out B.below) hn).mono ?_
  rintro e v2 ⟨rfl, hv2⟩
  clear B_0 B_1 B_f0 B_f1 B_t
  replace B := B.more hv2
  have zhv2 := hv2.size
  clear hv2
  have B_0 := B.cells 0 _ rfl
  have B_1 := B.cells 1 _ rfl
  have B_f0 := B.free 0 (by simp)
  have B_f1 := B.free 1 (by simp)
  have B_t := B.there
  cases hg : canOk l c d
  · have HV := Lib.hid (need_no (r := first p (kilo l c d) t) (nd1 (p := p) (q := q) (t := t) hg))
    clear hg
    go_wp2
    go_ret2
    exact rpost (by rw [HV.out] <;> rfl) B.below
  go_wp2_with fail
  refine (IBrine.brine_impl p q _).mono ?_
  rintro e v3 ⟨rfl, hv3⟩
  clear B_0 B_1 B_f0 B_f1 B_t
  replace B := B.more hv3
  have zhv3 := hv3.size
  clear hv3
  have B_0 := B.cells 0 _ rfl
  have B_1 := B.cells 1 _ rfl
  have B_f0 := B.free 0 (by simp)
  have B_f1 := B.free 1 (by simp)
  have B_t := B.there
  cases hok : okB p q
  · have HV := Lib.hid (need_no (r := first p (kilo l c d) t) (nd2 (l := l) (c := c) (d := d) (t := t) hok))
    go_wp2
    go_ret2
    exact rpost (by rw [HV.out] <;> rfl) B.below
  by_cases ht : 0 ≤ t
  case neg =>
    have HV := Lib.hid (need_no (r := first p (kilo l c d) t) (nd3 (l := l) (p := p) (q := q) (c := c) (d := d) ht))
    have hz : decide (t < 0) = true := decide_eq_true (by omega)
    clear ht
    go_wp2
    go_ret2
    exact rpost (by rw [HV.out] <;> rfl) B.below
  have hz : decide (t < 0) = false := decide_eq_false (by omega)
  obtain ⟨hp, hp1, hq, hq1⟩ := okB_true hok
  obtain ⟨k0, k1⟩ := kilo_bd hg
  obtain ⟨g1, g2, _⟩ := can_true hg
  have HOK := Lib.hid (nd4 hg hok ht)
  have HE := Lib.hid (on_sum g1 c d)
  have HSN := Lib.hid (good_sane g1)
  clear hg hok g1
  go_wp2_with fail
  refine (sum_impl P cap l c d d g2.1 g2.2 _ (rd_keep HR.out B.below) HSN.out).mono ?_
  rintro e v4 ⟨rfl, hv4⟩
  clear B_0 B_1 B_f0 B_f1 B_t
  replace B := B.more hv4
  have zhv4 := hv4.size
  clear hv4
  have B_0 := B.cells 0 _ rfl
  have B_1 := B.cells 1 _ rfl
  have B_f0 := B.free 0 (by simp)
  have B_f1 := B.free 1 (by simp)
  have B_t := B.there
  rw [HE.out]
  rw [show kil (on l d) c = kilo l c d from rfl]
  obtain ⟨y, hy⟩ : ∃ y, kilo l c d = y := ⟨_, rfl⟩
  rw [hy] at k0 k1
  rw [hy]
  have HY := Lib.hid hy; clear hy
  have HML := Lib.hid (min_least t)
  go_wp2
  rw [HML.out]
  go_loopw [36] (fun i wr => ∃ k : Nat, k ≤ 101 ∧ i = .int .i64 k ∧ Hid (None p y t k) ∧ Box (w.heap.size) [.int .i64 p, .int .i64 q] w wr) (fun i _ => 101 - (intOf i).toNat)
  case atStart => exact ⟨0, by omega, rfl, Lib.hid (fun j hj => by omega), B⟩
  case round =>
    clear B_0 B_1 B_f0 B_f1 B_t
    clear B
    obtain ⟨k, hk, rfl, HN, B⟩ := hrel
    have B_0 := B.cells 0 _ rfl
    have B_1 := B.cells 1 _ rfl
    have B_f0 := B.free 0 (by simp)
    have B_f1 := B.free 1 (by simp)
    have B_t := B.there
    by_cases hlt : k ≤ 100
    · have hlt' : (k : Int) < 101 := by omega
      have hcb := (comes_nums k0 k1 (show 0 ≤ (k : Int) by omega) (by omega)).2.2.2.2.2.2.2
      have HCS := Lib.hid (comes_impl y k k0 k1 (by omega) (by omega))
      have y0 : IntKind.i64.wrap (p + comes y k) = p + comes y k := IntWalk.i64_in _ (by omega)
      have HF := Lib.hid (show fits p y t k = decide (p + comes y k ≤ least t 1000000) from rfl)
      have HL := Lib.hid hlt
      clear hcb
      go_wp2
      refine wp_region_text (fun w' => Box (w.heap.size) [.int .i64 p, .int .i64 q] w w') (by kernel_rfl) (by kernel_rfl) (B.drew) ?_
      clear B_0 B_1 B_f0 B_f1 B_t
      iterate 8 (
        apply SeqH.one
        · intro uw K hS hK
          have qB := hS
          have qB_0 := qB.cells 0 _ rfl
          have qB_1 := qB.cells 1 _ rfl
          first
            | (go_simp; exact hK.out _ qB)
            | (go_simp; go_at_call 79; (with_reducible refine (HCS.out _).mono ?_); rintro e _ ⟨rfl, rfl⟩; go_wp2_with fail; exact hK.out _ qB)
        try simp only [Act.put, List.setIfInBounds_toArray, List.set_cons_zero, List.set_cons_succ])
      refine SeqH.end' rfl ?_
      intro v5 hS
      clear B
      have B := hS; clear hS
      have B_0 := B.cells 0 _ rfl
      have B_1 := B.cells 1 _ rfl
      have B_f0 := B.free 0 (by simp)
      have B_f1 := B.free 1 (by simp)
      have B_t := B.there
      cases hf : decide (p + comes y k ≤ least t 1000000)
      · have HN1 := Lib.hid (HN.out.next (HF.out.trans hf))
        go_wp2
        go_roundw
        case rel => exact ⟨k + 1, by have := HL.out; omega, by go_num, HN1, B⟩
        case measure => have := HL.out; simp [intOf]; omega
      · have HV := Lib.hid (need_yes HOK.out (first_at HN.out (HF.out.trans hf) HL.out))
        go_wp2
        go_ret2
        exact rpost (by rw [HY.out, HV.out] <;> rfl) B.below
    · have hlt' : ¬ (k : Int) < 101 := by omega
      have HV := Lib.hid (need_none (ok := ndOk l p q c d t) (first_none (p := p) (k := y) (t := t) (by have : k = 101 := by omega
                                                                                                        subst this; exact HN.out)))
      go_wp2
      go_ret2
      exact rpost (by rw [HY.out, HV.out] <;> rfl) B.below
end Go.Proofs.Ytpbmncecejchjaa.ShwC
