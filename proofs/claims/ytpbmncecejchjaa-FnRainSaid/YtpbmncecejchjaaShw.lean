/- Showers: what the functions of chapter 6 say, as plain functions. -/
import Derived.Test.YtpbmncecejchjaaSShower
namespace Go.Proofs.Ytpbmncecejchjaa.Shw
open Go.RowKit Go.Proofs.Ytpbmncecejchjaa.Mem Go.Proofs.Ytpbmncecejchjaa.Base Go.Proofs.Ytpbmncecejchjaa.SShower
set_option linter.unusedVariables false
def okS (x : R) : Bool := inB x.f0 0 4000 && inB x.f1 1 200000
theorem okS_true {x : R} (h : okS x = true) : 0 ≤ x.f0 ∧ x.f0 ≤ 4000 ∧ 1 ≤ x.f1 ∧ x.f1 ≤ 200000 := by
  unfold okS at h
  simp only [Bool.and_eq_true] at h
  have i0 := of_inB h.1; have i1 := of_inB h.2
  omega
theorem okS_mk {x : R} (h : 0 ≤ x.f0 ∧ x.f0 ≤ 4000 ∧ 1 ≤ x.f1 ∧ x.f1 ≤ 200000) : okS x = true := by
  unfold okS
  rw [inB_true (by omega), inB_true (by omega)]; rfl
def okAt (l : List R) (k : Nat) : Bool := okS (l.getD k zero) && (k == 0 || decide ((l.getD (k - 1) zero).f0 < (l.getD k zero).f0))
def good (l : List R) : Bool := (List.range l.length).all (okAt l) && decide (l.length ≤ 20)
def Ok (l : List R) (k : Nat) : Prop := ∀ j, j < k → okAt l j = true
theorem getD_at {l : List R} {k : Nat} (h : k < l.length) : l.getD k zero = l[k] := by simp [List.getD, h]
theorem good_no {l : List R} {k : Nat} (hk : k < l.length) (h : okAt l k = false) : good l = false := by
  unfold good
  rw [Bool.and_eq_false_iff]; left
  rw [List.all_eq_false]
  exact ⟨k, List.mem_range.2 hk, by simp [h]⟩
theorem good_end {l : List R} {k : Nat} (h : Ok l k) (hk : l.length ≤ k) : good l = decide (l.length ≤ 20) := by
  unfold good
  rw [List.all_eq_true.2 (fun j hj => h j (by have := List.mem_range.1 hj; omega)), Bool.true_and]
theorem good_long {l : List R} (h : 20 < l.length) : good l = false := by
  unfold good
  rw [decide_eq_false (by omega), Bool.and_false]
theorem Ok.next {l : List R} {k : Nat} (h : Ok l k) (hk : okAt l k = true) : Ok l (k + 1) := fun j hj => by
  rcases Nat.lt_or_ge j k with h1 | h1
  · exact h j h1
  · have : j = k := by omega
    subst this; exact hk
theorem at_zero {l : List R} {x : R} (hk : 0 < l.length) (hx : l[0] = x) (h1 : okS x = true) : okAt l 0 = true := by
  unfold okAt; rw [getD_at hk, hx, h1]; rfl
theorem at_bad {l : List R} {k : Nat} {x : R} (hk : k < l.length) (hx : l[k] = x) (h : okS x = false) : okAt l k = false := by
  unfold okAt; rw [getD_at hk, hx, h]; rfl
theorem at_low {l : List R} {k : Nat} {x : R} (hk : k + 1 < l.length) (hx : l[k + 1] = x) (h : ¬ l[k].f0 < x.f0) : okAt l (k + 1) = false := by
  unfold okAt; rw [getD_at hk, hx]
  have e : l.getD (k + 1 - 1) zero = l[k] := getD_at (by omega)
  rw [e, decide_eq_false h]; simp
theorem at_yes {l : List R} {k : Nat} {x : R} (hk : k + 1 < l.length) (hx : l[k + 1] = x) (h1 : okS x = true) (h : l[k].f0 < x.f0) : okAt l (k + 1) = true := by
  unfold okAt; rw [getD_at hk, hx, h1]
  have e : l.getD (k + 1 - 1) zero = l[k] := getD_at (by omega)
  rw [e, decide_eq_true h]; simp
theorem good_all {l : List R} (h : good l = true) : l.length ≤ 20 ∧ ∀ i (h : i < l.length), okS l[i] = true := by
  unfold good at h
  rw [Bool.and_eq_true, decide_eq_true_eq] at h
  refine ⟨h.2, fun i hi => ?_⟩
  have := List.all_eq_true.1 h.1 i (List.mem_range.2 hi)
  unfold okAt at this
  rw [getD_at hi] at this
  simp only [Bool.and_eq_true] at this
  exact this.1
theorem good_mem {l : List R} (h : good l = true) : ∀ x ∈ l, okS x = true := by
  intro x hx
  obtain ⟨i, hi, rfl⟩ := List.getElem_of_mem hx
  exact (good_all h).2 i hi
theorem good_asc {l : List R} (h : good l = true) : ∀ i (h : i + 1 < l.length), l[i].f0 < l[i + 1].f0 := by
  intro i hi
  unfold good at h
  rw [Bool.and_eq_true] at h
  have := List.all_eq_true.1 h.1 (i + 1) (List.mem_range.2 hi)
  unfold okAt at this
  rw [getD_at hi] at this
  simp only [Bool.and_eq_true, Nat.add_sub_cancel, Bool.or_eq_true, decide_eq_true_eq] at this
  rw [getD_at (by omega)] at this
  rcases this.2 with h1 | h1
  · simp at h1
  · exact h1
theorem good_lt {l : List R} (h : good l = true) : ∀ d i (h : i + d + 1 < l.length), l[i].f0 < l[i + d + 1].f0 := by
  intro d
  induction d with
  | zero => intro i hi; exact good_asc h i hi
  | succ d ih =>
    intro i hi
    have h1 := ih i (by omega)
    have h2 := good_asc h (i + d + 1) (by omega)
    have e : l[i + (d + 1) + 1] = l[i + d + 1 + 1] := rfl
    rw [e]; omega
theorem good_pair {l : List R} (h : good l = true) : l.Pairwise (fun x y => x.f0 < y.f0) := by
  rw [List.pairwise_iff_getElem]
  intro i j hi hj hij
  have := good_lt h (j - i - 1) i (by omega)
  have e : i + (j - i - 1) + 1 = j := by omega
  simp only [e] at this
  exact this

/-- the kilograms that fall on an area. -/
def kil (g a : Int) : Int := g * a / 1000
theorem kil_bd {g a : Int} (hg : 0 ≤ g) (hg1 : g ≤ 200000) (ha : 1 ≤ a) (ha1 : a ≤ 100000) : 0 ≤ g * a ∧ g * a ≤ 20000000000 ∧ 0 ≤ kil g a ∧ kil g a ≤ 20000000 := by
  have m0 : 0 ≤ g * a := Int.mul_nonneg hg (by omega)
  have m1 : g * a ≤ 200000 * 100000 := Int.mul_le_mul hg1 ha1 (by omega) (by omega)
  unfold kil
  omega
theorem kil_nums {g a : Int} (hg : 0 ≤ g) (hg1 : g ≤ 200000) (ha : 1 ≤ a) (ha1 : a ≤ 100000) :
    IntKind.i64.wrap (g * a) = g * a ∧ (g * a).tdiv 1000 = kil g a ∧ IntKind.i64.wrap (kil g a) = kil g a := by
  obtain ⟨b0, b1, b2, b3⟩ := kil_bd hg hg1 ha ha1
  exact ⟨IntWalk.i64_in _ (by omega), Int.tdiv_eq_ediv_of_nonneg b0, IntWalk.i64_in _ (by omega)⟩
/-- the sum of all kilograms on days within. -/
def inS (a b : Int) (x : R) : Bool := inB x.f0 a b
def sumF (l : List R) (c a b : Int) : Int := ((l.filter (inS a b)).map (fun x => kil x.f1 c)).sum
theorem filter_snoc (q : R → Bool) (l : List R) (k : Nat) (h : k < l.length) : (l.take (k + 1)).filter q = (l.take k).filter q ++ (if q l[k] = true then [l[k]] else []) := by
  rw [List.take_succ_eq_append_getElem h, List.filter_append, List.filter_cons]; rfl
theorem sum_yes {l : List R} {k : Nat} {x : R} {c a b : Int} (h : k < l.length) (hx : l[k] = x) (hq : inB x.f0 a b = true) : sumF (l.take (k + 1)) c a b = sumF (l.take k) c a b + kil x.f1 c := by
  unfold sumF
  rw [filter_snoc _ l k h, hx, if_pos (show inS a b x = true from hq)]
  simp
theorem sum_skip {l : List R} {k : Nat} {x : R} {c a b : Int} (h : k < l.length) (hx : l[k] = x) (hq : inB x.f0 a b = false) : sumF (l.take (k + 1)) c a b = sumF (l.take k) c a b := by
  unfold sumF
  rw [filter_snoc _ l k h, hx, if_neg (show ¬ inS a b x = true by unfold inS; rw [hq]; simp)]
  simp
theorem sum_zero (l : List R) (c a b : Int) : sumF (l.take 0) c a b = 0 := by simp [sumF]
/-- few showers, with grams within their limits. -/
def Sane (l : List R) : Prop := l.length ≤ 20 ∧ ∀ x ∈ l, 0 ≤ x.f0 ∧ x.f0 ≤ 4000 ∧ 1 ≤ x.f1 ∧ x.f1 ≤ 200000
theorem good_sane {l : List R} (h : good l = true) : Sane l := ⟨(good_all h).1, fun x hx => okS_true (good_mem h x hx)⟩
theorem Sane.take {l : List R} (h : Sane l) (k : Nat) : Sane (l.take k) := ⟨by rw [List.length_take]; have := h.1; omega, fun x hx => h.2 x (List.mem_of_mem_take hx)⟩
theorem Sane.get {l : List R} (h : Sane l) {k : Nat} {x : R} (hk : k < l.length) (hx : l[k] = x) : 0 ≤ x.f0 ∧ x.f0 ≤ 4000 ∧ 1 ≤ x.f1 ∧ x.f1 ≤ 200000 := h.2 x (by rw [← hx]; exact List.getElem_mem hk)
theorem sumR_bd {p : List R} {c : Int} (hc : 1 ≤ c) (hc1 : c ≤ 100000) (h : ∀ x ∈ p, 1 ≤ x.f1 ∧ x.f1 ≤ 200000) : 0 ≤ (p.map (fun x => kil x.f1 c)).sum ∧ (p.map (fun x => kil x.f1 c)).sum ≤ 20000000 * p.length := by
  induction p with
  | nil => simp
  | cons x p ih =>
    have h1 := ih (fun y hy => h y (by simp [hy]))
    have h2 := h x (by simp)
    obtain ⟨_, _, h3, h4⟩ := kil_bd (g := x.f1) (a := c) (by omega) h2.2 hc hc1
    simp only [List.map_cons, List.sum_cons, List.length_cons]
    omega
theorem Sane.sum {l : List R} (h : Sane l) {c : Int} (hc : 1 ≤ c) (hc1 : c ≤ 100000) (a b : Int) : 0 ≤ sumF l c a b ∧ sumF l c a b ≤ 400000000 := by
  have h2 := sumR_bd (p := l.filter (inS a b)) hc hc1 (fun x hx => (h.2 x (List.mem_filter.1 hx).1).2.2)
  have h3 := List.length_filter_le (inS a b) l
  have h4 := h.1
  unfold sumF
  omega
/-- the grams on a day: of the first shower of it. -/
def on (l : List R) (d : Int) : Int := match l.find? (fun x => x.f0 == d) with | some x => x.f1 | none => 0
def Not (l : List R) (d : Int) (k : Nat) : Prop := ∀ j (h : j < l.length), j < k → l[j].f0 ≠ d
theorem Not.next {l : List R} {d : Int} {k : Nat} (h : Not l d k) (hk : k < l.length) (he : l[k].f0 ≠ d) : Not l d (k + 1) := fun j hj hj2 => by
  rcases Nat.lt_or_ge j k with h1 | h1
  · exact h j hj h1
  · have : j = k := by omega
    subst this; exact he
theorem on_at {l : List R} {d : Int} {k : Nat} {x : R} (hk : k < l.length) (hn : Not l d k) (hx : l[k] = x) (he : x.f0 = d) : on l d = x.f1 := by
  have : l.find? (fun x => x.f0 == d) = some x := by
    rw [List.find?_eq_some_iff_getElem]
    exact ⟨by simp [he], k, hk, hx, fun j hj => by simpa using hn j (by omega) hj⟩
  unfold on; rw [this]
theorem on_none {l : List R} {d : Int} (hn : Not l d l.length) : on l d = 0 := by
  have : l.find? (fun x => x.f0 == d) = none := by
    rw [List.find?_eq_none]
    intro x hx
    obtain ⟨j, hj, rfl⟩ := List.getElem_of_mem hx
    simpa using hn j hj hj
  unfold on; rw [this]
theorem on_sum' {l : List R} (h : l.Pairwise (fun x y => x.f0 < y.f0)) (c d : Int) : sumF l c d d = kil (on l d) c := by
  induction l with
  | nil => simp [sumF, on, kil]
  | cons x l ih =>
    rw [List.pairwise_cons] at h
    have h1 := ih h.2
    by_cases he : x.f0 = d
    · have h2 : l.filter (inS d d) = [] := by
        rw [List.filter_eq_nil_iff]
        intro y hy
        have := h.1 y hy
        unfold inS; rw [inB_false (by omega)]; simp
      unfold sumF on
      rw [List.filter_cons_of_pos (show inS d d x = true from inB_true (by omega)), h2, List.find?_cons_of_pos (by simp [he])]
      simp
    · unfold sumF on at h1 ⊢
      rw [List.filter_cons_of_neg (show ¬ inS d d x = true by unfold inS; rw [inB_false (by omega)]; simp), List.find?_cons_of_neg (by simp [he])]
      exact h1
theorem on_sum {l : List R} (h : good l = true) (c d : Int) : sumF l c d d = kil (on l d) c := on_sum' (good_pair h) c d
theorem on_bd {l : List R} (h : good l = true) (d : Int) : 0 ≤ on l d ∧ on l d ≤ 200000 := by
  unfold Shw.on
  split
  · rename_i x hx
    have := ((good_sane h).2 x (List.mem_of_find?_eq_some hx)).2.2
    omega
  · omega
/-- who may ask, and for what day. -/
def canOk (l : List R) (c d : Int) : Bool := good l && inB c 1 100000 && inB d 0 4000
theorem can1 {l : List R} {c d : Int} (h : good l = false) : canOk l c d = false := by unfold canOk; rw [h]; rfl
theorem can2 {l : List R} {c d : Int} (h : inB c 1 100000 = false) : canOk l c d = false := by unfold canOk; rw [h, Bool.and_false]; rfl
theorem can3 {l : List R} {c d : Int} (h : inB d 0 4000 = false) : canOk l c d = false := by unfold canOk; rw [h, Bool.and_false]
theorem can4 {l : List R} {c d : Int} (h : good l = true) (h1 : inB c 1 100000 = true) (h2 : inB d 0 4000 = true) : canOk l c d = true := by unfold canOk; rw [h, h1, h2]; rfl
theorem can_true {l : List R} {c d : Int} (h : canOk l c d = true) : good l = true ∧ (1 ≤ c ∧ c ≤ 100000) ∧ (0 ≤ d ∧ d ≤ 4000) := by
  unfold canOk at h
  simp only [Bool.and_eq_true] at h
  exact ⟨h.1.1, of_inB h.1.2, of_inB h.2⟩
/-- RainOnArea. -/
def kilo (l : List R) (c d : Int) : Int := kil (on l d) c
theorem kilo_bd {l : List R} {c d : Int} (h : canOk l c d = true) : 0 ≤ kilo l c d ∧ kilo l c d ≤ 20000000 := by
  obtain ⟨h0, h1, _⟩ := can_true h
  have := on_bd h0 d
  have := kil_bd (g := on l d) (a := c) this.1 this.2 h1.1 h1.2
  unfold kilo; omega
def rainV (l : List R) (c d : Int) : Value := if canOk l c d = true then .tuple #[.int .i64 (kilo l c d), .bool true] else .tuple #[.int .i64 0, .bool false]
theorem rainV_no {l : List R} {c d : Int} (h : canOk l c d = false) : rainV l c d = .tuple #[.int .i64 0, .bool false] := by unfold rainV; rw [h]; rfl
theorem rainV_yes {l : List R} {c d : Int} (h : canOk l c d = true) : rainV l c d = .tuple #[.int .i64 (kilo l c d), .bool true] := by unfold rainV; rw [if_pos h]
theorem rain_form (l : List R) (c d : Int) : ∃ x q, rainV l c d = .tuple #[.int .i64 x, .bool q] := by
  unfold rainV
  split
  · exact ⟨_, _, rfl⟩
  · exact ⟨_, _, rfl⟩
/-- RainBetween. -/
def btwOk (l : List R) (c a b : Int) : Bool := good l && inB c 1 100000 && inB a 0 4000 && inB b 0 4000
def btwV (l : List R) (c a b : Int) : Value := if btwOk l c a b = true then .tuple #[.int .i64 (sumF l c a b), .bool true] else .tuple #[.int .i64 0, .bool false]
theorem btw0 {l : List R} {c a b : Int} (h : canOk l c a = false) : btwOk l c a b = false := by
  unfold btwOk; have : (good l && inB c 1 100000 && inB a 0 4000) = false := h
  rw [this]; rfl
theorem btw2 {l : List R} {c a b : Int} (h : inB a 0 4000 = false) : btwOk l c a b = false := by unfold btwOk; rw [h, Bool.and_false]; rfl
theorem btw3 {l : List R} {c a b : Int} (h : inB b 0 4000 = false) : btwOk l c a b = false := by unfold btwOk; rw [h, Bool.and_false]
theorem btw4 {l : List R} {c a b : Int} (h : canOk l c a = true) (h1 : inB b 0 4000 = true) : btwOk l c a b = true := by
  unfold btwOk; have : (good l && inB c 1 100000 && inB a 0 4000) = true := h
  rw [this, h1]; rfl
theorem btwV_no {l : List R} {c a b : Int} (h : btwOk l c a b = false) : btwV l c a b = .tuple #[.int .i64 0, .bool false] := by unfold btwV; rw [h]; rfl
theorem btwV_yes {l : List R} {c a b : Int} (h : btwOk l c a b = true) : btwV l c a b = .tuple #[.int .i64 (sumF l c a b), .bool true] := by unfold btwV; rw [if_pos h]
theorem btw_form (l : List R) (c a b : Int) : ∃ x q, btwV l c a b = .tuple #[.int .i64 x, .bool q] := by
  unfold btwV
  split
  · exact ⟨_, _, rfl⟩
  · exact ⟨_, _, rfl⟩
/-- what comes in although there is a cover. -/
def comes (k c : Int) : Int := k - (k * c + 99) / 100
theorem comes_nums {k c : Int} (hk : 0 ≤ k) (hk1 : k ≤ 20000000) (hc : 0 ≤ c) (hc1 : c ≤ 100) :
    0 ≤ k * c ∧ k * c ≤ 2000000000 ∧ IntKind.i64.wrap (k * c) = k * c ∧ IntKind.i64.wrap (k * c + 99) = k * c + 99 ∧ (k * c + 99).tdiv 100 = (k * c + 99) / 100 ∧ IntKind.i64.wrap ((k * c + 99) / 100) = (k * c + 99) / 100 ∧
      IntKind.i64.wrap (k - (k * c + 99) / 100) = comes k c ∧ 0 ≤ comes k c ∧ comes k c ≤ k := by
  have m0 : 0 ≤ k * c := Int.mul_nonneg hk hc
  have m1 : k * c ≤ 20000000 * 100 := Int.mul_le_mul hk1 hc1 hc (by omega)
  have m2 : k * c ≤ k * 100 := Int.mul_le_mul_of_nonneg_left hc1 hk
  have m3 : (k * c + 99) / 100 ≤ k := by omega
  unfold comes
  exact ⟨m0, by omega, IntWalk.i64_in _ (by omega), IntWalk.i64_in _ (by omega), Int.tdiv_eq_ediv_of_nonneg (by omega), IntWalk.i64_in _ (by omega), IntWalk.i64_in _ (by omega), by omega, by omega⟩
/-- AfterRain: the water, and whether. -/
def aftW (l : List R) (p c v d : Int) : Int := p + comes (kilo l c d) v
end Go.Proofs.Ytpbmncecejchjaa.Shw
