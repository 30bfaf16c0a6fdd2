/- Workers: what the functions of chapter 5 say, as plain functions. -/
import Derived.Test.YtdikekecbapcaaaSWorker
namespace Go.Proofs.Ytdikekecbapcaaa.Work
open Go.RowKit Go.Proofs.Ytdikekecbapcaaa.Mem Go.Proofs.Ytdikekecbapcaaa.Base Go.Proofs.Ytdikekecbapcaaa.SWorker
set_option linter.unusedVariables false
def okW (x : R) : Bool := inB x.f0 1 99 && inB x.f1 0 5 && inB x.f2 1 50 && inB x.f4 0 6
theorem okW_true {x : R} (h : okW x = true) : 1 ≤ x.f0 ∧ x.f0 ≤ 99 ∧ 0 ≤ x.f1 ∧ x.f1 ≤ 5 ∧ 1 ≤ x.f2 ∧ x.f2 ≤ 50 ∧ 0 ≤ x.f4 ∧ x.f4 ≤ 6 := by
  unfold okW at h
  simp only [Bool.and_eq_true] at h
  obtain ⟨⟨⟨h0, h1⟩, h2⟩, h3⟩ := h
  have i0 := of_inB h0; have i1 := of_inB h1; have i2 := of_inB h2; have i3 := of_inB h3
  omega
theorem okW_mk {x : R} (h : 1 ≤ x.f0 ∧ x.f0 ≤ 99 ∧ 0 ≤ x.f1 ∧ x.f1 ≤ 5 ∧ 1 ≤ x.f2 ∧ x.f2 ≤ 50 ∧ 0 ≤ x.f4 ∧ x.f4 ≤ 6) : okW x = true := by
  unfold okW
  rw [inB_true (by omega), inB_true (by omega), inB_true (by omega), inB_true (by omega)]; rfl
def okAt (l : List R) (k : Nat) : Bool := okW (l.getD k zero) && (k == 0 || decide ((l.getD (k - 1) zero).f0 < (l.getD k zero).f0))
def good (l : List R) : Bool := (List.range l.length).all (okAt l) && decide (l.length ≤ 12)
def Ok (l : List R) (k : Nat) : Prop := ∀ j, j < k → okAt l j = true
theorem getD_at {l : List R} {k : Nat} (h : k < l.length) : l.getD k zero = l[k] := by simp [List.getD, h]
theorem good_no {l : List R} {k : Nat} (hk : k < l.length) (h : okAt l k = false) : good l = false := by
  unfold good
  rw [Bool.and_eq_false_iff]; left
  rw [List.all_eq_false]
  exact ⟨k, List.mem_range.2 hk, by simp [h]⟩
theorem good_end {l : List R} {k : Nat} (h : Ok l k) (hk : l.length ≤ k) : good l = decide (l.length ≤ 12) := by
  unfold good
  rw [List.all_eq_true.2 (fun j hj => h j (by have := List.mem_range.1 hj; omega)), Bool.true_and]
theorem good_long {l : List R} (h : 12 < l.length) : good l = false := by
  unfold good
  rw [decide_eq_false (by omega), Bool.and_false]
theorem Ok.next {l : List R} {k : Nat} (h : Ok l k) (hk : okAt l k = true) : Ok l (k + 1) := fun j hj => by
  rcases Nat.lt_or_ge j k with h1 | h1
  · exact h j h1
  · have : j = k := by omega
    subst this; exact hk
theorem at_zero {l : List R} {x : R} (hk : 0 < l.length) (hx : l[0] = x) (h1 : okW x = true) : okAt l 0 = true := by
  unfold okAt; rw [getD_at hk, hx, h1]; rfl
theorem at_bad {l : List R} {k : Nat} {x : R} (hk : k < l.length) (hx : l[k] = x) (h : okW x = false) : okAt l k = false := by
  unfold okAt; rw [getD_at hk, hx, h]; rfl
theorem at_low {l : List R} {k : Nat} {x : R} (hk : k + 1 < l.length) (hx : l[k + 1] = x) (h : ¬ l[k].f0 < x.f0) : okAt l (k + 1) = false := by
  unfold okAt; rw [getD_at hk, hx]
  have e : l.getD (k + 1 - 1) zero = l[k] := getD_at (by omega)
  rw [e, decide_eq_false h]; simp
theorem at_yes {l : List R} {k : Nat} {x : R} (hk : k + 1 < l.length) (hx : l[k + 1] = x) (h1 : okW x = true) (h : l[k].f0 < x.f0) : okAt l (k + 1) = true := by
  unfold okAt; rw [getD_at hk, hx, h1]
  have e : l.getD (k + 1 - 1) zero = l[k] := getD_at (by omega)
  rw [e, decide_eq_true h]; simp
theorem good_all {l : List R} (h : good l = true) : l.length ≤ 12 ∧ ∀ i (h : i < l.length), okW l[i] = true := by
  unfold good at h
  rw [Bool.and_eq_true, decide_eq_true_eq] at h
  refine ⟨h.2, fun i hi => ?_⟩
  have := List.all_eq_true.1 h.1 i (List.mem_range.2 hi)
  unfold okAt at this
  rw [getD_at hi] at this
  simp only [Bool.and_eq_true] at this
  exact this.1
theorem good_mem {l : List R} (h : good l = true) : ∀ x ∈ l, okW x = true := by
  intro x hx
  obtain ⟨i, hi, rfl⟩ := List.getElem_of_mem hx
  exact (good_all h).2 i hi
theorem good_asc {l : List R} (h : good l = true) : ∀ i (h : i + 1 < l.length), l[i].f0 < l[i + 1].f0 := by
  intro i hi
  unfold good at h
  rw [Bool.and_eq_true] at h
  have := List.all_eq_true.1 h.1 (i + 1) (List.mem_range.2 hi)
  unfold okAt at this
  rw [getD_at hi] at this
  simp only [Bool.and_eq_true, Nat.add_sub_cancel, Bool.or_eq_true, decide_eq_true_eq] at this
  rw [getD_at (by omega)] at this
  rcases this.2 with h1 | h1
  · simp at h1
  · exact h1
theorem good_lt {l : List R} (h : good l = true) : ∀ d i (h : i + d + 1 < l.length), l[i].f0 < l[i + d + 1].f0 := by
  intro d
  induction d with
  | zero => intro i hi; exact good_asc h i hi
  | succ d ih =>
    intro i hi
    have h1 := ih i (by omega)
    have h2 := good_asc h (i + d + 1) (by omega)
    have e : l[i + (d + 1) + 1] = l[i + d + 1 + 1] := rfl
    rw [e]; omega
theorem good_pair {l : List R} (h : good l = true) : l.Pairwise (fun x y => x.f0 < y.f0) := by
  rw [List.pairwise_iff_getElem]
  intro i j hi hj hij
  have := good_lt h (j - i - 1) i (by omega)
  have e : i + (j - i - 1) + 1 = j := by omega
  simp only [e] at this
  exact this
/-- a list that the sums can be made of: few, with numbers within their limits. -/
def Sane (l : List R) : Prop := l.length ≤ 12 ∧ ∀ x ∈ l, 1 ≤ x.f0 ∧ 0 ≤ x.f1 ∧ x.f1 ≤ 5 ∧ 0 ≤ x.f2 ∧ x.f2 ≤ 50
theorem good_sane {l : List R} (h : good l = true) : Sane l := ⟨(good_all h).1, fun x hx => by have := okW_true (good_mem h x hx); omega⟩
theorem Sane.set {l : List R} (h : Sane l) (i : Nat) (x : R) (hx : 1 ≤ x.f0 ∧ 0 ≤ x.f1 ∧ x.f1 ≤ 5 ∧ 0 ≤ x.f2 ∧ x.f2 ≤ 50) : Sane (l.set i x) := by
  refine ⟨by rw [List.length_set]; exact h.1, fun y hy => ?_⟩
  rcases List.mem_or_eq_of_mem_set hy with h1 | h1
  · exact h.2 y h1
  · subst h1; exact hx
theorem Sane.sub {l m : List R} (h : Sane l) (hs : m.Sublist l) : Sane m := ⟨Nat.le_trans hs.length_le h.1, fun x hx => h.2 x (hs.subset hx)⟩

/-- in the gang and not free on the weekday. -/
def here (g d : Int) (x : R) : Bool := x.f1 == g && x.f4 != d
def pres (l : List R) (g d : Int) : List R := l.filter (here g d)
def rakes (p : List R) : Int := (p.map R.f2).sum
def works (p : List R) : Bool := decide (2 ≤ p.length) && p.any R.f3
def raked (p : List R) : Int := if works p = true then rakes p else 0
/-- without one. -/
def less (g d wo : Int) (x : R) : Bool := here g d x && x.f0 != wo
theorem rakes_snoc (p : List R) (x : R) : rakes (p ++ [x]) = rakes p + x.f2 := by simp [rakes]
theorem filter_snoc (q : R → Bool) (l : List R) (k : Nat) (h : k < l.length) : (l.take (k + 1)).filter q = (l.take k).filter q ++ (if q l[k] = true then [l[k]] else []) := by
  rw [List.take_succ_eq_append_getElem h, List.filter_append, List.filter_cons]; rfl
theorem filter_yes {q : R → Bool} {l : List R} {k : Nat} {x : R} (h : k < l.length) (hx : l[k] = x) (hq : q x = true) : (l.take (k + 1)).filter q = (l.take k).filter q ++ [x] := by
  rw [filter_snoc q l k h, hx, if_pos hq]
theorem filter_skip {q : R → Bool} {l : List R} {k : Nat} {x : R} (h : k < l.length) (hx : l[k] = x) (hq : q x = false) : (l.take (k + 1)).filter q = (l.take k).filter q := by
  rw [filter_snoc q l k h, hx, hq]; simp
theorem rakes_bd {p : List R} (h : ∀ x ∈ p, 0 ≤ x.f2 ∧ x.f2 ≤ 50) : 0 ≤ rakes p ∧ rakes p ≤ 50 * p.length := by
  induction p with
  | nil => simp [rakes]
  | cons x p ih =>
    have h1 := ih (fun y hy => h y (by simp [hy]))
    have h2 := h x (by simp)
    unfold rakes at *
    simp only [List.map_cons, List.sum_cons, List.length_cons]
    omega
theorem Sane.rakes {l : List R} (h : Sane l) {p : List R} (hs : p.Sublist l) : 0 ≤ rakes p ∧ rakes p ≤ 600 := by
  have h1 := h.sub hs
  have h2 := rakes_bd (p := p) (fun x hx => (h1.2 x hx).2.2.2)
  have := h1.1
  omega
theorem Sane.raked {l : List R} (h : Sane l) {p : List R} (hs : p.Sublist l) : 0 ≤ raked p ∧ raked p ≤ 600 := by
  unfold Work.raked
  split
  · exact h.rakes hs
  · omega
theorem less_zero {l : List R} (h : Sane l) (g d : Int) : l.filter (less g d 0) = pres l g d := by
  unfold pres
  apply List.filter_congr
  intro x hx
  have := (h.2 x hx).1
  unfold less
  rw [bne_iff_ne.2 (by omega), Bool.and_true]
theorem less_pres (l : List R) (g d wo : Int) : l.filter (less g d wo) = (pres l g d).filter (fun x => x.f0 != wo) := by
  unfold pres
  rw [List.filter_filter]
  apply List.filter_congr
  intro x hx
  unfold less
  exact Bool.and_comm _ _
def day7 (d : Int) : Int := Int.tmod d 7
def rakedOn (l : List R) (g d : Int) : Int := raked (pres l g d)
theorem Sane.on {l : List R} (h : Sane l) (g d : Int) : 0 ≤ rakedOn l g d ∧ rakedOn l g d ≤ 600 := h.raked List.filter_sublist
/-- what is raked on the first n weekdays. -/
def weekN (l : List R) (g : Int) (n : Nat) : List Int := (List.range n).map fun (d : Nat) => rakedOn l g (d : Int)
def week (l : List R) (g : Int) : List Int := weekN l g 7
theorem weekN_len (l : List R) (g : Int) (n : Nat) : (weekN l g n).length = n := by simp [weekN]
theorem weekN_snoc (l : List R) (g : Int) (n : Nat) : weekN l g (n + 1) = weekN l g n ++ [rakedOn l g n] := by simp [weekN, List.range_succ]
theorem weekN_get (l : List R) (g : Int) (n i : Nat) (h : i < (weekN l g n).length) : (weekN l g n)[i] = rakedOn l g i := by simp [weekN]
def weekSum (l : List R) (g : Int) : Int := (week l g).sum
theorem weekN_sum {l : List R} (h : Sane l) (g : Int) (n : Nat) : 0 ≤ (weekN l g n).sum ∧ (weekN l g n).sum ≤ 600 * n := by
  induction n with
  | zero => simp [weekN]
  | succ n ih =>
    rw [weekN_snoc, List.sum_append]
    have := h.on g n
    simp only [List.sum_cons, List.sum_nil]
    omega
theorem weekSum_bd {l : List R} (h : Sane l) (g : Int) : 0 ≤ weekSum l g ∧ weekSum l g ≤ 4200 := by
  have := weekN_sum h g 7
  unfold weekSum week
  omega
def allOk (l : List R) (g : Int) : Bool := good l && inB g 1 5
def onOk (l : List R) (g d : Int) : Bool := allOk l g && inB d 0 4000
/-- what is raked from a day on in n days. -/
def cum (l : List R) (g d : Int) (n : Nat) : Int := ((List.range n).map fun (i : Nat) => rakedOn l g (day7 (d + (i : Int)))).sum
theorem cum_snoc (l : List R) (g d : Int) (n : Nat) : cum l g d (n + 1) = cum l g d n + rakedOn l g (day7 (d + (n : Int))) := by simp [cum, List.range_succ]
theorem cum_bd {l : List R} (h : Sane l) (g d : Int) (n : Nat) : 0 ≤ cum l g d n ∧ cum l g d n ≤ 600 * n := by
  induction n with
  | zero => simp [cum]
  | succ n ih =>
    rw [cum_snoc]
    have := h.on g (day7 (d + (n : Int)))
    omega
def rakeN (l : List R) (g d load : Int) : Option Nat := (List.range (4001 - d).toNat).find? fun n => decide (load ≤ cum l g d (n + 1))
def Late (l : List R) (g d load : Int) (n : Nat) : Prop := ∀ j, j < n → cum l g d (j + 1) < load
theorem Late.next {l : List R} {g d load : Int} {n : Nat} (h : Late l g d load n) (hn : cum l g d (n + 1) < load) : Late l g d load (n + 1) := fun j hj => by
  rcases Nat.lt_or_ge j n with h1 | h1
  · exact h j h1
  · have : j = n := by omega
    subst this; exact hn
theorem rakeN_at {l : List R} {g d load : Int} {n : Nat} (h : Late l g d load n) (hd : d + n ≤ 4000) (hn : load ≤ cum l g d (n + 1)) : rakeN l g d load = some n := by
  unfold rakeN
  rw [List.find?_range_eq_some]
  refine ⟨by simpa using hn, List.mem_range.2 (by omega), fun j hj => by simpa using h j hj⟩
theorem rakeN_none {l : List R} {g d load : Int} {n : Nat} (h : Late l g d load n) (hd : 4000 < d + n) : rakeN l g d load = none := by
  unfold rakeN
  rw [List.find?_range_eq_none]
  intro j hj
  have := h j (by omega)
  simp; omega
def daysOk (l : List R) (g d load : Int) : Bool := allOk l g && inB d 0 4000 && inB load 1 10000
def daysV (l : List R) (g d load : Int) : Value :=
  if daysOk l g d load = true then (match rakeN l g d load with | some n => .tuple #[.int .i64 (d + (n : Int)), .bool true] | none => .tuple #[.int .i64 0, .bool false]) else .tuple #[.int .i64 0, .bool false]
/-- the weekdays on which a gang does not work, of the first n. -/
def idleN (l : List R) (g : Int) (n : Nat) : List Int := ((List.range n).filter fun (d : Nat) => !works (pres l g (d : Int))).map fun (d : Nat) => (d : Int)
theorem idleN_yes {l : List R} {g : Int} {n : Nat} (h : works (pres l g (n : Int)) = true) : idleN l g (n + 1) = idleN l g n := by simp [idleN, List.range_succ, List.filter_append, h]
theorem idleN_no {l : List R} {g : Int} {n : Nat} (h : works (pres l g (n : Int)) = false) : idleN l g (n + 1) = idleN l g n ++ [(n : Int)] := by simp [idleN, List.range_succ, List.filter_append, h]
theorem idleN_len (l : List R) (g : Int) (n : Nat) : (idleN l g n).length ≤ n := by
  unfold idleN
  rw [List.length_map]
  exact Nat.le_trans (List.length_filter_le _ _) (by simp)
end Go.Proofs.Ytdikekecbapcaaa.Work
