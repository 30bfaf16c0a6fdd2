/- Series: what the functions of chapter 8 say, as plain functions. -/
import Derived.Test.YtciohcipmkhneaaSBasin
import Derived.Test.YtciohcipmkhneaaMix
namespace Go.Proofs.Ytciohcipmkhneaa.Ser
open Go.RowKit Go.Proofs.Ytciohcipmkhneaa.Mem Go.Proofs.Ytciohcipmkhneaa.Base Go.Proofs.Ytciohcipmkhneaa.Brine Go.Proofs.Ytciohcipmkhneaa.Brine2 Go.Proofs.Ytciohcipmkhneaa.Brine6 Go.Proofs.Ytciohcipmkhneaa.SBasin
set_option linter.unusedVariables false
def okA (x : R) : Bool := inB x.f0 1 100000 && okB x.f1 x.f2
def good (l : List R) : Bool := l.all okA && inB (l.length : Int) 1 8
theorem okB_mk {a b : Int} (h : 0 ≤ a ∧ a ≤ 1000000 ∧ 0 ≤ b ∧ b ≤ 1000000) : okB a b = true := by
  unfold okB; rw [inB_true (by omega), inB_true (by omega)]; rfl
theorem okA_true {x : R} (h : okA x = true) : 1 ≤ x.f0 ∧ x.f0 ≤ 100000 ∧ 0 ≤ x.f1 ∧ x.f1 ≤ 1000000 ∧ 0 ≤ x.f2 ∧ x.f2 ≤ 1000000 := by
  unfold okA at h
  rw [Bool.and_eq_true] at h
  have h1 := of_inB h.1; have h2 := okB_true h.2; omega
theorem okA_brine {x : R} (h : okA x = true) : okB x.f1 x.f2 = true := by
  unfold okA at h
  rw [Bool.and_eq_true] at h
  exact h.2
theorem bad_area {x : R} (h : inB x.f0 1 100000 = false) : okA x = false := by unfold okA; rw [h]; rfl
theorem bad_brine {x : R} (h : okB x.f1 x.f2 = false) : okA x = false := by unfold okA; rw [h, Bool.and_false]
theorem ok_both {x : R} (h : inB x.f0 1 100000 = true) (h1 : okB x.f1 x.f2 = true) : okA x = true := by unfold okA; rw [h, h1]; rfl
def Ok (l : List R) (k : Nat) : Prop := ∀ j (h : j < l.length), j < k → okA l[j] = true
theorem Ok.next {l : List R} {k : Nat} (h : Ok l k) (hk : k < l.length) (ho : okA l[k] = true) : Ok l (k + 1) := fun j hj hj2 => by
  rcases Nat.lt_or_ge j k with h1 | h1
  · exact h j hj h1
  · have : j = k := by omega
    subst this; exact ho
theorem good_no {l : List R} {k : Nat} (hk : k < l.length) (h : okA l[k] = false) : good l = false := by
  unfold good
  rw [Bool.and_eq_false_iff]; left
  rw [List.all_eq_false]
  exact ⟨l[k], List.getElem_mem hk, by simp [h]⟩
theorem good_end {l : List R} {k : Nat} (h : Ok l k) (hk : l.length ≤ k) : good l = inB (l.length : Int) 1 8 := by
  unfold good
  rw [List.all_eq_true.2 (fun x hx => ?_), Bool.true_and]
  obtain ⟨j, hj, rfl⟩ := List.getElem_of_mem hx
  exact h j hj (by omega)
theorem good_long {l : List R} (h : inB (l.length : Int) 1 8 = false) : good l = false := by unfold good; rw [h, Bool.and_false]
theorem good_all {l : List R} (h : good l = true) : 1 ≤ l.length ∧ l.length ≤ 8 ∧ ∀ x ∈ l, okA x = true := by
  unfold good at h
  rw [Bool.and_eq_true] at h
  have := of_inB h.2
  exact ⟨by omega, by omega, List.all_eq_true.1 h.1⟩
theorem good_mk {l : List R} (h0 : 1 ≤ l.length) (h1 : l.length ≤ 8) (h : ∀ x ∈ l, okA x = true) : good l = true := by
  unfold good
  rw [List.all_eq_true.2 h, inB_true (by omega)]; rfl
theorem good_get {l : List R} (h : good l = true) {k : Nat} {x : R} (hk : k < l.length) (hx : l[k] = x) : okA x = true := (good_all h).2.2 x (by rw [← hx]; exact List.getElem_mem hk)
theorem getD_at {l : List R} {k : Nat} (h : k < l.length) : l.getD k zero = l[k] := by simp [List.getD, h]

/-- sums of Water and of Salt. -/
def tw (l : List R) : Int := (l.map (·.f1)).sum
def ts (l : List R) : Int := (l.map (·.f2)).sum
theorem tw_snoc (l : List R) (k : Nat) (h : k < l.length) : tw (l.take (k + 1)) = tw (l.take k) + l[k].f1 := by
  unfold tw; rw [List.take_succ_eq_append_getElem h, List.map_append, List.sum_append]; simp
theorem ts_snoc (l : List R) (k : Nat) (h : k < l.length) : ts (l.take (k + 1)) = ts (l.take k) + l[k].f2 := by
  unfold ts; rw [List.take_succ_eq_append_getElem h, List.map_append, List.sum_append]; simp
theorem tot_bd {l : List R} (h : ∀ x ∈ l, okA x = true) : 0 ≤ tw l ∧ tw l ≤ 1000000 * l.length ∧ 0 ≤ ts l ∧ ts l ≤ 1000000 * l.length := by
  induction l with
  | nil => simp [tw, ts]
  | cons x l ih =>
    have h1 := okA_true (h x (by simp))
    have h2 := ih (fun y hy => h y (by simp [hy]))
    simp only [tw, ts, List.map_cons, List.sum_cons, List.length_cons] at *
    omega
/-- the brines of a series. -/
def brOf (x : R) : SBrine.R := ⟨x.f1, x.f2⟩
def brs (l : List R) : List SBrine.R := l.map brOf
theorem brs_sw (l : List R) : Mix.sw (brs l) = tw l := by unfold Mix.sw brs tw; rw [List.map_map]; rfl
theorem brs_ss (l : List R) : Mix.ss (brs l) = ts l := by unfold Mix.ss brs ts; rw [List.map_map]; rfl
def sumOk (l : List R) : Bool := good l && okB (tw l) (ts l)
def sumV (l : List R) : Value := if sumOk l = true then .tuple #[br (tw l) (ts l), .bool true] else .tuple #[br 0 0, .bool false]
theorem sum1 {l : List R} (h : good l = false) : sumOk l = false := by unfold sumOk; rw [h]; rfl
theorem sum2 {l : List R} (h : good l = true) : sumOk l = okB (tw l) (ts l) := by unfold sumOk; rw [h]; rfl
theorem sumV_no {l : List R} (h : sumOk l = false) : sumV l = .tuple #[br 0 0, .bool false] := by unfold sumV; rw [h]; rfl
theorem sumV_yes {l : List R} (h : sumOk l = true) : sumV l = .tuple #[br (tw l) (ts l), .bool true] := by unfold sumV; rw [if_pos h]
theorem sum_form (l : List R) : ∃ x y q, sumV l = .tuple #[br x y, .bool q] := by
  unfold sumV
  split
  · exact ⟨_, _, _, rfl⟩
  · exact ⟨_, _, _, rfl⟩
theorem mix_brs {l : List R} (h : good l = true) : Mix.mixV (brs l) = sumV l := by
  obtain ⟨h0, h1, h2⟩ := good_all h
  have e : Mix.mixOk (brs l) = sumOk l := by
    rw [sum2 h]
    unfold Mix.mixOk
    rw [brs_sw, brs_ss, decide_eq_true (by unfold brs; rw [List.length_map]; omega), List.all_eq_true.2 (fun x hx => ?_)]
    · rfl
    · obtain ⟨y, hy, rfl⟩ := List.mem_map.1 hx
      exact okA_brine (h2 y hy)
  unfold Mix.mixV sumV
  rw [e, brs_sw, brs_ss]

/-- rising. -/
def stronger (a b c d : Int) : Bool := decide (b * c > d * a)
def riseF (p q : Int) : List R → Bool
  | [] => true
  | x :: r => if x.f1 + x.f2 = 0 then riseF p q r else if 0 < p + q ∧ q * x.f1 > x.f2 * p then false else riseF x.f1 x.f2 r
theorem rise_nil {l : List R} {k : Nat} (p q : Int) (h : l.length ≤ k) : riseF p q (l.drop k) = true := by rw [List.drop_eq_nil_of_le h]; rfl
theorem rise_skip {l : List R} {k : Nat} {p q : Int} {x : R} (h : k < l.length) (hx : l[k] = x) (h0 : x.f1 + x.f2 = 0) : riseF p q (l.drop k) = riseF p q (l.drop (k + 1)) := by
  rw [List.drop_eq_getElem_cons h, hx]; show (if _ then _ else _) = _; rw [if_pos h0]
theorem rise_no {l : List R} {k : Nat} {p q : Int} {x : R} (h : k < l.length) (hx : l[k] = x) (h0 : ¬ (x.f1 + x.f2 = 0)) (h1 : 0 < p + q) (h2 : q * x.f1 > x.f2 * p) : riseF p q (l.drop k) = false := by
  rw [List.drop_eq_getElem_cons h, hx]; show (if _ then _ else _) = _; rw [if_neg h0, if_pos ⟨h1, h2⟩]
theorem rise_next {l : List R} {k : Nat} {p q : Int} {x : R} (h : k < l.length) (hx : l[k] = x) (h0 : ¬ (x.f1 + x.f2 = 0)) (h1 : ¬ (0 < p + q ∧ q * x.f1 > x.f2 * p)) : riseF p q (l.drop k) = riseF x.f1 x.f2 (l.drop (k + 1)) := by
  rw [List.drop_eq_getElem_cons h, hx]; show (if _ then _ else _) = _; rw [if_neg h0, if_neg h1]
def riseV (l : List R) : Value := if good l = true then .tuple #[.bool (riseF 0 0 l), .bool true] else .tuple #[.bool false, .bool false]
theorem riseV_no {l : List R} (h : good l = false) : riseV l = .tuple #[.bool false, .bool false] := by unfold riseV; rw [h]; rfl
theorem riseV_yes {l : List R} {b : Bool} (h : good l = true) (hb : riseF 0 0 l = b) : riseV l = .tuple #[.bool b, .bool true] := by unfold riseV; rw [if_pos h, hb]
theorem rise_form (l : List R) : ∃ q qq, riseV l = .tuple #[.bool q, .bool qq] := by
  unfold riseV
  split
  · exact ⟨_, _, rfl⟩
  · exact ⟨_, _, rfl⟩

/-- the strongest of the first k ones. -/
def bestK (l : List R) : Nat → Option Nat
  | 0 => none
  | k + 1 => if 0 < (l.getD k zero).f1 + (l.getD k zero).f2 ∧ (∀ b, bestK l k = some b → (l.getD k zero).f2 * (l.getD b zero).f1 > (l.getD b zero).f2 * (l.getD k zero).f1) then some k else bestK l k
theorem best_lt {l : List R} {k b : Nat} (h : bestK l k = some b) : b < k := by
  induction k with
  | zero => cases h
  | succ k ih =>
    unfold bestK at h
    split at h
    · injection h with h; omega
    · have := ih h; omega
theorem best_mass {l : List R} {k b : Nat} (h : bestK l k = some b) : 0 < (l.getD b zero).f1 + (l.getD b zero).f2 := by
  induction k with
  | zero => cases h
  | succ k ih =>
    unfold bestK at h
    split at h
    · rename_i h1; injection h with h; subst h; exact h1.1
    · exact ih h
theorem best_skip {l : List R} {k : Nat} {x : R} (hk : k < l.length) (hx : l[k] = x) (h : ¬ 0 < x.f1 + x.f2) : bestK l (k + 1) = bestK l k := by
  show (if _ then _ else _) = _
  rw [getD_at hk, hx, if_neg (fun h1 => h h1.1)]
theorem best_first {l : List R} {k : Nat} {x : R} (hk : k < l.length) (hx : l[k] = x) (h : 0 < x.f1 + x.f2) (hn : bestK l k = none) : bestK l (k + 1) = some k := by
  show (if _ then _ else _) = _
  rw [getD_at hk, hx, if_pos ⟨h, fun b hb => by rw [hn] at hb; cases hb⟩]
theorem best_new {l : List R} {k b : Nat} {x y : R} (hk : k < l.length) (hx : l[k] = x) (h : 0 < x.f1 + x.f2) (hn : bestK l k = some b) (hb : b < l.length) (hy : l[b] = y) (hs : x.f2 * y.f1 > y.f2 * x.f1) : bestK l (k + 1) = some k := by
  show (if _ then _ else _) = _
  rw [getD_at hk, hx, if_pos ⟨h, fun c hc => by rw [hn] at hc; injection hc with hc; subst hc; rw [getD_at hb, hy]; exact hs⟩]
theorem best_old {l : List R} {k b : Nat} {x y : R} (hk : k < l.length) (hx : l[k] = x) (hn : bestK l k = some b) (hb : b < l.length) (hy : l[b] = y) (hs : ¬ x.f2 * y.f1 > y.f2 * x.f1) : bestK l (k + 1) = some b := by
  show (if _ then _ else _) = _
  rw [getD_at hk, hx, if_neg (fun h1 => hs (by have := h1.2 b hn; rwa [getD_at hb, hy] at this)), hn]
def bestV (l : List R) : Value := if good l = true then (match bestK l l.length with | some b => .tuple #[.int .i64 (b : Int), .bool true] | none => .tuple #[.int .i64 0, .bool false]) else .tuple #[.int .i64 0, .bool false]
theorem bestV_no {l : List R} (h : good l = false) : bestV l = .tuple #[.int .i64 0, .bool false] := by unfold bestV; rw [h]; rfl
theorem bestV_none {l : List R} (h : bestK l l.length = none) : bestV l = .tuple #[.int .i64 0, .bool false] := by unfold bestV; rw [h]; split <;> rfl
theorem bestV_yes {l : List R} {b : Nat} (h : good l = true) (hb : bestK l l.length = some b) : bestV l = .tuple #[.int .i64 (b : Int), .bool true] := by unfold bestV; rw [if_pos h, hb]
theorem best_form (l : List R) : ∃ x q, bestV l = .tuple #[.int .i64 x, .bool q] := by
  unfold bestV
  split
  · split
    · exact ⟨_, _, rfl⟩
    · exact ⟨_, _, rfl⟩
  · exact ⟨_, _, rfl⟩

/-- FillFirst. -/
def fillOk (l : List R) (p q : Int) : Bool := good l && (okB p q && okB ((l.getD 0 zero).f1 + p) ((l.getD 0 zero).f2 + q))
def fillL (l : List R) (p q : Int) : List R := if fillOk l p q = true then l.set 0 ⟨(l.getD 0 zero).f0, (l.getD 0 zero).f1 + p, (l.getD 0 zero).f2 + q⟩ else []
theorem fill1 {l : List R} {p q : Int} (h : good l = false) : fillOk l p q = false := by unfold fillOk; rw [h]; rfl
theorem fill2 {l : List R} {p q : Int} (h : okB p q = false) : fillOk l p q = false := by unfold fillOk; rw [h]; simp
theorem fill3 {l : List R} {p q : Int} {x : R} (hk : 0 < l.length) (hx : l[0] = x) (h : okB (x.f1 + p) (x.f2 + q) = false) : fillOk l p q = false := by unfold fillOk; rw [getD_at hk, hx, h]; simp
theorem fill4 {l : List R} {p q : Int} {x : R} (hk : 0 < l.length) (hx : l[0] = x) (h : good l = true) (h1 : okB p q = true) (h2 : okB (x.f1 + p) (x.f2 + q) = true) : fillOk l p q = true := by unfold fillOk; rw [getD_at hk, hx, h, h1, h2]; rfl
theorem fillL_no {l : List R} {p q : Int} (h : fillOk l p q = false) : fillL l p q = [] := by unfold fillL; rw [h]; rfl
theorem fillL_yes {l : List R} {p q : Int} {x : R} (hk : 0 < l.length) (hx : l[0] = x) (h : fillOk l p q = true) : fillL l p q = l.set 0 ⟨x.f0, x.f1 + p, x.f2 + q⟩ := by unfold fillL; rw [if_pos h, getD_at hk, hx]
theorem set_good {l : List R} {k : Nat} {x : R} {a b : Int} (h : good l = true) (hk : k < l.length) (hx : l[k] = x) : good (l.set k ⟨x.f0, a, b⟩) = okB a b := by
  obtain ⟨h0, h1, h2⟩ := good_all h
  have hx2 := okA_true (good_get h hk hx)
  cases ho : okB a b
  · refine good_no (k := k) (by rw [List.length_set]; exact hk) ?_
    rw [List.getElem_set_self]
    exact bad_brine ho
  · refine good_mk (by rw [List.length_set]; exact h0) (by rw [List.length_set]; exact h1) fun y hy => ?_
    rcases List.mem_or_eq_of_mem_set hy with h3 | h3
    · exact h2 y h3
    · subst h3
      exact ok_both (inB_true (by exact ⟨hx2.1, hx2.2.1⟩)) ho
theorem fill_len (l : List R) (p q : Int) : (fillL l p q).length ≤ 100 := by
  unfold fillL
  split
  · rename_i h
    unfold fillOk at h
    rw [Bool.and_eq_true] at h
    have := (good_all h.1).2.1
    rw [List.length_set]; omega
  · simp

/-- a pass: what goes out of a basin. -/
def mn (x : R) (n : Int) : Int := least n (x.f1 + x.f2)
def gw (x : R) (n : Int) : Int := pw x.f1 x.f2 (mn x n)
def gs (x : R) (n : Int) : Int := ps x.f1 x.f2 (mn x n)
theorem mn_bd {x : R} {n : Int} (h : okA x = true) (hn : 1 ≤ n) : 0 ≤ mn x n ∧ mn x n ≤ x.f1 + x.f2 := by
  have := okA_true h
  unfold mn least; split <;> omega
theorem go_bd {x : R} {n : Int} (h : okA x = true) (hn : 1 ≤ n) : 0 ≤ gw x n ∧ gw x n ≤ x.f1 ∧ 0 ≤ gs x n ∧ gs x n ≤ x.f2 := by
  have h0 := okA_true h
  obtain ⟨h1, h2⟩ := mn_bd h hn
  obtain ⟨h3, h4, h5, h6, h7⟩ := part_in (a := x.f1) (b := x.f2) (by omega) (by omega) h1 h2
  have h8 := part_room (a := x.f1) (b := x.f2) (by omega) (by omega) h1 h2
  exact ⟨h3, h8, h5, h7⟩
theorem take_go {x : R} {n : Int} (h : okA x = true) (hn : 1 ≤ n) : takeV x.f1 x.f2 (mn x n) = .tuple #[br (gw x n) (gs x n), br (x.f1 - gw x n) (x.f2 - gs x n), .bool true] := by
  have h1 := mn_bd h hn
  exact (take_yes (take_ok (okA_brine h) (inB_true h1))).out
def inW (l : List R) (n : Int) (k : Nat) : Int := if k = 0 then 0 else gw (l.getD (k - 1) zero) n
def inS (l : List R) (n : Int) (k : Nat) : Int := if k = 0 then 0 else gs (l.getD (k - 1) zero) n
def leftAt (l : List R) (n : Int) (k : Nat) : R := ⟨(l.getD k zero).f0, (l.getD k zero).f1 - gw (l.getD k zero) n, (l.getD k zero).f2 - gs (l.getD k zero) n⟩
def passAt (l : List R) (n : Int) (k : Nat) : R := ⟨(l.getD k zero).f0, (l.getD k zero).f1 - gw (l.getD k zero) n + inW l n k, (l.getD k zero).f2 - gs (l.getD k zero) n + inS l n k⟩
theorem pass_zero (l : List R) (n : Int) : passAt l n 0 = leftAt l n 0 := by simp [passAt, leftAt, inW, inS]
theorem in_next {l : List R} {n : Int} {k : Nat} {x : R} (hk : k < l.length) (hx : l[k] = x) : inW l n (k + 1) = gw x n ∧ inS l n (k + 1) = gs x n := by
  unfold inW inS
  rw [if_neg (by omega), if_neg (by omega), Nat.add_sub_cancel, getD_at hk, hx]; exact ⟨rfl, rfl⟩
theorem in_bd {l : List R} {n : Int} (h : good l = true) (hn : 1 ≤ n) (k : Nat) (hk : k ≤ l.length) : 0 ≤ inW l n k ∧ inW l n k ≤ 1000000 ∧ 0 ≤ inS l n k ∧ inS l n k ≤ 1000000 := by
  unfold inW inS
  split
  · simp
  · have hk1 : k - 1 < l.length := by omega
    rw [getD_at hk1]
    have ho := good_get h hk1 rfl
    have := go_bd ho hn; have := okA_true ho
    omega
/-- a list told by its index. -/
def tell (m : Nat) (f : Nat → R) : List R := (List.range m).map f
theorem tell_len (m : Nat) (f : Nat → R) : (tell m f).length = m := by simp [tell]
theorem tell_get {m : Nat} {f : Nat → R} {k : Nat} (h : k < (tell m f).length) : (tell m f)[k] = f k := by simp [tell]
theorem tell_ext {m : Nat} {f : Nat → R} {l : List R} (hl : l.length = m) (h : ∀ k (hk : k < l.length), l[k] = f k) : l = tell m f := by
  refine List.ext_getElem (by rw [hl, tell_len]) fun i h1 h2 => ?_
  rw [tell_get, h i h1]
theorem tell_set {m : Nat} {f g : Nat → R} {k : Nat} {x : R} (hx : x = g k) (h : ∀ i, i < m → i ≠ k → f i = g i) : (tell m f).set k x = tell m g := by
  refine tell_ext (by rw [List.length_set, tell_len]) fun i hi => ?_
  rw [List.length_set, tell_len] at hi
  rw [List.getElem_set]
  split
  · rename_i e; subst e; exact hx
  · rename_i e; rw [tell_get]; exact h i hi (fun e' => e e'.symm)
theorem tell_id (l : List R) : tell l.length (fun i => l.getD i zero) = l := (tell_ext rfl fun k hk => (getD_at hk).symm).symm
def passL (l : List R) (n : Int) : List R := tell l.length (passAt l n)
/-- the program's series behind k basins. -/
def mid (l : List R) (n : Int) (k : Nat) : List R := tell l.length fun i => if i < k then passAt l n i else l.getD i zero
theorem mid_zero (l : List R) (n : Int) : mid l n 0 = l := by
  have : mid l n 0 = tell l.length (fun i => l.getD i zero) := by unfold mid; congr 1
  rw [this, tell_id]
theorem mid_get {l : List R} {n : Int} {k i : Nat} (h : i < (mid l n k).length) : (mid l n k)[i] = if i < k then passAt l n i else l.getD i zero := tell_get h
theorem pass_get {l : List R} {n : Int} {i : Nat} (h : i < (passL l n).length) : (passL l n)[i] = passAt l n i := tell_get h
theorem mid_len (l : List R) (n : Int) (k : Nat) : (mid l n k).length = l.length := tell_len _ _
theorem mid_all (l : List R) (n : Int) {k : Nat} (h : l.length ≤ k) : mid l n k = passL l n :=
  (tell_ext (mid_len l n k) fun i hi => by
    have hi2 : i < l.length := by rwa [mid_len] at hi
    rw [mid_get, if_pos (by omega)])
theorem mid_at {l : List R} {n : Int} {k : Nat} (h : k < l.length) (h' : k < (mid l n k).length) : (mid l n k)[k] = l[k] := by
  rw [mid_get, if_neg (by omega), getD_at h]
theorem mid_set {l : List R} {n : Int} {k : Nat} (h : k < l.length) : (mid l n k).set k (passAt l n k) = mid l n (k + 1) := by
  refine tell_set (by rw [if_pos (by omega)]) fun i hi hne => ?_
  by_cases h1 : i < k
  · rw [if_pos h1, if_pos (by omega)]
  · rw [if_neg h1, if_neg (by omega)]
/-- the model's series when the basins from k on are done. -/
def fro (l : List R) (n : Int) (k : Nat) : List R := tell l.length fun i => if i < k then l.getD i zero else if i = k then leftAt l n i else passAt l n i
theorem fro_get {l : List R} {n : Int} {k i : Nat} (h : i < (fro l n k).length) : (fro l n k)[i] = if i < k then l.getD i zero else if i = k then leftAt l n i else passAt l n i := tell_get h
theorem fro_len (l : List R) (n : Int) (k : Nat) : (fro l n k).length = l.length := tell_len _ _
theorem fro_end (l : List R) (n : Int) {k : Nat} (h : l.length ≤ k) : fro l n k = l := by
  have : fro l n k = tell l.length (fun i => l.getD i zero) := (tell_ext (fro_len l n k) fun i hi => by
    have hi2 : i < l.length := by rwa [fro_len] at hi
    rw [fro_get, if_pos (by omega)])
  rw [this, tell_id]
theorem fro_zero (l : List R) (n : Int) : fro l n 0 = passL l n := tell_ext (fro_len l n 0) fun i hi => by
  rw [fro_get, if_neg (by omega)]
  split
  · rename_i e; subst e; exact (pass_zero l n).symm
  · rfl
theorem fro_at {l : List R} {n : Int} {k : Nat} (h : k < l.length) (h' : k < (fro l n (k + 1)).length) : (fro l n (k + 1))[k] = l[k] := by
  rw [fro_get, if_pos (by omega), getD_at h]
theorem fro_here {l : List R} {n : Int} {k : Nat} (h' : k < (fro l n k).length) : (fro l n k)[k] = leftAt l n k := by
  rw [fro_get, if_neg (by omega), if_pos rfl]
/-- behind the first store of a round: basin k is left, the next one still waits for its part. -/
def half1 (l : List R) (n : Int) (k : Nat) : List R := (fro l n (k + 1)).set k (leftAt l n k)
theorem half1_len (l : List R) (n : Int) (k : Nat) : (half1 l n k).length = l.length := by unfold half1; rw [List.length_set, fro_len]
theorem half1_get {l : List R} {n : Int} {k i : Nat} (h : i < (half1 l n k).length) (hne : k ≠ i) : (half1 l n k)[i] = (fro l n (k + 1))[i]'(by rw [half1_len] at h; rw [fro_len]; exact h) := List.getElem_set_ne hne h
theorem half1_next {l : List R} {n : Int} {k : Nat} (h : k + 1 < l.length) (h' : k + 1 < (half1 l n k).length) : (half1 l n k)[k + 1] = leftAt l n (k + 1) := by
  rw [half1_get h' (by omega)]
  exact fro_here _
theorem half1_last {l : List R} {n : Int} {k : Nat} (h : k + 1 = l.length) : half1 l n k = fro l n k := by
  unfold half1
  refine tell_set (by rw [if_neg (by omega), if_pos rfl]) fun i hi hne => ?_
  have h1 : i < k := by omega
  rw [if_pos (by omega), if_pos h1]
theorem half1_set {l : List R} {n : Int} {k : Nat} (h : k + 1 < l.length) : (half1 l n k).set (k + 1) (passAt l n (k + 1)) = fro l n k := by
  have e : half1 l n k = tell l.length (fun i => if i < k then l.getD i zero else if i = k then leftAt l n i else if i = k + 1 then leftAt l n i else passAt l n i) := by
    unfold half1
    refine tell_set (by rw [if_neg (by omega), if_pos rfl]) fun i hi hne => ?_
    by_cases h1 : i < k
    · rw [if_pos (by omega), if_pos h1]
    · rw [if_neg (by omega), if_neg h1, if_neg hne]
  rw [e]
  refine tell_set (by rw [if_neg (by omega), if_neg (by omega)]) fun i hi hne => ?_
  by_cases h1 : i < k
  · rw [if_pos h1, if_pos h1]
  · rw [if_neg h1, if_neg h1, if_neg hne]
theorem pass_good {l : List R} {n : Int} (h : good l = true) (ha : ∀ k, k < l.length → okB (passAt l n k).f1 (passAt l n k).f2 = true) : good (passL l n) = true := by
  obtain ⟨h0, h1, h2⟩ := good_all h
  refine good_mk (by unfold passL; rw [tell_len]; exact h0) (by unfold passL; rw [tell_len]; exact h1) fun x hx => ?_
  obtain ⟨k, hk, rfl⟩ := List.getElem_of_mem hx
  have hk2 : k < l.length := by unfold passL at hk; rwa [tell_len] at hk
  rw [pass_get]
  have h3 := okA_true (good_get h hk2 rfl)
  refine ok_both (inB_true ?_) (ha k hk2)
  show 1 ≤ (l.getD k zero).f0 ∧ (l.getD k zero).f0 ≤ 100000
  rw [getD_at hk2]; omega
theorem pass_bad {l : List R} {n : Int} {k : Nat} (hk : k < l.length) (ha : okB (passAt l n k).f1 (passAt l n k).f2 = false) : good (passL l n) = false := by
  refine good_no (k := k) (by unfold passL; rw [tell_len]; exact hk) ?_
  rw [pass_get]
  exact bad_brine ha
theorem pass_len (l : List R) (n : Int) : (passL l n).length = l.length := tell_len _ _
/-- what goes out of the last basin. -/
def outW (l : List R) (n : Int) : Int := inW l n l.length
def outS (l : List R) (n : Int) : Int := inS l n l.length
theorem out_bd {l : List R} {n : Int} (h : good l = true) (hn : 1 ≤ n) : 0 ≤ outW l n ∧ outW l n ≤ 1000000 ∧ 0 ≤ outS l n ∧ outS l n ≤ 1000000 := in_bd h hn _ (Nat.le_refl _)
/-- passes: the series and the pan, none if it fails. -/
structure St where
  l : List R
  p : Int
  q : Int
def stepOk (l : List R) (p q n : Int) : Bool := good (passL l n) && okB (p + outW l n) (q + outS l n)
def step (n : Int) (s : St) : Option St := if stepOk s.l s.p s.q n = true then some ⟨passL s.l n, s.p + outW s.l n, s.q + outS s.l n⟩ else none
def iter (n : Int) : Nat → St → Option St
  | 0, s => some s
  | k + 1, s => match step n s with | some t => iter n k t | none => none
theorem iter_zero (n : Int) (s : St) : iter n 0 s = some s := rfl
theorem iter_next {n : Int} {s t : St} {k : Nat} (h : step n s = some t) : iter n (k + 1) s = iter n k t := by
  show (match step n s with | some t => iter n k t | none => none) = _
  rw [h]
theorem iter_fail {n : Int} {s : St} {k : Nat} (h : step n s = none) : iter n (k + 1) s = none := by
  show (match step n s with | some t => iter n k t | none => none) = _
  rw [h]
theorem step_yes {l : List R} {p q n : Int} (h : stepOk l p q n = true) : step n ⟨l, p, q⟩ = some ⟨passL l n, p + outW l n, q + outS l n⟩ := by unfold step; rw [if_pos h]
theorem step_no {l : List R} {p q n : Int} (h : stepOk l p q n = false) : step n ⟨l, p, q⟩ = none := by unfold step; rw [h]; rfl
theorem stepOk_good {l : List R} {p q n : Int} (h : stepOk l p q n = true) : good (passL l n) = true ∧ okB (p + outW l n) (q + outS l n) = true := by
  unfold stepOk at h; rwa [Bool.and_eq_true] at h
/-- AfterPasses, AfterPass. -/
def runOk (l : List R) (p q n t : Int) : Bool := good l && (okB p q && (decide (1 ≤ n) && inB t 0 100)) && (iter n t.toNat ⟨l, p, q⟩).isSome
def runS (l : List R) (p q n t : Int) : St := if runOk l p q n t = true then (iter n t.toNat ⟨l, p, q⟩).getD ⟨[], 0, 0⟩ else ⟨[], 0, 0⟩
theorem run1 {l : List R} {p q n t : Int} (h : good l = false) : runOk l p q n t = false := by unfold runOk; rw [h]; rfl
theorem run2 {l : List R} {p q n t : Int} (h : okB p q = false) : runOk l p q n t = false := by unfold runOk; rw [h]; simp
theorem run3 {l : List R} {p q n t : Int} (h : ¬ 1 ≤ n) : runOk l p q n t = false := by unfold runOk; rw [decide_eq_false h]; simp
theorem run4 {l : List R} {p q n t : Int} (h : inB t 0 100 = false) : runOk l p q n t = false := by unfold runOk; rw [h]; simp
theorem run5 {l : List R} {p q n t : Int} (h : iter n t.toNat ⟨l, p, q⟩ = none) : runOk l p q n t = false := by unfold runOk; rw [h]; simp
theorem run6 {l : List R} {p q n t : Int} {s : St} (h : good l = true) (h1 : okB p q = true) (h2 : 1 ≤ n) (h3 : inB t 0 100 = true) (h4 : iter n t.toNat ⟨l, p, q⟩ = some s) : runOk l p q n t = true ∧ runS l p q n t = s := by
  have e : runOk l p q n t = true := by unfold runOk; rw [h, h1, decide_eq_true h2, h3, h4]; rfl
  refine ⟨e, ?_⟩
  unfold runS; rw [if_pos e, h4]; rfl
theorem runS_no {l : List R} {p q n t : Int} (h : runOk l p q n t = false) : runS l p q n t = ⟨[], 0, 0⟩ := by unfold runS; rw [h]; rfl
theorem iter_len {n : Int} {k : Nat} {s t : St} (h : iter n k s = some t) : t.l.length = s.l.length := by
  induction k generalizing s with
  | zero => injection h with h; rw [h]
  | succ k ih =>
    cases hs : step n s with
    | none => rw [iter_fail hs] at h; cases h
    | some u =>
      rw [iter_next hs] at h
      rw [ih h]
      unfold step at hs
      split at hs
      · injection hs with hs; rw [← hs]; exact pass_len _ _
      · cases hs
theorem run_len (l : List R) (p q n t : Int) : (runS l p q n t).l.length ≤ 100 := by
  unfold runS
  split
  · rename_i h
    unfold runOk at h
    simp only [Bool.and_eq_true] at h
    obtain ⟨⟨hg, _⟩, hi⟩ := h
    cases hs : iter n t.toNat ⟨l, p, q⟩ with
    | none => simp
    | some u =>
      have := iter_len hs
      have := (good_all hg).2.1
      simp only [Option.getD_some] at *
      omega
  · simp
end Go.Proofs.Ytciohcipmkhneaa.Ser
