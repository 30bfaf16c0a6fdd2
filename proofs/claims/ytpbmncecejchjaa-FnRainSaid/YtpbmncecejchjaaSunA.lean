/- Suns: what evaporates, as plain functions; on a greater area, and from less water, never more is left. -/
import Derived.Test.YtpbmncecejchjaaSun
import Derived.Test.YtpbmncecejchjaaIBrine
namespace Go.Proofs.Ytpbmncecejchjaa.SunA
open Go.RowKit Go.Proofs.Ytpbmncecejchjaa.Mem Go.Proofs.Ytpbmncecejchjaa.Base Go.Proofs.Ytpbmncecejchjaa.Brine Go.Proofs.Ytpbmncecejchjaa.SSun Go.Proofs.Ytpbmncecejchjaa.Sun
set_option linter.unusedVariables false
theorem least_bd (a b : Int) : least a b ≤ a ∧ least a b ≤ b ∧ (least a b = a ∨ least a b = b) := by unfold least; split <;> omega
def fresh (r a : Int) : Int := r * a / 1000
theorem fresh_bd {r a : Int} (h0 : 0 ≤ r) (h1 : r ≤ 20000) (h2 : 0 ≤ a) (h3 : a ≤ 100000) : 0 ≤ r * a ∧ r * a ≤ 2000000000 ∧ 0 ≤ fresh r a ∧ fresh r a ≤ 2000000 := by
  have m0 : 0 ≤ r * a := Int.mul_nonneg h0 h2
  have m1 : r * a ≤ 20000 * 100000 := Int.mul_le_mul h1 h3 h2 (by omega)
  unfold fresh
  omega
theorem fresh_mono {r a a' : Int} (h0 : 0 ≤ r) (h : a ≤ a') : fresh r a ≤ fresh r a' := by
  have := Int.mul_le_mul_of_nonneg_left h h0
  unfold fresh
  omega
/-- what goes if so much fresh water would. -/
def lossF (p q f : Int) : Int := if p = 0 then 0 else least p (f * p / (p + q))
def loss (p q r a : Int) : Int := lossF p q (fresh r a)
theorem lossF_bd {p q f : Int} (hp : 0 ≤ p) (hq : 0 ≤ q) (hf : 0 ≤ f) : 0 ≤ lossF p q f ∧ lossF p q f ≤ p := by
  unfold lossF
  split
  · omega
  · have m0 : 0 ≤ f * p := Int.mul_nonneg hf hp
    have m1 : 0 ≤ f * p / (p + q) := Int.ediv_nonneg m0 (by omega)
    have := least_bd p (f * p / (p + q))
    omega
theorem loss_bd {p q r a : Int} (hp : 0 ≤ p) (hq : 0 ≤ q) (h0 : 0 ≤ r) (h1 : r ≤ 20000) (h2 : 0 ≤ a) (h3 : a ≤ 100000) : 0 ≤ loss p q r a ∧ loss p q r a ≤ p :=
  lossF_bd hp hq (fresh_bd h0 h1 h2 h3).2.2.1
theorem lossF_mono {p p' q f f' : Int} (hp' : 0 ≤ p') (hp : p' ≤ p) (hq : 0 ≤ q) (hf : 0 ≤ f) (hf' : f ≤ f') : p' - lossF p' q f' ≤ p - lossF p q f := by
  have hb := lossF_bd (p := p) (q := q) (f := f) (by omega) hq hf
  by_cases h0 : p' = 0
  · subst h0
    have : lossF 0 q f' = 0 := by unfold lossF; rw [if_pos rfl]
    omega
  have e' : lossF p' q f' = least p' (f' * p' / (p' + q)) := by unfold lossF; rw [if_neg h0]
  have e : lossF p q f = least p (f * p / (p + q)) := by unfold lossF; rw [if_neg (by omega)]
  have l1 := least_bd p' (f' * p' / (p' + q))
  have l2 := least_bd p (f * p / (p + q))
  have hm : 0 < p' + q := by omega
  have hm2 : 0 < p + q := by omega
  have k1 : f' * p' < (f' * p' / (p' + q) + 1) * (p' + q) := Int.lt_ediv_add_one_mul_self _ hm
  have k2 : f * p / (p + q) * (p + q) ≤ f * p := Int.ediv_mul_le _ (by omega)
  generalize f' * p' / (p' + q) = x at *
  generalize f * p / (p + q) = y at *
  by_cases hx : p' ≤ x
  · have : least p' x = p' := by unfold least; split <;> omega
    omega
  · have : least p' x = x := by unfold least; split <;> omega
    by_cases hy : y ≤ p - p' + x
    · omega
    · exfalso
      have k3 : (x + 1) * (p' + q) ≤ p' * (p' + q) := Int.mul_le_mul_of_nonneg_right (by omega) (by omega)
      have k4 : p' * f' < p' * (p' + q) := by rw [Int.mul_comm p' f']; omega
      have k5 : f' < p' + q := Int.lt_of_mul_lt_mul_left k4 (by omega)
      have hd : 0 ≤ p - p' := by omega
      have k6 : f' * (p - p') ≤ (p' + q) * (p - p') := Int.mul_le_mul_of_nonneg_right (by omega) hd
      have k7 : f * p ≤ f' * p := Int.mul_le_mul_of_nonneg_right hf' (by omega)
      have k8 : (p - p' + x + 1) * (p + q) ≤ y * (p + q) := Int.mul_le_mul_of_nonneg_right (by omega) (by omega)
      have hx0 : 0 ≤ x + 1 := by
        rcases Int.lt_or_le x (-1) with h | h
        · exfalso
          have : (x + 1) * (p' + q) ≤ 0 := Int.mul_nonpos_of_nonpos_of_nonneg (by omega) (by omega)
          have : 0 ≤ f' * p' := Int.mul_nonneg (by omega) hp'
          omega
        · omega
      have k9 : 0 ≤ (p - p' + x + 1) * (p - p') := Int.mul_nonneg (by omega) hd
      have e1 : (p - p' + x + 1) * (p + q) = (p - p' + x + 1) * (p - p') + (p - p') * (p' + q) + (x + 1) * (p' + q) := by
        rw [show p + q = (p - p') + (p' + q) by omega, Int.mul_add, show p - p' + x + 1 = (p - p') + (x + 1) by omega, Int.add_mul (p - p') (x + 1) (p' + q)]
        omega
      have e2 : f' * p = f' * p' + f' * (p - p') := by rw [← Int.mul_add]; congr 1; omega
      have e3 : (p' + q) * (p - p') = (p - p') * (p' + q) := Int.mul_comm _ _
      omega
/-- the water after all suns within a span; after all suns. -/
def aft (l : List R) (p q a f t : Int) : Int := l.foldl (fun w x => if inS f t x = true then w - loss w q x.f1 a else w) p
def run (l : List R) (p q a : Int) : Int := l.foldl (fun w x => w - loss w q x.f1 a) p
theorem aft_yes {l : List R} {k : Nat} {x : R} {p q a f t : Int} (h : k < l.length) (hx : l[k] = x) (hq : inB x.f0 f t = true) : aft (l.take (k + 1)) p q a f t = aft (l.take k) p q a f t - loss (aft (l.take k) p q a f t) q x.f1 a := by
  unfold aft
  rw [List.take_succ_eq_append_getElem h, List.foldl_append, hx, List.foldl_cons, List.foldl_nil, if_pos (show inS f t x = true from hq)]
theorem aft_skip {l : List R} {k : Nat} {x : R} {p q a f t : Int} (h : k < l.length) (hx : l[k] = x) (hq : inB x.f0 f t = false) : aft (l.take (k + 1)) p q a f t = aft (l.take k) p q a f t := by
  unfold aft
  rw [List.take_succ_eq_append_getElem h, List.foldl_append, hx, List.foldl_cons, List.foldl_nil, if_neg (show ¬ inS f t x = true by unfold inS; rw [hq]; simp)]
theorem run_next {l : List R} {k : Nat} {x : R} {p q a : Int} (h : k < l.length) (hx : l[k] = x) : run (l.take (k + 1)) p q a = run (l.take k) p q a - loss (run (l.take k) p q a) q x.f1 a := by
  unfold run
  rw [List.take_succ_eq_append_getElem h, List.foldl_append, hx, List.foldl_cons, List.foldl_nil]
def Rates (l : List R) : Prop := ∀ x ∈ l, 0 ≤ x.f1 ∧ x.f1 ≤ 20000
theorem Sane.rates {l : List R} (h : Sane l) : Rates l := fun x hx => (h.2 x hx).2.2
theorem Rates.take {l : List R} (h : Rates l) (k : Nat) : Rates (l.take k) := fun x hx => h x (List.mem_of_mem_take hx)
theorem aft_bd {l : List R} (h : Rates l) {q a f t : Int} (hq : 0 ≤ q) (ha : 0 ≤ a) (ha' : a ≤ 100000) : ∀ p : Int, 0 ≤ p → 0 ≤ aft l p q a f t ∧ aft l p q a f t ≤ p := by
  induction l with
  | nil => intro p hp; simp [aft]; omega
  | cons x l ih =>
    intro p hp
    have hx := h x (by simp)
    have ih := ih (fun y hy => h y (by simp [hy]))
    have hb := loss_bd (p := p) (q := q) hp hq hx.1 hx.2 ha ha'
    unfold aft at ih ⊢
    rw [List.foldl_cons]
    split
    · have := ih (p - loss p q x.f1 a) (by omega); omega
    · exact ih p hp
theorem aft_mono {l : List R} (h : Rates l) {q a a' f t : Int} (hq : 0 ≤ q) (ha : 0 ≤ a) (haa : a ≤ a') (ha' : a' ≤ 100000) : ∀ p p' : Int, 0 ≤ p' → p' ≤ p → aft l p' q a' f t ≤ aft l p q a f t := by
  induction l with
  | nil => intro p p' h0 h1; simpa [aft] using h1
  | cons x l ih =>
    intro p p' h0 h1
    have hx := h x (by simp)
    have ih := ih (fun y hy => h y (by simp [hy]))
    have hb := loss_bd (p := p') (q := q) h0 hq hx.1 hx.2 (show 0 ≤ a' by omega) ha'
    have hm := lossF_mono (p := p) (p' := p') (q := q) (f := fresh x.f1 a) (f' := fresh x.f1 a') h0 h1 hq (fresh_bd hx.1 hx.2 ha (by omega)).2.2.1 (fresh_mono hx.1 haa)
    unfold aft at ih ⊢
    rw [List.foldl_cons, List.foldl_cons]
    split
    · exact ih _ _ (by unfold loss at *; omega) hm
    · exact ih _ _ h0 h1
theorem run_bd {l : List R} (h : Rates l) {q a : Int} (hq : 0 ≤ q) (ha : 0 ≤ a) (ha' : a ≤ 100000) : ∀ p : Int, 0 ≤ p → 0 ≤ run l p q a ∧ run l p q a ≤ p := by
  induction l with
  | nil => intro p hp; simp [run]; omega
  | cons x l ih =>
    intro p hp
    have hx := h x (by simp)
    have ih := ih (fun y hy => h y (by simp [hy]))
    have hb := loss_bd (p := p) (q := q) hp hq hx.1 hx.2 ha ha'
    unfold run at ih ⊢
    rw [List.foldl_cons]
    have := ih (p - loss p q x.f1 a) (by omega); omega
theorem aft_all {l : List R} {q a f t : Int} (h : ∀ x ∈ l, inB x.f0 f t = true) : ∀ p, aft l p q a f t = run l p q a := by
  induction l with
  | nil => intro p; rfl
  | cons x l ih =>
    intro p
    have ih := ih (fun y hy => h y (by simp [hy]))
    unfold aft run at ih ⊢
    rw [List.foldl_cons, List.foldl_cons, if_pos (show inS f t x = true from h x (by simp))]
    exact ih _
theorem aft_none {l : List R} {q a f t : Int} (h : ∀ x ∈ l, inB x.f0 f t = false) : ∀ p, aft l p q a f t = p := by
  induction l with
  | nil => intro p; rfl
  | cons x l ih =>
    intro p
    have ih := ih (fun y hy => h y (by simp [hy]))
    unfold aft at ih ⊢
    rw [List.foldl_cons, if_neg (show ¬ inS f t x = true by unfold inS; rw [h x (by simp)]; simp)]
    exact ih _
theorem aft_app (l m : List R) (p q a f t : Int) : aft (l ++ m) p q a f t = aft m (aft l p q a f t) q a f t := by unfold aft; rw [List.foldl_append]
/-- up to the day of a sun all suns up to it. -/
theorem aft_upto {l : List R} (hg : good l = true) {k : Nat} {d p q a : Int} (hk : k ≤ l.length) (h1 : ∀ j (h : j < l.length), j < k → l[j].f0 ≤ d) (h2 : ∀ j (h : j < l.length), k ≤ j → d < l[j].f0) : aft l p q a 0 d = run (l.take k) p q a := by
  have hs := good_sane hg
  conv => lhs; rw [← List.take_append_drop k l]
  rw [aft_app, aft_all (l := l.take k), aft_none (l := l.drop k)]
  · intro x hx
    obtain ⟨j, hj, rfl⟩ := List.getElem_of_mem hx
    rw [List.length_drop] at hj
    rw [List.getElem_drop]
    have := h2 (k + j) (by omega) (by omega)
    exact inB_false (by omega)
  · intro x hx
    obtain ⟨j, hj, rfl⟩ := List.getElem_of_mem hx
    rw [List.length_take] at hj
    rw [List.getElem_take]
    have := h1 j (by omega) (by omega)
    have := hs.2 l[j] (List.getElem_mem (by omega))
    exact inB_true (by omega)
theorem aft_day {l : List R} (hg : good l = true) {k : Nat} (hk : k < l.length) {p q a : Int} : aft l p q a 0 l[k].f0 = run (l.take (k + 1)) p q a := by
  have hp := List.pairwise_iff_getElem.1 (good_pair hg)
  refine aft_upto hg (by omega) (fun j hj h => ?_) (fun j hj h => hp k j hk hj (by omega))
  rcases Nat.lt_or_ge j k with h1 | h1
  · have := hp j k hj hk h1; omega
  · have : j = k := by omega
    subst this; omega
/-- LossOn, AfterSun. -/
def askOk (l : List R) (p q a : Int) : Bool := good l && IBrine.okM ⟨p, q⟩ && inB a 1 100000
theorem ask_true {l : List R} {p q a : Int} (h : askOk l p q a = true) : good l = true ∧ 0 ≤ p ∧ p ≤ 1000000 ∧ 0 ≤ q ∧ q ≤ 1000000 ∧ ¬ (p + q = 0) ∧ 1 ≤ a ∧ a ≤ 100000 := by
  unfold askOk at h
  simp only [Bool.and_eq_true] at h
  have h1 := IBrine.okM_true h.1.2
  have h2 := okB_true h1.1
  have h3 := of_inB h.2
  exact ⟨h.1.1, h2.1, h2.2.1, h2.2.2.1, h2.2.2.2, h1.2, h3.1, h3.2⟩
theorem ask1 {l : List R} {p q a : Int} (h : good l = false) : askOk l p q a = false := by unfold askOk; rw [h]; rfl
theorem ask2 {l : List R} {p q a : Int} (h : IBrine.okM ⟨p, q⟩ = false) : askOk l p q a = false := by unfold askOk; rw [h, Bool.and_false]; rfl
theorem ask3 {l : List R} {p q a : Int} (h : inB a 1 100000 = false) : askOk l p q a = false := by unfold askOk; rw [h, Bool.and_false]
theorem ask4 {l : List R} {p q a : Int} (h : good l = true) (h1 : IBrine.okM ⟨p, q⟩ = true) (h2 : inB a 1 100000 = true) : askOk l p q a = true := by unfold askOk; rw [h, h1, h2]; rfl
def lossOk (l : List R) (p q a d : Int) : Bool := askOk l p q a && inB d 0 4000
def lossV (l : List R) (p q a d : Int) : Value := if lossOk l p q a d = true then .tuple #[.int .i64 (loss p q (on l d) a), .bool true] else .tuple #[.int .i64 0, .bool false]
theorem ls1 {l : List R} {p q a d : Int} (h : askOk l p q a = false) : lossV l p q a d = .tuple #[.int .i64 0, .bool false] := by unfold lossV lossOk; rw [h]; rfl
theorem ls2 {l : List R} {p q a d : Int} (h : inB d 0 4000 = false) : lossV l p q a d = .tuple #[.int .i64 0, .bool false] := by unfold lossV lossOk; rw [h, Bool.and_false]; rfl
theorem ls3 {l : List R} {p q a d : Int} (h : askOk l p q a = true) (h1 : inB d 0 4000 = true) : lossV l p q a d = .tuple #[.int .i64 (loss p q (on l d) a), .bool true] := by unfold lossV lossOk; rw [h, h1]; rfl
theorem loss_form (l : List R) (p q a d : Int) : ∃ x b, lossV l p q a d = .tuple #[.int .i64 x, .bool b] := by
  unfold lossV
  split
  · exact ⟨_, _, rfl⟩
  · exact ⟨_, _, rfl⟩
def spanOk (f t : Int) : Bool := inB f 0 4000 && inB t 0 4000 && decide (f ≤ t)
theorem span_true {f t : Int} (h : spanOk f t = true) : 0 ≤ f ∧ f ≤ t ∧ t ≤ 4000 := by
  unfold spanOk at h
  simp only [Bool.and_eq_true, decide_eq_true_eq] at h
  have h1 := of_inB h.1.1
  have h2 := of_inB h.1.2
  omega
theorem span_eq (f t : Int) : (inB f 0 t && decide (t ≤ 4000)) = spanOk f t := by
  unfold spanOk inB
  rw [Bool.eq_iff_iff]
  simp only [Bool.and_eq_true, decide_eq_true_eq]
  omega
def afterOk (l : List R) (p q a f t : Int) : Bool := askOk l p q a && spanOk f t
def afterW (l : List R) (p q a f t : Int) : Int := if afterOk l p q a f t = true then aft l p q a f t else 0
def afterS (l : List R) (p q a f t : Int) : Int := if afterOk l p q a f t = true then q else 0
def afterV (l : List R) (p q a f t : Int) : Value := .tuple #[br (afterW l p q a f t) (afterS l p q a f t), .bool (afterOk l p q a f t)]
theorem af1 {l : List R} {p q a f t : Int} (h : askOk l p q a = false) : afterOk l p q a f t = false := by unfold afterOk; rw [h]; rfl
theorem af2 {l : List R} {p q a f t : Int} (h : spanOk f t = false) : afterOk l p q a f t = false := by unfold afterOk; rw [h, Bool.and_false]
theorem af3 {l : List R} {p q a f t : Int} (h : askOk l p q a = true) (h1 : spanOk f t = true) : afterOk l p q a f t = true := by unfold afterOk; rw [h, h1]; rfl
theorem after_no {l : List R} {p q a f t : Int} (h : afterOk l p q a f t = false) : afterV l p q a f t = .tuple #[br 0 0, .bool false] := by unfold afterV afterW afterS; rw [h]; rfl
theorem after_yes {l : List R} {p q a f t : Int} (h : afterOk l p q a f t = true) : afterV l p q a f t = .tuple #[br (aft l p q a f t) q, .bool true] := by unfold afterV afterW afterS; rw [h]; rfl
/-- StrongOn. -/
def strong (p q n d : Int) : Bool := decide (n * (p + q) ≤ q * d) && decide (0 < p + q)
theorem strong_true {p q n d : Int} (h : strong p q n d = true) : n * (p + q) ≤ q * d ∧ 0 < p + q := by
  unfold strong at h; simpa using h
theorem strong_less {p p' q n d : Int} (hp' : 0 ≤ p') (hp : p' ≤ p) (hq : 0 ≤ q) (hn : 1 ≤ n) (h : strong p q n d = true) : strong p' q n d = true := by
  obtain ⟨h1, h2⟩ := strong_true h
  have hq0 : 0 < q := by
    rcases Int.lt_or_le 0 q with h | h
    · exact h
    · exfalso
      have : q = 0 := by omega
      subst this
      have := Int.mul_le_mul_of_nonneg_right hn (show 0 ≤ p + 0 by omega)
      omega
  have := Int.mul_le_mul_of_nonneg_left (show p' + q ≤ p + q by omega) (show 0 ≤ n by omega)
  unfold strong
  rw [decide_eq_true (by omega), decide_eq_true (by omega)]; rfl
def strK (l : List R) (p q a n d : Int) : Option Nat := (List.range l.length).find? fun k => strong (run (l.take (k + 1)) p q a) q n d
def strDay (l : List R) (p q a n d : Int) : Option Int := if strong p q n d = true then some 0 else (strK l p q a n d).map fun k => (l.getD k zero).f0
end Go.Proofs.Ytpbmncecejchjaa.SunA
