/- Batches, pure: what is valid, what a wash leaves, stages, the least water, the washes of a row. -/
import Derived.Test.YtpokgnkcnibapaaSBatch
namespace Go.Proofs.Ytpokgnkcnibapaa.BatP
open Go.RowKit Go.Proofs.Ytpokgnkcnibapaa.Mem Go.Proofs.Ytpokgnkcnibapaa.Base Go.Proofs.Ytpokgnkcnibapaa.SBatch
set_option linter.unusedVariables false
def okT (x : R) : Bool := inB x.f0 0 100000 && inB x.f1 0 100000000 && inB x.f2 0 100000000
theorem okT_true {x : R} (h : okT x = true) : 0 ≤ x.f0 ∧ x.f0 ≤ 100000 ∧ 0 ≤ x.f1 ∧ x.f1 ≤ 100000000 ∧ 0 ≤ x.f2 ∧ x.f2 ≤ 100000000 := by
  unfold okT at h
  rw [Bool.and_eq_true, Bool.and_eq_true] at h
  have h0 := of_inB h.1.1; have h1 := of_inB h.1.2; have h2 := of_inB h.2
  exact ⟨h0.1, h0.2, h1.1, h1.2, h2.1, h2.2⟩
theorem okT_mk {x : R} (h0 : 0 ≤ x.f0) (h1 : x.f0 ≤ 100000) (h2 : 0 ≤ x.f1) (h3 : x.f1 ≤ 100000000) (h4 : 0 ≤ x.f2) (h5 : x.f2 ≤ 100000000) : okT x = true := by
  unfold okT
  rw [inB_true ⟨h0, h1⟩, inB_true ⟨h2, h3⟩, inB_true ⟨h4, h5⟩]; rfl
theorem okT_zero : okT zero = true := by decide
/-- what stays, what goes. -/
def stay (x : R) (w d : Int) : Int := ((x.f1 + d) * x.f2 + x.f2 + w - 1) / (x.f2 + w)
def wash (x : R) (w d : Int) : R := ⟨x.f0, stay x w d, x.f2⟩
def gone (x : R) (w d : Int) : Int := x.f1 + d - stay x w d
theorem prod_bd {x : R} {d : Int} (h : okT x = true) (h0 : 0 ≤ d) (h1 : d ≤ 100000000) : 0 ≤ (x.f1 + d) * x.f2 ∧ (x.f1 + d) * x.f2 ≤ 20000000000000000 := by
  obtain ⟨_, _, a2, a3, a4, a5⟩ := okT_true h
  have h2 : (x.f1 + d) * x.f2 ≤ 200000000 * 100000000 := Int.mul_le_mul (by omega) a5 a4 (by omega)
  exact ⟨Int.mul_nonneg (by omega) a4, h2⟩
/-- rounded up: at most m just if the whole is at most m times the part. -/
theorem up_le {a b m : Int} (hb : 0 < b) : (a + b - 1) / b ≤ m ↔ a ≤ m * b := by
  constructor
  · intro h
    have h1 : (a + b - 1) / b < m + 1 := by omega
    rw [Int.ediv_lt_iff_lt_mul hb, Int.add_mul] at h1
    omega
  · intro h
    have h1 : (a + b - 1) / b < m + 1 := by
      rw [Int.ediv_lt_iff_lt_mul hb, Int.add_mul]; omega
    omega
theorem stay_eq (x : R) (w d : Int) : stay x w d = ((x.f1 + d) * x.f2 + (x.f2 + w) - 1) / (x.f2 + w) := by unfold stay; congr 1; omega
theorem stay_le {x : R} {w d m : Int} (hb : 0 < x.f2 + w) : stay x w d ≤ m ↔ (x.f1 + d) * x.f2 ≤ m * (x.f2 + w) := by rw [stay_eq, up_le hb]
theorem stay_bd {x : R} {w d : Int} (h : okT x = true) (hw : 1 ≤ w) (h0 : 0 ≤ d) (h1 : d ≤ w) : 0 ≤ stay x w d ∧ stay x w d ≤ 100000000 ∧ stay x w d ≤ x.f1 + d := by
  obtain ⟨_, _, a2, a3, a4, a5⟩ := okT_true h
  have p0 : 0 ≤ (x.f1 + d) * x.f2 := Int.mul_nonneg (by omega) a4
  refine ⟨?_, ?_, ?_⟩
  · unfold stay; exact Int.ediv_nonneg (by omega) (by omega)
  · rw [stay_le (by omega)]
    have e1 : (x.f1 + d) * x.f2 ≤ 100000000 * x.f2 + w * x.f2 := by
      rw [← Int.add_mul]; exact Int.mul_le_mul_of_nonneg_right (by omega) a4
    have e2 : w * x.f2 ≤ w * 100000000 := Int.mul_le_mul_of_nonneg_left a5 (by omega)
    rw [Int.mul_add]
    omega
  · rw [stay_le (by omega)]
    exact Int.mul_le_mul_of_nonneg_left (by omega) (by omega)
theorem wash_ok {x : R} {w d : Int} (h : okT x = true) (hw : 1 ≤ w) (h0 : 0 ≤ d) (h1 : d ≤ w) : okT (wash x w d) = true := by
  obtain ⟨a0, a1, a2, a3, a4, a5⟩ := okT_true h
  have hb := stay_bd h hw h0 h1
  exact okT_mk a0 a1 hb.1 hb.2.1 a4 a5
theorem gone_bd {x : R} {w d : Int} (h : okT x = true) (hw : 1 ≤ w) (h0 : 0 ≤ d) (h1 : d ≤ w) : 0 ≤ gone x w d ∧ gone x w d ≤ x.f1 + d := by
  have hb := stay_bd h hw h0 h1
  unfold gone; omega
/-- purity. -/
def low (x y : Int) : Int := ((x.toNat / Nat.gcd x.toNat y.toNat : Nat) : Int)
def low' (x y : Int) : Int := ((y.toNat / Nat.gcd x.toNat y.toNat : Nat) : Int)
def purOk (x : R) : Bool := okT x && !(x.f0 == 0 && x.f1 == 0)
def purV (x : R) : Value := if purOk x = true then .tuple #[.int .i64 (low (1000 * x.f0) (1000 * x.f0 + x.f1)), .int .i64 (low' (1000 * x.f0) (1000 * x.f0 + x.f1)), .bool true] else .tuple #[.int .i64 0, .int .i64 0, .bool false]
theorem pur_no {x : R} (h : purOk x = false) : purV x = .tuple #[.int .i64 0, .int .i64 0, .bool false] := by unfold purV; rw [h]; rfl
theorem pur_yes {x : R} (h : purOk x = true) : purV x = .tuple #[.int .i64 (low (1000 * x.f0) (1000 * x.f0 + x.f1)), .int .i64 (low' (1000 * x.f0) (1000 * x.f0 + x.f1)), .bool true] := by unfold purV; rw [if_pos h]
theorem pur_form (x : R) : ∃ a b q, purV x = .tuple #[.int .i64 a, .int .i64 b, .bool q] ∧ (q = true → a ≤ b) := by
  cases h : purOk x
  · exact ⟨_, _, _, pur_no h, fun h => by cases h⟩
  · refine ⟨_, _, _, pur_yes h, fun _ => ?_⟩
    unfold purOk at h
    rw [Bool.and_eq_true] at h
    obtain ⟨a0, a1, a2, a3, a4, a5⟩ := okT_true h.1
    unfold low low'
    exact Int.ofNat_le.2 (Nat.div_le_div_right (by omega))
/-- a wash. -/
def isW (w : Int) : Bool := inB w 1 100000000
theorem isW_true {w : Int} (h : isW w = true) : 1 ≤ w ∧ w ≤ 100000000 := of_inB h
def awOk (x : R) (w d : Int) : Bool := okT x && isW w && inB d 0 w
def awV (x : R) (w d : Int) : Value := if awOk x w d = true then .tuple #[(wash x w d).val, .int .i64 (gone x w d), .bool true] else .tuple #[zero.val, .int .i64 0, .bool false]
theorem aw_no {x : R} {w d : Int} (h : awOk x w d = false) : awV x w d = .tuple #[zero.val, .int .i64 0, .bool false] := by unfold awV; rw [h]; rfl
theorem aw_yes {x : R} {w d : Int} (h : awOk x w d = true) : awV x w d = .tuple #[(wash x w d).val, .int .i64 (gone x w d), .bool true] := by unfold awV; rw [if_pos h]
/-- stages. -/
def stg (x : R) (v : Int) : Nat → R
  | 0 => x
  | k + 1 => wash (stg x v k) v 0
theorem stg_ok {x : R} {v : Int} (h : okT x = true) (hv : 1 ≤ v) (k : Nat) : okT (stg x v k) = true := by
  induction k with
  | zero => exact h
  | succ k ih => exact wash_ok ih hv (Int.le_refl _) (by omega)
theorem stg_dirt {x : R} {v : Int} (h : okT x = true) (hv : 1 ≤ v) (k : Nat) : (stg x v k).f1 ≤ x.f1 := by
  induction k with
  | zero => exact Int.le_refl _
  | succ k ih =>
    have h1 := (stay_bd (stg_ok h hv k) hv (Int.le_refl 0) (by omega)).2.2
    show stay (stg x v k) v 0 ≤ x.f1
    omega
theorem stg_f0 (x : R) (v : Int) (k : Nat) : (stg x v k).f0 = x.f0 := by
  induction k with
  | zero => rfl
  | succ k ih => exact ih
theorem stg_f2 (x : R) (v : Int) (k : Nat) : (stg x v k).f2 = x.f2 := by
  induction k with
  | zero => rfl
  | succ k ih => exact ih
def asOk (x : R) (w n : Int) : Bool := okT x && isW w && inB n 1 6 && w % n == 0
def asV (x : R) (w n : Int) : Value := if asOk x w n = true then .tuple #[(stg x (w / n) n.toNat).val, .bool true] else .tuple #[zero.val, .bool false]
theorem as_no {x : R} {w n : Int} (h : asOk x w n = false) : asV x w n = .tuple #[zero.val, .bool false] := by unfold asV; rw [h]; rfl
theorem as_yes {x : R} {w n : Int} (h : asOk x w n = true) : asV x w n = .tuple #[(stg x (w / n) n.toNat).val, .bool true] := by unfold asV; rw [if_pos h]
theorem as_parts {x : R} {w n : Int} (h : asOk x w n = true) : okT x = true ∧ 1 ≤ w ∧ w ≤ 100000000 ∧ 1 ≤ n ∧ n ≤ 6 ∧ w % n = 0 ∧ 1 ≤ w / n ∧ w / n ≤ 100000000 := by
  unfold asOk at h
  simp only [Bool.and_eq_true, beq_iff_eq] at h
  obtain ⟨⟨⟨h0, h1⟩, h2⟩, h3⟩ := h
  have i1 := isW_true h1; have i2 := of_inB h2
  refine ⟨h0, i1.1, i1.2, i2.1, i2.2, h3, ?_, ?_⟩
  · rcases Int.lt_or_le (w / n) 1 with hlt | hge
    · have := Int.mul_ediv_add_emod w n
      have h4 : 0 ≤ w / n := Int.ediv_nonneg (by omega) (by omega)
      have h5 : w / n = 0 := by omega
      rw [h5, Int.mul_zero] at this; omega
    · exact hge
  · have := Int.ediv_le_self n (show 0 ≤ w by omega); omega
/-- the number of stages that is needed. -/
def stB (x : R) (w m : Int) (n : Nat) : Bool := asOk x w n && decide ((stg x (w / n) n).f1 ≤ m)
def stN (x : R) (w m : Int) : Option Nat := [1, 2, 3, 4, 5, 6].find? (stB x w m)
def snV (x : R) (w m : Int) : Value := if 0 ≤ m then match stN x w m with | some n => .tuple #[.int .i64 n, .bool true] | none => .tuple #[.int .i64 0, .bool false] else .tuple #[.int .i64 0, .bool false]
theorem sn_neg {x : R} {w m : Int} (h : ¬ 0 ≤ m) : snV x w m = .tuple #[.int .i64 0, .bool false] := by unfold snV; rw [if_neg h]
def NoSt (x : R) (w m : Int) (k : Nat) : Prop := ∀ n, 1 ≤ n → n < k → stB x w m n = false
theorem NoSt.one (x : R) (w m : Int) : NoSt x w m 1 := fun n h1 h2 => by omega
theorem NoSt.next {x : R} {w m : Int} {k : Nat} (h : NoSt x w m k) (hk : stB x w m k = false) : NoSt x w m (k + 1) := fun n h1 h2 => by
  rcases Nat.lt_or_ge n k with h3 | h3
  · exact h n h1 h3
  · have : n = k := by omega
    subst this; exact hk
theorem sn_none {x : R} {w m : Int} {k : Nat} (h : NoSt x w m k) (hk : 7 ≤ k) : snV x w m = .tuple #[.int .i64 0, .bool false] := by
  unfold snV
  split
  · have e : stN x w m = none := by
      unfold stN
      rw [List.find?_eq_none]
      intro n hn
      have : 1 ≤ n ∧ n ≤ 6 := by simp at hn; omega
      simp [h n this.1 (by omega)]
    rw [e]
  · rfl
theorem find_six (f : Nat → Bool) (k : Nat) (h1 : 1 ≤ k) (h6 : k ≤ 6) (hk : f k = true) (hn : ∀ n, 1 ≤ n → n < k → f n = false) : [1, 2, 3, 4, 5, 6].find? f = some k := by
  have e : k = 1 ∨ k = 2 ∨ k = 3 ∨ k = 4 ∨ k = 5 ∨ k = 6 := by omega
  rcases e with rfl | rfl | rfl | rfl | rfl | rfl
  · simp [List.find?, hk]
  · simp [List.find?, hk, hn 1 (by omega) (by omega)]
  · simp [List.find?, hk, hn 1 (by omega) (by omega), hn 2 (by omega) (by omega)]
  · simp [List.find?, hk, hn 1 (by omega) (by omega), hn 2 (by omega) (by omega), hn 3 (by omega) (by omega)]
  · simp [List.find?, hk, hn 1 (by omega) (by omega), hn 2 (by omega) (by omega), hn 3 (by omega) (by omega), hn 4 (by omega) (by omega)]
  · simp [List.find?, hk, hn 1 (by omega) (by omega), hn 2 (by omega) (by omega), hn 3 (by omega) (by omega), hn 4 (by omega) (by omega), hn 5 (by omega) (by omega)]
theorem sn_some {x : R} {w m : Int} {k : Nat} (hm : 0 ≤ m) (h : NoSt x w m k) (h1 : 1 ≤ k) (h6 : k ≤ 6) (hk : stB x w m k = true) : snV x w m = .tuple #[.int .i64 k, .bool true] := by
  unfold snV
  rw [if_pos hm, show stN x w m = some k from find_six _ k h1 h6 hk h]
theorem sn_bad {x : R} {w m : Int} (h : okT x = false ∨ isW w = false) : snV x w m = .tuple #[.int .i64 0, .bool false] := by
  refine sn_none (k := 7) (fun n _ _ => ?_) (by omega)
  unfold stB asOk
  rcases h with h | h <;> rw [h] <;> simp
theorem st_yes {x : R} {w m : Int} {n : Nat} (h : asOk x w n = true) (h1 : (stg x (w / n) n).f1 ≤ m) : stB x w m n = true := by unfold stB; rw [h, decide_eq_true h1]; rfl
theorem st_no1 {x : R} {w m : Int} {n : Nat} (h : asOk x w n = false) : stB x w m n = false := by unfold stB; rw [h]; rfl
theorem st_no2 {x : R} {w m : Int} {n : Nat} (h1 : ¬ (stg x (w / n) n).f1 ≤ m) : stB x w m n = false := by unfold stB; rw [decide_eq_false h1]; simp
theorem sn_form (x : R) (w m : Int) : ∃ n q, snV x w m = .tuple #[.int .i64 n, .bool q] ∧ (q = true → asOk x w n = true ∧ (stg x (w / n) n.toNat).f1 ≤ m ∧ 1 ≤ n ∧ n ≤ 6) := by
  unfold snV
  split
  · cases h : stN x w m with
    | none => exact ⟨_, _, rfl, fun h => by cases h⟩
    | some k =>
      refine ⟨k, true, rfl, fun _ => ?_⟩
      unfold stN at h
      have h1 := List.find?_some h
      have h2 := List.mem_of_find?_eq_some h
      unfold stB at h1
      rw [Bool.and_eq_true, decide_eq_true_eq] at h1
      have : 1 ≤ k ∧ k ≤ 6 := by simp at h2; omega
      exact ⟨h1.1, h1.2, by omega, by omega⟩
  · exact ⟨_, _, rfl, fun h => by cases h⟩
/-- the least water. -/
def fit (x : R) (m w : Int) : Bool := decide (stay x w 0 ≤ m)
def lst (x : R) (m : Int) : Int := if x.f2 = 0 then 1 else (x.f1 * x.f2 + m - 1) / m - x.f2
theorem fit_iff {x : R} {m w : Int} (h : okT x = true) (hw : 1 ≤ w) : fit x m w = true ↔ x.f1 * x.f2 ≤ m * (x.f2 + w) := by
  obtain ⟨_, _, a2, a3, a4, a5⟩ := okT_true h
  unfold fit
  rw [decide_eq_true_eq, stay_le (by omega), Int.add_zero]
theorem fit_lst {x : R} {m w : Int} (h : okT x = true) (hm : 0 ≤ m) (hd : m < x.f1) (h0 : x.f2 = 0 ∨ 1 ≤ m) (hw : 1 ≤ w) : fit x m w = decide (lst x m ≤ w) := by
  obtain ⟨_, _, a2, a3, a4, a5⟩ := okT_true h
  rw [Bool.eq_iff_iff, fit_iff h hw, decide_eq_true_eq]
  unfold lst
  split
  · rename_i hz
    rw [hz, Int.mul_zero, Int.zero_add]
    have := Int.mul_nonneg hm (show 0 ≤ w by omega)
    omega
  · rename_i hz
    have hm1 : 1 ≤ m := by rcases h0 with h0 | h0; exact absurd h0 hz; exact h0
    have := up_le (a := x.f1 * x.f2) (b := m) (m := x.f2 + w) (by omega)
    rw [Int.mul_comm m, ← this]; omega
theorem fit_none {x : R} {m w : Int} (h : okT x = true) (hd : m < x.f1) (hz : x.f2 ≠ 0) (hm : m = 0) (hw : 1 ≤ w) : fit x m w = false := by
  obtain ⟨_, _, a2, a3, a4, a5⟩ := okT_true h
  rw [Bool.eq_false_iff, Ne, fit_iff h hw, hm, Int.zero_mul]
  have := Int.mul_pos (show 0 < x.f1 by omega) (show 0 < x.f2 by omega)
  omega
theorem lst_pos {x : R} {m : Int} (h : okT x = true) (hd : m < x.f1) (h0 : x.f2 = 0 ∨ 1 ≤ m) : 1 ≤ lst x m := by
  obtain ⟨_, _, a2, a3, a4, a5⟩ := okT_true h
  unfold lst
  split
  · omega
  · rename_i hz
    have hm1 : 1 ≤ m := by rcases h0 with h0 | h0; exact absurd h0 hz; exact h0
    have h1 := up_le (a := x.f1 * x.f2) (b := m) (m := x.f2) (by omega)
    have h2 : ¬ x.f1 * x.f2 ≤ x.f2 * m := by
      rw [Int.mul_comm x.f2]
      have := Int.mul_lt_mul_of_pos_right hd (show 0 < x.f2 by omega)
      omega
    rw [← h1] at h2; omega
def wnV (x : R) (m : Int) : Value :=
  if okT x = true ∧ 0 ≤ m then if x.f1 ≤ m then .tuple #[.int .i64 0, .bool true] else if fit x m 100000000 = true then .tuple #[.int .i64 (lst x m), .bool true] else .tuple #[.int .i64 0, .bool false]
  else .tuple #[.int .i64 0, .bool false]
theorem wn_bad {x : R} {m : Int} (h : okT x = false ∨ ¬ 0 ≤ m) : wnV x m = .tuple #[.int .i64 0, .bool false] := by
  unfold wnV
  rw [if_neg]
  rintro ⟨h1, h2⟩
  rcases h with h | h
  · rw [h1] at h; cases h
  · exact h h2
theorem wn_zero {x : R} {m : Int} (h : okT x = true) (hm : 0 ≤ m) (hd : x.f1 ≤ m) : wnV x m = .tuple #[.int .i64 0, .bool true] := by unfold wnV; rw [if_pos ⟨h, hm⟩, if_pos hd]
theorem wn_no {x : R} {m : Int} (h : okT x = true) (hm : 0 ≤ m) (hd : ¬ x.f1 ≤ m) (hf : fit x m 100000000 = false) : wnV x m = .tuple #[.int .i64 0, .bool false] := by
  unfold wnV; rw [if_pos ⟨h, hm⟩, if_neg hd, hf]; rfl
theorem wn_yes {x : R} {m : Int} (h : okT x = true) (hm : 0 ≤ m) (hd : ¬ x.f1 ≤ m) (hf : fit x m 100000000 = true) : wnV x m = .tuple #[.int .i64 (lst x m), .bool true] := by
  unfold wnV; rw [if_pos ⟨h, hm⟩, if_neg hd, if_pos hf]
/-- whoever fits has water left, or a limit. -/
theorem fit_some {x : R} {m w : Int} (h : okT x = true) (hd : ¬ x.f1 ≤ m) (hm : 0 ≤ m) (hw : 1 ≤ w) (hf : fit x m w = true) : x.f2 = 0 ∨ 1 ≤ m := by
  rcases Int.lt_or_le m 1 with h1 | h1
  · left
    by_cases hz : x.f2 = 0
    · exact hz
    · rw [fit_none h (by omega) hz (by omega) hw] at hf; cases hf
  · right; exact h1
/-- a number between: the least one. -/
theorem lst_is {x : R} {m l : Int} (h : okT x = true) (hd : ¬ x.f1 ≤ m) (hm : 0 ≤ m) (h1 : 1 ≤ l) (hf : fit x m l = true) (hn : l = 1 ∨ fit x m (l - 1) = false) : lst x m = l := by
  have h0 := fit_some h hd hm h1 hf
  have hp := lst_pos h (by omega) h0
  rw [fit_lst h hm (by omega) h0 h1, decide_eq_true_eq] at hf
  rcases hn with hn | hn
  · omega
  · by_cases h2 : l = 1
    · omega
    · rw [fit_lst h hm (by omega) h0 (by omega), decide_eq_false_iff_not] at hn
      omega
theorem wn_form (x : R) (m : Int) : ∃ n q, wnV x m = .tuple #[.int .i64 n, .bool q] ∧ (q = true → 0 ≤ n ∧ n ≤ 100000000 ∧ okT x = true ∧ (0 < n → stay x n 0 ≤ m) ∧ (1 < n → ¬ stay x (n - 1) 0 ≤ m)) := by
  cases h : okT x
  · exact ⟨_, _, wn_bad (.inl h), fun h => by cases h⟩
  by_cases hm : 0 ≤ m
  · by_cases hd : x.f1 ≤ m
    · exact ⟨_, _, wn_zero h hm hd, fun _ => ⟨by omega, by omega, rfl, by omega, by omega⟩⟩
    · cases hf : fit x m 100000000
      · exact ⟨_, _, wn_no h hm hd hf, fun h => by cases h⟩
      · refine ⟨_, _, wn_yes h hm hd hf, fun _ => ?_⟩
        have h0 := fit_some h hd hm (by omega) hf
        have hp := lst_pos h (by omega) h0
        rw [fit_lst h hm (by omega) h0 (by omega), decide_eq_true_eq] at hf
        refine ⟨by omega, hf, rfl, fun _ => ?_, fun h1 => ?_⟩
        · have := fit_lst h hm (by omega) h0 hp
          rw [decide_eq_true (Int.le_refl _)] at this
          exact of_decide_eq_true this
        · have := fit_lst h hm (by omega) h0 (show 1 ≤ lst x m - 1 by omega)
          rw [decide_eq_false (show ¬ lst x m ≤ lst x m - 1 by omega)] at this
          exact of_decide_eq_false this
  · exact ⟨_, _, wn_bad (.inr hm), fun h => by cases h⟩
end Go.Proofs.Ytpokgnkcnibapaa.BatP
