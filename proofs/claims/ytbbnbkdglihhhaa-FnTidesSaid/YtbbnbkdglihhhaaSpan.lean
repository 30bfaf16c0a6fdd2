/- Spans of minutes, areas: the pure functions. -/
import Derived.Test.YtbbnbkdglihhhaaFlow
namespace Go.Proofs.Ytbbnbkdglihhhaa.Span
open Go.RowKit Go.Proofs.Ytbbnbkdglihhhaa.Mem Go.Proofs.Ytbbnbkdglihhhaa.Base Go.Proofs.Ytbbnbkdglihhhaa.SMark Go.Proofs.Ytbbnbkdglihhhaa.Tide Go.Proofs.Ytbbnbkdglihhhaa.Flow
set_option linter.unusedVariables false
def starts (c : Nat → Bool) (n : Nat) : Bool := c n && (n == 0 || !c (n - 1))
def stops (c : Nat → Bool) (n : Nat) : Bool := c n && (n == 1440 || !c (n + 1))
/-- the ends of the spans, as far as they lie before n. -/
def sp (c : Nat → Bool) : Nat → List Int
  | 0 => []
  | n + 1 => (if starts c n = true then sp c n ++ [(n : Int)] else sp c n) ++ (if stops c n = true then [(n : Int)] else [])
def isOpen (c : Nat → Bool) (n : Nat) : Bool := decide (0 < n) && decide (n ≤ 1440) && c (n - 1) && c n
/-- with the end so far of a span that goes on. -/
def mo (c : Nat → Bool) (n : Nat) : List Int := if isOpen c n = true then sp c n ++ [((n : Int) - 1)] else sp c n
theorem sp_mem {c : Nat → Bool} : ∀ n, ∀ x ∈ sp c n, ∃ j : Nat, j < n ∧ x = j ∧ c j = true := by
  intro n
  induction n with
  | zero => intro x hx; simp [sp] at hx
  | succ n ih =>
    intro x hx
    unfold sp at hx
    rw [List.mem_append] at hx
    rcases hx with hx | hx
    · split at hx
      · rename_i hs
        rw [List.mem_append] at hx
        rcases hx with hx | hx
        · obtain ⟨j, a, b, d⟩ := ih x hx; exact ⟨j, by omega, b, d⟩
        · unfold starts at hs; simp only [Bool.and_eq_true] at hs
          exact ⟨n, by omega, List.mem_singleton.1 hx, hs.1⟩
      · obtain ⟨j, a, b, d⟩ := ih x hx; exact ⟨j, by omega, b, d⟩
    · split at hx
      · rename_i hs
        unfold stops at hs; simp only [Bool.and_eq_true] at hs
        exact ⟨n, by omega, List.mem_singleton.1 hx, hs.1⟩
      · simp at hx
theorem sp_len (c : Nat → Bool) : ∀ n, (sp c n).length ≤ 2 * n := by
  intro n
  induction n with
  | zero => simp [sp]
  | succ n ih => unfold sp; split <;> split <;> simp <;> omega
theorem mo_len (c : Nat → Bool) (n : Nat) : (mo c n).length ≤ 2 * n + 1 := by
  have := sp_len c n
  unfold mo; split
  · simp; omega
  · omega
theorem mo_zero (c : Nat → Bool) : mo c 0 = [] := by unfold mo isOpen; simp [sp]
theorem mo_end (c : Nat → Bool) : mo c 1441 = sp c 1441 := by unfold mo isOpen; simp
theorem starts_no {c : Nat → Bool} {n : Nat} (h : c n = false) : starts c n = false := by unfold starts; rw [h]; rfl
theorem stops_no {c : Nat → Bool} {n : Nat} (h : c n = false) : stops c n = false := by unfold stops; rw [h]; rfl
theorem starts_first {c : Nat → Bool} {n : Nat} (h : c n = true) (h0 : n = 0 ∨ c (n - 1) = false) : starts c n = true := by
  unfold starts; rw [h]; rcases h0 with h0 | h0 <;> simp [h0]
theorem starts_on {c : Nat → Bool} {n : Nat} (h0 : 0 < n) (hp : c (n - 1) = true) : starts c n = false := by
  unfold starts; rw [hp]; simp; intro _; omega
theorem stops_last {c : Nat → Bool} {n : Nat} (h : c n = true) (h0 : n = 1440 ∨ c (n + 1) = false) : stops c n = true := by
  unfold stops; rw [h]; rcases h0 with h0 | h0 <;> simp [h0]
theorem stops_on {c : Nat → Bool} {n : Nat} (h0 : n ≠ 1440) (hp : c (n + 1) = true) : stops c n = false := by
  unfold stops; rw [hp]; simp; intro _; exact h0
theorem mo_skip {c : Nat → Bool} {n : Nat} (h : c n = false) : mo c (n + 1) = mo c n := by
  have e1 : isOpen c n = false := by unfold isOpen; rw [h]; simp
  have e2 : isOpen c (n + 1) = false := by unfold isOpen; rw [Nat.add_sub_cancel, h]; simp
  unfold mo
  rw [e1, e2, sp, starts_no h, stops_no h]; simp
/-- behind a minute with a flow. -/
theorem mo_next {c : Nat → Bool} {n : Nat} (hn : n ≤ 1440) (h : c n = true) : mo c (n + 1) = (if starts c n = true then sp c n ++ [(n : Int)] else sp c n) ++ [(n : Int)] := by
  unfold mo
  by_cases h0 : n = 1440
  · have e2 : isOpen c (n + 1) = false := by unfold isOpen; rw [show decide (n + 1 ≤ 1440) = false from decide_eq_false (by omega)]; simp
    rw [e2, sp, stops_last h (.inl h0)]; simp
  · cases hp : c (n + 1)
    · have e2 : isOpen c (n + 1) = false := by unfold isOpen; rw [hp]; simp
      rw [e2, sp, stops_last h (.inr hp)]; simp
    · have e2 : isOpen c (n + 1) = true := by unfold isOpen; rw [Nat.add_sub_cancel, hp, h, decide_eq_true (show 0 < n + 1 by omega), decide_eq_true (show n + 1 ≤ 1440 by omega)]; rfl
      rw [e2, sp, stops_on h0 hp]; simp
theorem mo_set {c : Nat → Bool} {n : Nat} (hn : n ≤ 1440) (h : c n = true) (h0 : 0 < n) (hp : c (n - 1) = true) : mo c n = sp c n ++ [(n : Int) - 1] ∧ mo c (n + 1) = sp c n ++ [(n : Int)] := by
  constructor
  · unfold mo
    rw [if_pos]
    unfold isOpen; rw [hp, h, decide_eq_true h0, decide_eq_true hn]; rfl
  · rw [mo_next hn h, starts_on h0 hp]; simp
theorem mo_app {c : Nat → Bool} {n : Nat} (hn : n ≤ 1440) (h : c n = true) (h0 : n = 0 ∨ c (n - 1) = false) : mo c n = sp c n ∧ mo c (n + 1) = sp c n ++ [(n : Int), (n : Int)] := by
  constructor
  · unfold mo
    rw [if_neg]
    unfold isOpen
    rcases h0 with h0 | h0
    · subst h0; simp
    · rw [h0]; simp
  · rw [mo_next hn h, starts_first h h0]; simp
theorem sp_last {c : Nat → Bool} {n : Nat} (h0 : n = 0 ∨ c (n - 1) = false) : ∀ x ∈ sp c n, x ≠ (n : Int) - 1 := by
  intro x hx hne
  obtain ⟨j, a, b, d⟩ := sp_mem n x hx
  rcases h0 with h0 | h0
  · omega
  · have : j = n - 1 := by omega
    subst this; rw [d] at h0; cases h0
theorem sp_none {c : Nat → Bool} : ∀ n, (∀ j, j < n → c j = false) → sp c n = [] := by
  intro n
  induction n with
  | zero => intro _; rfl
  | succ n ih =>
    intro h
    have hn := h n (by omega)
    rw [sp, starts_no hn, stops_no hn, ih (fun j hj => h j (by omega))]; rfl
theorem sp_first {c : Nat → Bool} {m : Nat} (h : ∀ j, j < m → c j = false) (hm : c m = true) : ∀ n, m < n → ∃ r, sp c n = (m : Int) :: r := by
  intro n
  induction n with
  | zero => intro h; omega
  | succ n ih =>
    intro hn
    rcases Nat.lt_or_ge m n with h1 | h1
    · obtain ⟨r, hr⟩ := ih h1
      rw [sp, hr]
      split
      · exact ⟨_, by rw [List.cons_append, List.cons_append]⟩
      · exact ⟨_, by rw [List.cons_append]⟩
    · have : m = n := by omega
      subst this
      rw [sp, starts_first hm (by rcases Nat.eq_zero_or_pos m with h2 | h2; exact .inl h2; exact .inr (h (m - 1) (by omega))), sp_none m h]
      exact ⟨_, rfl⟩
def cin (l : List R) (s p : Int) (n : Nat) : Bool := inAt l s p n
def cout (l : List R) (s p : Int) (n : Nat) : Bool := outAt l s p n
theorem flow_is_in {l : List R} {s p m : Int} : flow l s p m = 1 ↔ inAt l s p m = true := by
  unfold flow
  split
  · simp [*]
  · split <;> simp [*]
theorem flow_is_out {l : List R} (hg : good l = true) {s p : Int} {m : Int} (h0 : 0 ≤ m) (h1 : m ≤ 1440) : flow l s p m = -1 ↔ outAt l s p m = true := by
  have hd := den_bd hg h0 h1
  unfold flow
  split
  · rename_i hi
    unfold inAt at hi
    have hi := of_decide_eq_true hi
    constructor
    · intro h; omega
    · intro h
      unfold outAt at h
      simp only [Bool.and_eq_true, decide_eq_true_eq] at h
      have hm : p ≤ most s p := by unfold most; split <;> omega
      have := Int.mul_le_mul_of_nonneg_left hm (show 0 ≤ den l m by omega)
      omega
  · split <;> simp [*]
def asked (l : List R) (s p : Int) : Bool := good l && inB s (-500) 500 && inB p (-500) 500
theorem asked_true {l : List R} {s p : Int} (h : asked l s p = true) : good l = true ∧ inB s (-500) 500 = true ∧ inB p (-500) 500 = true := by
  unfold asked at h; simp only [Bool.and_eq_true] at h; exact ⟨h.1.1, h.1.2, h.2⟩
def inL (l : List R) (s p : Int) : List Int := if asked l s p = true then sp (cin l s p) 1441 else []
def outL (l : List R) (s p : Int) : List Int := if asked l s p = true then sp (cout l s p) 1441 else []
theorem inL_no {l : List R} {s p : Int} (h : asked l s p = false) : inL l s p = [] := by unfold inL; rw [h]; rfl
theorem inL_yes {l : List R} {s p : Int} (h : asked l s p = true) : inL l s p = sp (cin l s p) 1441 := by unfold inL; rw [if_pos h]
theorem outL_no {l : List R} {s p : Int} (h : asked l s p = false) : outL l s p = [] := by unfold outL; rw [h]; rfl
theorem outL_yes {l : List R} {s p : Int} (h : asked l s p = true) : outL l s p = sp (cout l s p) 1441 := by unfold outL; rw [if_pos h]
theorem inL_len (l : List R) (s p : Int) : (inL l s p).length ≤ 2882 := by
  have := sp_len (cin l s p) 1441
  unfold inL; split
  · omega
  · simp
theorem outL_len (l : List R) (s p : Int) : (outL l s p).length ≤ 2882 := by
  have := sp_len (cout l s p) 1441
  unfold outL; split
  · omega
  · simp
def firstV (L : List Int) : Value := match L with | [] => .tuple #[.int .i64 0, .bool false] | x :: _ => .tuple #[.int .i64 x, .bool true]
theorem firstV_form (L : List Int) : ∃ x q, firstV L = .tuple #[.int .i64 x, .bool q] := by cases L <;> exact ⟨_, _, rfl⟩
/-- how much of the sea lies above a height before minute n. -/
def cell (l : List R) (h m : Int) : Int := most 0 (num l m - h * den l m) / den l m
def area (l : List R) (h : Int) : Nat → Int
  | 0 => 0
  | n + 1 => area l h n + cell l h n
theorem cell_bd {l : List R} (hg : good l = true) {h m : Int} (hh : inB h (-500) 500 = true) (h0 : 0 ≤ m) (h1 : m ≤ 1440) : 0 ≤ cell l h m ∧ cell l h m ≤ 1000 := by
  have hd := den_bd hg h0 h1
  have hn := num_bd hg h0 h1
  have hb := of_inB hh
  have p1 := Int.mul_le_mul_of_nonneg_right hb.1 (show 0 ≤ den l m by omega)
  have k1 : 0 ≤ most 0 (num l m - h * den l m) := by unfold most; split <;> omega
  have k2 : most 0 (num l m - h * den l m) ≤ 1000 * den l m := by unfold most; split <;> omega
  unfold cell
  exact ⟨Int.ediv_nonneg k1 (by omega), Int.ediv_le_of_le_mul (by omega) k2⟩
theorem area_bd {l : List R} (hg : good l = true) {h : Int} (hh : inB h (-500) 500 = true) : ∀ n : Nat, n ≤ 1441 → 0 ≤ area l h n ∧ area l h n ≤ 1000 * n := by
  intro n
  induction n with
  | zero => intro _; simp [area]
  | succ n ih =>
    intro hn
    have := ih (by omega)
    have := cell_bd hg hh (m := n) (by omega) (by omega)
    unfold area; omega
theorem cell_low {l : List R} (hg : good l = true) {h m : Int} (h0 : 0 ≤ m) (h1 : m ≤ 1440) : most 0 (low (num l m) (den l m) - h * low' (num l m) (den l m)) / low' (num l m) (den l m) = cell l h m := by
  have hd := den_bd hg h0 h1
  have h2 := gcd_pos (n := num l m) (show 0 < den l m by omega)
  have h3 := low_mul (n := num l m) (show 0 < den l m by omega)
  have h4 := low'_mul (n := num l m) (show 0 < den l m by omega)
  unfold cell
  generalize low (num l m) (den l m) = x at *
  generalize low' (num l m) (den l m) = y at *
  generalize gcd (num l m) (den l m) = g at *
  rw [h3, h4]
  have e1 : g * x - h * (g * y) = g * (x - h * y) := by rw [Int.mul_sub, ← Int.mul_assoc, ← Int.mul_assoc, Int.mul_comm h g]
  have e2 : most 0 (g * (x - h * y)) = g * most 0 (x - h * y) := by
    unfold most
    by_cases hz : x - h * y < 0
    · rw [if_pos hz, if_pos (by have := Int.mul_neg_of_pos_of_neg h2 hz; exact this), Int.mul_zero]
    · rw [if_neg hz, if_neg (by have := Int.mul_nonneg (Int.le_of_lt h2) (Int.not_lt.1 hz); omega)]
  rw [e1, e2, Int.mul_ediv_mul_of_pos _ _ h2]
def askH (l : List R) (h : Int) : Bool := good l && inB h (-500) 500
def areaV (l : List R) (h : Int) : Value := if askH l h = true then .tuple #[.int .i64 (area l h 1441), .bool true] else .tuple #[.int .i64 0, .bool false]
theorem areaV_no {l : List R} {h : Int} (k : askH l h = false) : areaV l h = .tuple #[.int .i64 0, .bool false] := by unfold areaV; rw [k]; rfl
theorem areaV_yes {l : List R} {h : Int} (k : askH l h = true) : areaV l h = .tuple #[.int .i64 (area l h 1441), .bool true] := by unfold areaV; rw [if_pos k]
theorem areaV_form (l : List R) (h : Int) : ∃ x q, areaV l h = .tuple #[.int .i64 x, .bool q] := by unfold areaV; split <;> exact ⟨_, _, rfl⟩
end Go.Proofs.Ytbbnbkdglihhhaa.Span
