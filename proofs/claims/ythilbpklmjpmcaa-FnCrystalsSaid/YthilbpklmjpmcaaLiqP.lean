/- A liquor, pure: when it is one, what stays dissolved, when there is too much of a kind, what falls out. My own. -/
import Derived.Test.YthilbpklmjpmcaaKindP
import Derived.Test.YthilbpklmjpmcaaLiqW
namespace Go.Proofs.Ythilbpklmjpmcaa.LiqP
open Go.RowKit Go.Proofs.Ythilbpklmjpmcaa.Mem Go.Proofs.Ythilbpklmjpmcaa.Base Go.Proofs.Ythilbpklmjpmcaa.SInt Go.Proofs.Ythilbpklmjpmcaa.KindP
set_option linter.unusedVariables false

def saltOk (s : List Int) : Bool := s.all fun q => inB q 0 1000000
def liqB (l : List SKind.R) (wt : Int) (s : List Int) : Bool := goodK l && (inB wt 0 1000000 && (saltOk s && decide (s.length = l.length)))
def askB (l : List SKind.R) (wt : Int) (s : List Int) (i : Int) : Bool := liqB l wt s && inB i 0 ((l.length : Int) - 1)
theorem salt_no {s : List Int} {k : Nat} (h : k < s.length) (hb : inB s[k] 0 1000000 = false) : saltOk s = false := by
  rw [Bool.eq_false_iff]
  intro h2
  unfold saltOk at h2
  rw [List.all_eq_true] at h2
  rw [h2 _ (List.getElem_mem h)] at hb
  cases hb
def SaltTo (s : List Int) (k : Nat) : Prop := ∀ q ∈ s.take k, inB q 0 1000000 = true
theorem salt_start (s : List Int) : SaltTo s 0 := by intro q hq; simp at hq
theorem salt_step {s : List Int} {k : Nat} (h : k < s.length) (hs : SaltTo s k) (hb : inB s[k] 0 1000000 = true) : SaltTo s (k + 1) := by
  intro q hq
  rw [List.take_succ_eq_append_getElem h] at hq
  rcases List.mem_append.1 hq with hq | hq
  · exact hs q hq
  · rw [List.mem_singleton.1 hq]; exact hb
theorem salt_end {s : List Int} {k : Nat} (h : s.length ≤ k) (hs : SaltTo s k) : saltOk s = true := by
  unfold saltOk
  rw [List.all_eq_true]
  intro q hq
  exact hs q (by rwa [List.take_of_length_le h])
theorem liq_no_salt {l : List SKind.R} {wt : Int} {s : List Int} (h : saltOk s = false) : liqB l wt s = false := by unfold liqB; rw [h]; simp
theorem liq_salt {l : List SKind.R} {wt : Int} {s : List Int} (h : saltOk s = true) : liqB l wt s = (goodK l && (inB wt 0 1000000 && decide (s.length = l.length))) := by unfold liqB; rw [h]; simp
theorem liq_head {l : List SKind.R} {wt : Int} {s : List Int} (h : (goodK l && (inB wt 0 1000000 && decide (s.length = l.length))) = false) : liqB l wt s = false := by
  rw [Bool.eq_false_iff] at h ⊢
  intro h2
  apply h
  unfold liqB at h2
  simp only [Bool.and_eq_true] at h2 ⊢
  exact ⟨h2.1, h2.2.1, h2.2.2.2⟩
theorem liq_yes {l : List SKind.R} {wt : Int} {s : List Int} (h : (goodK l && (inB wt 0 1000000 && decide (s.length = l.length))) = true) (h2 : saltOk s = true) : liqB l wt s = true := by rw [liq_salt h2, h]
/-- what a valid liquor says. -/
structure Vld (l : List SKind.R) (wt : Int) (s : List Int) : Prop where
  good : goodK l = true
  w0 : 0 ≤ wt
  w1 : wt ≤ 1000000
  len : s.length = l.length
  salt : ∀ (k : Nat) (h : k < s.length), 0 ≤ s[k] ∧ s[k] ≤ 1000000
theorem vld {l : List SKind.R} {wt : Int} {s : List Int} (h : liqB l wt s = true) : Vld l wt s := by
  unfold liqB at h
  simp only [Bool.and_eq_true] at h
  obtain ⟨h0, h1, h2, h3⟩ := h
  have := of_inB h1
  unfold saltOk at h2
  rw [List.all_eq_true] at h2
  exact ⟨h0, this.1, this.2, of_decide_eq_true h3, fun k hk => of_inB (h2 _ (List.getElem_mem hk))⟩
theorem Vld.kind {l : List SKind.R} {wt : Int} {s : List Int} (h : Vld l wt s) {k : Nat} (hk : k < l.length) : (0 ≤ l[k].f1 ∧ l[k].f1 ≤ 9) ∧ 1 ≤ l[k].f2 ∧ l[k].f2 ≤ 1000 := kind_of (good_kind h.good hk)
theorem Vld.n {l : List SKind.R} {wt : Int} {s : List Int} (h : Vld l wt s) : 1 ≤ l.length ∧ l.length ≤ 6 := good_len h.good
theorem ask_split {l : List SKind.R} {wt : Int} {s : List Int} {i : Int} (h : askB l wt s i = true) : Vld l wt s ∧ ∃ k : Nat, i = k ∧ k < l.length ∧ k < s.length := by
  unfold askB at h
  rw [Bool.and_eq_true] at h
  have h1 := vld h.1
  have h2 := of_inB h.2
  have := h1.len
  exact ⟨h1, i.toNat, by omega, by omega, by omega⟩
/-- how many kilograms stay dissolved. -/
def keepI (g wt : Int) : Int := g * wt / 1000
theorem keep_range {g wt : Int} (h0 : 0 ≤ g) (h1 : g ≤ 1000) (h2 : 0 ≤ wt) (h3 : wt ≤ 1000000) : (0 ≤ g * wt ∧ g * wt ≤ 1000000000) ∧ 0 ≤ keepI g wt ∧ keepI g wt ≤ 1000000 := by
  have e1 := Int.mul_nonneg h0 h2
  have e2 : g * wt ≤ 1000 * 1000000 := Int.mul_le_mul h1 h3 h2 (by omega)
  unfold keepI
  omega
/-- after how many kilograms gone there is too much; -1: never. -/
def dryI (g sl wt : Int) : Int := if sl = 0 then -1 else most 0 (wt - (1000 * sl - 1) / g)
theorem div_range {a g : Int} (h0 : 0 ≤ a) (h1 : a ≤ 2000000000) (hg : 1 ≤ g) : 0 ≤ a / g ∧ a / g ≤ 2000000000 := by
  have e1 := Int.ediv_nonneg h0 (show 0 ≤ g by omega)
  have e2 := Int.ediv_le_self g h0
  omega
/-- waterFor's rounding up is one more than the rounding down of one less. -/
theorem up_down {a g : Int} (h0 : 1 ≤ a) (hg : 1 ≤ g) : (a + g - 1) / g = (a - 1) / g + 1 := by
  rw [show a + g - 1 = (a - 1) + 1 * g by omega, Int.add_mul_ediv_right _ _ (by omega)]
theorem dry_pos {g sl wt : Int} (h : 0 < sl) (hg : 1 ≤ g) : dryI g sl wt = most (wt - (sl * 1000 + g - 1) / g + 1) 0 := by
  unfold dryI
  rw [if_neg (by omega), up_down (by omega) hg, show 1000 * sl = sl * 1000 by omega]
  unfold most
  split <;> split <;> omega
theorem dry_zero {g wt : Int} : dryI g 0 wt = -1 := by unfold dryI; rw [if_pos rfl]
theorem dry_neg {g sl wt : Int} (h : dryI g sl wt < 0) : sl = 0 := by
  unfold dryI at h
  split at h
  · assumption
  · unfold most at h; split at h <;> omega
theorem dry_nonneg {g sl wt : Int} (h : sl ≠ 0) : 0 ≤ dryI g sl wt := by
  unfold dryI
  rw [if_neg h]
  unfold most; split <;> omega
theorem dry_range {g sl wt : Int} (hs : 0 ≤ sl) (hs1 : sl ≤ 1000000) (hg : 1 ≤ g) (h0 : 0 ≤ wt) (h1 : wt ≤ 1000000) : -1 ≤ dryI g sl wt ∧ dryI g sl wt ≤ 1000000 := by
  unfold dryI
  split
  · omega
  · have := div_range (a := 1000 * sl - 1) (g := g) (by omega) (by omega) hg
    unfold most; split <;> omega
/-- an entry of a list, wherever. -/
def at0 (l : List Int) (i : Nat) : Int := l.getD i 0
def atK (l : List SKind.R) (i : Nat) : SKind.R := l.getD i SKind.zero
theorem at0_eq {l : List Int} {i : Nat} (h : i < l.length) : at0 l i = l[i] := by unfold at0; rw [List.getD_eq_getElem?_getD, List.getElem?_eq_getElem h]; rfl
theorem atK_eq {l : List SKind.R} {i : Nat} (h : i < l.length) : atK l i = l[i] := by unfold atK; rw [List.getD_eq_getElem?_getD, List.getElem?_eq_getElem h]; rfl
/-- place i's. -/
def dryAt (l : List SKind.R) (s : List Int) (wt : Int) (i : Nat) : Int := dryI (atK l i).f2 (at0 s i) wt
def fullV (l : List SKind.R) (wt : Int) (s : List Int) (i : Int) : Value :=
  if askB l wt s i = true then .tuple #[.bool (decide (keepI (atK l i.toNat).f2 wt < at0 s i.toNat)), .bool true] else .tuple #[.bool false, .bool false]
theorem fullV_form (l : List SKind.R) (wt : Int) (s : List Int) (i : Int) : ∃ p q, fullV l wt s i = .tuple #[.bool p, .bool q] := by
  unfold fullV; split
  · exact ⟨_, _, rfl⟩
  · exact ⟨_, _, rfl⟩
theorem full_no {l : List SKind.R} {wt : Int} {s : List Int} {i : Int} (h : askB l wt s i = false) : fullV l wt s i = .tuple #[.bool false, .bool false] := by unfold fullV; rw [h]; rfl
theorem full_yes {l : List SKind.R} {wt : Int} {s : List Int} {k : Nat} (h : askB l wt s k = true) (hk : k < l.length) (hs : k < s.length) : fullV l wt s k = .tuple #[.bool (decide (keepI l[k].f2 wt < s[k])), .bool true] := by
  unfold fullV
  rw [if_pos h, Int.toNat_natCast, atK_eq hk, at0_eq hs]
def massV (l : List SKind.R) (wt : Int) (s : List Int) : Value := if liqB l wt s = true then .tuple #[.int .i64 (wt + s.sum), .bool true] else .tuple #[.int .i64 0, .bool false]
theorem massV_form (l : List SKind.R) (wt : Int) (s : List Int) : ∃ p q, massV l wt s = .tuple #[.int .i64 p, .bool q] := by
  unfold massV; split
  · exact ⟨_, _, rfl⟩
  · exact ⟨_, _, rfl⟩
theorem mass_no {l : List SKind.R} {wt : Int} {s : List Int} (h : liqB l wt s = false) : massV l wt s = .tuple #[.int .i64 0, .bool false] := by unfold massV; rw [h]; rfl
theorem mass_yes {l : List SKind.R} {wt : Int} {s : List Int} (h : liqB l wt s = true) : massV l wt s = .tuple #[.int .i64 (wt + s.sum), .bool true] := by unfold massV; rw [if_pos h]
theorem sum_take (l : List Int) (k : Nat) (h : k < l.length) : (l.take (k + 1)).sum = (l.take k).sum + l[k] := by rw [List.take_succ_eq_append_getElem h, List.sum_append]; simp
theorem Vld.sum {l : List SKind.R} {wt : Int} {s : List Int} (h : Vld l wt s) (k : Nat) (hk : k ≤ s.length) : 0 ≤ (s.take k).sum ∧ (s.take k).sum ≤ k * 1000000 := by
  induction k with
  | zero => simp
  | succ k ih =>
    have h1 := ih (by omega)
    have h2 := h.salt k (by omega)
    rw [sum_take s k (by omega)]
    omega
/-- how many kilograms may go. -/
def keptV (l : List SKind.R) (wt : Int) (s : List Int) (i : Int) : Value :=
  if askB l wt s i = true then
    (if dryAt l s wt i.toNat < 0 then .tuple #[.int .i64 wt, .bool true] else if dryAt l s wt i.toNat = 0 then .tuple #[.int .i64 0, .bool false] else .tuple #[.int .i64 (dryAt l s wt i.toNat - 1), .bool true])
  else .tuple #[.int .i64 0, .bool false]
theorem keptV_form (l : List SKind.R) (wt : Int) (s : List Int) (i : Int) : ∃ p q, keptV l wt s i = .tuple #[.int .i64 p, .bool q] := by
  unfold keptV
  repeat' split
  all_goals exact ⟨_, _, rfl⟩
theorem kept_no {l : List SKind.R} {wt : Int} {s : List Int} {i : Int} (h : askB l wt s i = false) : keptV l wt s i = .tuple #[.int .i64 0, .bool false] := by unfold keptV; rw [h]; rfl
theorem kept_yes {l : List SKind.R} {wt : Int} {s : List Int} {k : Nat} (h : askB l wt s k = true) (hk : k < l.length) (hs : k < s.length) :
    keptV l wt s k = if dryI l[k].f2 s[k] wt < 0 then .tuple #[.int .i64 wt, .bool true] else if dryI l[k].f2 s[k] wt = 0 then .tuple #[.int .i64 0, .bool false] else .tuple #[.int .i64 (dryI l[k].f2 s[k] wt - 1), .bool true] := by
  unfold keptV
  rw [if_pos h, Int.toNat_natCast]
  unfold dryAt
  rw [atK_eq hk, at0_eq hs]
end Go.Proofs.Ythilbpklmjpmcaa.LiqP
