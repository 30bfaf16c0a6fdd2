/- Batches, pure: drying, joining, a row that is washed from its end. -/
import Derived.Test.YtpokgnkcnibapaaBatP
namespace Go.Proofs.Ytpokgnkcnibapaa.BatQ
open Go.RowKit Go.Proofs.Ytpokgnkcnibapaa.Mem Go.Proofs.Ytpokgnkcnibapaa.Base Go.Proofs.Ytpokgnkcnibapaa.SBatch Go.Proofs.Ytpokgnkcnibapaa.BatP
set_option linter.unusedVariables false
def dryN (x : R) (p : Int) : Int := x.f2 * p / 100
def dryOk (x : R) (p : Int) : Bool := okT x && inB p 0 100
def dryV (x : R) (p : Int) : Value := if dryOk x p = true then .tuple #[(R.mk x.f0 x.f1 (x.f2 - dryN x p)).val, .int .i64 (dryN x p), .bool true] else .tuple #[zero.val, .int .i64 0, .bool false]
theorem dry_no {x : R} {p : Int} (h : dryOk x p = false) : dryV x p = .tuple #[zero.val, .int .i64 0, .bool false] := by unfold dryV; rw [h]; rfl
theorem dry_yes {x : R} {p : Int} (h : dryOk x p = true) : dryV x p = .tuple #[(R.mk x.f0 x.f1 (x.f2 - dryN x p)).val, .int .i64 (dryN x p), .bool true] := by unfold dryV; rw [if_pos h]
theorem dry_bd {x : R} {p : Int} (h : okT x = true) (h0 : 0 ≤ p) (h1 : p ≤ 100) : 0 ≤ x.f2 * p ∧ x.f2 * p ≤ 10000000000 ∧ 0 ≤ dryN x p ∧ dryN x p ≤ x.f2 := by
  obtain ⟨_, _, a2, a3, a4, a5⟩ := okT_true h
  have p0 : 0 ≤ x.f2 * p := Int.mul_nonneg a4 h0
  have p1 : x.f2 * p ≤ x.f2 * 100 := Int.mul_le_mul_of_nonneg_left h1 a4
  unfold dryN
  omega
def sumR (x y : R) : R := ⟨x.f0 + y.f0, x.f1 + y.f1, x.f2 + y.f2⟩
def joinOk (x y : R) : Bool := okT x && okT y && okT (sumR x y)
def joinV (x y : R) : Value := if joinOk x y = true then .tuple #[(sumR x y).val, .bool true] else .tuple #[zero.val, .bool false]
theorem join_no {x y : R} (h : joinOk x y = false) : joinV x y = .tuple #[zero.val, .bool false] := by unfold joinV; rw [h]; rfl
theorem join_yes {x y : R} (h : joinOk x y = true) : joinV x y = .tuple #[(sumR x y).val, .bool true] := by unfold joinV; rw [if_pos h]
/-- some of the end of the row is washed: what it is then, and the dirt that went on. -/
def cc (w : Int) : List R → Option (List R × Int)
  | [] => some ([], 0)
  | x :: l => match cc w l with
    | none => none
    | some (m, d) => if gone x w d ≤ w then some (wash x w d :: m, gone x w d) else none
theorem cc_nil (w : Int) : cc w [] = some ([], 0) := rfl
theorem cc_len {w : Int} : ∀ {l m : List R} {d : Int}, cc w l = some (m, d) → m.length = l.length
  | [], m, d, h => by cases h; rfl
  | x :: l, m, d, h => by
    unfold cc at h
    cases hc : cc w l with
    | none => rw [hc] at h; cases h
    | some md =>
      obtain ⟨m1, d1⟩ := md
      rw [hc] at h
      simp only at h
      split at h
      · injection h with h; injection h with h1 h2
        subst h1
        rw [List.length_cons, List.length_cons, cc_len hc]
      · cases h
theorem cc_bd {w : Int} (hw : 1 ≤ w) : ∀ {l m : List R} {d : Int}, (∀ x ∈ l, okT x = true) → cc w l = some (m, d) → 0 ≤ d ∧ d ≤ w ∧ (∀ x ∈ m, okT x = true)
  | [], m, d, ho, h => by cases h; exact ⟨Int.le_refl _, by omega, fun x hx => by cases hx⟩
  | x :: l, m, d, ho, h => by
    unfold cc at h
    cases hc : cc w l with
    | none => rw [hc] at h; cases h
    | some md =>
      obtain ⟨m1, d1⟩ := md
      rw [hc] at h
      simp only at h
      have ih := cc_bd hw (fun y hy => ho y (List.mem_cons_of_mem _ hy)) hc
      have hx := ho x (List.mem_cons_self)
      have hg := gone_bd hx hw ih.1 ih.2.1
      split at h
      · rename_i hle
        injection h with h; injection h with h1 h2
        subst h1; subst h2
        refine ⟨hg.1, hle, fun y hy => ?_⟩
        rcases List.mem_cons.1 hy with rfl | hy
        · exact wash_ok hx hw ih.1 ih.2.1
        · exact ih.2.2 y hy
      · cases h
theorem cc_step {w : Int} {l m : List R} {d : Int} {k : Nat} (hk : k < l.length) (h : cc w (l.drop (k + 1)) = some (m, d)) (hg : gone l[k] w d ≤ w) :
    cc w (l.drop k) = some (wash l[k] w d :: m, gone l[k] w d) := by
  rw [List.drop_eq_getElem_cons hk]
  unfold cc
  rw [h]; simp only; rw [if_pos hg]
theorem cc_fall {w : Int} {l m : List R} {d : Int} {k : Nat} (hk : k < l.length) (h : cc w (l.drop (k + 1)) = some (m, d)) (hg : ¬ gone l[k] w d ≤ w) :
    cc w (l.drop k) = none := by
  rw [List.drop_eq_getElem_cons hk]
  unfold cc
  rw [h]; simp only; rw [if_neg hg]
theorem cc_up {w : Int} {l : List R} : ∀ {k : Nat}, k ≤ l.length → cc w (l.drop k) = none → cc w l = none
  | 0, _, h => by simpa using h
  | k + 1, hk, h => by
    refine cc_up (k := k) (by omega) ?_
    rw [List.drop_eq_getElem_cons (by omega)]
    unfold cc
    rw [h]
/-- the row at hand: the front as it was, the end as it is washed. -/
def mixed (l m : List R) (k : Nat) : List R := l.take k ++ m
theorem mixed_len {l m : List R} {k : Nat} (hk : k ≤ l.length) (hm : m.length = l.length - k) : (mixed l m k).length = l.length := by
  unfold mixed; rw [List.length_append, List.length_take]; omega
theorem mixed_all (l : List R) : mixed l [] l.length = l := by unfold mixed; simp
theorem mixed_zero (l m : List R) : mixed l m 0 = m := by unfold mixed; simp
theorem mixed_get {l m : List R} {k : Nat} (hk : k < l.length) (h : k < (mixed l m (k + 1)).length) : (mixed l m (k + 1))[k] = l[k] := by
  have e : (mixed l m (k + 1))[k]? = some l[k] := by
    unfold mixed
    rw [List.getElem?_append_left (by rw [List.length_take]; omega), List.getElem?_take_of_lt (by omega), List.getElem?_eq_getElem hk]
  rw [List.getElem?_eq_getElem h] at e
  exact Option.some.inj e
theorem mixed_set {l m : List R} {k : Nat} {y : R} (hk : k < l.length) : (mixed l m (k + 1)).set k y = mixed l (y :: m) k := by
  unfold mixed
  rw [List.take_succ_eq_append_getElem hk, List.append_assoc, List.set_append_right _ _ (by rw [List.length_take]; omega), List.length_take, show k - min k l.length = 0 by omega]
  rfl
def ccOk (l : List R) (w : Int) : Bool := inB l.length 1 10 && isW w && l.all okT && (cc w l).isSome
def ccL (l : List R) (w : Int) : List R := if ccOk l w = true then ((cc w l).getD ([], 0)).1 else []
def ccN (l : List R) (w : Int) : Int := if ccOk l w = true then ((cc w l).getD ([], 0)).2 else 0
theorem cc_some {l m : List R} {w d : Int} (h1 : 1 ≤ l.length) (h2 : l.length ≤ 10) (hw : isW w = true) (ho : ∀ x ∈ l, okT x = true) (h : cc w l = some (m, d)) : ccOk l w = true ∧ ccL l w = m ∧ ccN l w = d := by
  have e : ccOk l w = true := by
    unfold ccOk
    rw [inB_true (by omega), hw, h, List.all_eq_true.2 ho]; rfl
  refine ⟨e, ?_, ?_⟩
  · unfold ccL; rw [if_pos e, h]; rfl
  · unfold ccN; rw [if_pos e, h]; rfl
theorem cc_no {l : List R} {w : Int} (h : ccOk l w = false) : ccL l w = [] ∧ ccN l w = 0 := by
  unfold ccL ccN; rw [h]; exact ⟨rfl, rfl⟩
theorem cc_no1 {l : List R} {w : Int} (h : inB l.length 1 10 = false) : ccOk l w = false := by unfold ccOk; rw [h]; rfl
theorem cc_no2 {l : List R} {w : Int} (h : isW w = false) : ccOk l w = false := by unfold ccOk; rw [h]; simp
theorem cc_no3 {l : List R} {w : Int} {k : Nat} (hk : k < l.length) (h : okT l[k] = false) : ccOk l w = false := by
  unfold ccOk
  have : l.all okT = false := by
    rw [List.all_eq_false]; exact ⟨l[k], List.getElem_mem hk, by simp [h]⟩
  rw [this]; simp
theorem cc_no4 {l : List R} {w : Int} (h : cc w l = none) : ccOk l w = false := by unfold ccOk; rw [h]; simp
theorem cc_bad {l : List R} {w : Int} (h : l.all okT = false) : ccOk l w = false := by unfold ccOk; rw [h]; simp
theorem ccL_len (l : List R) (w : Int) : (ccL l w).length ≤ 100 := by
  cases h : ccOk l w
  · rw [(cc_no h).1]; exact Nat.zero_le _
  · unfold ccOk at h
    simp only [Bool.and_eq_true] at h
    obtain ⟨⟨⟨h0, h1⟩, h2⟩, h3⟩ := h
    have i0 := of_inB h0
    obtain ⟨⟨m, d⟩, hc⟩ := Option.isSome_iff_exists.1 h3
    have e := cc_some (by omega) (by omega) h1 (List.all_eq_true.1 h2) hc
    rw [e.2.1, cc_len hc]; omega
theorem all_get {l : List R} (h : l.all okT = true) {k : Nat} (hk : k < l.length) : okT l[k] = true := List.all_eq_true.1 h _ (List.getElem_mem hk)
/-- the dirt: what stays and what goes on is what was there. -/
def dirt (l : List R) : Int := (l.map (·.f1)).sum
theorem cc_keep {w : Int} : ∀ {l m : List R} {d : Int}, cc w l = some (m, d) → dirt m + d = dirt l
  | [], m, d, h => by cases h; rfl
  | x :: l, m, d, h => by
    unfold cc at h
    cases hc : cc w l with
    | none => rw [hc] at h; cases h
    | some md =>
      obtain ⟨m1, d1⟩ := md
      rw [hc] at h
      simp only at h
      split at h
      · injection h with h; injection h with h1 h2
        subst h1; subst h2
        have ih := cc_keep hc
        simp only [dirt, List.map_cons, List.sum_cons] at ih ⊢
        unfold wash gone
        simp only
        omega
      · cases h
end Go.Proofs.Ytpokgnkcnibapaa.BatQ
