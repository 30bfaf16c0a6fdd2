/- The map of the starts: what it holds; the first to fall, and the water between, as functions of the starts. My own. -/
import Derived.Test.YthilbpklmjpmcaaLiqP
import Derived.Test.YthilbpklmjpmcaaKeep
import Derived.Maps.Own
import Derived.Maps.OwnOps
import Derived.Maps.OwnSet
import Derived.Maps.Views
import Derived.Maps.RangeWalk
namespace Go.Proofs.Ythilbpklmjpmcaa.StartP
open Go.RowKit Go.Maps Go.Proofs.Ythilbpklmjpmcaa.Mem Go.Proofs.Ythilbpklmjpmcaa.Base Go.Proofs.Ythilbpklmjpmcaa.LiqP
set_option linter.unusedVariables false
theorem keyI : Keyed Try.prog 3 := int_keyed Try.underlying3
theorem zeroI (w : World) : (zeroValue 3).run Try.prog w = .ok (.int .i64 0) w := by kernel_rfl
/-- the datum of a map that holds d's values that are not negative, at the places below m. -/
structure Fits (D : DataW Unit) (d : Nat → Int) (m : Nat) : Prop where
  im : Maps.IsMap D
  has : ∀ j : Int, Maps.has D (.int .i64 j) = decide (0 ≤ j ∧ j < m ∧ 0 ≤ d j.toNat)
  val : ∀ j : Nat, j < m → 0 ≤ d j → ∀ zd, D.atKey (.int .i64 j) zd = .lit (.int .i64 (d j))
theorem fits_start (d : Nat → Int) : Fits (.map []) d 0 := ⟨⟨[], rfl⟩, fun j => by
  rw [Maps.has_eq]
  symm
  apply decide_eq_false
  rintro ⟨h0, h1, _⟩
  omega, fun j hj => by omega⟩
theorem fits_put {D : DataW Unit} {d : Nat → Int} {m : Nat} (h : Fits D d m) (hd : 0 ≤ d m) : Fits (D.put (.int .i64 m) (.lit (.int .i64 (d m)))) d (m + 1) := by
  refine ⟨h.im.put _ _, fun j => ?_, fun j hj h0 zd => ?_⟩
  · by_cases e : j = m
    · subst e
      rw [Maps.has_put_same h.im (show WideAt.IsKeyLit (.int .i64 (m : Int)) from trivial)]
      symm
      apply decide_eq_true
      exact ⟨by omega, by omega, by rw [Int.toNat_natCast]; exact hd⟩
    · rw [Maps.has_put_other (by intro h; injection h with h1 h2; exact e h2), h.has]
      apply decide_eq_decide.2
      omega
  · by_cases e : j = m
    · subst e
      exact Maps.atKey_put_same h.im (show WideAt.IsKeyLit (.int .i64 (j : Int)) from trivial) _ _
    · rw [Maps.atKey_put_other (by intro h; injection h with h1 h2; exact e (by omega))]
      exact h.val j (by omega) h0 zd
theorem fits_skip {D : DataW Unit} {d : Nat → Int} {m : Nat} (h : Fits D d m) (hd : d m < 0) : Fits D d (m + 1) := by
  refine ⟨h.im, fun j => ?_, fun j hj h0 zd => ?_⟩
  · rw [h.has]
    apply decide_eq_decide.2
    constructor
    · rintro ⟨h1, h2, h3⟩; exact ⟨h1, by omega, h3⟩
    · rintro ⟨h1, h2, h3⟩
      refine ⟨h1, ?_, h3⟩
      rcases Int.lt_or_le j m with h4 | h4
      · exact h4
      · have e : j.toNat = m := by omega
        rw [e] at h3
        omega
  · have e : j ≠ m := by rintro rfl; omega
    exact h.val j (by omega) h0 zd
/-- block b is such a map, of at most n entries. -/
def OwnM (w : World) (b n : Nat) (d : Nat → Int) (m : Nat) : Prop := ∃ D : DataW Unit, w.ownsMap Try.prog 3 (plainElem Try.prog 3) b n D ∧ Fits D d m
theorem map_keep {w w' : World} {b n : Nat} {D : DataW Unit} (hown : w.ownsMap Try.prog 3 (plainElem Try.prog 3) b n D) (hb : Below w.heap.size w w') : w'.ownsMap Try.prog 3 (plainElem Try.prog 3) b n D := by
  have hlt := hown.lt
  obtain ⟨es, clock, hbk, F, hs, hE⟩ := hown
  exact ⟨es, clock, (hb.block b hlt).trans hbk, F, hs, hE⟩
theorem OwnM.keep {w w' : World} {b n : Nat} {d : Nat → Int} {m : Nat} (h : OwnM w b n d m) (hb : Below w.heap.size w w') : OwnM w' b n d m := by
  obtain ⟨D, hown, F⟩ := h
  exact ⟨D, map_keep hown hb, F⟩
/-- what a place is, as the map has it. -/
def inM (d : Nat → Int) (m : Nat) (x : Int) : Bool := decide (0 ≤ x ∧ x < m ∧ 0 ≤ d x.toNat)
theorem val_of {D : DataW Unit} {d : Nat → Int} {m : Nat} (F : Fits D d m) {x c : Int} (hat : D.atKey (.int .i64 x) (.lit (.int .i64 0)) = .lit (.int .i64 c)) : c = if inM d m x = true then d x.toNat else 0 := by
  by_cases h : inM d m x = true
  · rw [if_pos h]
    obtain ⟨h0, h1, h2⟩ := of_decide_eq_true h
    have := F.val x.toNat (by omega) h2 (.lit (.int .i64 0))
    rw [show ((x.toNat : Nat) : Int) = x by omega, hat] at this
    injection this with this
    injection this with _ this
  · rw [if_neg h]
    have h' : Maps.has D (.int .i64 x) = false := by rw [F.has]; exact Bool.eq_false_iff.2 h
    rw [Maps.atKey_of_not_has h'] at hat
    injection hat with hat
    injection hat with _ hat
    exact hat.symm
theorem OwnM.look {w : World} {b n : Nat} {d : Nat → Int} {m : Nat} (h : OwnM w b n d m) (x : Int) (hw : (Lit.int .i64 x).wf = true) :
    (Instr.lookup 79 (.map (some b)) (.int .i64 x) false).run Try.prog w = .ok (.int .i64 (if inM d m x = true then d x.toNat else 0)) w := by
  obtain ⟨D, hown, F⟩ := h
  obtain ⟨c, hrun, hat, _⟩ := hown.lookup_int keyI Try.underlying79 Try.underlying3 (zeroI w) (keyOf_int_mk Try.underlying3 hw)
  rw [hrun, val_of F hat]
theorem OwnM.look_ok {w : World} {b n : Nat} {d : Nat → Int} {m : Nat} (h : OwnM w b n d m) (x : Int) (hw : (Lit.int .i64 x).wf = true) :
    (Instr.lookup 79 (.map (some b)) (.int .i64 x) true).run Try.prog w = .ok (.tuple #[.int .i64 (if inM d m x = true then d x.toNat else 0), .bool (inM d m x)]) w := by
  obtain ⟨D, hown, F⟩ := h
  obtain ⟨v, ps, hrun, hv⟩ := hown.look_ok keyI Try.underlying79 (zeroI w) (plainElem_int Try.underlying3 (by decide)) (keyOf_int_mk Try.underlying3 hw)
  obtain ⟨c, rfl, hc, _⟩ := plainElem_int_inv Try.underlying3 hv
  rw [hrun, val_of F (congrArg Prod.fst hc), F.has]
  rfl
theorem inM_yes {d : Nat → Int} {m k : Nat} (hk : k < m) (h : 0 ≤ d k) : inM d m k = true := decide_eq_true ⟨by omega, by omega, by rw [Int.toNat_natCast]; exact h⟩
theorem inM_no {d : Nat → Int} {m k : Nat} (h : d k < 0) : inM d m k = false := decide_eq_false (fun h1 => by have := h1.2.2; rw [Int.toNat_natCast] at this; omega)

/-- the best place so far and its value: (-1, 0) if there is none. -/
def ffS (d : Nat → Int) : Nat → Int × Int
  | 0 => (-1, 0)
  | k + 1 => if 0 ≤ d k ∧ ((ffS d k).1 < 0 ∨ d k < (ffS d k).2) then ((k : Int), d k) else ffS d k
theorem ff_spec (d : Nat → Int) (k : Nat) : (ffS d k = (-1, 0) ∧ ∀ j, j < k → d j < 0) ∨ ∃ j : Nat, j < k ∧ ffS d k = ((j : Int), d j) ∧ 0 ≤ d j := by
  induction k with
  | zero => left; exact ⟨rfl, fun j hj => by omega⟩
  | succ k ih =>
    unfold ffS
    split
    · rename_i h
      right; exact ⟨k, by omega, rfl, h.1⟩
    · rename_i h
      rcases ih with ⟨h1, h2⟩ | ⟨j, hj, h1, h2⟩
      · left
        refine ⟨h1, fun j hj => ?_⟩
        by_cases e : j = k
        · subst e
          rw [h1] at h
          have h3 : ¬ (0 ≤ d j ∧ ((-1 : Int) < 0 ∨ d j < 0)) := h
          omega
        · exact h2 j (by omega)
      · right; exact ⟨j, by omega, h1, h2⟩
theorem ff_skip {d : Nat → Int} {k : Nat} (h : d k < 0) : ffS d (k + 1) = ffS d k := by
  show (if _ then _ else _) = _
  rw [if_neg (by omega)]
theorem ff_first {d : Nat → Int} {k : Nat} (h : 0 ≤ d k) (h0 : ffS d k = (-1, 0)) : ffS d (k + 1) = ((k : Int), d k) := by
  show (if _ then _ else _) = _
  rw [if_pos ⟨h, .inl (by rw [h0]; show (-1 : Int) < 0; omega)⟩]
theorem ff_less {d : Nat → Int} {k j : Nat} (h : 0 ≤ d k) (h0 : ffS d k = ((j : Int), d j)) (hl : d k < d j) : ffS d (k + 1) = ((k : Int), d k) := by
  show (if _ then _ else _) = _
  rw [if_pos ⟨h, .inr (by rw [h0]; exact hl)⟩]
theorem ff_more {d : Nat → Int} {k j : Nat} (h0 : ffS d k = ((j : Int), d j)) (hl : ¬ d k < d j) : ffS d (k + 1) = ffS d k := by
  show (if _ then _ else _) = _
  rw [if_neg]
  rw [h0]
  rintro ⟨_, h1 | h1⟩
  · have h2 : (j : Int) < 0 := h1
    omega
  · exact hl h1
def firstV (l : List SKind.R) (wt : Int) (s : List Int) : Value :=
  if liqB l wt s = true then
    (if (ffS (dryAt l s wt) l.length).1 < 0 then .tuple #[.int .i64 0, .int .i64 0, .bool false] else .tuple #[.int .i64 (ffS (dryAt l s wt) l.length).1, .int .i64 (ffS (dryAt l s wt) l.length).2, .bool true])
  else .tuple #[.int .i64 0, .int .i64 0, .bool false]
theorem firstV_form (l : List SKind.R) (wt : Int) (s : List Int) : ∃ x y q, firstV l wt s = .tuple #[.int .i64 x, .int .i64 y, .bool q] := by
  unfold firstV
  repeat' split
  all_goals exact ⟨_, _, _, rfl⟩
theorem first_bad {l : List SKind.R} {wt : Int} {s : List Int} (h : liqB l wt s = false) : firstV l wt s = .tuple #[.int .i64 0, .int .i64 0, .bool false] := by unfold firstV; rw [h]; rfl
theorem first_no {l : List SKind.R} {wt : Int} {s : List Int} (h0 : ffS (dryAt l s wt) l.length = (-1, 0)) : firstV l wt s = .tuple #[.int .i64 0, .int .i64 0, .bool false] := by
  unfold firstV
  rw [h0]
  split
  · rfl
  · rfl
theorem first_yes {l : List SKind.R} {wt : Int} {s : List Int} (h : liqB l wt s = true) {j : Nat} {v : Int} (h0 : ffS (dryAt l s wt) l.length = ((j : Int), v)) : firstV l wt s = .tuple #[.int .i64 j, .int .i64 v, .bool true] := by
  unfold firstV
  rw [if_pos h, h0]
  exact if_neg (by show ¬ (j : Int) < 0; omega)
/-- the greatest water that may go without too much of another kind. -/
def hiS (d : Nat → Int) (i : Nat) (wt : Int) : Nat → Int
  | 0 => wt
  | k + 1 => if k ≠ i ∧ 0 ≤ d k then least (hiS d i wt k) (d k - 1) else hiS d i wt k
theorem hi_skip {d : Nat → Int} {i k : Nat} {wt : Int} (h : k = i ∨ d k < 0) : hiS d i wt (k + 1) = hiS d i wt k := by
  show (if _ then _ else _) = _
  rw [if_neg (by omega)]
theorem hi_take {d : Nat → Int} {i k : Nat} {wt : Int} (h : k ≠ i) (h0 : 0 ≤ d k) : hiS d i wt (k + 1) = least (hiS d i wt k) (d k - 1) := by
  show (if _ then _ else _) = _
  rw [if_pos ⟨h, h0⟩]
theorem least_le (a b : Int) : least a b ≤ a ∧ least a b ≤ b ∧ (least a b = a ∨ least a b = b) := by unfold least; split <;> omega
theorem hi_spec (d : Nat → Int) (i : Nat) (wt : Int) (k : Nat) : hiS d i wt k ≤ wt ∧ (∀ j : Nat, j < k → j ≠ i → 0 ≤ d j → hiS d i wt k ≤ d j - 1) ∧ (hiS d i wt k = wt ∨ ∃ j : Nat, j < k ∧ j ≠ i ∧ 0 ≤ d j ∧ hiS d i wt k = d j - 1) := by
  induction k with
  | zero => exact ⟨Int.le_refl _, fun j hj => by omega, .inl rfl⟩
  | succ k ih =>
    obtain ⟨h1, h2, h3⟩ := ih
    by_cases h : k ≠ i ∧ 0 ≤ d k
    · rw [hi_take h.1 h.2]
      obtain ⟨e1, e2, e3⟩ := least_le (hiS d i wt k) (d k - 1)
      refine ⟨by omega, fun j hj hi hd => ?_, ?_⟩
      · by_cases e : j = k
        · subst e; exact e2
        · have := h2 j (by omega) hi hd; omega
      · rcases e3 with e3 | e3
        · rcases h3 with h3 | ⟨j, q1, q2, q3, q4⟩
          · left; omega
          · right; exact ⟨j, by omega, q2, q3, by omega⟩
        · right; exact ⟨k, by omega, h.1, h.2, e3⟩
    · rw [hi_skip (by omega)]
      refine ⟨h1, fun j hj hi hd => ?_, ?_⟩
      · by_cases e : j = k
        · subst e; exact absurd ⟨hi, hd⟩ h
        · exact h2 j (by omega) hi hd
      · rcases h3 with h3 | ⟨j, q1, q2, q3, q4⟩
        · exact .inl h3
        · right; exact ⟨j, by omega, q2, q3, q4⟩
theorem hi_char {d : Nat → Int} {i n : Nat} {wt m : Int} (h1 : m ≤ wt) (h2 : ∀ j : Nat, j < n → j ≠ i → 0 ≤ d j → m ≤ d j - 1) (h3 : m = wt ∨ ∃ j : Nat, j < n ∧ j ≠ i ∧ 0 ≤ d j ∧ m = d j - 1) : m = hiS d i wt n := by
  obtain ⟨e1, e2, e3⟩ := hi_spec d i wt n
  have a : m ≤ hiS d i wt n := by
    rcases e3 with e | ⟨j, q1, q2, q3, q4⟩
    · omega
    · have := h2 j q1 q2 q3; omega
  have b : hiS d i wt n ≤ m := by
    rcases h3 with e | ⟨j, q1, q2, q3, q4⟩
    · omega
    · have := e2 j q1 q2 q3; omega
  omega
def pureV (l : List SKind.R) (wt : Int) (s : List Int) (i : Int) : Value :=
  if askB l wt s i = true then
    (if dryAt l s wt i.toNat < 0 ∨ hiS (dryAt l s wt) i.toNat wt l.length < dryAt l s wt i.toNat then .tuple #[.int .i64 0, .int .i64 0, .bool false] else .tuple #[.int .i64 (dryAt l s wt i.toNat), .int .i64 (hiS (dryAt l s wt) i.toNat wt l.length), .bool true])
  else .tuple #[.int .i64 0, .int .i64 0, .bool false]
theorem pureV_form (l : List SKind.R) (wt : Int) (s : List Int) (i : Int) : ∃ x y q, pureV l wt s i = .tuple #[.int .i64 x, .int .i64 y, .bool q] := by
  unfold pureV
  repeat' split
  all_goals exact ⟨_, _, _, rfl⟩
theorem pure_bad {l : List SKind.R} {wt : Int} {s : List Int} {i : Int} (h : askB l wt s i = false) : pureV l wt s i = .tuple #[.int .i64 0, .int .i64 0, .bool false] := by unfold pureV; rw [h]; rfl
theorem pure_no {l : List SKind.R} {wt : Int} {s : List Int} {k : Nat} (h : dryAt l s wt k < 0 ∨ hiS (dryAt l s wt) k wt l.length < dryAt l s wt k) : pureV l wt s k = .tuple #[.int .i64 0, .int .i64 0, .bool false] := by
  unfold pureV
  rw [Int.toNat_natCast, if_pos h]
  split <;> rfl
theorem pure_yes {l : List SKind.R} {wt : Int} {s : List Int} {k : Nat} (ha : askB l wt s k = true) (h : ¬ (dryAt l s wt k < 0)) (h2 : ¬ (hiS (dryAt l s wt) k wt l.length < dryAt l s wt k)) : pureV l wt s k = .tuple #[.int .i64 (dryAt l s wt k), .int .i64 (hiS (dryAt l s wt) k wt l.length), .bool true] := by
  unfold pureV
  rw [if_pos ha, Int.toNat_natCast, if_neg (by omega)]
theorem most_max (a b : Int) : most a b = max a b := by unfold most; split <;> omega
theorem least_min (a b : Int) : least a b = min a b := by unfold least; split <;> omega
end Go.Proofs.Ythilbpklmjpmcaa.StartP
