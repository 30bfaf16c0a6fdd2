/- Heaps: the heap on which a layer is put best, as plain functions. -/
import Derived.Test.YtokgncbcknpfiaaDoorHeap
namespace Go.Proofs.YtokgncbcknpfiaaDoor.Heap2
open Go.RowKit Go.Proofs.YtokgncbcknpfiaaDoor.Mem Go.Proofs.YtokgncbcknpfiaaDoor.Base Go.Proofs.YtokgncbcknpfiaaDoor.HeapS Go.Proofs.YtokgncbcknpfiaaDoor.Heap
set_option linter.unusedVariables false
/-- the tons of the highest layer; of an empty heap: e. -/
def topE (e : Int) (ls : List Int) : Int := ls.getLastD e
theorem topE_nil (e : Int) {ls : List Int} (h : ls.length = 0) : topE e ls = e := by
  have : ls = [] := List.eq_nil_of_length_eq_zero h
  subst this; rfl
theorem topE_last (e : Int) {ls : List Int} {k : Nat} {x : Int} (h : ls.length = k + 1) (hx : ls[k]'(by omega) = x) : topE e ls = x := by
  unfold topE
  rw [List.getLastD_eq_getLast?, List.getLast?_eq_getElem?, h, Nat.add_sub_cancel, List.getElem?_eq_getElem (by omega), hx]; rfl
theorem topE_bd {e : Int} {ls : List Int} (h : ∀ y ∈ ls, 1 ≤ y ∧ y ≤ 500) : (ls = [] ∧ topE e ls = e) ∨ (ls ≠ [] ∧ 1 ≤ topE e ls ∧ topE e ls ≤ 500 ∧ ∀ f, topE f ls = topE e ls) := by
  rcases Nat.eq_zero_or_pos ls.length with h0 | h0
  · exact .inl ⟨List.eq_nil_of_length_eq_zero h0, topE_nil e h0⟩
  · obtain ⟨k, hk⟩ : ∃ k, ls.length = k + 1 := ⟨ls.length - 1, by omega⟩
    have hb := h ls[k] (List.getElem_mem (by omega))
    rw [topE_last e hk rfl]
    exact .inr ⟨fun e => by subst e; simp at hk, hb.1, hb.2, fun f => topE_last f hk rfl⟩
theorem topE_cmp {ls ms : List Int} (h : ∀ y ∈ ls, 1 ≤ y ∧ y ≤ 500) (k : ∀ y ∈ ms, 1 ≤ y ∧ y ≤ 500) : (topE 501 ls < topE 501 ms) ↔ (topE 1000 ls < topE 1000 ms) := by
  rcases topE_bd (e := 501) h with ⟨a, b⟩ | ⟨a, b, c, d⟩ <;> rcases topE_bd (e := 501) k with ⟨a', b'⟩ | ⟨a', b', c', d'⟩
  · subst a; subst a'; simp
  · subst a; rw [d' 1000]; simp [topE] at *; omega
  · subst a'; rw [d 1000]; simp [topE] at *; omega
  · rw [d 1000, d' 1000]
def pick (e : Int) (l : List H) (g t : Int) : Nat → Option Nat
  | 0 => none
  | n + 1 => match pick e l g t n with
    | none => if can (l.getD n hz) g t = true then some n else none
    | some b => if can (l.getD n hz) g t = true ∧ topE e (l.getD n hz).ls < topE e (l.getD b hz).ls then some n else some b
theorem pick_no {e : Int} {l : List H} {g t : Int} {n : Nat} {x : H} (hn : n < l.length) (hx : l[n] = x) (h : can x g t = false) : pick e l g t (n + 1) = pick e l g t n := by
  rw [pick, h_at hn, hx]
  cases pick e l g t n with
  | none => simp [h]
  | some b => simp [h]
theorem pick_first {e : Int} {l : List H} {g t : Int} {n : Nat} {x : H} (hn : n < l.length) (hx : l[n] = x) (hp : pick e l g t n = none) (h : can x g t = true) : pick e l g t (n + 1) = some n := by
  rw [pick, h_at hn, hx, hp]; simp [h]
theorem pick_low {e : Int} {l : List H} {g t : Int} {n b : Nat} {x y : H} (hn : n < l.length) (hx : l[n] = x) (hp : pick e l g t n = some b) (hb : b < l.length) (hy : l[b] = y) (h : can x g t = true) (h2 : topE e x.ls < topE e y.ls) : pick e l g t (n + 1) = some n := by
  rw [pick, h_at hn, hx, hp]; simp only []; rw [h_at hb, hy, if_pos ⟨h, h2⟩]
theorem pick_high {e : Int} {l : List H} {g t : Int} {n b : Nat} {x y : H} (hn : n < l.length) (hx : l[n] = x) (hp : pick e l g t n = some b) (hb : b < l.length) (hy : l[b] = y) (h2 : ¬ topE e x.ls < topE e y.ls) : pick e l g t (n + 1) = some b := by
  rw [pick, h_at hn, hx, hp]; simp only []; rw [h_at hb, hy, if_neg (fun h => h2 h.2)]
theorem pick_ok {e : Int} {l : List H} {g t : Int} : ∀ {n b : Nat}, n ≤ l.length → pick e l g t n = some b → b < n ∧ can (l.getD b hz) g t = true := by
  intro n
  induction n with
  | zero => intro b _ h; cases h
  | succ n ih =>
    intro b hn h
    rw [pick] at h
    split at h
    · split at h
      · rename_i h2; cases h; exact ⟨by omega, h2⟩
      · cases h
    · rename_i c hc
      split at h
      · rename_i h2; cases h; exact ⟨by omega, h2.1⟩
      · cases h
        have := ih (by omega) hc
        exact ⟨by omega, this.2⟩
theorem pick_none {e : Int} {l : List H} {g t : Int} : ∀ {n : Nat}, (∀ x ∈ l, can x g t = false) → n ≤ l.length → pick e l g t n = none := by
  intro n
  induction n with
  | zero => intro _ _; rfl
  | succ n ih =>
    intro h hn
    rw [pick_no (by omega) rfl (h _ (List.getElem_mem (by omega)))]
    exact ih h (by omega)
theorem pick_same {l : List H} {g t : Int} (h : ∀ x ∈ l, ∀ y ∈ x.ls, 1 ≤ y ∧ y ≤ 500) : ∀ {n : Nat}, n ≤ l.length → pick 501 l g t n = pick 1000 l g t n := by
  intro n
  induction n with
  | zero => intro _; rfl
  | succ n ih =>
    intro hn
    rw [pick, pick, ih (by omega)]
    cases hp : pick 1000 l g t n with
    | none => rfl
    | some b =>
      have hb := (pick_ok (by omega) hp).1
      simp only []
      have hc := topE_cmp (ls := (l.getD n hz).ls) (ms := (l.getD b hz).ls) (by rw [h_at (show n < l.length by omega)]; exact h _ (List.getElem_mem _)) (by rw [h_at (show b < l.length by omega)]; exact h _ (List.getElem_mem _))
      simp only [hc]
/-- as the model writes it: -1 for none. -/
def pInt : Option Nat → Int
  | none => -1
  | some b => b
def pTuple : Option Nat → Value
  | none => .tuple #[.int .i64 0, .bool false]
  | some b => .tuple #[.int .i64 b, .bool true]
def forO (l : List H) (o : Option Nat) : Value := match o with
  | none => .tuple #[.int .i64 0, .bool false]
  | some b => .tuple #[.int .i64 (l.getD b hz).id, .bool true]
def forV (l : List H) (g t : Int) : Value := if good l = true then forO l (pick 501 l g t l.length) else forO l none
theorem forV_bad {l : List H} {g t : Int} (h : good l = false) : forV l g t = .tuple #[.int .i64 0, .bool false] := by unfold forV; rw [h]; rfl
theorem forV_none {l : List H} {g t : Int} (h : pick 501 l g t l.length = none) : forV l g t = .tuple #[.int .i64 0, .bool false] := by
  unfold forV; split
  · rw [h]; rfl
  · rfl
theorem forV_some {l : List H} {g t : Int} {b : Nat} {x : H} (hg : good l = true) (h : pick 501 l g t l.length = some b) (hb : b < l.length) (hx : l[b] = x) : forV l g t = .tuple #[.int .i64 x.id, .bool true] := by
  unfold forV forO; rw [if_pos hg, h]; simp only []; rw [h_at hb, hx]
theorem good_bd {l : List H} (h : good l = true) : ∀ x ∈ l, ∀ y ∈ x.ls, 1 ≤ y ∧ y ≤ 500 := fun x hx y hy => okLs_mem (okH_true (good_mem h x hx)).2.2.2.2 y hy
theorem forV_grade {l : List H} {g t : Int} (h : inB g 1 4 = false) : forV l g t = .tuple #[.int .i64 0, .bool false] := by
  cases hg : good l
  · exact forV_bad hg
  · refine forV_none (pick_none (fun x hx => ?_) (Nat.le_refl _))
    have := okH_true (good_mem hg x hx)
    unfold can
    rw [decide_eq_false (fun e => of_not_inB h (by rw [← e]; exact ⟨this.2.2.1, this.2.2.2.1⟩))]; rfl
theorem forV_tons {l : List H} {g t : Int} (h : inB t 1 500 = false) : forV l g t = .tuple #[.int .i64 0, .bool false] := by
  refine forV_none (pick_none (fun x hx => ?_) (Nat.le_refl _))
  unfold can
  cases ho : okLs (x.ls ++ [t])
  · rw [Bool.and_false]
  · have := okLs_append.1 ho
    exact absurd ⟨this.2.1, this.2.2.1⟩ (of_not_inB h)
theorem forV_form (l : List H) (g t : Int) : ∃ x q, forV l g t = .tuple #[.int .i64 x, .bool q] := by
  unfold forV
  split
  · cases pick 501 l g t l.length with
    | none => exact ⟨_, _, rfl⟩
    | some b => exact ⟨_, _, rfl⟩
  · exact ⟨_, _, rfl⟩
theorem tonsV_form (l : List H) (g : Int) : ∃ x q, tonsV l g = .tuple #[.int .i64 x, .bool q] := by
  unfold tonsV; split <;> exact ⟨_, _, rfl⟩
end Go.Proofs.YtokgncbcknpfiaaDoor.Heap2
