/- Workers: who is found, put, changed, spared; sizes and differences: as plain functions. -/
import Derived.Test.YtdikekecbapcaaaWork
namespace Go.Proofs.Ytdikekecbapcaaa.Work2
open Go.RowKit Go.Proofs.Ytdikekecbapcaaa.Mem Go.Proofs.Ytdikekecbapcaaa.Base Go.Proofs.Ytdikekecbapcaaa.SWorker Go.Proofs.Ytdikekecbapcaaa.Work
set_option linter.unusedVariables false
/-- the index of the worker with this number in a sound list, or -1. -/
def find (l : List R) (id : Int) : Int := if good l = true then (match l.findIdx? (fun x => x.f0 == id) with | some i => (i : Int) | none => -1) else -1
def Not (l : List R) (id : Int) (k : Nat) : Prop := ∀ j (h : j < l.length), j < k → l[j].f0 ≠ id
theorem find_bad {l : List R} {id : Int} (h : good l = false) : find l id = -1 := by unfold find; rw [h]; rfl
theorem find_at {l : List R} {id : Int} {k : Nat} (hg : good l = true) (hk : k < l.length) (hn : Not l id k) (he : l[k].f0 = id) : find l id = k := by
  unfold find
  rw [if_pos hg]
  have : l.findIdx? (fun x => x.f0 == id) = some k := by
    rw [List.findIdx?_eq_some_iff_getElem]
    exact ⟨hk, by simp [he], fun j hj => by simpa using hn j (by omega) hj⟩
  rw [this]
theorem find_none {l : List R} {id : Int} (hn : Not l id l.length) : find l id = -1 := by
  unfold find
  split
  · have : l.findIdx? (fun x => x.f0 == id) = none := by
      rw [List.findIdx?_eq_none_iff]
      intro x hx
      obtain ⟨j, hj, rfl⟩ := List.getElem_of_mem hx
      simpa using hn j hj hj
    rw [this]
  · rfl
theorem Not.next {l : List R} {id : Int} {k : Nat} (h : Not l id k) (hk : k < l.length) (he : l[k].f0 ≠ id) : Not l id (k + 1) := fun j hj hj2 => by
  rcases Nat.lt_or_ge j k with h1 | h1
  · exact h j hj h1
  · have : j = k := by omega
    subst this; exact he
theorem find_range {l : List R} {id : Int} : -1 ≤ find l id ∧ find l id < l.length := by
  unfold find
  split
  · split
    · rename_i i h
      have := (List.findIdx?_eq_some_iff_getElem.1 h).1
      omega
    · omega
  · omega
theorem find_ok {l : List R} {id : Int} (h : 0 ≤ find l id) : ∃ k : Nat, find l id = k ∧ ∃ hk : k < l.length, l[k].f0 = id ∧ good l = true := by
  unfold find at *
  split at h
  · rename_i hg
    rw [if_pos hg]
    split at h
    · rename_i i hi
      obtain ⟨h1, h2, _⟩ := List.findIdx?_eq_some_iff_getElem.1 hi
      exact ⟨i, rfl, h1, by simpa using h2, hg⟩
    · omega
  · omega
def at_ (l : List R) (i : Int) : R := l.getD i.toNat zero
/-- a worker in another gang; one with another free day. -/
def inG (x : R) (g : Int) : R := ⟨x.f0, g, x.f2, x.f3, x.f4⟩
def onF (x : R) (f : Int) : R := ⟨x.f0, x.f1, x.f2, x.f3, f⟩
def putOk (l : List R) (id g : Int) : Bool := decide (0 ≤ find l id) && inB g 0 5 && (at_ l (find l id)).f1 != g
def putL (l : List R) (id g : Int) : List R := if putOk l id g = true then l.set (find l id).toNat (inG (at_ l (find l id)) g) else []
theorem at_k {l : List R} {i : Int} {k : Nat} {x : R} (h : i = k) (hk : k < l.length) (hx : l[k] = x) : at_ l i = x := by
  subst h; unfold at_; rw [Int.toNat_natCast, getD_at hk, hx]
theorem put_yes {l : List R} {id g : Int} {k : Nat} {x : R} (h : find l id = k) (hk : k < l.length) (hx : l[k] = x) (hg : inB g 0 5 = true) (hne : x.f1 ≠ g) : putOk l id g = true ∧ putL l id g = l.set k (inG x g) := by
  have h1 : putOk l id g = true := by unfold putOk; rw [at_k h hk hx, h, hg, bne_iff_ne.2 hne, decide_eq_true (by omega)]; rfl
  refine ⟨h1, ?_⟩
  unfold putL
  rw [if_pos h1, at_k h hk hx, h, Int.toNat_natCast]
theorem put_no {l : List R} {id g : Int} (h : putOk l id g = false) : putL l id g = [] := by unfold putL; rw [h]; rfl
theorem put_none {l : List R} {id g : Int} (h : find l id < 0) : putOk l id g = false := by unfold putOk; rw [decide_eq_false (by omega)]; rfl
theorem put_gang {l : List R} {id g : Int} (h : inB g 0 5 = false) : putOk l id g = false := by unfold putOk; rw [h, Bool.and_false]; rfl
theorem put_same {l : List R} {id g : Int} {k : Nat} {x : R} (h : find l id = k) (hk : k < l.length) (hx : l[k] = x) (he : x.f1 = g) : putOk l id g = false := by
  unfold putOk; rw [at_k h hk hx, he]; simp

/-- with another free day. -/
def chg (l : List R) (i : Nat) (f : Int) : List R := l.set i (onF (l.getD i zero) f)
theorem chg_len (l : List R) (i : Nat) (f : Int) : (chg l i f).length = l.length := by simp [chg]
theorem chg_sane {l : List R} (h : Sane l) {i : Nat} (hi : i < l.length) (f : Int) : Sane (chg l i f) := by
  unfold chg
  rw [getD_at hi]
  exact h.set i _ (h.2 l[i] (List.getElem_mem hi))
theorem chg_chg (l : List R) (i : Nat) (f g : Int) (hi : i < l.length) : chg (chg l i f) i g = chg l i g := by
  unfold chg
  have e : (l.set i (onF (l.getD i zero) f)).getD i zero = onF (l.getD i zero) f := by rw [getD_at (by rw [List.length_set]; exact hi), List.getElem_set_self]
  rw [e, List.set_set]
  rfl
def gangs (l : List R) (n : Nat) : Int := ((List.range n).map fun (k : Nat) => weekSum l ((k : Int) + 1)).sum
theorem gangs_snoc (l : List R) (n : Nat) : gangs l (n + 1) = gangs l n + weekSum l ((n : Int) + 1) := by simp [gangs, List.range_succ]
theorem gangs_bd {l : List R} (h : Sane l) (n : Nat) : 0 ≤ gangs l n ∧ gangs l n ≤ 4200 * n := by
  induction n with
  | zero => simp [gangs]
  | succ n ih =>
    rw [gangs_snoc]
    have := weekSum_bd h ((n : Int) + 1)
    omega
def allOf (l : List R) : Int := gangs l 5
theorem allOf_bd {l : List R} (h : Sane l) : 0 ≤ allOf l ∧ allOf l ≤ 21000 := by have := gangs_bd h 5; unfold allOf; omega
/-- the best of the first n free days, and how much. -/
def bestN (l : List R) (i : Nat) (s : Int) : Nat → Int × Int
  | 0 => (0, s)
  | n + 1 => if (bestN l i s n).2 < allOf (chg l i n) then ((n : Int), allOf (chg l i n)) else bestN l i s n
theorem bestN_more {l : List R} {i : Nat} {s : Int} {n : Nat} (h : (bestN l i s n).2 < allOf (chg l i n)) : bestN l i s (n + 1) = ((n : Int), allOf (chg l i n)) := by rw [bestN, if_pos h]
theorem bestN_less {l : List R} {i : Nat} {s : Int} {n : Nat} (h : ¬ (bestN l i s n).2 < allOf (chg l i n)) : bestN l i s (n + 1) = bestN l i s n := by rw [bestN, if_neg h]
theorem bestN_one {l : List R} (h : Sane l) {i : Nat} (hi : i < l.length) : bestN l i 0 1 = bestN l i (-1) 1 := by
  have h0 := allOf_bd (chg_sane h hi ((0 : Nat) : Int))
  rw [bestN_more (s := -1) (n := 0) (by show (-1 : Int) < _; omega)]
  by_cases h1 : (0 : Int) < allOf (chg l i ((0 : Nat) : Int))
  · rw [bestN_more (s := 0) (n := 0) h1]
  · rw [bestN_less (s := 0) (n := 0) h1]
    exact Prod.ext rfl (by show (0 : Int) = allOf (chg l i ((0 : Nat) : Int)); omega)
theorem bestN_same {l : List R} (h : Sane l) {i : Nat} (hi : i < l.length) (n : Nat) : bestN l i 0 (n + 1) = bestN l i (-1) (n + 1) := by
  induction n with
  | zero => exact bestN_one h hi
  | succ n ih =>
    by_cases h1 : (bestN l i 0 (n + 1)).2 < allOf (chg l i ((n + 1 : Nat) : Int))
    · rw [bestN_more h1, bestN_more (by rw [← ih]; exact h1)]
    · rw [bestN_less (n := n + 1) h1, bestN_less (n := n + 1) (by rw [← ih]; exact h1), ih]
theorem bestN_bd {l : List R} (h : Sane l) {i : Nat} (hi : i < l.length) {s : Int} (hs : -1 ≤ s ∧ s ≤ 0) (n : Nat) : 0 ≤ (bestN l i s n).1 ∧ (bestN l i s n).1 ≤ n ∧ s ≤ (bestN l i s n).2 ∧ (bestN l i s n).2 ≤ 21000 := by
  induction n with
  | zero => simp only [bestN]; omega
  | succ n ih =>
    have := allOf_bd (chg_sane h hi n)
    simp only [bestN]
    split
    · dsimp only; omega
    · omega
def chgV (l : List R) (id : Int) : Value :=
  if 0 ≤ find l id then .tuple #[.int .i64 (bestN l (find l id).toNat 0 7).1, .int .i64 (bestN l (find l id).toNat 0 7).2, .bool true] else .tuple #[.int .i64 0, .int .i64 0, .bool false]

/-- who is spare of those that are there. -/
def spares (p q : List R) : List Int := (q.filter fun x => works (p.filter fun y => y.f0 != x.f0)).map R.f0
def spareL (l : List R) (g d : Int) : List Int := if onOk l g d = true then spares (pres l g (day7 d)) (pres l g (day7 d)) else []
theorem spares_yes {p q : List R} {x : R} (h : works (p.filter fun y => y.f0 != x.f0) = true) : spares p (q ++ [x]) = spares p q ++ [x.f0] := by simp [spares, List.filter_append, h]
theorem spares_no {p q : List R} {x : R} (h : works (p.filter fun y => y.f0 != x.f0) = false) : spares p (q ++ [x]) = spares p q := by simp [spares, List.filter_append, h]
theorem spares_len (p q : List R) : (spares p q).length ≤ q.length := by unfold spares; rw [List.length_map]; exact List.length_filter_le _ _
theorem out_one {p : List R} (h : p.Pairwise (fun x y => x.f0 < y.f0)) (k : Nat) (hk : k < p.length) : (p.filter fun y => y.f0 != p[k].f0) = p.take k ++ p.drop (k + 1) := by
  have e : p = p.take k ++ p[k] :: p.drop (k + 1) := by rw [← List.drop_eq_getElem_cons hk, List.take_append_drop]
  have hp := List.pairwise_iff_getElem.1 h
  obtain ⟨x, hx⟩ : ∃ x, x = p[k] := ⟨_, rfl⟩
  rw [← hx] at e ⊢
  have e2 : (p.filter fun y => y.f0 != x.f0) = (p.take k ++ x :: p.drop (k + 1)).filter fun y => y.f0 != x.f0 := congrArg _ e
  rw [e2, List.filter_append, List.filter_cons_of_neg (by simp)]
  subst hx
  congr 1
  · rw [List.filter_eq_self]
    intro y hy
    obtain ⟨j, hj, rfl⟩ := List.getElem_of_mem hy
    rw [List.length_take] at hj
    rw [List.getElem_take]
    have := hp j k (by omega) hk (by omega)
    exact bne_iff_ne.2 (by omega)
  · rw [List.filter_eq_self]
    intro y hy
    obtain ⟨j, hj, rfl⟩ := List.getElem_of_mem hy
    rw [List.length_drop] at hj
    rw [List.getElem_drop]
    have := hp k (k + 1 + j) hk (by omega) (by omega)
    exact bne_iff_ne.2 (by omega)

/-- how many of the gang. -/
def size (l : List R) (g : Nat) : Nat := l.countP fun x => x.f1 == (g : Int)
def sizes (l : List R) : List Int := (List.range 6).map fun g => (size l g : Int)
theorem sizes_set {l : List R} {k : Nat} {x : R} (hk : k < l.length) (hx : l[k] = x) (h : 0 ≤ x.f1 ∧ x.f1 ≤ 5) :
    (sizes (l.take k)).set x.f1.toNat ((size (l.take k) x.f1.toNat : Int) + 1) = sizes (l.take (k + 1)) := by
  apply List.ext_getElem?
  intro j
  rw [List.take_succ_eq_append_getElem hk, hx]
  unfold sizes size
  rw [List.getElem?_set]
  by_cases hj : j < 6
  · by_cases e : x.f1.toNat = j
    · subst e
      have e2 : ((x.f1.toNat : Nat) : Int) = x.f1 := by omega
      simp [hj, List.countP_append, e2]
    · have e2 : ¬ x.f1 = (j : Int) := by omega
      simp [hj, e, List.countP_append, e2]
  · have e : ¬ x.f1.toNat = j := by omega
    rw [if_neg e]
    simp [hj]
theorem sizes_len (l : List R) : (sizes l).length = 6 := by simp [sizes]
theorem sizes_get (l : List R) (g : Nat) (h : g < 6) : (sizes l)[g]? = some (size l g : Int) := by simp [sizes, h]
theorem sizes_nil : sizes [] = List.replicate 6 0 := rfl
def sizesL (l : List R) : List Int := if good l = true then sizes l else []
/-- the weeks of the gangs with a worker, of the first n. -/
def weeksN (l : List R) (n : Nat) : List Int := ((List.range n).filter fun (k : Nat) => decide (size l (k + 1) ≠ 0)).map fun (k : Nat) => weekSum l ((k : Int) + 1)
theorem weeksN_yes {l : List R} {n : Nat} (h : size l (n + 1) ≠ 0) : weeksN l (n + 1) = weeksN l n ++ [weekSum l ((n : Int) + 1)] := by simp [weeksN, List.range_succ, List.filter_append, h]
theorem weeksN_no {l : List R} {n : Nat} (h : size l (n + 1) = 0) : weeksN l (n + 1) = weeksN l n := by simp [weeksN, List.range_succ, List.filter_append, h]
theorem weeksN_bd {l : List R} (h : Sane l) (n : Nat) : (weeksN l n).length ≤ n ∧ ∀ x ∈ weeksN l n, 0 ≤ x ∧ x ≤ 4200 := by
  constructor
  · unfold weeksN; rw [List.length_map]; exact Nat.le_trans (List.length_filter_le _ _) (by simp)
  · intro x hx
    unfold weeksN at hx
    obtain ⟨k, _, rfl⟩ := List.mem_map.1 hx
    exact weekSum_bd h _
def low (a n : Int) : Int := if a < 0 ∨ n < a then n else a
def lo (ws : List Int) : Int := ws.foldl low (-1)
def hi (ws : List Int) : Int := ws.foldl most (-1)
theorem lo_snoc (ws : List Int) (n : Int) : lo (ws ++ [n]) = low (lo ws) n := by simp [lo, List.foldl_append]
theorem hi_snoc (ws : List Int) (n : Int) : hi (ws ++ [n]) = most (hi ws) n := by simp [hi, List.foldl_append]
theorem lo_hi {ws : List Int} (h : ∀ x ∈ ws, 0 ≤ x ∧ x ≤ 4200) : ∀ k, k ≤ ws.length → (k = 0 → lo (ws.take k) = -1 ∧ hi (ws.take k) = -1) ∧ (1 ≤ k → 0 ≤ lo (ws.take k) ∧ lo (ws.take k) ≤ hi (ws.take k) ∧ hi (ws.take k) ≤ 4200) := by
  intro k
  induction k with
  | zero => intro _; exact ⟨fun _ => by simp [lo, hi], fun h => by omega⟩
  | succ k ih =>
    intro hk
    refine ⟨fun h0 => by omega, fun _ => ?_⟩
    rw [List.take_succ_eq_append_getElem (by omega), lo_snoc, hi_snoc]
    have hb := h ws[k] (List.getElem_mem (by omega))
    have := ih (by omega)
    unfold low most
    rcases Nat.eq_zero_or_pos k with h0 | h0
    · have := this.1 h0
      split <;> split <;> omega
    · have := this.2 h0
      split <;> split <;> omega
theorem lo_bd {ws : List Int} (h : ∀ x ∈ ws, 0 ≤ x ∧ x ≤ 4200) : -1 ≤ lo ws ∧ lo ws ≤ hi ws ∧ hi ws ≤ 4200 := by
  have := lo_hi h ws.length (Nat.le_refl _)
  rw [List.take_length] at this
  rcases Nat.eq_zero_or_pos ws.length with h0 | h0
  · have := this.1 h0; omega
  · have := this.2 h0; omega
theorem lo_few {ws : List Int} (h : ∀ x ∈ ws, 0 ≤ x ∧ x ≤ 4200) (hl : ws.length < 2) : hi ws - lo ws = 0 := by
  match ws, hl, h with
  | [], _, _ => simp [lo, hi]
  | [a], _, h =>
    have := h a (by simp)
    simp only [lo, hi, List.foldl_cons, List.foldl_nil, low, most]
    split <;> split <;> omega
def evenV (l : List R) : Value := if good l = true then .tuple #[.int .i64 (hi (weeksN l 5) - lo (weeksN l 5)), .bool true] else .tuple #[.int .i64 0, .bool false]
end Go.Proofs.Ytdikekecbapcaaa.Work2
