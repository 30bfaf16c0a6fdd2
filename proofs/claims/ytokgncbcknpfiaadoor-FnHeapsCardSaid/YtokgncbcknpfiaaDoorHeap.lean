/- Heaps: what the functions of chapter 7 say, as plain functions. -/
import Derived.Test.YtokgncbcknpfiaaDoorHeapS
namespace Go.Proofs.YtokgncbcknpfiaaDoor.Heap
open Go.RowKit Go.Proofs.YtokgncbcknpfiaaDoor.Mem Go.Proofs.YtokgncbcknpfiaaDoor.Base Go.Proofs.YtokgncbcknpfiaaDoor.HeapS
set_option linter.unusedVariables false
def upTo (f : Nat → Bool) (n : Nat) : Bool := (List.range n).all f
def Ok (f : Nat → Bool) (k : Nat) : Prop := ∀ j, j < k → f j = true
theorem upTo_no {f : Nat → Bool} {n k : Nat} (hk : k < n) (h : f k = false) : upTo f n = false := by
  unfold upTo; rw [List.all_eq_false]; exact ⟨k, List.mem_range.2 hk, by simp [h]⟩
theorem upTo_end {f : Nat → Bool} {n k : Nat} (h : Ok f k) (hk : n ≤ k) : upTo f n = true := by
  unfold upTo; rw [List.all_eq_true]; exact fun j hj => h j (by have := List.mem_range.1 hj; omega)
theorem upTo_all {f : Nat → Bool} {n : Nat} (h : upTo f n = true) : Ok f n := fun j hj => List.all_eq_true.1 h j (List.mem_range.2 hj)
theorem Ok.zero (f : Nat → Bool) : Ok f 0 := fun j h => by omega
theorem Ok.next {f : Nat → Bool} {k : Nat} (h : Ok f k) (hk : f k = true) : Ok f (k + 1) := fun j hj => by
  rcases Nat.lt_or_ge j k with h1 | h1
  · exact h j h1
  · have : j = k := by omega
    subst this; exact hk

def layAt (ls : List Int) (k : Nat) : Bool := inB (ls.getD k 0) 1 500 && (k == 0 || decide (ls.getD k 0 ≤ ls.getD (k - 1) 0))
def okLs (ls : List Int) : Bool := upTo (layAt ls) ls.length && decide (ls.length ≤ 12)
def okH (x : H) : Bool := inB x.id 1 99 && inB x.gr 1 4 && okLs x.ls
theorem int_at {ls : List Int} {k : Nat} (h : k < ls.length) : ls.getD k 0 = ls[k] := by simp [List.getD, h]
theorem lay_bad {ls : List Int} {k : Nat} {x : Int} (hk : k < ls.length) (hx : ls[k] = x) (h : inB x 1 500 = false) : layAt ls k = false := by unfold layAt; rw [int_at hk, hx, h]; rfl
theorem lay_zero {ls : List Int} {x : Int} (hk : 0 < ls.length) (hx : ls[0] = x) (h : inB x 1 500 = true) : layAt ls 0 = true := by unfold layAt; rw [int_at hk, hx, h]; rfl
theorem lay_high {ls : List Int} {k : Nat} {x : Int} (hk : k + 1 < ls.length) (hx : ls[k + 1] = x) (h : ls[k] < x) : layAt ls (k + 1) = false := by
  have e : ls.getD (k + 1 - 1) 0 = ls[k] := int_at (by omega)
  unfold layAt; rw [int_at hk, hx, e, decide_eq_false (by omega)]; simp
theorem lay_yes {ls : List Int} {k : Nat} {x : Int} (hk : k + 1 < ls.length) (hx : ls[k + 1] = x) (h1 : inB x 1 500 = true) (h : x ≤ ls[k]) : layAt ls (k + 1) = true := by
  have e : ls.getD (k + 1 - 1) 0 = ls[k] := int_at (by omega)
  unfold layAt; rw [int_at hk, hx, e, h1, decide_eq_true h]; simp
theorem okLs_no {ls : List Int} {k : Nat} (hk : k < ls.length) (h : layAt ls k = false) : okLs ls = false := by unfold okLs; rw [upTo_no hk h]; rfl
theorem okLs_end {ls : List Int} {k : Nat} (h : Ok (layAt ls) k) (hk : ls.length ≤ k) : okLs ls = decide (ls.length ≤ 12) := by unfold okLs; rw [upTo_end h hk]; rfl
theorem okLs_long {ls : List Int} (h : 12 < ls.length) : okLs ls = false := by unfold okLs; rw [decide_eq_false (by omega), Bool.and_false]
theorem okH_ls {x : H} (h : okLs x.ls = false) : okH x = false := by unfold okH; rw [h, Bool.and_false]
theorem okLs_len {ls : List Int} (h : okLs ls = true) : ls.length ≤ 12 := by unfold okLs at h; rw [Bool.and_eq_true, decide_eq_true_eq] at h; exact h.2
theorem okLs_get {ls : List Int} (h : okLs ls = true) (k : Nat) (hk : k < ls.length) : 1 ≤ ls[k] ∧ ls[k] ≤ 500 := by
  unfold okLs at h
  rw [Bool.and_eq_true] at h
  have := upTo_all h.1 k hk
  unfold layAt at this
  rw [Bool.and_eq_true, int_at hk] at this
  exact of_inB this.1
theorem okLs_mem {ls : List Int} (h : okLs ls = true) : ∀ x ∈ ls, 1 ≤ x ∧ x ≤ 500 := by
  intro x hx
  obtain ⟨k, hk, rfl⟩ := List.getElem_of_mem hx
  exact okLs_get h k hk
theorem okLs_desc {ls : List Int} (h : okLs ls = true) (k : Nat) (hk : k + 1 < ls.length) : ls[k + 1] ≤ ls[k] := by
  unfold okLs at h
  rw [Bool.and_eq_true] at h
  have := upTo_all h.1 (k + 1) hk
  unfold layAt at this
  rw [Bool.and_eq_true, int_at hk, Nat.add_sub_cancel, int_at (by omega), Bool.or_eq_true, decide_eq_true_eq] at this
  rcases this.2 with h1 | h1
  · simp at h1
  · exact h1
/-- layers are sound: of their size, none greater than the one below, not too many. -/
theorem okLs_iff (ls : List Int) : okLs ls = true ↔ (∀ x ∈ ls, 1 ≤ x ∧ x ≤ 500) ∧ (∀ k (h : k + 1 < ls.length), ls[k + 1] ≤ ls[k]) ∧ ls.length ≤ 12 := by
  constructor
  · exact fun h => ⟨okLs_mem h, okLs_desc h, okLs_len h⟩
  · rintro ⟨h1, h2, h3⟩
    unfold okLs
    rw [Bool.and_eq_true, decide_eq_true_eq]
    refine ⟨upTo_end (k := ls.length) (fun j hj => ?_) (Nat.le_refl _), h3⟩
    have hb := h1 _ (List.getElem_mem hj)
    cases j with
    | zero => exact lay_zero hj rfl (inB_true hb)
    | succ j => exact lay_yes hj rfl (inB_true hb) (h2 j hj)
theorem okLs_append {ls : List Int} {t : Int} : okLs (ls ++ [t]) = true ↔ okLs ls = true ∧ 1 ≤ t ∧ t ≤ 500 ∧ (∀ (h : 0 < ls.length), t ≤ ls[ls.length - 1]) ∧ ls.length < 12 := by
  rw [okLs_iff, okLs_iff]
  constructor
  · rintro ⟨h1, h2, h3⟩
    rw [List.length_append] at h3
    have ht := h1 t (by simp)
    refine ⟨⟨fun x hx => h1 x (by simp [hx]), fun k hk => ?_, by simp at h3; omega⟩, ht.1, ht.2, fun h => ?_, by simp at h3; omega⟩
    · have := h2 k (by rw [List.length_append]; omega)
      rwa [List.getElem_append_left (by omega), List.getElem_append_left (by omega)] at this
    · have := h2 (ls.length - 1) (by rw [List.length_append]; simp; omega)
      rw [List.getElem_append_right (by omega), List.getElem_append_left (by omega)] at this
      simpa using this
  · rintro ⟨⟨h1, h2, h3⟩, t1, t2, t3, t4⟩
    refine ⟨fun x hx => ?_, fun k hk => ?_, by rw [List.length_append]; simp; omega⟩
    · rcases List.mem_append.1 hx with hx | hx
      · exact h1 x hx
      · rw [List.mem_singleton.1 hx]; omega
    · rw [List.length_append] at hk
      simp at hk
      rcases Nat.lt_or_ge (k + 1) ls.length with h4 | h4
      · have := h2 k h4
        simpa [List.getElem_append, h4, show k < ls.length by omega] using this
      · have e : k = ls.length - 1 := by omega
        subst e
        rw [List.getElem_append_right (by omega), List.getElem_append_left (by omega)]
        simpa using t3 (by omega)
theorem okLs_take {ls : List Int} (h : okLs ls = true) (k : Nat) : okLs (ls.take k) = true := by
  rw [okLs_iff] at h ⊢
  obtain ⟨h1, h2, h3⟩ := h
  refine ⟨fun x hx => h1 x (List.mem_of_mem_take hx), fun j hj => ?_, by rw [List.length_take]; omega⟩
  rw [List.length_take] at hj
  rw [List.getElem_take, List.getElem_take]
  exact h2 j (by omega)

def hz : H := ⟨0, 0, [], false⟩
theorem h_at {l : List H} {k : Nat} (h : k < l.length) : l.getD k hz = l[k] := by simp [List.getD, h]
def goodAt (l : List H) (k : Nat) : Bool := okH (l.getD k hz) && (k == 0 || decide ((l.getD (k - 1) hz).id < (l.getD k hz).id))
def good (l : List H) : Bool := upTo (goodAt l) l.length && decide (l.length ≤ 10)
theorem good_no {l : List H} {k : Nat} (hk : k < l.length) (h : goodAt l k = false) : good l = false := by unfold good; rw [upTo_no hk h]; rfl
theorem good_end {l : List H} {k : Nat} (h : Ok (goodAt l) k) (hk : l.length ≤ k) : good l = decide (l.length ≤ 10) := by unfold good; rw [upTo_end h hk]; rfl
theorem good_long {l : List H} (h : 10 < l.length) : good l = false := by unfold good; rw [decide_eq_false (by omega), Bool.and_false]
theorem at_bad {l : List H} {k : Nat} {x : H} (hk : k < l.length) (hx : l[k] = x) (h : okH x = false) : goodAt l k = false := by unfold goodAt; rw [h_at hk, hx, h]; rfl
theorem at_zero {l : List H} {x : H} (hk : 0 < l.length) (hx : l[0] = x) (h : okH x = true) : goodAt l 0 = true := by unfold goodAt; rw [h_at hk, hx, h]; rfl
theorem at_low {l : List H} {k : Nat} {x : H} (hk : k + 1 < l.length) (hx : l[k + 1] = x) (h : ¬ l[k].id < x.id) : goodAt l (k + 1) = false := by
  have e : l.getD (k + 1 - 1) hz = l[k] := h_at (by omega)
  unfold goodAt; rw [h_at hk, hx, e, decide_eq_false h]; simp
theorem at_yes {l : List H} {k : Nat} {x : H} (hk : k + 1 < l.length) (hx : l[k + 1] = x) (h1 : okH x = true) (h : l[k].id < x.id) : goodAt l (k + 1) = true := by
  have e : l.getD (k + 1 - 1) hz = l[k] := h_at (by omega)
  unfold goodAt; rw [h_at hk, hx, e, h1, decide_eq_true h]; simp
theorem good_len {l : List H} (h : good l = true) : l.length ≤ 10 := by unfold good at h; rw [Bool.and_eq_true, decide_eq_true_eq] at h; exact h.2
theorem good_get {l : List H} (h : good l = true) (k : Nat) (hk : k < l.length) : okH l[k] = true := by
  unfold good at h
  rw [Bool.and_eq_true] at h
  have := upTo_all h.1 k hk
  unfold goodAt at this
  rw [Bool.and_eq_true, h_at hk] at this
  exact this.1
theorem good_mem {l : List H} (h : good l = true) : ∀ x ∈ l, okH x = true := by
  intro x hx
  obtain ⟨k, hk, rfl⟩ := List.getElem_of_mem hx
  exact good_get h k hk
theorem good_asc {l : List H} (h : good l = true) (k : Nat) (hk : k + 1 < l.length) : l[k].id < l[k + 1].id := by
  unfold good at h
  rw [Bool.and_eq_true] at h
  have := upTo_all h.1 (k + 1) hk
  unfold goodAt at this
  rw [Bool.and_eq_true, h_at hk, Nat.add_sub_cancel, h_at (by omega), Bool.or_eq_true, decide_eq_true_eq] at this
  rcases this.2 with h1 | h1
  · simp at h1
  · exact h1
theorem okH_true {x : H} (h : okH x = true) : 1 ≤ x.id ∧ x.id ≤ 99 ∧ 1 ≤ x.gr ∧ x.gr ≤ 4 ∧ okLs x.ls = true := by
  unfold okH at h
  simp only [Bool.and_eq_true] at h
  have a := of_inB h.1.1
  have b := of_inB h.1.2
  exact ⟨a.1, a.2, b.1, b.2, h.2⟩
theorem okH_mk {x : H} (h : 1 ≤ x.id ∧ x.id ≤ 99 ∧ 1 ≤ x.gr ∧ x.gr ≤ 4 ∧ okLs x.ls = true) : okH x = true := by
  unfold okH; rw [inB_true ⟨h.1, h.2.1⟩, inB_true ⟨h.2.2.1, h.2.2.2.1⟩, h.2.2.2.2]; rfl
theorem sum_bd {ls : List Int} (h : ∀ x ∈ ls, 1 ≤ x ∧ x ≤ 500) : (ls.length : Int) ≤ ls.sum ∧ ls.sum ≤ 500 * ls.length := by
  induction ls with
  | nil => simp
  | cons x l ih =>
    have h1 := h x (by simp)
    have h2 := ih (fun y hy => h y (by simp [hy]))
    rw [List.sum_cons, List.length_cons]; omega
theorem okLs_sum {ls : List Int} (h : okLs ls = true) : 0 ≤ ls.sum ∧ ls.sum ≤ 6000 := by
  have h1 := sum_bd (okLs_mem h)
  have h2 := okLs_len h
  omega
theorem sum_take (l : List Int) (k : Nat) (h : k < l.length) : (l.take (k + 1)).sum = (l.take k).sum + l[k] := by rw [List.take_succ_eq_append_getElem h, List.sum_append]; simp
/-- the tons of all heaps of a grade. -/
def tonsL (l : List H) (g : Int) : Int := ((l.filter fun x => x.gr == g).map fun x => x.ls.sum).sum
theorem tonsL_take {l : List H} {g : Int} {k : Nat} {x : H} (hk : k < l.length) (hx : l[k] = x) : tonsL (l.take (k + 1)) g = tonsL (l.take k) g + if x.gr = g then x.ls.sum else 0 := by
  unfold tonsL
  rw [List.take_succ_eq_append_getElem hk, hx, List.filter_append, List.map_append, List.sum_append]
  congr 1
  by_cases h : x.gr = g
  · simp [h]
  · simp [h]
def tonsV (l : List H) (g : Int) : Value := if good l && inB g 1 4 then .tuple #[.int .i64 (tonsL l g), .bool true] else .tuple #[.int .i64 0, .bool false]
theorem tonsV_no {l : List H} {g : Int} (h : (good l && inB g 1 4) = false) : tonsV l g = .tuple #[.int .i64 0, .bool false] := by unfold tonsV; rw [h]; rfl
theorem tonsV_yes {l : List H} {g : Int} (h : good l = true) (h1 : inB g 1 4 = true) : tonsV l g = .tuple #[.int .i64 (tonsL l g), .bool true] := by unfold tonsV; rw [h, h1]; rfl

/-- the index of the heap with this number in a sound list, or -1. -/
def find (l : List H) (id : Int) : Int := if good l = true then (match l.findIdx? (fun x => x.id == id) with | some i => (i : Int) | none => -1) else -1
def Not (l : List H) (id : Int) (k : Nat) : Prop := ∀ j (h : j < l.length), j < k → l[j].id ≠ id
theorem find_bad {l : List H} {id : Int} (h : good l = false) : find l id = -1 := by unfold find; rw [h]; rfl
theorem find_at {l : List H} {id : Int} {k : Nat} (hg : good l = true) (hk : k < l.length) (hn : Not l id k) (he : l[k].id = id) : find l id = k := by
  unfold find
  rw [if_pos hg]
  have : l.findIdx? (fun x => x.id == id) = some k := by
    rw [List.findIdx?_eq_some_iff_getElem]
    exact ⟨hk, by simp [he], fun j hj => by simpa using hn j (by omega) hj⟩
  rw [this]
theorem find_none {l : List H} {id : Int} (hn : Not l id l.length) : find l id = -1 := by
  unfold find
  split
  · have : l.findIdx? (fun x => x.id == id) = none := by
      rw [List.findIdx?_eq_none_iff]
      intro x hx
      obtain ⟨j, hj, rfl⟩ := List.getElem_of_mem hx
      simpa using hn j hj hj
    rw [this]
  · rfl
theorem Not.next {l : List H} {id : Int} {k : Nat} (h : Not l id k) (hk : k < l.length) (he : l[k].id ≠ id) : Not l id (k + 1) := fun j hj hj2 => by
  rcases Nat.lt_or_ge j k with h1 | h1
  · exact h j hj h1
  · have : j = k := by omega
    subst this; exact he
theorem find_ok {l : List H} {id : Int} (h : 0 ≤ find l id) : ∃ k : Nat, find l id = k ∧ ∃ hk : k < l.length, l[k].id = id ∧ good l = true := by
  unfold find at *
  split at h
  · rename_i hg
    rw [if_pos hg]
    split at h
    · rename_i i hi
      obtain ⟨h1, h2, _⟩ := List.findIdx?_eq_some_iff_getElem.1 hi
      exact ⟨i, rfl, h1, by simpa using h2, hg⟩
    · omega
  · omega
theorem find_range {l : List H} {id : Int} : -1 ≤ find l id := by
  unfold find
  split
  · split <;> omega
  · omega
theorem find_neg {l : List H} {id : Int} (h : ¬ 0 ≤ find l id) : find l id = -1 := by have := find_range (l := l) (id := id); omega
/-- a layer can be put on this heap. -/
def can (x : H) (g t : Int) : Bool := decide (x.gr = g) && !x.cov && okLs (x.ls ++ [t])
end Go.Proofs.YtokgncbcknpfiaaDoor.Heap
