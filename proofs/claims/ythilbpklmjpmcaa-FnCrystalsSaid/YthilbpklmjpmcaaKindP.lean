/- Kinds, pure: what a kind is, what kinds are; what a liquor of them is; what stays dissolved, when there is too much. My own. -/
import Derived.Test.YthilbpklmjpmcaaSKind
namespace Go.Proofs.Ythilbpklmjpmcaa.KindP
open Go.RowKit Go.Proofs.Ythilbpklmjpmcaa.Mem Go.Proofs.Ythilbpklmjpmcaa.Base Go.Proofs.Ythilbpklmjpmcaa.SKind
set_option linter.unusedVariables false

def lowB (s : ByteArray) : Bool := decide (∀ b ∈ s.data.toList, 97 ≤ b.toNat ∧ b.toNat ≤ 122)
def wordB (s : ByteArray) : Bool := lowB s && inB s.size 1 10
def kindB (x : R) : Bool := wordB x.f0 && (inB x.f1 0 9 && inB x.f2 1 1000)
def lessB (a b : ByteArray) : Bool := Op.bytesLess a.toList b.toList
/-- place k is good, and above the place before it. -/
def okAt (l : List R) (k : Nat) : Bool := match l[k]? with
  | none => true
  | some x => kindB x && (match k with
    | 0 => true
    | j + 1 => match l[j]? with
      | none => true
      | some y => lessB y.f0 x.f0)
def upto (l : List R) (k : Nat) : Bool := (List.range k).all (okAt l)
def goodK (l : List R) : Bool := upto l l.length && inB l.length 1 6
theorem upto_zero (l : List R) : upto l 0 = true := rfl
theorem upto_succ (l : List R) (k : Nat) : upto l (k + 1) = (upto l k && okAt l k) := by simp [upto, List.range_succ]
theorem upto_bad {l : List R} {k : Nat} (hk : k < l.length) (h : okAt l k = false) : goodK l = false := by
  have h1 : upto l l.length = false := by
    rw [Bool.eq_false_iff]
    intro h2
    unfold upto at h2
    rw [List.all_eq_true] at h2
    rw [h2 k (List.mem_range.2 hk)] at h
    cases h
  unfold goodK
  rw [h1]; rfl
theorem ok_first {l : List R} {x : R} (hk : 0 < l.length) (hx : l[0] = x) : okAt l 0 = kindB x := by
  unfold okAt
  rw [List.getElem?_eq_getElem hk, hx]
  simp
theorem ok_next {l : List R} {x y : R} {j : Nat} (hk : j + 1 < l.length) (hx : l[j + 1] = x) (hy : l[j] = y) : okAt l (j + 1) = (kindB x && lessB y.f0 x.f0) := by
  unfold okAt
  rw [List.getElem?_eq_getElem hk, hx]
  show (kindB x && (match l[j]? with | none => true | some y => lessB y.f0 x.f0)) = _
  rw [List.getElem?_eq_getElem (show j < l.length by omega), hy]
theorem ok_kind {l : List R} {k : Nat} {x : R} (hk : k < l.length) (hx : l[k] = x) (h : kindB x = false) : okAt l k = false := by
  unfold okAt
  rw [List.getElem?_eq_getElem hk, hx]
  simp [h]
theorem good_kind {l : List R} (h : goodK l = true) {k : Nat} (hk : k < l.length) : kindB l[k] = true := by
  unfold goodK upto at h
  rw [Bool.and_eq_true, List.all_eq_true] at h
  have h1 := h.1 k (List.mem_range.2 hk)
  unfold okAt at h1
  rw [List.getElem?_eq_getElem hk] at h1
  simp only [Bool.and_eq_true] at h1
  exact h1.1
theorem good_len {l : List R} (h : goodK l = true) : 1 ≤ l.length ∧ l.length ≤ 6 := by
  unfold goodK at h
  rw [Bool.and_eq_true] at h
  have := of_inB h.2
  omega
theorem kind_of {x : R} (h : kindB x = true) : (0 ≤ x.f1 ∧ x.f1 ≤ 9) ∧ 1 ≤ x.f2 ∧ x.f2 ≤ 1000 := by
  unfold kindB at h
  rw [Bool.and_eq_true, Bool.and_eq_true] at h
  exact ⟨of_inB h.2.1, of_inB h.2.2⟩
theorem kind_word {x : R} (h : wordB x.f0 = false) : kindB x = false := by unfold kindB; rw [h]; rfl
theorem kind_water {x : R} (h : inB x.f1 0 9 = false) : kindB x = false := by unfold kindB; rw [h]; simp
theorem kind_grams {x : R} (h : inB x.f2 1 1000 = false) : kindB x = false := by unfold kindB; rw [h]; simp
theorem kind_yes {x : R} (h0 : wordB x.f0 = true) (h1 : inB x.f1 0 9 = true) (h2 : inB x.f2 1 1000 = true) : kindB x = true := by unfold kindB; rw [h0, h1, h2]; rfl

/-- the byte at k, and the string's first k bytes. -/
theorem low_no {s : ByteArray} {k : Nat} (h : k < s.size) (hb : ¬ (97 ≤ s[k].toNat ∧ s[k].toNat ≤ 122)) : lowB s = false := by
  refine decide_eq_false fun h1 => hb (h1 _ ?_)
  have : s[k] = s.data.toList[k]'(by simpa using h) := rfl
  rw [this]; exact List.getElem_mem _
def Low (s : ByteArray) (k : Nat) : Prop := ∀ b ∈ s.data.toList.take k, 97 ≤ b.toNat ∧ b.toNat ≤ 122
theorem low_start (s : ByteArray) : Low s 0 := by intro b hb; simp at hb
theorem low_step {s : ByteArray} {k : Nat} (h : k < s.size) (hn : Low s k) (hb : 97 ≤ s[k].toNat ∧ s[k].toNat ≤ 122) : Low s (k + 1) := by
  intro b hm
  rw [List.take_succ_eq_append_getElem (by simpa using h)] at hm
  rcases List.mem_append.1 hm with hm | hm
  · exact hn b hm
  · rw [List.mem_singleton.1 hm]; exact hb
theorem low_end {s : ByteArray} {k : Nat} (h : s.size ≤ k) (hn : Low s k) : lowB s = true := by
  refine decide_eq_true fun b hb => hn b ?_
  rwa [List.take_of_length_le (by simpa using h)]
theorem word_no {s : ByteArray} (h : lowB s = false) : wordB s = false := by unfold wordB; rw [h]; rfl
theorem word_low {s : ByteArray} (h : lowB s = true) : wordB s = inB s.size 1 10 := by unfold wordB; rw [h]; rfl
end Go.Proofs.Ythilbpklmjpmcaa.KindP
