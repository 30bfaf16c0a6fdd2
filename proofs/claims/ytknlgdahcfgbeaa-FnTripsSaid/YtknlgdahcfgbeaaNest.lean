/- Rows of ints that a call made, no two in one block: what is known of them, and how it lasts. My own. -/
import Derived.Test.YtknlgdahcfgbeaaSInt
import Derived.Test.YtknlgdahcfgbeaaKeep
namespace Go.Proofs.Ytknlgdahcfgbeaa.Nest
open Go.RowKit Go.Proofs.Ytknlgdahcfgbeaa.Mem Go.Proofs.Ytknlgdahcfgbeaa.Base Go.Proofs.Ytknlgdahcfgbeaa.SInt Go.Proofs.Ytknlgdahcfgbeaa.Boxes Go.Proofs.Ytknlgdahcfgbeaa.Keep
set_option linter.unusedVariables false
theorem own_congr {w w' : World} {base : Nat} {e : TypeId} {size n : Nat} {v : Value} {xs : List Value} (h : w.ownsRow base e size v n xs) (he : ∀ k, v.ownBlock = some k → w'.heap[k]? = w.heap[k]?) : w'.ownsRow base e size v n xs := by
  refine ⟨h.1, ?_⟩
  rcases h.2 with h2 | ⟨g, cap, cur, rfl, hg, hh, r⟩
  · exact .inl h2
  · exact .inr ⟨g, cap, cur, rfl, hg, by rw [he g rfl]; exact hh, r⟩
/-- all blocks but those from lo on and below hi are as they were. -/
structure Span (lo hi : Nat) (w w' : World) : Prop where
  os : w'.os = w.os
  tape : w'.tape = w.tape
  output : w'.output = w.output
  size : w.heap.size ≤ w'.heap.size
  block : ∀ k, k < w.heap.size → (k < lo ∨ hi ≤ k) → w'.heap[k]? = w.heap[k]?
theorem Span.refl (lo hi : Nat) (w : World) : Span lo hi w w := ⟨rfl, rfl, rfl, Nat.le_refl _, fun _ _ _ => rfl⟩
theorem Span.trans {lo hi : Nat} {a b c : World} (h : Span lo hi a b) (k : Span lo hi b c) : Span lo hi a c :=
  ⟨k.os.trans h.os, k.tape.trans h.tape, k.output.trans h.output, Nat.le_trans h.size k.size, fun i hi' h1 => (k.block i (Nat.lt_of_lt_of_le hi' h.size) h1).trans (h.block i hi' h1)⟩
theorem Span.below {lo hi : Nat} {w w' : World} (h : Span lo hi w w') (hl : lo ≤ w.heap.size) {B : Nat} (hB : B ≤ lo) : Below B w w' := ⟨h.os, h.tape, h.output, h.size, fun k hk => h.block k (by omega) (.inl (by omega))⟩
theorem Span.up {lo hi : Nat} {w w' : World} (h : Span lo hi w w') {B : Nat} (hB : B ≤ lo) (hs : lo ≤ w.heap.size) : Below B w w' := h.below hs hB
theorem Span.grown {lo hi : Nat} {w w' : World} {row : Option Nat} (h : w.grownBy w' row) (hr : ∀ k, row = some k → lo ≤ k ∧ k < hi) : Span lo hi w w' :=
  ⟨h.os, h.tape, h.output, h.size, fun k hk h1 => h.block k hk (fun e => by have := hr k e.symm; omega)⟩
theorem Span.of_below {lo hi : Nat} {w w' : World} (h : Below w.heap.size w w') : Span lo hi w w' := ⟨h.os, h.tape, h.output, h.size, fun k hk _ => h.block k hk⟩
theorem Span.set {lo hi : Nat} {w w' : World} (h : Span lo hi w w') {g : Nat} (hg : lo ≤ g ∧ g < hi) (i : Nat) (v : Value) : Span lo hi w (w'.setCell ⟨g, i, none⟩ v) :=
  ⟨h.os, h.tape, h.output, by rw [size_set']; exact h.size, fun k hk h1 => by
    rw [Below.heap_setCell w' ⟨g, i, none⟩ v k (fun e => by have e2 : k = g := e; omega)]; exact h.block k hk h1⟩
theorem Span.wide {lo hi lo' hi' : Nat} {w w' : World} (h : Span lo hi w w') (h1 : lo' ≤ lo) (h2 : hi ≤ hi') : Span lo' hi' w w' :=
  ⟨h.os, h.tape, h.output, h.size, fun k hk h3 => h.block k hk (by omega)⟩
theorem rd_span {w w' : World} {B lo hi : Nat} {A : Option Addr} {xs : List Value} (h : Rd w B A xs) (hs : Span lo hi w w') (hB : B ≤ lo) (hl : lo ≤ w.heap.size) : Rd w' B A xs :=
  h.below (hs.below hl (Nat.le_refl _)) hB

structure Row where
  A : Option Addr
  cap : Nat
  ls : List Int
def Row.val (r : Row) : Value := .slice r.A r.ls.length r.cap
def Row.blk (r : Row) : Option Nat := r.val.ownBlock
def Row.nil : Row := ⟨none, 0, []⟩
def RowOwn (w : World) (lo : Nat) (r : Row) : Prop := w.ownsRow lo 3 1 r.val r.ls.length (iv r.ls)
theorem RowOwn.nil (w : World) (lo : Nat) : RowOwn w lo Row.nil := World.ownsRow_nil w lo _ 1
theorem RowOwn.lt {w : World} {lo : Nat} {r : Row} (h : RowOwn w lo r) : ∀ k, r.blk = some k → lo ≤ k ∧ k < w.heap.size := World.ownsRow.lt h
theorem RowOwn.congr {w w' : World} {lo : Nat} {r : Row} (h : RowOwn w lo r) (he : ∀ k, r.blk = some k → w'.heap[k]? = w.heap[k]?) : RowOwn w' lo r := own_congr h he
theorem RowOwn.keep {w w' : World} {lo : Nat} {r : Row} (h : RowOwn w lo r) (hb : Below w.heap.size w w') : RowOwn w' lo r := h.congr fun k hk => hb.block k (h.lt k hk).2
theorem RowOwn.base {w : World} {lo lo' : Nat} {r : Row} (h : RowOwn w lo r) (hl : lo' ≤ lo) : RowOwn w lo' r := own_base h hl
theorem RowOwn.rd {w : World} {lo : Nat} {r : Row} (h : RowOwn w lo r) : Rd w w.heap.size r.A (iv r.ls) := Rd.of_own h
theorem rd_top {w : World} {B top : Nat} {A : Option Addr} {n c : Nat} {xs : List Value} (h : Rd w B A xs) (ht : ∀ k, (Value.slice A n c).ownBlock = some k → k < top) : Rd w top A xs := by
  rcases h with h | ⟨b, o, rfl, hb, hc⟩
  · exact .inl h
  · exact .inr ⟨b, o, rfl, ht b rfl, hc⟩

structure Inner (w : World) (lo top : Nat) (ob : Option Nat) (rs : List Row) : Prop where
  own : ∀ r ∈ rs, RowOwn w lo r
  far : ∀ r ∈ rs, ∀ k, r.blk = some k → k < top ∧ ob ≠ some k
  sep : ∀ (i j : Nat) (r s : Row), rs[i]? = some r → rs[j]? = some s → i ≠ j → ∀ k, r.blk = some k → s.blk ≠ some k
theorem Inner.empty (w : World) (lo top : Nat) (ob : Option Nat) : Inner w lo top ob [] := ⟨fun r h => (by cases h), fun r h => (by cases h), fun i j r s h => (by simp at h)⟩
theorem Inner.congr {w w' : World} {lo top : Nat} {ob : Option Nat} {rs : List Row} (h : Inner w lo top ob rs) (he : ∀ k, lo ≤ k → k < top → ob ≠ some k → w'.heap[k]? = w.heap[k]?) : Inner w' lo top ob rs :=
  ⟨fun r hr => (h.own r hr).congr fun k hk => he k ((h.own r hr).lt k hk).1 (h.far r hr k hk).1 (h.far r hr k hk).2, h.far, h.sep⟩
theorem Inner.mono {w : World} {lo top top' : Nat} {ob : Option Nat} {rs : List Row} (h : Inner w lo top ob rs) (ht : top ≤ top') : Inner w lo top' ob rs :=
  ⟨h.own, fun r hr k hk => ⟨Nat.lt_of_lt_of_le (h.far r hr k hk).1 ht, (h.far r hr k hk).2⟩, h.sep⟩
theorem Inner.base {w : World} {lo lo' top : Nat} {ob : Option Nat} {rs : List Row} (h : Inner w lo top ob rs) (hl : lo' ≤ lo) : Inner w lo' top ob rs := ⟨fun r hr => (h.own r hr).base hl, h.far, h.sep⟩
theorem Inner.outer {w : World} {lo top : Nat} {ob ob' : Option Nat} {rs : List Row} (h : Inner w lo top ob rs) (ho : ∀ k, ob' = some k → ob = some k ∨ top ≤ k) : Inner w lo top ob' rs :=
  ⟨h.own, fun r hr k hk => ⟨(h.far r hr k hk).1, fun e => by
    rcases ho k e with h1 | h1
    · exact (h.far r hr k hk).2 h1
    · have := (h.far r hr k hk).1; omega⟩, h.sep⟩
theorem Inner.snoc {w : World} {lo top top' : Nat} {ob : Option Nat} {rs : List Row} {r : Row} (h : Inner w lo top ob rs) (hr : RowOwn w lo r) (ht : top ≤ top') (hn : ∀ k, r.blk = some k → top ≤ k ∧ k < top' ∧ ob ≠ some k) : Inner w lo top' ob (rs ++ [r]) := by
  refine ⟨fun x hx => ?_, fun x hx => ?_, fun i j x y hi hj hne k hk => ?_⟩
  · rcases List.mem_append.1 hx with hx | hx
    · exact h.own x hx
    · rw [List.mem_singleton.1 hx]; exact hr
  · rcases List.mem_append.1 hx with hx | hx
    · exact (h.mono ht).far x hx
    · rw [List.mem_singleton.1 hx]; exact fun k hk => (hn k hk).2
  · rw [List.getElem?_append] at hi hj
    split at hi
    · split at hj
      · exact h.sep i j x y hi hj hne k hk
      · have e : y = r := by
          rcases Nat.eq_zero_or_pos (j - rs.length) with h1 | h1
          · rw [h1] at hj; simpa using hj.symm
          · rw [List.getElem?_eq_none (by simp; omega)] at hj; cases hj
        subst e
        intro e2
        have h1 := (hn k e2).1
        have h2 := (h.far x (List.mem_of_getElem? hi) k hk).1
        omega
    · have e : x = r := by
        rcases Nat.eq_zero_or_pos (i - rs.length) with h1 | h1
        · rw [h1] at hi; simpa using hi.symm
        · rw [List.getElem?_eq_none (by simp; omega)] at hi; cases hi
      subst e
      split at hj
      · intro e2
        have h1 := (hn k hk).1
        have h2 := (h.far y (List.mem_of_getElem? hj) k e2).1
        omega
      · have hj0 : j - rs.length = 0 := by
          rcases Nat.eq_zero_or_pos (j - rs.length) with h1 | h1
          · exact h1
          · rw [List.getElem?_eq_none (by simp; omega)] at hj; cases hj
        have hi0 : i - rs.length = 0 := by
          rcases Nat.eq_zero_or_pos (i - rs.length) with h1 | h1
          · exact h1
          · rw [List.getElem?_eq_none (by simp; omega)] at hi; cases hi
        omega
/-- row i becomes r: in its old block, or in a new one. -/
theorem Inner.set {w w' : World} {lo top top' : Nat} {ob : Option Nat} {rs : List Row} {i : Nat} {q r : Row} (h : Inner w lo top ob rs) (hi : rs[i]? = some q) (hr : RowOwn w' lo r) (ht : top ≤ top')
    (hn : ∀ k, r.blk = some k → k < top' ∧ ob ≠ some k ∧ (q.blk = some k ∨ top ≤ k))
    (he : ∀ k, k < w.heap.size → ob ≠ some k → q.blk ≠ some k → w'.heap[k]? = w.heap[k]?) : Inner w' lo top' ob (rs.set i r) := by
  have hlt : i < rs.length := by
    rcases Nat.lt_or_ge i rs.length with h1 | h1
    · exact h1
    · rw [List.getElem?_eq_none h1] at hi; cases hi
  have key : ∀ (j : Nat) (x : Row), (rs.set i r)[j]? = some x → (j = i ∧ x = r) ∨ (j ≠ i ∧ rs[j]? = some x) := by
    intro j x hx
    by_cases hji : j = i
    · subst hji
      rw [List.getElem?_set_self hlt] at hx
      exact .inl ⟨rfl, (Option.some.inj hx).symm⟩
    · rw [List.getElem?_set_ne (fun e => hji e.symm)] at hx
      exact .inr ⟨hji, hx⟩
  refine ⟨fun x hx => ?_, fun x hx k hk => ?_, fun j j' x y hj hj' hne k hk => ?_⟩
  · obtain ⟨j, hj⟩ := List.mem_iff_getElem?.1 hx
    rcases key j x hj with ⟨_, rfl⟩ | ⟨hji, hj2⟩
    · exact hr
    · have hm := List.mem_of_getElem? hj2
      exact (h.own x hm).congr fun k hk => he k ((h.own x hm).lt k hk).2 (h.far x hm k hk).2 (fun e => h.sep i j q x hi hj2 (fun e => hji e.symm) k e hk)
  · obtain ⟨j, hj⟩ := List.mem_iff_getElem?.1 hx
    rcases key j x hj with ⟨_, rfl⟩ | ⟨hji, hj2⟩
    · exact ⟨(hn k hk).1, (hn k hk).2.1⟩
    · exact (h.mono ht).far x (List.mem_of_getElem? hj2) k hk
  · rcases key j x hj with ⟨rfl, rfl⟩ | ⟨hji, hj2⟩
    · rcases key j' y hj' with ⟨rfl, rfl⟩ | ⟨hji', hj2'⟩
      · exact absurd rfl hne
      · intro e
        rcases (hn k hk).2.2 with h1 | h1
        · exact h.sep j j' q y hi hj2' (fun e => hji' e.symm) k h1 e
        · have := (h.far y (List.mem_of_getElem? hj2') k e).1; omega
    · rcases key j' y hj' with ⟨rfl, rfl⟩ | ⟨hji', hj2'⟩
      · intro e
        rcases (hn k e).2.2 with h1 | h1
        · exact h.sep j j' x q hj2 hi hji k hk h1
        · have := (h.far x (List.mem_of_getElem? hj2) k hk).1; omega
      · exact h.sep j j' x y hj2 hj2' hne k hk
theorem Inner.span {w w' : World} {lo top lo' hi : Nat} {ob : Option Nat} {rs : List Row} (h : Inner w lo top ob rs) (hs : Span lo' hi w w') (hd : top ≤ lo' ∨ hi ≤ lo) : Inner w' lo top ob rs :=
  ⟨fun r hr => (h.own r hr).congr fun k hk => hs.block k ((h.own r hr).lt k hk).2 (by have h1 := ((h.own r hr).lt k hk).1; have h2 := (h.far r hr k hk).1; omega), h.far, h.sep⟩
theorem Inner.keep {w w' : World} {lo top : Nat} {ob : Option Nat} {rs : List Row} (h : Inner w lo top ob rs) (hb : Below w.heap.size w w') : Inner w' lo top ob rs :=
  ⟨fun r hr => (h.own r hr).keep hb, h.far, h.sep⟩
end Go.Proofs.Ytknlgdahcfgbeaa.Nest
