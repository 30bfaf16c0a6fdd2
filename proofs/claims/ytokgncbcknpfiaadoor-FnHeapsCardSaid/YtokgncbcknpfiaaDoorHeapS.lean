/- A heap in memory: its four cells, the third a slice of its layers; lists of heaps, that came in and that a call made. My own. -/
import Derived.Test.YtokgncbcknpfiaaDoorNest
import Derived.Deep.QuietTactic
import Derived.BigQuiet
import Derived.WalkLawsBesides
import Derived.WalkSpells
import Derived.StillTailTactics
namespace Go.Proofs.YtokgncbcknpfiaaDoor.HeapS
open Go.RowKit Go.Proofs.YtokgncbcknpfiaaDoor.Mem Go.Proofs.YtokgncbcknpfiaaDoor.Base Go.Proofs.YtokgncbcknpfiaaDoor.SInt Go.Proofs.YtokgncbcknpfiaaDoor.Boxes Go.Proofs.YtokgncbcknpfiaaDoor.Keep Go.Proofs.YtokgncbcknpfiaaDoor.Nest
set_option linter.unusedVariables false

structure R where
  f0 : Int
  f1 : Int
  f2 : Row
  f3 : Bool
/-- a heap, wherever its layers lie. -/
structure H where
  id : Int
  gr : Int
  ls : List Int
  cov : Bool
  deriving DecidableEq
def R.pure (x : R) : H := ⟨x.f0, x.f1, x.f2.ls, x.f3⟩
def pl (l : List R) : List H := l.map R.pure
theorem pl_len (l : List R) : (pl l).length = l.length := by simp [pl]
theorem pl_get (l : List R) (k : Nat) (h : k < l.length) : (pl l)[k]'(by rw [pl_len]; exact h) = l[k].pure := by simp [pl]
def R.cells (x : R) : List Value := [.int .i64 x.f0, .int .i64 x.f1, .slice x.f2.A x.f2.ls.length x.f2.cap, .bool x.f3]
def R.val (x : R) : Value := .agg #[.int .i64 x.f0, .int .i64 x.f1, .slice x.f2.A x.f2.ls.length x.f2.cap, .bool x.f3]
def flat (l : List R) : List Value := l.flatMap R.cells
theorem flat_n (l : List R) : (flat l).length = l.length * 4 := flat_len R.cells 4 (fun _ => rfl) l
theorem flat_0 (l : List R) (i : Nat) (h : i < l.length) : (flat l)[i * 4]? = some (.int .i64 l[i].f0) := flat_get R.cells 4 (fun _ => rfl) l i 0 h (by omega)
theorem flat_1 (l : List R) (i : Nat) (h : i < l.length) : (flat l)[i * 4 + 1]? = some (.int .i64 l[i].f1) := flat_get R.cells 4 (fun _ => rfl) l i 1 h (by omega)
theorem flat_2 (l : List R) (i : Nat) (h : i < l.length) : (flat l)[i * 4 + 2]? = some (.slice l[i].f2.A l[i].f2.ls.length l[i].f2.cap) := flat_get R.cells 4 (fun _ => rfl) l i 2 h (by omega)
theorem flat_3 (l : List R) (i : Nat) (h : i < l.length) : (flat l)[i * 4 + 3]? = some (.bool l[i].f3) := flat_get R.cells 4 (fun _ => rfl) l i 3 h (by omega)
def zero : R := ⟨0, 0, Row.nil, false⟩
theorem flat_snoc (l : List R) (x : R) : flat (l ++ [x]) = flat l ++ x.cells := by simp [flat, List.flatMap_append]
theorem flat_set (l : List R) (k : Nat) (x : R) (h : k < l.length) : (((((flat l).set (k * 4) (.int .i64 x.f0)).set (k * 4 + 1) (.int .i64 x.f1)).set (k * 4 + 2) (.slice x.f2.A x.f2.ls.length x.f2.cap)).set (k * 4 + 3) (.bool x.f3)) = flat (l.set k x) := by
  refine flat_ext R.cells 4 (fun _ => rfl) _ _ (by simp [flat_n]) fun i j hi hj => ?_
  have hi' : i < l.length := by simpa using hi
  have hb := flat_get R.cells 4 (fun _ => rfl) l i j hi' hj
  by_cases hik : i = k
  · subst hik
    have hlen := flat_n l
    have hi2 : i * 4 + 4 ≤ l.length * 4 := by omega
    rw [List.getElem_set_self]
    match j, hj with
    | 0, _ => simp [List.getElem?_set, R.cells, hlen]; omega
    | 1, _ => simp [List.getElem?_set, R.cells, hlen]; omega
    | 2, _ => simp [List.getElem?_set, R.cells, hlen]; omega
    | 3, _ => simp [List.getElem?_set, R.cells, hlen]; omega
  · rw [List.getElem_set_ne (fun e => hik e.symm), ← hb]
    rw [List.getElem?_set_ne (by omega), List.getElem?_set_ne (by omega), List.getElem?_set_ne (by omega), List.getElem?_set_ne (by omega)]
    rfl
theorem set_self {l : List Value} {i : Nat} {v : Value} (h : l[i]? = some v) : l.set i v = l := by
  apply List.ext_getElem?
  intro j
  rw [List.getElem?_set]
  split
  · rename_i e; subst e
    split
    · rw [h]
    · rename_i h2
      rw [List.getElem?_eq_none (by omega)] at h; cases h
  · rfl
/-- one cell of heap k alone is written. -/
theorem flat_row {l : List R} {k : Nat} (r : Row) (hk : k < l.length) : (flat l).set (k * 4 + 2) (.slice r.A r.ls.length r.cap) = flat (l.set k ⟨l[k].f0, l[k].f1, r, l[k].f3⟩) := by
  have h := flat_set l k ⟨l[k].f0, l[k].f1, r, l[k].f3⟩ hk
  rw [← h]
  show _ = ((((flat l).set (k * 4) (.int .i64 l[k].f0)).set (k * 4 + 1) (.int .i64 l[k].f1)).set (k * 4 + 2) (.slice r.A r.ls.length r.cap)).set (k * 4 + 3) (.bool l[k].f3)
  rw [set_self (flat_0 l k hk), set_self (flat_1 l k hk), set_self (v := .bool l[k].f3) (by rw [List.getElem?_set_ne (by omega)]; exact flat_3 l k hk)]
theorem flat_cov {l : List R} {k : Nat} (q : Bool) (hk : k < l.length) : (flat l).set (k * 4 + 3) (.bool q) = flat (l.set k ⟨l[k].f0, l[k].f1, l[k].f2, q⟩) := by
  have h := flat_set l k ⟨l[k].f0, l[k].f1, l[k].f2, q⟩ hk
  rw [← h]
  show _ = ((((flat l).set (k * 4) (.int .i64 l[k].f0)).set (k * 4 + 1) (.int .i64 l[k].f1)).set (k * 4 + 2) (.slice l[k].f2.A l[k].f2.ls.length l[k].f2.cap)).set (k * 4 + 3) (.bool q)
  rw [set_self (flat_0 l k hk), set_self (flat_1 l k hk), set_self (flat_2 l k hk)]
theorem made (m : Nat) : (madeCells (R.val zero).cells (m * 4)).toList = flat (List.replicate m zero) := by
  refine flat_ext R.cells 4 (fun _ => rfl) _ _ (by simp [size_madeCells]) fun i j hi hj => ?_
  have hi' : i < m := by simpa using hi
  have hlt : i * 4 + j < m * 4 := by omega
  rw [List.getElem_replicate, made_get (R.val zero).cells 4 (m * 4) i j rfl hj hlt]
  simp [R.val, R.cells, Value.cells]
theorem flat_one (l : List R) : ∀ u ∈ flat l, u.oneCell' = true := by
  intro u hu
  unfold flat at hu
  rw [List.mem_flatMap] at hu
  obtain ⟨x, _, hx⟩ := hu
  simp [R.cells] at hx
  rcases hx with rfl | rfl | rfl | rfl <;> rfl
theorem flat_nil {l : List R} (h : flat l = []) : l = [] := by
  have := flat_n l; rw [h] at this; exact List.eq_nil_of_length_eq_zero (by simp at this; omega)

/-- a list of heaps that can be read: it and its layers lie below B; nothing in it is longer than 2^20. -/
structure Hs (w : World) (B : Nat) (A : Option Addr) (l : List R) : Prop where
  rd : Rd w B A (flat l)
  rows : ∀ x ∈ l, Rd w B x.f2.A (iv x.f2.ls)
  len : l.length ≤ 1048576
  rlen : ∀ x ∈ l, x.f2.ls.length ≤ 1048576
theorem Hs.below {w w' : World} {B B' : Nat} {A : Option Addr} {l : List R} (h : Hs w B A l) (hb : Below B' w w') (hB : B ≤ B') : Hs w' B A l :=
  ⟨h.rd.below hb hB, fun x hx => (h.rows x hx).below hb hB, h.len, h.rlen⟩
theorem Hs.mono {w : World} {B B' : Nat} {A : Option Addr} {l : List R} (h : Hs w B A l) (hB : B ≤ B') : Hs w B' A l :=
  ⟨h.rd.mono hB, fun x hx => (h.rows x hx).mono hB, h.len, h.rlen⟩
/-- over new memory. -/
theorem Hs.keep {w w' : World} {A : Option Addr} {l : List R} (h : Hs w w.heap.size A l) (hb : Below w.heap.size w w') : Hs w' w'.heap.size A l := (h.below hb (Nat.le_refl _)).mono hb.size
theorem Hs.span {w w' : World} {B lo hi : Nat} {A : Option Addr} {l : List R} (h : Hs w B A l) (hs : Span lo hi w w') (hB : B ≤ lo) (hl : lo ≤ w.heap.size) : Hs w' B A l :=
  h.below (hs.below hl (Nat.le_refl _)) hB
theorem Hs.nil {w : World} {B : Nat} {A : Option Addr} : Hs w B A [] := ⟨.inl rfl, fun x h => (by cases h), by simp, fun x h => (by cases h)⟩
theorem Hs.row {w : World} {B : Nat} {A : Option Addr} {l : List R} (h : Hs w B A l) {k : Nat} (hk : k < l.length) : Rd w B l[k].f2.A (iv l[k].f2.ls) ∧ l[k].f2.ls.length ≤ 1048576 :=
  ⟨h.rows _ (List.getElem_mem hk), h.rlen _ (List.getElem_mem hk)⟩
/-- the four cells of heap k. -/
theorem Hs.at {w : World} {B : Nat} {A : Option Addr} {l : List R} (h : Hs w B A l) {k : Nat} {x : R} (hk : k < l.length) (hx : l[k] = x) :
    ∃ b o, A = some ⟨b, o, none⟩ ∧ b < B ∧ w.cell? ⟨b, o + k * 4, none⟩ = some (.int .i64 x.f0) ∧ w.cell? ⟨b, o + k * 4 + 1, none⟩ = some (.int .i64 x.f1) ∧
      w.cell? ⟨b, o + k * 4 + 2, none⟩ = some (.slice x.f2.A x.f2.ls.length x.f2.cap) ∧ w.cell? ⟨b, o + k * 4 + 3, none⟩ = some (.bool x.f3) := by
  obtain ⟨b, o, hA, hb, hc⟩ := h.rd.at (k := k * 4) (by rw [flat_n]; omega)
  subst hx
  exact ⟨b, o, hA, hb, hc _ _ (flat_0 l k hk), hc _ _ (flat_1 l k hk), hc _ _ (flat_2 l k hk), hc _ _ (flat_3 l k hk)⟩

/-- a list of heaps that came in. -/
structure Arg (w : World) (A : Option Addr) (l : List R) : Prop where
  rd : Rd w w.heap.size A (flat l)
  rows : ∀ x ∈ l, Rd w w.heap.size x.f2.A (iv x.f2.ls) ∧ x.f2.ls.length ≤ maxLen
  len : l.length ≤ maxLen
theorem Arg.hs {w : World} {A : Option Addr} {l : List R} (h : Arg w A l) (hn : l.length ≤ 1048576) (hr : ∀ x ∈ l, x.f2.ls.length ≤ 1048576) : Hs w w.heap.size A l := ⟨h.rd, fun x hx => (h.rows x hx).1, hn, hr⟩
theorem Arg.nil {w : World} {A : Option Addr} : Arg w A [] := ⟨.inl rfl, fun x h => (by cases h), Nat.zero_le _⟩
theorem of_cells {w : World} {a : Addr} {len : Nat} (hm : len ≤ maxLen) (h : ∀ i, i < len → (∃ q : Int, w.cell? (a.add (i * 4 + 0)) = some (.int .i64 q)) ∧ (∃ q : Int, w.cell? (a.add (i * 4 + 1)) = some (.int .i64 q)) ∧
    (∃ (A : Option Addr) (ls : List Int) (cap : Nat), w.cell? (a.add (i * 4 + 2)) = some (.slice A ls.length cap) ∧ Rd w w.heap.size A (iv ls) ∧ ls.length ≤ maxLen) ∧ (∃ q : Bool, w.cell? (a.add (i * 4 + 3)) = some (.bool q))) :
    ∃ l : List R, l.length = len ∧ Arg w (some a) l := by
  have h' : ∀ i, ∃ x : R, i < len → (∀ j v, x.cells[j]? = some v → w.cell? (a.add (i * 4 + j)) = some v) ∧ Rd w w.heap.size x.f2.A (iv x.f2.ls) ∧ x.f2.ls.length ≤ maxLen := by
    intro i
    by_cases hi : i < len
    · obtain ⟨⟨q0, c0⟩, ⟨q1, c1⟩, ⟨A, ls, cap, c2, r2, n2⟩, ⟨q3, c3⟩⟩ := h i hi
      refine ⟨⟨q0, q1, ⟨A, cap, ls⟩, q3⟩, fun _ => ⟨fun j v hv => ?_, r2, n2⟩⟩
      have hj : j < 4 := by
        rcases Nat.lt_or_ge j 4 with h1 | h1
        · exact h1
        · rw [List.getElem?_eq_none (by exact h1)] at hv; cases hv
      match j, hj, hv with
      | 0, _, hv => injection hv with hv; subst hv; exact c0
      | 1, _, hv => injection hv with hv; subst hv; exact c1
      | 2, _, hv => injection hv with hv; subst hv; exact c2
      | 3, _, hv => injection hv with hv; subst hv; exact c3
    · exact ⟨zero, fun h1 => absurd h1 hi⟩
  obtain ⟨f, hf⟩ := Classical.axiomOfChoice h'
  refine ⟨(List.range len).map f, by simp, Rd.of_cells fun j v hv => ?_, fun x hx => ?_, by simpa using hm⟩
  · have hjl : j < ((List.range len).map f).length * 4 := by
      rcases Nat.lt_or_ge j (((List.range len).map f).length * 4) with h1 | h1
      · exact h1
      · rw [List.getElem?_eq_none (by rw [flat_n]; exact h1)] at hv; cases hv
    have e : j / 4 * 4 + j % 4 = j := Nat.div_add_mod' j 4
    have hi : j / 4 < ((List.range len).map f).length := by omega
    have h2 := flat_get R.cells 4 (fun _ => rfl) ((List.range len).map f) (j / 4) (j % 4) hi (Nat.mod_lt _ (by omega))
    rw [e] at h2
    have h3 : (flat ((List.range len).map f))[j]? = _ := h2
    rw [h3] at hv
    have h4 := (hf (j / 4) (by simpa using hi)).1 (j % 4) v (by simpa using hv)
    rwa [e] at h4
  · obtain ⟨i, hi, rfl⟩ := List.mem_map.1 hx
    exact (hf i (List.mem_range.1 hi)).2

/-- a list of heaps that a call made, in memory from lo on and below top. -/
structure Own (w : World) (lo top : Nat) (A : Option Addr) (c : Nat) (l : List R) : Prop where
  out : w.ownsRow lo 41 4 (.slice A l.length c) l.length (flat l)
  low : ∀ k, (Value.slice A l.length c).ownBlock = some k → k < top
  inn : Inner w lo top (Value.slice A l.length c).ownBlock (l.map R.f2)
theorem Own.hs {w : World} {lo top : Nat} {A : Option Addr} {c : Nat} {l : List R} (h : Own w lo top A c l) (hn : l.length ≤ 1048576) (hr : ∀ x ∈ l, x.f2.ls.length ≤ 1048576) : Hs w top A l := by
  refine ⟨rd_top (Rd.of_own h.out) h.low, fun x hx => ?_, hn, hr⟩
  have hm : x.f2 ∈ l.map R.f2 := List.mem_map.2 ⟨x, hx, rfl⟩
  exact rd_top (n := x.f2.ls.length) (c := x.f2.cap) (h.inn.own _ hm).rd (fun k hk => (h.inn.far _ hm k hk).1)
theorem Own.keep {w w' : World} {lo top : Nat} {A : Option Addr} {c : Nat} {l : List R} (h : Own w lo top A c l) (hb : Below w.heap.size w w') : Own w' lo top A c l :=
  ⟨own_congr h.out (fun k hk => hb.block k (h.out.lt k hk).2), h.low, h.inn.keep hb⟩
theorem Own.span {w w' : World} {lo top lo' hi : Nat} {A : Option Addr} {c : Nat} {l : List R} (h : Own w lo top A c l) (hs : Span lo' hi w w') (hd : top ≤ lo' ∨ hi ≤ lo) : Own w' lo top A c l :=
  ⟨own_congr h.out (fun k hk => hs.block k (h.out.lt k hk).2 (by have := (h.out.lt k hk).1; have := h.low k hk; omega)), h.low, h.inn.span hs hd⟩
theorem Own.mono {w : World} {lo top top' : Nat} {A : Option Addr} {c : Nat} {l : List R} (h : Own w lo top A c l) (ht : top ≤ top') : Own w lo top' A c l :=
  ⟨h.out, fun k hk => Nat.lt_of_lt_of_le (h.low k hk) ht, h.inn.mono ht⟩
theorem Own.base {w : World} {lo lo' top : Nat} {A : Option Addr} {c : Nat} {l : List R} (h : Own w lo top A c l) (hl : lo' ≤ lo) : Own w lo' top A c l := ⟨own_base h.out hl, h.low, h.inn.base hl⟩
theorem Own.row {w : World} {lo top : Nat} {A : Option Addr} {c : Nat} {l : List R} (h : Own w lo top A c l) {k : Nat} (hk : k < l.length) : RowOwn w lo l[k].f2 := h.inn.own _ (List.mem_map.2 ⟨_, List.getElem_mem hk, rfl⟩)
theorem Own.ptr {w : World} {lo top : Nat} {A : Option Addr} {c : Nat} {l : List R} (h : Own w lo top A c l) (hn : 0 < l.length) : ∃ g, A = some ⟨g, 0, none⟩ := by
  rcases h.out.2 with ⟨hv, h0⟩ | ⟨g', cap, cur, hv, _⟩
  · omega
  · injection hv with h1; exact ⟨g', h1⟩
/-- its cells, and that they may be written. -/
theorem Own.at {w : World} {lo top g : Nat} {c : Nat} {l : List R} (h : Own w lo top (some ⟨g, 0, none⟩) c l) {k : Nat} {x : R} (hk : k < l.length) (hx : l[k] = x) :
    w.cell? ⟨g, k * 4, none⟩ = some (.int .i64 x.f0) ∧ w.cell? ⟨g, k * 4 + 1, none⟩ = some (.int .i64 x.f1) ∧ w.cell? ⟨g, k * 4 + 2, none⟩ = some (.slice x.f2.A x.f2.ls.length x.f2.cap) ∧ w.cell? ⟨g, k * 4 + 3, none⟩ = some (.bool x.f3) := by
  subst hx
  refine ⟨?_, ?_, ?_, ?_⟩
  · rw [h.out.cellAt _ (by omega)]; exact flat_0 l k hk
  · rw [h.out.cellAt _ (by omega)]; exact flat_1 l k hk
  · rw [h.out.cellAt _ (by omega)]; exact flat_2 l k hk
  · rw [h.out.cellAt _ (by omega)]; exact flat_3 l k hk
theorem Own.empty (w : World) {lo : Nat} (hl : lo ≤ w.heap.size) : Own (w.alloc (.cells #[] 41)) lo (w.heap.size + 1) (some ⟨w.heap.size, 0, none⟩) 0 [] := by
  have := World.ownsRow_lit w #[] 0 (e := 41) (size := 4) (base := lo) hl (by unfold maxLen; omega) rfl
  exact ⟨by simpa [flat] using this, fun k hk => by simp [Value.ownBlock] at hk; omega, Inner.empty _ _ _ _⟩
/-- heap k's layers are written anew, elsewhere or in place (world w'), and then its cell. -/
theorem Own.putRow {w w' : World} {lo top top' g c k : Nat} {l : List R} {r : Row} (h : Own w lo top (some ⟨g, 0, none⟩) c l) (hk : k < l.length) (hr : RowOwn w' lo r) (ht : top ≤ top')
    (hn : ∀ j, r.blk = some j → j < top' ∧ j ≠ g ∧ (l[k].f2.blk = some j ∨ top ≤ j))
    (he : ∀ j, j < w.heap.size → l[k].f2.blk ≠ some j → w'.heap[j]? = w.heap[j]?) :
    Own (w'.setCell ⟨g, k * 4 + 2, none⟩ (.slice r.A r.ls.length r.cap)) lo top' (some ⟨g, 0, none⟩) c (l.set k ⟨l[k].f0, l[k].f1, r, l[k].f3⟩) := by
  have hm : l[k].f2 ∈ l.map R.f2 := List.mem_map.2 ⟨_, List.getElem_mem hk, rfl⟩
  have hgk : l[k].f2.blk ≠ some g := fun e => (h.inn.far _ hm g e).2 rfl
  have ho : w'.ownsRow lo 41 4 (.slice (some ⟨g, 0, none⟩) l.length c) l.length (flat l) :=
    own_congr h.out (fun j hj => by
      have e : g = j := by simpa [Value.ownBlock] using hj
      subst e
      exact he g (h.out.lt g rfl).2 hgk)
  refine ⟨?_, fun j hj => Nat.lt_of_lt_of_le (h.low j (by simpa [Value.ownBlock] using hj)) ht, ?_⟩
  · have := (ho.stored (k * 4 + 2) (.slice r.A r.ls.length r.cap)).1
    rw [flat_row r hk] at this
    simpa using this
  · have hi : (l.map R.f2)[k]? = some l[k].f2 := by simp [hk]
    have h1 := h.inn.set (w' := w') (top' := top') (r := r) hi hr ht (fun j hj => ⟨(hn j hj).1, fun e => (hn j hj).2.1 (by simpa [Value.ownBlock] using e.symm), (hn j hj).2.2⟩) (fun j h1 _ h3 => he j h1 h3)
    rw [List.map_set]
    have e : (Value.slice (some ⟨g, 0, none⟩) (l.set k ⟨l[k].f0, l[k].f1, r, l[k].f3⟩).length c).ownBlock = (Value.slice (some ⟨g, 0, none⟩) l.length c).ownBlock := rfl
    rw [e]
    exact h1.congr fun j _ _ h4 => Below.heap_setCell w' ⟨g, k * 4 + 2, none⟩ _ j (fun e => h4 (by rw [e]; rfl))
theorem Own.putCov {w : World} {lo top g c k : Nat} {l : List R} (q : Bool) (h : Own w lo top (some ⟨g, 0, none⟩) c l) (hk : k < l.length) :
    Own (w.setCell ⟨g, k * 4 + 3, none⟩ (.bool q)) lo top (some ⟨g, 0, none⟩) c (l.set k ⟨l[k].f0, l[k].f1, l[k].f2, q⟩) := by
  refine ⟨?_, fun j hj => h.low j (by simpa [Value.ownBlock] using hj), ?_⟩
  · have := (h.out.stored (k * 4 + 3) (.bool q)).1
    rw [flat_cov q hk] at this
    simpa using this
  · have e : (l.set k ⟨l[k].f0, l[k].f1, l[k].f2, q⟩).map R.f2 = l.map R.f2 := by
      rw [List.map_set]
      apply List.ext_getElem?
      intro j
      rw [List.getElem?_set]
      split
      · rename_i h1; subst h1; simp [hk]
      · rfl
    rw [e]
    exact h.inn.congr fun j _ _ h4 => Below.heap_setCell w ⟨g, k * 4 + 3, none⟩ _ j (fun e => h4 (by rw [e]; rfl))
/-- one heap more, its layers in new memory. -/
theorem Own.snoc {w w1 w' : World} {lo top : Nat} {A A' : Option Addr} {c c' : Nat} {l : List R} {x : R} (h : Own w lo top A c l) (hl : lo ≤ w.heap.size) (ht : top ≤ w.heap.size) (hb : Below w.heap.size w w1) (hx : RowOwn w1 w.heap.size x.f2)
    (ho : w'.ownsRow lo 41 4 (.slice A' (l ++ [x]).length c') (l ++ [x]).length (flat (l ++ [x]))) (hg : w1.grownBy w' (Value.slice A l.length c).ownBlock)
    (hA : ∀ k, (Value.slice A' (l ++ [x]).length c').ownBlock = some k → (Value.slice A l.length c).ownBlock = some k ∨ w1.heap.size ≤ k) : Own w' lo w'.heap.size A' c' (l ++ [x]) := by
  have hs := Nat.le_trans ht hb.size
  refine ⟨ho, fun k hk => (ho.lt k hk).2, ?_⟩
  have hrow : RowOwn w' w.heap.size x.f2 := hx.congr fun k hk => hg.block k (hx.lt k hk).2 (fun e => by
    have h1 := h.low k e.symm
    have h2 := (hx.lt k hk).1
    omega)
  have h1 : Inner w' lo w.heap.size (Value.slice A l.length c).ownBlock (l.map R.f2) := by
    refine Inner.mono ?_ ht
    have h2 := h.inn.keep hb
    exact ⟨fun r hr => (h2.own r hr).congr fun k hk => hg.block k ((h2.own r hr).lt k hk).2 (fun e => (h2.far r hr k hk).2 e.symm), h2.far, h2.sep⟩
  have h2 : Inner w' lo w'.heap.size (Value.slice A l.length c).ownBlock (l.map R.f2 ++ [x.f2]) := by
    refine h1.snoc (hrow.base hl) (Nat.le_trans hb.size hg.size) fun k hk => ⟨(hrow.lt k hk).1, (hrow.lt k hk).2, fun e => by
      have h3 := h.low k e
      have h4 := (hrow.lt k hk).1
      omega⟩
  rw [List.map_append]
  refine ⟨h2.own, fun r hr k hk => ⟨(h2.far r hr k hk).1, fun e => ?_⟩, h2.sep⟩
  rcases hA k e with h3 | h3
  · exact (h2.far r hr k hk).2 h3
  · rcases List.mem_append.1 hr with hr | hr
    · have := (h1.far r hr k hk).1
      have := hb.size
      omega
    · rw [List.mem_singleton.1 hr] at hk
      have := (hx.lt k hk).2
      omega
end Go.Proofs.YtokgncbcknpfiaaDoor.HeapS
