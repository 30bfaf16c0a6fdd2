/- Small words on memory: a slice whose cells are known ('Rd'), and how such facts last. My own; used by the walks of this seat. -/
import Derived.Test.YtngominkeammiaaRows
import Derived.WalkKit
import Derived.ProofKit
import Derived.Lib.Hide
import Derived.Deep.QuietTactic
import Derived.BigQuiet
namespace Go.Proofs.Ytngominkeammiaa.Mem
open Go.RowKit
set_option linter.unusedVariables false

/-- The slice at A reads as the flat cells xs; they lie in a block below B. -/
def Rd (w : World) (B : Nat) (A : Option Addr) (xs : List Value) : Prop :=
  xs = [] ∨ ∃ b o, A = some ⟨b, o, none⟩ ∧ b < B ∧ ∀ (j : Nat) (v : Value), xs[j]? = some v → w.cell? ⟨b, o + j, none⟩ = some v

theorem Rd.nil {w : World} {B : Nat} {A : Option Addr} : Rd w B A [] := .inl rfl

theorem Rd.keep {w w' : World} {B : Nat} {A : Option Addr} {xs : List Value} (h : Rd w B A xs)
    (hk : ∀ b o, b < B → w'.cell? ⟨b, o, none⟩ = w.cell? ⟨b, o, none⟩) : Rd w' B A xs := by
  rcases h with h | ⟨b, o, hA, hb, hc⟩
  · exact .inl h
  · exact .inr ⟨b, o, hA, hb, fun j v hv => (hk b (o + j) hb).trans (hc j v hv)⟩

theorem Rd.mono {w : World} {B B' : Nat} {A : Option Addr} {xs : List Value} (h : Rd w B A xs) (hB : B ≤ B') : Rd w B' A xs := by
  rcases h with h | ⟨b, o, hA, hb, hc⟩
  · exact .inl h
  · exact .inr ⟨b, o, hA, by omega, hc⟩

theorem Rd.below {w w' : World} {B B' : Nat} {A : Option Addr} {xs : List Value} (h : Rd w B A xs) (hb : Below B' w w') (hB : B ≤ B') : Rd w' B A xs :=
  h.keep fun b o hlt => hb.cell (p := ⟨b, o, none⟩) (by show b < B'; omega)

theorem Rd.at {w : World} {B : Nat} {A : Option Addr} {xs : List Value} (h : Rd w B A xs) {k : Nat} (hk : k < xs.length) :
    ∃ b o, A = some ⟨b, o, none⟩ ∧ b < B ∧ ∀ (j : Nat) (v : Value), xs[j]? = some v → w.cell? ⟨b, o + j, none⟩ = some v := by
  rcases h with rfl | h
  · simp at hk
  · exact h

theorem Rd.of_own {w : World} {base : Nat} {e : TypeId} {size n c : Nat} {A : Option Addr} {xs : List Value} (h : w.ownsRow base e size (.slice A n c) n xs) :
    Rd w w.heap.size A xs := by
  have h0 := h
  rcases h.2 with ⟨hv, hn⟩ | ⟨g, cap, cur, hv, hg, hh, _⟩
  · left
    have := h.1
    rw [hn] at this
    exact List.eq_nil_of_length_eq_zero (by simpa using this)
  · right
    have hA : A = some ⟨g, 0, none⟩ := by injection hv
    subst hA
    have hc : c = cap := by injection hv
    subst hc
    refine ⟨g, 0, rfl, ?_, fun j v hv' => ?_⟩
    · rcases Nat.lt_or_ge g w.heap.size with hlt | hge
      · exact hlt
      · rw [Array.getElem?_eq_none hge] at hh; cases hh
    · have hl : j < xs.length := by
        rcases Nat.lt_or_ge j xs.length with hlt | hge
        · exact hlt
        · rw [List.getElem?_eq_none hge] at hv'; cases hv'
      rw [Nat.zero_add, h0.cellAt j (by rw [← h.1]; exact hl)]
      exact hv'

theorem Rd.of_cells {w : World} {a : Addr} {xs : List Value} (h : ∀ (j : Nat) (v : Value), xs[j]? = some v → w.cell? (a.add j) = some v) : Rd w w.heap.size (some a) xs := by
  cases xs with
  | nil => exact .inl rfl
  | cons x r =>
    have h0 := h 0 x rfl
    have hs : a.spot = none := by have := World.cell?_spot h0; simpa [Addr.add] using this
    have hb : a.block < w.heap.size := by
      have hx := World.block_lt_of_cell? w (a.add 0) h0
      simpa [Addr.add] using hx
    obtain ⟨b, o, sp⟩ := a
    simp only at hs hb
    subst hs
    refine .inr ⟨b, o, rfl, hb, fun j v hv => ?_⟩
    have := h j v hv
    unfold Addr.add at this
    split at this
    · rename_i he; subst he; exact this
    · exact this

theorem own_form {w : World} {base : Nat} {e : TypeId} {size n : Nat} {v : Value} {xs : List Value} (h : w.ownsRow base e size v n xs) : ∃ A c, v = .slice A n c := by
  rcases h.2 with ⟨rfl, rfl⟩ | ⟨g, cap, cur, rfl, _⟩
  · exact ⟨_, _, rfl⟩
  · exact ⟨_, _, rfl⟩
theorem own_ge {w : World} {base : Nat} {e : TypeId} {size n : Nat} {v : Value} {xs : List Value} (h : w.ownsRow base e size v n xs) : ∀ k, v.ownBlock = some k → base ≤ k := by
  rcases h.2 with ⟨rfl, rfl⟩ | ⟨g, cap, cur, rfl, hb, _⟩
  · intro k hk; simp [Value.ownBlock] at hk
  · intro k hk; simp [Value.ownBlock] at hk; omega
theorem below_append {w wr w1 : World} {o : Obj} {e : TypeId} {size n : Nat} {v : Value} {xs : List Value} (hB : Below w.heap.size w wr) (ho : wr.ownsRow w.heap.size e size v n xs)
    (hg : (wr.alloc o).grownBy w1 v.ownBlock) : Below w.heap.size w w1 :=
  (hB.alloc hB.size o).grown hg (hB.alloc hB.size o).size (own_ge ho)
theorem own_keep {w w' : World} {base : Nat} {e : TypeId} {size n : Nat} {v : Value} {xs : List Value} (h : w.ownsRow base e size v n xs) (hb : Below w.heap.size w w') : w'.ownsRow base e size v n xs := by
  refine ⟨h.1, ?_⟩
  rcases h.2 with h2 | ⟨g, cap, cur, hv, hg, hh, r⟩
  · exact .inl h2
  · refine .inr ⟨g, cap, cur, hv, hg, ?_, r⟩
    have hlt : g < w.heap.size := by
      rcases Nat.lt_or_ge g w.heap.size with hl | hl
      · exact hl
      · rw [Array.getElem?_eq_none hl] at hh; cases hh
    rw [hb.block g hlt]; exact hh
/-- the first k of l, then z's. -/
def half {α : Type} (z : α) (l : List α) (k : Nat) : List α := l.take k ++ List.replicate (l.length - k) z
theorem half_zero {α : Type} (z : α) (l : List α) : half z l 0 = List.replicate l.length z := by simp [half]
theorem half_full {α : Type} (z : α) (l : List α) : half z l l.length = l := by simp [half]
theorem half_len {α : Type} (z : α) (l : List α) (k : Nat) (h : k ≤ l.length) : (half z l k).length = l.length := by simp [half]; omega
theorem half_set {α : Type} (z : α) (l : List α) (k : Nat) (h : k < l.length) : (half z l k).set k l[k] = half z l (k + 1) := by
  unfold half
  have hlen : (l.take k).length = k := by rw [List.length_take]; omega
  rw [List.set_append_right _ _ (by omega), hlen, Nat.sub_self, List.take_succ_eq_append_getElem h]
  have e : l.length - k = (l.length - (k + 1)) + 1 := by omega
  rw [e, List.replicate_succ, List.set_cons_zero, List.append_assoc]
  rfl
theorem own_some {w : World} {base : Nat} {e : TypeId} {size n c : Nat} {A : Option Addr} {xs : List Value} (h : w.ownsRow base e size (.slice A n c) n xs) (hn : 0 < n) : ∃ g c', A = some ⟨g, 0, none⟩ ∧ c = c' := by
  rcases h.2 with ⟨hv, rfl⟩ | ⟨g, cap, cur, hv, _⟩
  · omega
  · injection hv with h1 h2 h3
    exact ⟨g, c, h1, rfl⟩
theorem _root_.Go.World.grownBy.setOwn {w w' : World} {g : Nat} {n c : Nat} (h : w.grownBy w' (Value.slice (some ⟨g, 0, none⟩) n c).ownBlock) (i : Nat) (u : Value) :
    w.grownBy (w'.setCell ⟨g, i, none⟩ u) (Value.slice (some ⟨g, 0, none⟩) n c).ownBlock :=
  ⟨h.os, h.tape, h.output, by have := h.size; simp [World.setCell]; exact this, fun k hk hne => by
    rw [Below.heap_setCell w' ⟨g, i, none⟩ u k (fun e => hne (by rw [e]; rfl))]
    exact h.block k hk hne⟩
theorem one_cell {x : Value} (h : x.oneCell' = true) : ∀ u ∈ [x], u.oneCell' = true := by
  intro u hu; rw [List.mem_singleton.1 hu]; exact h

theorem rd_ints {w : World} {a : Addr} {k : IntKind} {zs : List Int} {len : Nat} (hl : len ≤ zs.length) (hcell : ∀ i, i < zs.length → w.cell? (a.add i) = some (.int k (zs.getD i 0))) :
    Rd w w.heap.size (some a) ((zs.take len).map (Value.int k)) := by
  apply Rd.of_cells
  intro j v hv
  rw [List.getElem?_map, List.getElem?_take] at hv
  split at hv
  · rename_i hj
    have hj' : j < zs.length := by omega
    rw [hcell j hj']
    rw [List.getElem?_eq_getElem hj'] at hv
    rw [← hv]
    simp [List.getD, List.getElem?_eq_getElem hj']
  · cases hv
theorem wf_byte {zs : List Int} (h : ∀ n ∈ zs, (Lit.int .u8 n).wf = true) : ∀ z ∈ zs, 0 ≤ z ∧ z ≤ 255 := by
  intro z hz
  have := h z hz
  simp [Lit.wf, IntKind.min, IntKind.max, IntKind.signed, IntKind.bits] at this
  omega

/-- What lies below B stays: the two rules that a walk uses by itself. -/
theorem bcell {B : Nat} {w w' : World} (hb : Below B w w') :
    (∀ b o, b < B → w'.cell? ⟨b, o, none⟩ = w.cell? ⟨b, o, none⟩) ∧ (∀ b o, b < B → w'.frozen? ⟨b, o, none⟩ = w.frozen? ⟨b, o, none⟩) :=
  ⟨fun b o h => hb.cell (p := ⟨b, o, none⟩) h, fun b o h => hb.frozen (p := ⟨b, o, none⟩) h⟩

theorem Below.drewN' {B : Nat} {a w : World} (h : Below B a w) (n : Nat) : Below B a (w.drewN n) := ⟨h.os, h.tape, h.output, h.size, h.block⟩

/-- w' is w but for draws. -/
def Drawn (w w' : World) : Prop := ∃ n, w' = w.drewN n
theorem Drawn.refl (w : World) : Drawn w w := ⟨0, rfl⟩
theorem Drawn.n (w : World) (n : Nat) : Drawn w (w.drewN n) := ⟨n, rfl⟩
theorem Drawn.nn (w : World) (n m : Nat) : Drawn w ((w.drewN n).drewN m) := ⟨n + m, by simp [World.drewN, Nat.add_assoc]⟩
theorem Drawn.trans {a b c : World} (h : Drawn a b) (k : Drawn b c) : Drawn a c := by
  obtain ⟨n, rfl⟩ := h; obtain ⟨m, rfl⟩ := k; exact Drawn.nn a n m
theorem Drawn.below {w w' : World} (h : Drawn w w') (B : Nat) : Below B w w' := by
  obtain ⟨n, rfl⟩ := h; exact Below.drewN' (Below.refl B w) n

theorem Drawn.cell {w w' : World} (h : Drawn w w') (b o : Nat) : w'.cell? ⟨b, o, none⟩ = w.cell? ⟨b, o, none⟩ := by
  obtain ⟨n, rfl⟩ := h; rfl
theorem Drawn.more {w w' : World} (h : Drawn w w') (n : Nat) : Drawn w (w'.drewN n) := h.trans (Drawn.n _ n)

/-- new memory on top of what was only new memory. -/
theorem al {w w1 : World} (h : Below w.heap.size w w1) {o : Obj} : Below w.heap.size w (w1.alloc o) := h.alloc h.size o
theorem be {w w1 w2 : World} (h : Below w.heap.size w w1) (k : Below w1.heap.size w1 w2) : Below w.heap.size w w2 := h.trans (k.mono h.size)
theorem flat_len {α : Type} (f : α → List Value) (n : Nat) (hf : ∀ x, (f x).length = n) (l : List α) : (l.flatMap f).length = l.length * n := by
  induction l with
  | nil => simp
  | cons x l ih => simp only [List.flatMap_cons, List.length_append, hf, ih, List.length_cons]; rw [Nat.succ_mul, Nat.add_comm]
theorem flat_get {α : Type} (f : α → List Value) (n : Nat) (hf : ∀ x, (f x).length = n) (l : List α) (i j : Nat) (hi : i < l.length) (hj : j < n) : (l.flatMap f)[i * n + j]? = (f l[i])[j]? := by
  induction l generalizing i with
  | nil => simp at hi
  | cons x l ih =>
    rw [List.flatMap_cons]
    cases i with
    | zero => rw [Nat.zero_mul, Nat.zero_add, List.getElem?_append_left (by rw [hf]; exact hj)]; rfl
    | succ i =>
      rw [List.getElem?_append_right (by rw [hf, Nat.succ_mul]; omega), hf, Nat.succ_mul, show i * n + n + j - n = i * n + j by omega]
      exact ih i (by simpa using hi)

theorem flat_ext {α : Type} (f : α → List Value) (n : Nat) (hf : ∀ x, (f x).length = n) (L : List Value) (l : List α) (hl : L.length = l.length * n)
    (h : ∀ i j (hi : i < l.length), j < n → L[i * n + j]? = (f l[i])[j]?) : L = l.flatMap f := by
  apply List.ext_getElem?
  intro p
  by_cases hp : p < l.length * n
  · have hn : 0 < n := by rcases Nat.eq_zero_or_pos n with h0 | h0; (rw [h0] at hp; omega); exact h0
    have hi : p / n < l.length := by rw [Nat.div_lt_iff_lt_mul hn]; exact hp
    have hj : p % n < n := Nat.mod_lt _ hn
    have e : p / n * n + p % n = p := Nat.div_add_mod' p n
    have h1 := h (p / n) (p % n) hi hj
    have h2 := flat_get f n hf l (p / n) (p % n) hi hj
    rw [e] at h1 h2
    rw [h1, h2]
  · rw [List.getElem?_eq_none (by omega), List.getElem?_eq_none (by rw [flat_len f n hf]; omega)]
theorem made_get (z : Array Value) (n m i j : Nat) (hz : z.size = n) (hj : j < n) (h : i * n + j < m) : (madeCells z m).toList[i * n + j]? = z[j]? := by
  have hm : (i * n + j) % n = j := by rw [Nat.mul_comm, Nat.mul_add_mod, Nat.mod_eq_of_lt hj]
  have hj' : j < z.size := by omega
  unfold madeCells
  rw [Array.getElem?_toList, Array.getElem?_map, Array.getElem?_range, if_pos h, Option.map_some, hz, hm, Array.getElem?_eq_getElem hj', getElem!_pos z j hj']
theorem idx_inj {n k i q j : Nat} (hq : q < n) (hj : j < n) (e : k * n + q = i * n + j) : i = k := by
  have h1 : (k * n + q) / n = k := by rw [Nat.mul_comm, Nat.mul_add_div (by omega), Nat.div_eq_of_lt hq]; rfl
  have h2 : (i * n + j) / n = i := by rw [Nat.mul_comm, Nat.mul_add_div (by omega), Nat.div_eq_of_lt hj]; rfl
  rw [← h1, ← h2, e]

theorem str_inj {a b : ByteArray} (h : a.toList = b.toList) : a = b := by
  rw [ByteArray.toList_eq, ByteArray.toList_eq] at h
  exact WideShapes.bytes_inj h
theorem str_ne_true {a b : ByteArray} (h : (!(a.toList == b.toList)) = true) : a ≠ b := by
  rintro rfl; simp at h
theorem str_ne_false {a b : ByteArray} (h : (!(a.toList == b.toList)) = false) : a = b := by
  apply str_inj; simpa using h
theorem take_ne {α : Type} {ss ts : List α} {k : Nat} (h1 : k < ss.length) (h2 : k < ts.length) (h : ss[k] ≠ ts[k]) : ss ≠ ts := by
  rintro rfl; exact h rfl
theorem take_eq_succ {α : Type} {ss ts : List α} {k : Nat} (h1 : k < ss.length) (h2 : k < ts.length) (hp : ss.take k = ts.take k) (h : ss[k] = ts[k]) : ss.take (k + 1) = ts.take (k + 1) := by
  rw [List.take_succ_eq_append_getElem h1, List.take_succ_eq_append_getElem h2, hp, h]

theorem ret_int {k : IntKind} {a b : Int} (h : a = b) : Ending.returned (.int k a) = .returned (.int k b) := by rw [h]

end Go.Proofs.Ytngominkeammiaa.Mem
