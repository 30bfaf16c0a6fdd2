/- Tables of ints ([][]int) in memory: that can be read, that a call made; the laws' eqIntSS, markIntSS, heldIntSS. My own. -/
import Derived.Test.YtknlgdahcfgbeaaNest
import Derived.Test.YtknlgdahcfgbeaaRegn2
import Derived.Deep.QuietTactic
import Derived.BigQuiet
import Derived.WalkLawsBesides
import Derived.WalkSpells
import Derived.StillTailTactics
namespace Go.Proofs.Ytknlgdahcfgbeaa.TabS
open Go.RowKit Go.Proofs.Ytknlgdahcfgbeaa.Mem Go.Proofs.Ytknlgdahcfgbeaa.Base Go.Proofs.Ytknlgdahcfgbeaa.SInt Go.Proofs.Ytknlgdahcfgbeaa.Boxes Go.Proofs.Ytknlgdahcfgbeaa.Keep Go.Proofs.Ytknlgdahcfgbeaa.Nest
set_option linter.unusedVariables false
set_option maxRecDepth 100000
def tv (l : List Row) : List Value := l.map Row.val
/-- the numbers alone. -/
def tp (l : List Row) : List (List Int) := l.map Row.ls
theorem tv_n (l : List Row) : (tv l).length = l.length * 1 := by simp [tv]
theorem tv_len (l : List Row) : (tv l).length = l.length := by simp [tv]
theorem tv_get (l : List Row) (k : Nat) (h : k < l.length) : (tv l)[k]? = some (.slice l[k].A l[k].ls.length l[k].cap) := by simp [tv, h, Row.val]
theorem tp_len (l : List Row) : (tp l).length = l.length := by simp [tp]
theorem tp_get (l : List Row) (k : Nat) (h : k < l.length) : (tp l)[k]'(by rw [tp_len]; exact h) = l[k].ls := by simp [tp]
theorem tv_set (l : List Row) (k : Nat) (r : Row) : (tv l).set k (.slice r.A r.ls.length r.cap) = tv (l.set k r) := by simp only [tv, List.map_set]; rfl
theorem tv_snoc (l : List Row) (r : Row) : tv (l ++ [r]) = tv l ++ [.slice r.A r.ls.length r.cap] := by simp only [tv, List.map_append]; rfl
structure Ts (w : World) (B : Nat) (A : Option Addr) (l : List Row) : Prop where
  rd : Rd w B A (tv l)
  rows : ∀ x ∈ l, Rd w B x.A (iv x.ls)
  len : l.length ≤ 1048576
  rlen : ∀ x ∈ l, x.ls.length ≤ 1048576
theorem Ts.below {w w' : World} {B B' : Nat} {A : Option Addr} {l : List Row} (h : Ts w B A l) (hb : Below B' w w') (hB : B ≤ B') : Ts w' B A l :=
  ⟨h.rd.below hb hB, fun x hx => (h.rows x hx).below hb hB, h.len, h.rlen⟩
theorem Ts.mono {w : World} {B B' : Nat} {A : Option Addr} {l : List Row} (h : Ts w B A l) (hB : B ≤ B') : Ts w B' A l := ⟨h.rd.mono hB, fun x hx => (h.rows x hx).mono hB, h.len, h.rlen⟩
theorem Ts.keep {w w' : World} {A : Option Addr} {l : List Row} (h : Ts w w.heap.size A l) (hb : Below w.heap.size w w') : Ts w' w'.heap.size A l := (h.below hb (Nat.le_refl _)).mono hb.size
theorem Ts.span {w w' : World} {B lo hi : Nat} {A : Option Addr} {l : List Row} (h : Ts w B A l) (hs : Span lo hi w w') (hB : B ≤ lo) (hl : lo ≤ w.heap.size) : Ts w' B A l := h.below (hs.below hl (Nat.le_refl _)) hB
theorem Ts.at {w : World} {B : Nat} {A : Option Addr} {l : List Row} (h : Ts w B A l) {k : Nat} {x : Row} (hk : k < l.length) (hx : l[k] = x) :
    ∃ b o, A = some ⟨b, o, none⟩ ∧ b < B ∧ w.cell? ⟨b, o + k, none⟩ = some (.slice x.A x.ls.length x.cap) := by
  obtain ⟨b, o, hA, hb, hc⟩ := h.rd.at (k := k) (by rw [tv_len]; exact hk)
  subst hx
  exact ⟨b, o, hA, hb, hc _ _ (tv_get l k hk)⟩
theorem Ts.row {w : World} {B : Nat} {A : Option Addr} {l : List Row} (h : Ts w B A l) {k : Nat} {x : Row} (hk : k < l.length) (hx : l[k] = x) : Rd w B x.A (iv x.ls) ∧ x.ls.length ≤ 1048576 := by
  subst hx; exact ⟨h.rows _ (List.getElem_mem hk), h.rlen _ (List.getElem_mem hk)⟩
/-- a table that a call made, in memory from lo on and below top. -/
structure TOwn (w : World) (lo top : Nat) (A : Option Addr) (c : Nat) (l : List Row) : Prop where
  out : w.ownsRow lo 34 1 (.slice A l.length c) l.length (tv l)
  low : ∀ k, (Value.slice A l.length c).ownBlock = some k → k < top
  inn : Inner w lo top (Value.slice A l.length c).ownBlock l
theorem TOwn.hs {w : World} {lo top : Nat} {A : Option Addr} {c : Nat} {l : List Row} (h : TOwn w lo top A c l) (hn : l.length ≤ 1048576) (hr : ∀ x ∈ l, x.ls.length ≤ 1048576) : Ts w top A l :=
  ⟨rd_top (Rd.of_own h.out) h.low, fun x hx => rd_top (n := x.ls.length) (c := x.cap) (h.inn.own _ hx).rd (fun k hk => (h.inn.far _ hx k hk).1), hn, hr⟩
theorem TOwn.keep {w w' : World} {lo top : Nat} {A : Option Addr} {c : Nat} {l : List Row} (h : TOwn w lo top A c l) (hb : Below w.heap.size w w') : TOwn w' lo top A c l :=
  ⟨own_congr h.out (fun k hk => hb.block k (h.out.lt k hk).2), h.low, h.inn.keep hb⟩
theorem TOwn.span {w w' : World} {lo top lo' hi : Nat} {A : Option Addr} {c : Nat} {l : List Row} (h : TOwn w lo top A c l) (hs : Span lo' hi w w') (hd : top ≤ lo' ∨ hi ≤ lo) : TOwn w' lo top A c l :=
  ⟨own_congr h.out (fun k hk => hs.block k (h.out.lt k hk).2 (by have := (h.out.lt k hk).1; have := h.low k hk; omega)), h.low, h.inn.span hs hd⟩
theorem TOwn.mono {w : World} {lo top top' : Nat} {A : Option Addr} {c : Nat} {l : List Row} (h : TOwn w lo top A c l) (ht : top ≤ top') : TOwn w lo top' A c l :=
  ⟨h.out, fun k hk => Nat.lt_of_lt_of_le (h.low k hk) ht, h.inn.mono ht⟩
theorem TOwn.base {w : World} {lo lo' top : Nat} {A : Option Addr} {c : Nat} {l : List Row} (h : TOwn w lo top A c l) (hl : lo' ≤ lo) : TOwn w lo' top A c l := ⟨own_base h.out hl, h.low, h.inn.base hl⟩
theorem TOwn.row {w : World} {lo top : Nat} {A : Option Addr} {c : Nat} {l : List Row} (h : TOwn w lo top A c l) {k : Nat} (hk : k < l.length) : RowOwn w lo l[k] := h.inn.own _ (List.getElem_mem hk)
theorem TOwn.ptr {w : World} {lo top : Nat} {A : Option Addr} {c : Nat} {l : List Row} (h : TOwn w lo top A c l) (hn : 0 < l.length) : ∃ g, A = some ⟨g, 0, none⟩ := by
  rcases h.out.2 with ⟨hv, h0⟩ | ⟨g', cap, cur, hv, _⟩
  · omega
  · injection hv with h1; exact ⟨g', h1⟩
theorem tat {w : World} {lo g c : Nat} {l : List Row} (h : w.ownsRow lo 34 1 (.slice (some ⟨g, 0, none⟩) l.length c) l.length (tv l)) {k : Nat} {x : Row} (hk : k < l.length) (hx : l[k] = x) :
    w.cell? ⟨g, k, none⟩ = some (.slice x.A x.ls.length x.cap) := by
  subst hx; rw [h.cellAt _ (by omega)]; exact tv_get l k hk
theorem TOwn.empty (w : World) {lo : Nat} (hl : lo ≤ w.heap.size) : TOwn (w.alloc (.cells #[] 34)) lo (w.heap.size + 1) (some ⟨w.heap.size, 0, none⟩) 0 [] := by
  have := World.ownsRow_lit w #[] 0 (e := 34) (size := 1) (base := lo) hl (by unfold maxLen; omega) rfl
  exact ⟨by simpa [tv] using this, fun k hk => by simp [Value.ownBlock] at hk; omega, Inner.empty _ _ _ _⟩
theorem TOwn.snoc {w w1 w' : World} {lo top : Nat} {A A' : Option Addr} {c c' : Nat} {l : List Row} {x : Row} (h : TOwn w lo top A c l) (hl : lo ≤ w.heap.size) (ht : top ≤ w.heap.size) (hb : Below w.heap.size w w1) (hx : RowOwn w1 w.heap.size x)
    (ho : w'.ownsRow lo 34 1 (.slice A' (l ++ [x]).length c') (l ++ [x]).length (tv (l ++ [x]))) (hg : w1.grownBy w' (Value.slice A l.length c).ownBlock)
    (hA : ∀ k, (Value.slice A' (l ++ [x]).length c').ownBlock = some k → (Value.slice A l.length c).ownBlock = some k ∨ w1.heap.size ≤ k) : TOwn w' lo w'.heap.size A' c' (l ++ [x]) := by
  have hs := Nat.le_trans ht hb.size
  refine ⟨ho, fun k hk => (ho.lt k hk).2, ?_⟩
  have hrow : RowOwn w' w.heap.size x := hx.congr fun k hk => hg.block k (hx.lt k hk).2 (fun e => by
    have h1 := h.low k e.symm
    have h2 := (hx.lt k hk).1
    omega)
  have h1 : Inner w' lo w.heap.size (Value.slice A l.length c).ownBlock l := by
    refine Inner.mono ?_ ht
    have h2 := h.inn.keep hb
    exact ⟨fun r hr => (h2.own r hr).congr fun k hk => hg.block k ((h2.own r hr).lt k hk).2 (fun e => (h2.far r hr k hk).2 e.symm), h2.far, h2.sep⟩
  have h2 : Inner w' lo w'.heap.size (Value.slice A l.length c).ownBlock (l ++ [x]) := by
    refine h1.snoc (hrow.base hl) (Nat.le_trans hb.size hg.size) fun k hk => ⟨(hrow.lt k hk).1, (hrow.lt k hk).2, fun e => by
      have h3 := h.low k e
      have h4 := (hrow.lt k hk).1
      omega⟩
  refine ⟨h2.own, fun r hr k hk => ⟨(h2.far r hr k hk).1, fun e => ?_⟩, h2.sep⟩
  rcases hA k e with h3 | h3
  · exact (h2.far r hr k hk).2 h3
  · rcases List.mem_append.1 hr with hr | hr
    · have := (h1.far r hr k hk).1
      have := hb.size
      omega
    · rw [List.mem_singleton.1 hr] at hk
      have := (hx.lt k hk).2
      omega
/-- row k is written anew, elsewhere or in place (world w'), and then its cell. -/
theorem TOwn.putRow {w w' : World} {lo top top' g c k : Nat} {l : List Row} {r : Row} (h : TOwn w lo top (some ⟨g, 0, none⟩) c l) (hk : k < l.length) (hr : RowOwn w' lo r) (ht : top ≤ top')
    (hn : ∀ j, r.blk = some j → j < top' ∧ j ≠ g ∧ (l[k].blk = some j ∨ top ≤ j))
    (he : ∀ j, j < w.heap.size → l[k].blk ≠ some j → w'.heap[j]? = w.heap[j]?) :
    w'.ownsRow lo 34 1 (.slice (some ⟨g, 0, none⟩) l.length c) l.length (tv l) ∧
    TOwn (w'.setCell ⟨g, k, none⟩ (.slice r.A r.ls.length r.cap)) lo top' (some ⟨g, 0, none⟩) c (l.set k r) := by
  have hm := List.getElem_mem hk
  have hgk : l[k].blk ≠ some g := fun e => (h.inn.far _ hm g e).2 rfl
  have ho : w'.ownsRow lo 34 1 (.slice (some ⟨g, 0, none⟩) l.length c) l.length (tv l) :=
    own_congr h.out (fun j hj => by
      have e : g = j := by simpa [Value.ownBlock] using hj
      subst e
      exact he g (h.out.lt g rfl).2 hgk)
  refine ⟨ho, ?_, fun j hj => Nat.lt_of_lt_of_le (h.low j (by simpa [Value.ownBlock] using hj)) ht, ?_⟩
  · have := (ho.stored k (.slice r.A r.ls.length r.cap)).1
    rw [tv_set] at this
    simpa using this
  · have hi : l[k]? = some l[k] := by simp [hk]
    have h1 := h.inn.set (w' := w') (top' := top') (r := r) hi hr ht (fun j hj => ⟨(hn j hj).1, fun e => (hn j hj).2.1 (by simpa [Value.ownBlock] using e.symm), (hn j hj).2.2⟩) (fun j h1 _ h3 => he j h1 h3)
    have e : (Value.slice (some ⟨g, 0, none⟩) (l.set k r).length c).ownBlock = (Value.slice (some ⟨g, 0, none⟩) l.length c).ownBlock := rfl
    rw [e]
    exact h1.congr fun j _ _ h4 => Below.heap_setCell w' ⟨g, k, none⟩ _ j (fun e => h4 (by rw [e]; rfl))
/-- the numbers of row k written in their place. -/
theorem TOwn.putIn {w w' : World} {lo top c k : Nat} {A : Option Addr} {l : List Row} {y : Row} {ms : List Int} (h : TOwn w lo top A c l) (hk : k < l.length) (hy : l[k] = y) (hl : ms.length = y.ls.length)
    (hr : RowOwn w' lo ⟨y.A, y.cap, ms⟩) (hg : w.grownBy w' y.blk) : TOwn w' lo top A c (l.set k ⟨y.A, y.cap, ms⟩) := by
  subst hy
  have hm := List.getElem_mem hk
  have hb : Row.blk ⟨l[k].A, l[k].cap, ms⟩ = l[k].blk := by
    show (Value.slice l[k].A ms.length l[k].cap).ownBlock = (Value.slice l[k].A l[k].ls.length l[k].cap).ownBlock
    rw [hl]
  have ef : tv (l.set k ⟨l[k].A, l[k].cap, ms⟩) = tv l := by
    rw [← tv_set]
    apply List.ext_getElem?
    intro j
    rw [List.getElem?_set]
    split
    · rename_i h1; subst h1
      rw [if_pos (by rw [tv_len]; exact hk), tv_get l k hk, hl]
    · rfl
  refine ⟨?_, fun j hj => h.low j (by rw [List.length_set] at hj; exact hj), ?_⟩
  · rw [ef, List.length_set]
    exact own_congr h.out (fun j hj => hg.block j (h.out.lt j hj).2 (fun e => (h.inn.far _ hm j e.symm).2 hj))
  · have hi : l[k]? = some l[k] := by simp [hk]
    rw [List.length_set]
    exact h.inn.set (top' := top) hi hr (Nat.le_refl _) (fun j hj => by
      rw [hb] at hj
      exact ⟨(h.inn.far _ hm j hj).1, (h.inn.far _ hm j hj).2, .inl hj⟩) (fun j h1 _ h3 => hg.block j h1 (fun e => h3 e.symm))
structure TsL (w : World) (B : Nat) (A : Option Addr) (l : List Row) : Prop where
  le : B ≤ w.heap.size
  hs : Ts w B A l
theorem tsl_keep {w w' : World} {B : Nat} {A : Option Addr} {l : List Row} (h : TsL w B A l) (hb : Below w.heap.size w w') : TsL w' B A l := ⟨Nat.le_trans h.le hb.size, h.hs.below hb h.le⟩
theorem TsL.all {w : World} {B : Nat} {A : Option Addr} {l : List Row} (h : TsL w B A l) : Ts w w.heap.size A l := h.hs.mono h.le
theorem TsL.span {w w' : World} {B lo hi : Nat} {A : Option Addr} {l : List Row} (h : TsL w B A l) (hs : Span lo hi w w') (hB : B ≤ lo) (hl : lo ≤ w.heap.size) : TsL w' B A l := ⟨Nat.le_trans h.le hs.size, h.hs.span hs hB hl⟩
structure TOwnL (w : World) (lo top : Nat) (A : Option Addr) (c : Nat) (l : List Row) : Prop where
  own : TOwn w lo top A c l
  le : top ≤ w.heap.size
theorem townl_keep {w w' : World} {lo top : Nat} {A : Option Addr} {c : Nat} {l : List Row} (h : TOwnL w lo top A c l) (hb : Below w.heap.size w w') : TOwnL w' lo top A c l := ⟨h.own.keep hb, Nat.le_trans h.le hb.size⟩
theorem TOwnL.span {w w' : World} {lo top lo' hi : Nat} {A : Option Addr} {c : Nat} {l : List Row} (h : TOwnL w lo top A c l) (hs : Span lo' hi w w') (hd : top ≤ lo' ∨ hi ≤ lo) : TOwnL w' lo top A c l := ⟨h.own.span hs hd, Nat.le_trans h.le hs.size⟩
def Sm (M : List (List Int)) : Prop := M.length ≤ 1000 ∧ ∀ x ∈ M, x.length ≤ 1000
theorem sm_rows {M : List (List Int)} {m : List Row} (h : tp m = M) (hs : Sm M) : m.length ≤ 1000 ∧ ∀ x ∈ m, x.ls.length ≤ 1000 := by
  subst h
  exact ⟨by rw [← tp_len m]; exact hs.1, fun x hx => hs.2 x.ls (List.mem_map.2 ⟨x, hx, rfl⟩)⟩
theorem TOwnL.hs {w : World} {lo top : Nat} {A : Option Addr} {c : Nat} {m : List Row} {M : List (List Int)} (h : TOwnL w lo top A c m) (hm : tp m = M) (hs : Sm M) : Ts w w.heap.size A m := by
  obtain ⟨h1, h2⟩ := sm_rows hm hs
  exact (h.own.hs (by omega) (fun x hx => by have := h2 x hx; omega)).mono h.le
/-- a table of the call's own, and a truth. -/
def TPost (F : List (List Int)) (q : Bool) (w : World) (e : Ending) (w' : World) : Prop :=
  ∃ (m : List Row) (A : Option Addr) (c : Nat), tp m = F ∧ e = .returned (.tuple #[.slice A m.length c, .bool q]) ∧ TOwn w' w.heap.size w'.heap.size A c m ∧ Below w.heap.size w w'
theorem t_mk {F : List (List Int)} {q r : Bool} {w w' : World} {m : List Row} {A : Option Addr} {c : Nat} {v : Value} (hF : F = tp m) (hq : q = r) (h : v = .tuple #[.slice A m.length c, .bool r])
    (ho : TOwn w' w.heap.size w'.heap.size A c m) (hB : Below w.heap.size w w') : TPost F q w (.returned v) w' := by
  subst hq; exact ⟨m, A, c, hF.symm, by rw [h], ho, hB⟩
theorem t_none {w w1 : World} (hB : Below w.heap.size w w1) : TOwn (w1.alloc (.cells #[] 34)) w.heap.size (w1.alloc (.cells #[] 34)).heap.size (some ⟨w1.heap.size, 0, none⟩) 0 [] := by
  have := TOwn.empty w1 hB.size
  rwa [← size_alloc' w1 (.cells #[] 34)] at this
def tot (l : List Row) : Nat := (l.map fun r => r.ls.length).sum
def mkAt (k : Int) (x : Row) : Row := ⟨x.A, x.cap, marks k x.ls.length⟩
def marksT : Int → List Row → List Row
  | _, [] => []
  | k, x :: l => mkAt k x :: marksT (k + x.ls.length) l
theorem tot_cons (x : Row) (l : List Row) : tot (x :: l) = x.ls.length + tot l := by simp [tot]
theorem tot_snoc (l : List Row) (x : Row) : tot (l ++ [x]) = tot l + x.ls.length := by simp [tot]
theorem tot_take (l : List Row) (j : Nat) : tot (l.take j) ≤ tot l := by
  have h : tot l = tot (l.take j) + tot (l.drop j) := by
    have : tot (l.take j ++ l.drop j) = tot (l.take j) + tot (l.drop j) := by simp only [tot, List.map_append, List.sum_append]
    rwa [List.take_append_drop] at this
  omega
theorem marksT_len (k : Int) (l : List Row) : (marksT k l).length = l.length := by
  induction l generalizing k with
  | nil => rfl
  | cons x l ih => simp [marksT, ih]
theorem marksT_app (k : Int) (l : List Row) (x : Row) : marksT k (l ++ [x]) = marksT k l ++ [mkAt (k + tot l) x] := by
  induction l generalizing k with
  | nil => simp [marksT, tot]
  | cons y l ih =>
    rw [List.cons_append, marksT, marksT, ih, List.cons_append, tot_cons]
    congr 4
    push_cast
    omega
theorem marksT_get (k : Int) (l : List Row) (j : Nat) (h : j < l.length) : (marksT k l)[j]'(by rw [marksT_len]; exact h) = mkAt (k + tot (l.take j)) l[j] := by
  induction l generalizing k j with
  | nil => simp at h
  | cons x l ih =>
    cases j with
    | zero => simp [marksT, tot]
    | succ j =>
      have := ih (k + x.ls.length) j (by simpa using h)
      simp only [marksT, List.getElem_cons_succ, List.take_succ_cons, tot_cons]
      rw [this]
      congr 1
      push_cast
      omega
theorem mark_bd (k : Int) (l : List Row) : ∀ x ∈ marksT k l, ∃ y ∈ l, x.ls.length = y.ls.length := by
  intro x hx
  obtain ⟨j, hj, rfl⟩ := List.getElem_of_mem hx
  have hj' : j < l.length := by rw [marksT_len] at hj; exact hj
  rw [marksT_get k l j hj']
  exact ⟨l[j], List.getElem_mem _, by simp [mkAt, marks_len]⟩
def part (l : List Row) (k : Int) (j : Nat) : List Row := marksT k (l.take j) ++ l.drop j
theorem part_zero (l : List Row) (k : Int) : part l k 0 = l := by simp [part, marksT]
theorem part_full (l : List Row) (k : Int) : part l k l.length = marksT k l := by simp [part]
theorem part_len (l : List Row) (k : Int) (j : Nat) (h : j ≤ l.length) : (part l k j).length = l.length := by simp [part, marksT_len]; omega
theorem part_at (l : List Row) (k : Int) (j : Nat) (h : j < l.length) : (part l k j)[j]'(by rw [part_len l k j (by omega)]; exact h) = l[j] := by
  unfold part
  rw [List.getElem_append_right (by rw [marksT_len, List.length_take]; omega)]
  simp only [marksT_len, List.length_take]
  rw [List.getElem_drop]
  congr 1
  omega
theorem part_set (l : List Row) (k : Int) (j : Nat) (h : j < l.length) : (part l k j).set j (mkAt (k + tot (l.take j)) l[j]) = part l k (j + 1) := by
  have hl : (marksT k (l.take j)).length = j := by rw [marksT_len, List.length_take]; omega
  unfold part
  rw [List.set_append_right _ _ (by omega), hl, Nat.sub_self, List.drop_eq_getElem_cons h, List.set_cons_zero, List.take_succ_eq_append_getElem h, marksT_app, List.append_assoc]
  rfl
theorem tot_next {l : List Row} {j : Nat} {y : Row} (h : j < l.length) (hy : l[j] = y) : tot (l.take (j + 1)) = tot (l.take j) + y.ls.length := by
  rw [List.take_succ_eq_append_getElem h, tot_snoc, hy]
theorem sm_tot {M : List (List Int)} {m : List Row} (h : tp m = M) (hs : Sm M) : tot m ≤ 1000000 := by
  obtain ⟨h1, h2⟩ := sm_rows h hs
  have key : ∀ (k : List Row), (∀ x ∈ k, x.ls.length ≤ 1000) → tot k ≤ k.length * 1000 := by
    intro k
    induction k with
    | nil => intro _; simp [tot]
    | cons x k ih =>
      intro hk
      have a := hk x (by simp)
      have b := ih (fun y hy => hk y (by simp [hy]))
      rw [tot_cons, List.length_cons]
      omega
  have := key m h2
  omega
end Go.Proofs.Ytknlgdahcfgbeaa.TabS
