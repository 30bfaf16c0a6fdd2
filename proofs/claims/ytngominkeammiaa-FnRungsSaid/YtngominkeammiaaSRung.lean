/- The laws' helpers over Rung: a struct of 2 ints, by value and in slices. Made by tools/gen_struct.py. -/
import Derived.Test.YtngominkeammiaaBase
import Derived.Deep.QuietTactic
import Derived.BigQuiet
import Derived.WalkLawsBesides
import Derived.WalkSpells
import Derived.StillTailTactics
namespace Go.Proofs.Ytngominkeammiaa.SRung
open Go.RowKit Go.Proofs.Ytngominkeammiaa.Mem Go.Proofs.Ytngominkeammiaa.Base
set_option linter.unusedVariables false
set_option maxRecDepth 100000

structure R where
  f0 : Int
  f1 : Int
  deriving DecidableEq
def R.cells (x : R) : List Value := [.int .i64 x.f0, .int .i64 x.f1]
def R.val (x : R) : Value := .agg #[.int .i64 x.f0, .int .i64 x.f1]
def flat (l : List R) : List Value := l.flatMap R.cells
theorem flat_n (l : List R) : (flat l).length = l.length * 2 := flat_len R.cells 2 (fun _ => rfl) l
theorem flat_0 (l : List R) (i : Nat) (h : i < l.length) : (flat l)[i * 2]? = some (.int .i64 l[i].f0) := flat_get R.cells 2 (fun _ => rfl) l i 0 h (by omega)
theorem flat_1 (l : List R) (i : Nat) (h : i < l.length) : (flat l)[i * 2 + 1]? = some (.int .i64 l[i].f1) := flat_get R.cells 2 (fun _ => rfl) l i 1 h (by omega)
def zero : R := ⟨0, 0⟩
theorem flat_set (l : List R) (k : Nat) (x : R) (h : k < l.length) : (((flat l).set (k * 2) (.int .i64 x.f0)).set (k * 2 + 1) (.int .i64 x.f1)) = flat (l.set k x) := by
  refine flat_ext R.cells 2 (fun _ => rfl) _ _ (by simp [flat_n]) fun i j hi hj => ?_
  have hi' : i < l.length := by simpa using hi
  have hb := flat_get R.cells 2 (fun _ => rfl) l i j hi' hj
  by_cases hik : i = k
  · subst hik
    have hlen := flat_n l
    have hi2 : i * 2 + 2 ≤ l.length * 2 := by have := Nat.mul_le_mul_right 2 (show i + 1 ≤ l.length by omega); rw [Nat.succ_mul] at this; exact this
    rw [List.getElem_set_self]
    match j, hj with
    | 0, _ => simp [List.getElem?_set, R.cells, hlen]; omega
    | 1, _ => simp [List.getElem?_set, R.cells, hlen]; omega
  · rw [List.getElem_set_ne (fun e => hik e.symm), ← hb]
    have hne : ∀ q, q < 2 → ¬ (k * 2 + q = i * 2 + j) := fun q hq e => hik (idx_inj hq hj e)
    rw [List.getElem?_set_ne (by have := hne 1 (by omega); omega), List.getElem?_set_ne (by have := hne 0 (by omega); omega)]
    rfl
theorem made (m : Nat) : (madeCells (R.val zero).cells (m * 2)).toList = flat (List.replicate m zero) := by
  refine flat_ext R.cells 2 (fun _ => rfl) _ _ (by simp [size_madeCells]) fun i j hi hj => ?_
  have hi' : i < m := by simpa using hi
  have hlt : i * 2 + j < m * 2 := by have := Nat.mul_le_mul_right 2 (show i + 1 ≤ m by omega); rw [Nat.succ_mul] at this; omega
  rw [List.getElem_replicate, made_get (R.val zero).cells 2 (m * 2) i j rfl hj hlt]
  simp [R.val, R.cells, Value.cells]
def R.wf (x : R) : Prop := (Lit.int .i64 x.f0).wf = true ∧ (Lit.int .i64 x.f1).wf = true
theorem of_cells {w : World} {a : Addr} {len : Nat} (h : ∀ i, i < len → ∀ j, j < 2 → ∃ q : Int, w.cell? (a.add (i * 2 + j)) = some (.int .i64 q) ∧ (Lit.int .i64 q).wf = true) :
    ∃ l : List R, l.length = len ∧ Rd w w.heap.size (some a) (flat l) ∧ ∀ x ∈ l, x.wf := by
  have h' : ∀ i, ∃ x : R, i < len → (∀ j v, x.cells[j]? = some v → w.cell? (a.add (i * 2 + j)) = some v) ∧ x.wf := by
    intro i
    by_cases hi : i < len
    · obtain ⟨q0, c0, v0⟩ := h i hi 0 (by omega)
      obtain ⟨q1, c1, v1⟩ := h i hi 1 (by omega)
      refine ⟨⟨q0, q1⟩, fun _ => ⟨fun j v hv => ?_, v0, v1⟩⟩
      have hj : j < 2 := by
        rcases Nat.lt_or_ge j 2 with h1 | h1
        · exact h1
        · rw [List.getElem?_eq_none (by exact h1)] at hv; cases hv
      match j, hj, hv with
      | 0, _, hv => injection hv with hv; subst hv; exact c0
      | 1, _, hv => injection hv with hv; subst hv; exact c1
    · exact ⟨zero, fun h1 => absurd h1 hi⟩
  obtain ⟨f, hf⟩ := Classical.axiomOfChoice h'
  refine ⟨(List.range len).map f, by simp, Rd.of_cells fun j v hv => ?_, fun x hx => ?_⟩
  · have hjl : j < ((List.range len).map f).length * 2 := by
      rcases Nat.lt_or_ge j (((List.range len).map f).length * 2) with h1 | h1
      · exact h1
      · rw [List.getElem?_eq_none (by rw [flat_n]; exact h1)] at hv; cases hv
    have e : j / 2 * 2 + j % 2 = j := Nat.div_add_mod' j 2
    have hi : j / 2 < ((List.range len).map f).length := by omega
    have h2 := flat_get R.cells 2 (fun _ => rfl) ((List.range len).map f) (j / 2) (j % 2) hi (Nat.mod_lt _ (by omega))
    rw [e] at h2
    have h3 : (flat ((List.range len).map f))[j]? = _ := h2
    rw [h3] at hv
    have h4 := (hf (j / 2) (by simpa using hi)).1 (j % 2) v (by simpa using hv)
    rwa [e] at h4
  · obtain ⟨i, hi, rfl⟩ := List.mem_map.1 hx
    exact (hf i (List.mem_range.1 hi)).2

/-- returned with this value, only new memory. -/
def RPost (v : Value) (w : World) (e : Ending) (w' : World) : Prop := e = .returned v ∧ Below w.heap.size w w'
def same (x y : R) : Bool := decide (x = y)
theorem same_self (x : R) : same x x = true := decide_eq_true rfl
theorem same_ne {x y : R} (h : x ≠ y) : same x y = false := decide_eq_false h
theorem rpost {v u : Value} {w w' : World} (h : u = v) (hw : Below w.heap.size w w') : RPost v w (.returned u) w' := ⟨by rw [h], hw⟩
theorem to_any (x : R) (w : World) : Calls Try.prog 85 #[.agg #[.int .i64 x.f0, .int .i64 x.f1]] w (RPost x.val w) := by
  go_enter Try.func85, Try.ntmps85
  go_wp2
  exact bodyPost_ret (v := .agg #[.int .i64 x.f0, .int .i64 x.f1]) (by simp [results, Try.results85, go_sem]) rfl (rpost rfl (al (al (al (Below.refl _ _)))))
set_option maxHeartbeats 400000 in
theorem eq_any (x y : R) (w : World) : Calls Try.prog 86 #[.agg #[.int .i64 x.f0, .int .i64 x.f1], .agg #[.int .i64 y.f0, .int .i64 y.f1]] w (RPost (.bool (same x y)) w) := by
  obtain ⟨a0, a1⟩ := x
  obtain ⟨b0, b1⟩ := y
  by_cases h0 : a0 = b0
  · subst h0
    by_cases h1 : a1 = b1
    · subst h1
      have HD := Lib.hid (same_self ⟨a0, a1⟩)
      dsimp only
      go_enter Try.func86, Try.ntmps86
      go_wp2
      go_ret
      exact rpost (by rw [HD.out]; rfl) (al (al (Below.refl _ _)))
    · have HD := Lib.hid (same_ne (x := ⟨a0, a1⟩) (y := ⟨a0, b1⟩) (fun e => by injection e; contradiction))
      have hne : (a1 != b1) = true := by rw [bne_iff_ne]; exact h1
      dsimp only
      go_enter Try.func86, Try.ntmps86
      go_wp2
      go_ret
      exact rpost (by rw [HD.out]; rfl) (al (al (Below.refl _ _)))
  · have HD := Lib.hid (same_ne (x := ⟨a0, a1⟩) (y := ⟨b0, b1⟩) (fun e => by injection e; contradiction))
    have hne : (a0 != b0) = true := by rw [bne_iff_ne]; exact h0
    dsimp only
    go_enter Try.func86, Try.ntmps86
    go_wp2
    go_ret
    exact rpost (by rw [HD.out]; rfl) (al (al (Below.refl _ _)))
theorem info_T : (Try.prog.info? 54).map (fun i => (i.zero, i.size, i.bytes)) = some (some zero.val, 2, 16) := by kernel_rfl
def ToPost (l : List R) (w : World) (e : Ending) (w' : World) : Prop :=
  e = .returned (.slice (some ⟨w.heap.size, 0, none⟩) l.length l.length) ∧
    w'.ownsRow w.heap.size 54 2 (.slice (some ⟨w.heap.size, 0, none⟩) l.length l.length) l.length (flat l) ∧ Below w.heap.size w w'
set_option maxHeartbeats 1000000 in
theorem toS_any (A : Option Addr) (cap : Nat) (l : List R) (w : World) (hr : Rd w w.heap.size A (flat l)) (hn : l.length ≤ 1048576) :
    Calls Try.prog 43 #[.slice A l.length cap] w (ToPost l w) := by
  obtain ⟨i0, hi, hz0, hz1, hz2⟩ := info_parts info_T
  have HR := Lib.hid hr; clear hr
  have HI := Lib.hid hz2; clear hz2
  have HI1 := Lib.hid hz1; clear hz1
  have c1 : i0.bytes * l.length ≤ 281474976710656 := by rw [HI.out]; omega
  have c2 : l.length ≤ maxLen := by unfold maxLen; omega
  go_enter Try.func43, Try.ntmps43
  go_wp2_with (at_make; go_must (refine wpList_make_full _ rfl _ _ 24 rfl w.heap.size 54 i0 _ 2 Try.underlying24 hi hz0 HI1.out _ _ _ _ l.length rfl rfl rfl rfl c1 c2 (Nat.le_refl _) ?_; intro w1 hown1 hg1))
  have hB1 : Below w.heap.size w w1 := (Below.refl _ w).grown hg1 (Nat.le_refl _) (by intro k hk; cases hk)
  have hown : w1.ownsRow w.heap.size 54 2 (.slice (some ⟨w.heap.size, 0, none⟩) l.length l.length) l.length (flat (half zero l 0)) := by
    rw [half_zero, ← made]; exact hown1
  clear hown1 hg1 c1 c2
  go_loopw [4] (fun i wr => ∃ k : Nat, k ≤ l.length ∧ i = .int .i64 k ∧ wr.ownsRow w.heap.size 54 2 (.slice (some ⟨w.heap.size, 0, none⟩) l.length l.length) l.length (flat (half zero l k)) ∧ Below w.heap.size w wr) (fun i _ => l.length - (intOf i).toNat)
  case atStart => exact ⟨0, Nat.zero_le _, rfl, hown, hB1⟩
  case round =>
    clear hown hB1
    obtain ⟨k, hk, rfl, hown, hB⟩ := hrel
    have HO := Lib.hid hown; clear hown
    have HB := Lib.hid hB; clear hB
    by_cases hlt : k < l.length
    · obtain ⟨b, o, rfl, hb, hc⟩ := HR.out.at (k := k * 2) (by rw [flat_n]; omega)
      have h0 : wr.cell? ⟨b, o + k * 2, none⟩ = some (.int .i64 l[k].f0) := ((bcell HB.out).1 _ _ hb).trans (hc _ _ (flat_0 l k hlt))
      have h1 : wr.cell? ⟨b, o + k * 2 + 1, none⟩ = some (.int .i64 l[k].f1) := ((bcell HB.out).1 _ _ hb).trans (hc _ _ (flat_1 l k hlt))
      clear hc
      go_wp2_with fail
      refine (to_any l[k] wr).mono ?_
      rintro e w2 ⟨rfl, hB2⟩
      have HO2 := Lib.hid (own_keep HO.out hB2); clear HO
      have HB2 := Lib.hid (be HB.out hB2); clear hB2 HB
      have hz : k * 2 + 2 ≤ l.length * 2 := by have := Nat.mul_le_mul_right 2 (show k + 1 ≤ l.length by omega); rw [Nat.succ_mul] at this; exact this
      have hfl : (flat (half zero l k)).length = l.length * 2 := by rw [flat_n, half_len zero l k hk]
      obtain ⟨q0, m0⟩ : ∃ v, w2.cell? ⟨w.heap.size, k * 2, none⟩ = some v :=
        ⟨_, (HO2.out.cellAt (k * 2) (by omega)).trans (List.getElem?_eq_getElem (by rw [hfl]; omega))⟩
      have g0 : w2.frozen? ⟨w.heap.size, k * 2, none⟩ = false := HO2.out.frozenAt _
      obtain ⟨q1, m1⟩ : ∃ v, w2.cell? ⟨w.heap.size, k * 2 + 1, none⟩ = some v :=
        ⟨_, (HO2.out.cellAt (k * 2 + 1) (by omega)).trans (List.getElem?_eq_getElem (by rw [hfl]; omega))⟩
      have g1 : w2.frozen? ⟨w.heap.size, k * 2 + 1, none⟩ = false := HO2.out.frozenAt _
      clear hfl hz h0 h1
      unfold R.val
      go_wp2
      go_roundw
      case rel =>
        refine ⟨k + 1, by omega, by go_num, ?_, ((HB2.out.setCell (Nat.le_refl _) _).setCell (Nat.le_refl _) _)⟩
        have := ((HO2.out.stored (k * 2) (.int .i64 l[k].f0)).1.stored (k * 2 + 1) (.int .i64 l[k].f1)).1
        rw [flat_set (half zero l k) k l[k] (by rw [half_len zero l k hk]; exact hlt), half_set zero l k hlt] at this
        exact this
      case measure => simp [intOf]; omega
    · have hkk : k = l.length := by omega
      go_wp2
      go_ret
      refine ⟨rfl, ?_, HB.out⟩
      have := HO.out
      rwa [hkk, half_full] at this
def szV (left : Int) (n : Nat) : Int := if left < n then -1 else left - n
theorem szS_any (A : Option Addr) (cap n : Nat) (left : Int) (w : World) (h0 : 0 ≤ left) (h1 : left ≤ 1048576) (hn : n ≤ maxLen) :
    Calls Try.prog 42 #[.slice A n cap, .int .i64 left] w fun e w' => e = .returned (.int .i64 (szV left n)) ∧ w = w' := by
  unfold maxLen at hn
  by_cases hs : left < n
  · have H := Lib.hid (show szV left n = -1 by unfold szV; rw [if_pos hs])
    go_enter Try.func42, Try.ntmps42
    go_wp2
    go_ret
    exact ⟨by rw [H.out]; simp, rfl⟩
  · have H := Lib.hid (show szV left n = left - n by unfold szV; rw [if_neg hs])
    go_enter Try.func42, Try.ntmps42
    go_wp2
    go_ret
    exact ⟨by rw [H.out]; simp, rfl⟩
def EqPost (l m : List R) (w : World) (e : Ending) (w' : World) : Prop := e = .returned (.bool (decide (l = m))) ∧ Below w.heap.size w w'
theorem eq_yes {l m : List R} {w w' : World} (h : l = m) (hw : Below w.heap.size w w') : EqPost l m w (.returned (.bool true)) w' := ⟨by rw [decide_eq_true h], hw⟩
theorem eq_no {l m : List R} {w w' : World} (h : l ≠ m) (hw : Below w.heap.size w w') : EqPost l m w (.returned (.bool false)) w' := ⟨by rw [decide_eq_false h], hw⟩
set_option maxHeartbeats 1000000 in
theorem eqS_any (A A' : Option Addr) (cap cap' : Nat) (l m : List R) (w : World) (hr : Rd w w.heap.size A (flat l)) (hr' : Rd w w.heap.size A' (flat m)) (hn : l.length ≤ maxLen) (hn' : m.length ≤ maxLen) :
    Calls Try.prog 44 #[.slice A l.length cap, .slice A' m.length cap'] w (EqPost l m w) := by
  unfold maxLen at hn hn'
  by_cases hl : l.length = m.length
  · have hne : ((l.length : Int) != m.length) = false := by rw [bne_eq_false_iff_eq]; omega
    have HR := Lib.hid hr; clear hr
    have HR' := Lib.hid hr'; clear hr'
    have HL := Lib.hid hl; clear hl
    go_enter Try.func44, Try.ntmps44
    go_wp2
    go_loopw [5] (fun i wr => ∃ k : Nat, k ≤ l.length ∧ i = .int .i64 k ∧ l.take k = m.take k ∧ Below w.heap.size w wr) (fun i _ => l.length - (intOf i).toNat)
    case atStart => exact ⟨0, Nat.zero_le _, rfl, by simp, Below.refl _ _⟩
    case round =>
      obtain ⟨k, hk, rfl, hpre, hB⟩ := hrel
      have HP := Lib.hid hpre; clear hpre
      have HB := Lib.hid hB; clear hB
      by_cases hlt : k < l.length
      · have hlt' : k < m.length := by have := HL.out; omega
        obtain ⟨b, o, rfl, hb, hc⟩ := HR.out.at (k := k * 2) (by rw [flat_n]; omega)
        obtain ⟨b', o', rfl, hb', hc'⟩ := HR'.out.at (k := k * 2) (by rw [flat_n]; omega)
        have h0 : wr.cell? ⟨b, o + k * 2, none⟩ = some (.int .i64 l[k].f0) := ((bcell HB.out).1 _ _ hb).trans (hc _ _ (flat_0 l k hlt))
        have k0 : wr.cell? ⟨b', o' + k * 2, none⟩ = some (.int .i64 m[k].f0) := ((bcell HB.out).1 _ _ hb').trans (hc' _ _ (flat_0 m k hlt'))
        have h1 : wr.cell? ⟨b, o + k * 2 + 1, none⟩ = some (.int .i64 l[k].f1) := ((bcell HB.out).1 _ _ hb).trans (hc _ _ (flat_1 l k hlt))
        have k1 : wr.cell? ⟨b', o' + k * 2 + 1, none⟩ = some (.int .i64 m[k].f1) := ((bcell HB.out).1 _ _ hb').trans (hc' _ _ (flat_1 m k hlt'))
        clear hc hc'
        go_wp2_with fail
        go_still_tail 8, (by kernel_rfl)
        obtain ⟨w2, hw2⟩ : ∃ W : World, W = wr.drew := ⟨_, rfl⟩
        change wpList _ _ _ _ _ wr.drew
        rw [← hw2]
        have HB2 := Lib.hid (show Below w.heap.size w w2 by rw [hw2]; exact HB.out.drew)
        clear hw2 h0 k0 h1 k1 HB
        go_wp2_with fail
        refine (eq_any l[k] m[k] w2).mono ?_
        rintro e w3 ⟨rfl, hB3⟩
        have HB3 := Lib.hid (be HB2.out hB3); clear hB3 HB2
        by_cases he : l[k] = m[k]
        · have HE := Lib.hid (show same l[k] m[k] = true by rw [he]; exact same_self _)
          have HE2 := Lib.hid (take_eq_succ hlt hlt' HP.out he); clear he
          rw [HE.out]
          go_wp2
          go_roundw
          case rel => exact ⟨k + 1, by omega, by go_num, HE2.out, HB3.out⟩
          case measure => simp [intOf]; omega
        · have HE := Lib.hid (same_ne he)
          have HE2 := Lib.hid (take_ne hlt hlt' he); clear he
          rw [HE.out]
          go_wp2
          go_ret
          exact eq_no HE2.out HB3.out
      · go_wp2
        go_ret
        exact eq_yes (by have h1 := HP.out; rwa [List.take_of_length_le (by omega), List.take_of_length_le (by have := HL.out; omega)] at h1) HB.out
  · have hne : ((l.length : Int) != m.length) = true := by rw [bne_iff_ne]; omega
    go_enter Try.func44, Try.ntmps44
    go_wp2
    go_ret
    exact eq_no (fun e => hl (by rw [e])) (Below.refl _ _)
/-- what marking from k on leaves. -/
def mk (k : Int) (i : Nat) : R := ⟨k + i * 2, k + i * 2 + 1⟩
def marks (k : Int) (m : Nat) : List R := (List.range m).map (mk k)
theorem marks_len (k : Int) (m : Nat) : (marks k m).length = m := by simp [marks]
theorem marks_get (k : Int) (m i : Nat) (h : i < (marks k m).length) : (marks k m)[i] = mk k i := by simp [marks]
def part (l : List R) (k : Int) (i : Nat) : List R := marks k i ++ l.drop i
theorem part_zero (l : List R) (k : Int) : part l k 0 = l := by simp [part, marks]
theorem part_full (l : List R) (k : Int) : part l k l.length = marks k l.length := by simp [part]
theorem part_len (l : List R) (k : Int) (i : Nat) (h : i ≤ l.length) : (part l k i).length = l.length := by simp [part, marks]; omega
theorem part_set (l : List R) (k : Int) (i : Nat) (h : i < l.length) : (part l k i).set i (mk k i) = part l k (i + 1) := by
  unfold part
  rw [List.set_append_right _ _ (by rw [marks_len]; exact Nat.le_refl _), marks_len, Nat.sub_self, List.drop_eq_getElem_cons h, List.set_cons_zero]
  simp [marks, List.range_succ]
def MkPost (l : List R) (A : Option Addr) (c base : Nat) (k : Int) (w : World) (e : Ending) (w' : World) : Prop :=
  e = .returned (.int .i64 (k + l.length * 2)) ∧ w'.ownsRow base 54 2 (.slice A l.length c) l.length (flat (marks k l.length)) ∧ w.grownBy w' (Value.slice A l.length c).ownBlock
set_option maxHeartbeats 1000000 in
theorem markS_any (A : Option Addr) (c base : Nat) (l : List R) (k : Int) (w : World) (ho : w.ownsRow base 54 2 (.slice A l.length c) l.length (flat l)) (hn : l.length ≤ 100000000) (hk0 : 0 ≤ k) (hk1 : k ≤ 100000000000) :
    Calls Try.prog 49 #[.slice A l.length c, .int .i64 k] w (MkPost l A c base k w) := by
  have HO0 := Lib.hid ho; clear ho
  go_enter Try.func49, Try.ntmps49
  go_wp2
  go_loopw [1, 5] (fun q i wr => ∃ j : Nat, j ≤ l.length ∧ i = .int .i64 j ∧ q = .int .i64 (k + j * 2) ∧ wr.ownsRow base 54 2 (.slice A l.length c) l.length (flat (part l k j)) ∧ w.grownBy wr (Value.slice A l.length c).ownBlock) (fun _ i _ => l.length - (intOf i).toNat)
  case atStart => exact ⟨0, Nat.zero_le _, rfl, by simp, by rw [part_zero]; exact HO0.out, World.grownBy.refl _ _⟩
  case round =>
    obtain ⟨j, hj, rfl, rfl, ho, hg⟩ := hrel
    have HO := Lib.hid ho; clear ho
    have HG := Lib.hid hg; clear hg
    by_cases hlt : j < l.length
    · obtain ⟨g, cap', hA⟩ := own_some HO.out (by omega)
      obtain ⟨rfl, rfl⟩ := hA
      have hfl : (flat (part l k j)).length = l.length * 2 := by rw [flat_n, part_len l k j hj]
      have hz : j * 2 + 2 ≤ l.length * 2 := by have := Nat.mul_le_mul_right 2 (show j + 1 ≤ l.length by omega); rw [Nat.succ_mul] at this; exact this
      obtain ⟨q0, m0⟩ : ∃ v, wr.cell? ⟨g, j * 2, none⟩ = some v :=
        ⟨_, (HO.out.cellAt (j * 2) (by omega)).trans (List.getElem?_eq_getElem (by rw [hfl]; omega))⟩
      have g0 : wr.frozen? ⟨g, j * 2, none⟩ = false := HO.out.frozenAt _
      obtain ⟨q1, m1⟩ : ∃ v, wr.cell? ⟨g, j * 2 + 1, none⟩ = some v :=
        ⟨_, (HO.out.cellAt (j * 2 + 1) (by omega)).trans (List.getElem?_eq_getElem (by rw [hfl]; omega))⟩
      have g1 : wr.frozen? ⟨g, j * 2 + 1, none⟩ = false := HO.out.frozenAt _
      clear hfl hz
      go_wp2
      go_roundw
      case rel =>
        have h1 := ((HO.out.stored (j * 2) (.int .i64 (mk k j).f0)).1.stored (j * 2 + 1) (.int .i64 (mk k j).f1)).1
        rw [flat_set (part l k j) j (mk k j) (by rw [part_len l k j hj]; exact hlt), part_set l k j hlt] at h1
        refine ⟨j + 1, by omega, by go_num, by simp; omega, ?_, ?_⟩
        · simpa [mk, Int.add_assoc] using h1
        · exact ((HG.out.setOwn _ _).setOwn _ _)
      case measure => simp [intOf]; omega
    · have hkk : j = l.length := by omega
      subst hkk
      go_wp2
      go_ret
      exact ⟨rfl, by have := HO.out; rwa [part_full] at this, HG.out⟩
set_option maxHeartbeats 1000000 in
theorem heldS_any (A : Option Addr) (c B : Nat) (k : Int) (m : Nat) (w : World) (hr : Rd w B A (flat (marks k m))) (hn : m ≤ 100000000) (hk0 : 0 ≤ k) (hk1 : k ≤ 100000000000) :
    Calls Try.prog 54 #[.slice A m c, .int .i64 k] w fun e w' => e = .returned (.int .i64 (k + m * 2)) ∧ Drawn w w' := by
  have HR := Lib.hid hr; clear hr
  go_enter Try.func54, Try.ntmps54
  go_wp2
  go_loopw [1, 5] (fun q i wr => ∃ j : Nat, j ≤ m ∧ i = .int .i64 j ∧ q = .int .i64 (k + j * 2) ∧ Drawn w wr) (fun _ i _ => m - (intOf i).toNat)
  case atStart => exact ⟨0, Nat.zero_le _, rfl, by simp, Drawn.refl _⟩
  case round =>
    obtain ⟨j, hj, rfl, rfl, hD⟩ := hrel
    have HD := Lib.hid hD; clear hD
    by_cases hlt : j < m
    · obtain ⟨b, o, rfl, hb, hc⟩ := HR.out.at (k := j * 2) (by rw [flat_n, marks_len]; omega)
      have h0 : wr.cell? ⟨b, o + j * 2, none⟩ = some (.int .i64 (k + j * 2)) := (HD.out.cell _ _).trans (by have := hc _ _ (flat_0 (marks k m) j (by rw [marks_len]; exact hlt)); rw [marks_get] at this; simpa [mk, Nat.add_assoc] using this)
      have h1 : wr.cell? ⟨b, o + j * 2 + 1, none⟩ = some (.int .i64 (k + j * 2 + 1)) := (HD.out.cell _ _).trans (by have := hc _ _ (flat_1 (marks k m) j (by rw [marks_len]; exact hlt)); rw [marks_get] at this; simpa [mk, Nat.add_assoc] using this)
      clear hc
      go_wp2
      go_roundw
      case rel => exact ⟨j + 1, by omega, by go_num, by simp; omega, HD.out⟩
      case measure => simp [intOf]; omega
    · have hkk : j = m := by omega
      subst hkk
      go_wp2
      go_ret
      exact ⟨rfl, HD.out⟩
end Go.Proofs.Ytngominkeammiaa.SRung
