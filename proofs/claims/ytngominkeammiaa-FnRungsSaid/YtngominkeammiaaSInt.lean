/- The laws' helpers over []int. -/
import Derived.Test.YtngominkeammiaaBase
import Derived.Deep.QuietTactic
import Derived.BigQuiet
import Derived.WalkLawsBesides
import Derived.WalkSpells
import Derived.StillTailTactics
namespace Go.Proofs.Ytngominkeammiaa.SInt
open Go.RowKit Go.Proofs.Ytngominkeammiaa.Mem Go.Proofs.Ytngominkeammiaa.Base
set_option linter.unusedVariables false
def iv (l : List Int) : List Value := l.map (Value.int .i64)
theorem iv_len (l : List Int) : (iv l).length = l.length := by simp [iv]
theorem iv_get (l : List Int) (k : Nat) (h : k < l.length) : (iv l)[k]? = some (.int .i64 l[k]) := by simp [iv, h]
def EqPost (l m : List Int) (w : World) (e : Ending) (w' : World) : Prop := e = .returned (.bool (decide (l = m))) ∧ Below w.heap.size w w'
theorem eq_yes {l m : List Int} {w w' : World} (h : l = m) (hw : Drawn w w') : EqPost l m w (.returned (.bool true)) w' := ⟨by rw [decide_eq_true h], hw.below _⟩
theorem eq_no {l m : List Int} {w w' : World} (h : l ≠ m) (hw : Drawn w w') : EqPost l m w (.returned (.bool false)) w' := ⟨by rw [decide_eq_false h], hw.below _⟩
set_option maxHeartbeats 400000 in
theorem eqS_any (A A' : Option Addr) (cap cap' : Nat) (l m : List Int) (w : World) (hr : Rd w w.heap.size A (iv l)) (hr' : Rd w w.heap.size A' (iv m)) (hn : l.length ≤ maxLen) (hn' : m.length ≤ maxLen) :
    Calls Try.prog 48 #[.slice A l.length cap, .slice A' m.length cap'] w (EqPost l m w) := by
  unfold maxLen at hn hn'
  by_cases hl : l.length = m.length
  · have hne : ((l.length : Int) != m.length) = false := by rw [bne_eq_false_iff_eq]; omega
    have HR := Lib.hid hr; clear hr
    have HR' := Lib.hid hr'; clear hr'
    have HL := Lib.hid hl; clear hl
    go_enter Try.func48, Try.ntmps48
    go_wp2
    go_loopw [5] (fun i wr => ∃ k : Nat, k ≤ l.length ∧ i = .int .i64 k ∧ l.take k = m.take k ∧ ∃ n, wr = w.drewN n) (fun i _ => l.length - (intOf i).toNat)
    case atStart => exact ⟨0, Nat.zero_le _, rfl, by simp, 0, rfl⟩
    case round =>
      obtain ⟨k, hk, rfl, hpre, n, rfl⟩ := hrel
      have HP := Lib.hid hpre; clear hpre
      by_cases hlt : k < l.length
      · obtain ⟨b, o, rfl, hb, hc⟩ := HR.out.at (k := k) (by rw [iv_len]; exact hlt)
        obtain ⟨b', o', rfl, hb', hc'⟩ := HR'.out.at (k := k) (by rw [iv_len]; have := HL.out; omega)
        have hlt' : k < m.length := by have := HL.out; omega
        obtain ⟨x, hx⟩ : ∃ x, l[k] = x := ⟨_, rfl⟩
        obtain ⟨y, hy⟩ : ∃ y, m[k] = y := ⟨_, rfl⟩
        have hcell : w.cell? ⟨b, o + k, none⟩ = some (.int .i64 x) := by rw [← hx]; exact hc k _ (iv_get l k hlt)
        have hcell' : w.cell? ⟨b', o' + k, none⟩ = some (.int .i64 y) := by rw [← hy]; exact hc' k _ (iv_get m k hlt')
        clear hc hc'
        by_cases he : x = y
        · have hq : (x != y) = false := by simp [he]
          have HT := Lib.hid (take_eq_succ hlt hlt' HP.out (by rw [hx, hy]; exact he)); clear hx hy he
          have HLT := Lib.hid hlt
          go_wp2
          go_quiet (fail)
          go_wp2
          exact ⟨⟨k + 1, HLT.out, by go_num, HT.out, _, rfl⟩, by have := HLT.out; simp [intOf]; omega⟩
        · have hq : (x != y) = true := by simp [he]
          have HT := Lib.hid (take_ne hlt hlt' (by rw [hx, hy]; exact he)); clear hx hy he
          go_wp2
          go_quiet (fail)
          go_wp2
          go_ret
          exact eq_no HT.out (Drawn.nn _ _ _)
      · go_wp2
        go_ret
        exact eq_yes (by have h1 := HP.out; rwa [List.take_of_length_le (by omega), List.take_of_length_le (by have := HL.out; omega)] at h1) (Drawn.n _ _)
  · have hne : ((l.length : Int) != m.length) = true := by rw [bne_iff_ne]; omega
    go_enter Try.func48, Try.ntmps48
    go_wp2
    go_ret
    exact eq_no (fun e => hl (by rw [e])) (Drawn.refl _)
/-- what marking from k on leaves. -/
def marks (k : Int) (m : Nat) : List Int := (List.range m).map fun i : Nat => k + (i : Int)
theorem marks_len (k : Int) (m : Nat) : (marks k m).length = m := by simp [marks]
theorem marks_get (k : Int) (m i : Nat) (h : i < (marks k m).length) : (marks k m)[i] = k + i := by simp [marks]
def part (l : List Int) (k : Int) (i : Nat) : List Int := marks k i ++ l.drop i
theorem part_zero (l : List Int) (k : Int) : part l k 0 = l := by simp [part, marks]
theorem part_full (l : List Int) (k : Int) : part l k l.length = marks k l.length := by simp [part]
theorem part_len (l : List Int) (k : Int) (i : Nat) (h : i ≤ l.length) : (part l k i).length = l.length := by simp [part, marks]; omega
theorem part_set (l : List Int) (k : Int) (i : Nat) (h : i < l.length) : (part l k i).set i (k + i) = part l k (i + 1) := by
  unfold part
  rw [List.set_append_right _ _ (by rw [marks_len]; exact Nat.le_refl _), marks_len, Nat.sub_self, List.drop_eq_getElem_cons h, List.set_cons_zero]
  simp [marks, List.range_succ]
def MkPost (l : List Int) (A : Option Addr) (c base : Nat) (k : Int) (w : World) (e : Ending) (w' : World) : Prop :=
  e = .returned (.int .i64 (k + l.length)) ∧ w'.ownsRow base 3 1 (.slice A l.length c) l.length (iv (marks k l.length)) ∧ w.grownBy w' (Value.slice A l.length c).ownBlock
set_option maxHeartbeats 400000 in
theorem markS_any (A : Option Addr) (c base : Nat) (l : List Int) (k : Int) (w : World) (ho : w.ownsRow base 3 1 (.slice A l.length c) l.length (iv l)) (hn : l.length ≤ 100000000) (hk0 : 0 ≤ k) (hk1 : k ≤ 100000000000) :
    Calls Try.prog 51 #[.slice A l.length c, .int .i64 k] w (MkPost l A c base k w) := by
  have HO0 := Lib.hid ho; clear ho
  go_enter Try.func51, Try.ntmps51
  go_wp2
  go_loopw [1, 5] (fun q i wr => ∃ j : Nat, j ≤ l.length ∧ i = .int .i64 j ∧ q = .int .i64 (k + j) ∧ wr.ownsRow base 3 1 (.slice A l.length c) l.length (iv (part l k j)) ∧ w.grownBy wr (Value.slice A l.length c).ownBlock) (fun _ i _ => l.length - (intOf i).toNat)
  case atStart => exact ⟨0, Nat.zero_le _, rfl, by simp, by rw [part_zero]; exact HO0.out, World.grownBy.refl _ _⟩
  case round =>
    obtain ⟨j, hj, rfl, rfl, ho, hg⟩ := hrel
    have HO := Lib.hid ho; clear ho
    have HG := Lib.hid hg; clear hg
    by_cases hlt : j < l.length
    · obtain ⟨g, cap', hA⟩ := own_some HO.out (by omega)
      obtain ⟨rfl, rfl⟩ := hA
      have hfl : (iv (part l k j)).length = l.length := by rw [iv_len, part_len l k j hj]
      obtain ⟨q0, m0⟩ : ∃ v, wr.cell? ⟨g, j, none⟩ = some v :=
        ⟨_, (HO.out.cellAt j (by omega)).trans (List.getElem?_eq_getElem (by rw [hfl]; exact hlt))⟩
      have g0 : wr.frozen? ⟨g, j, none⟩ = false := HO.out.frozenAt _
      clear hfl
      go_wp2
      go_roundw
      case rel =>
        have h1 := (HO.out.stored j (.int .i64 (k + j))).1
        have e : (iv (part l k j)).set j (.int .i64 (k + j)) = iv (part l k (j + 1)) := by
          unfold iv; rw [← List.map_set, part_set l k j hlt]
        rw [e] at h1
        exact ⟨j + 1, by omega, by go_num, by simp; omega, h1, HG.out.setOwn _ _⟩
      case measure => simp [intOf]; omega
    · have hkk : j = l.length := by omega
      subst hkk
      go_wp2
      go_ret
      exact ⟨rfl, by have := HO.out; rwa [part_full] at this, HG.out⟩
set_option maxHeartbeats 400000 in
theorem heldS_any (A : Option Addr) (c B : Nat) (k : Int) (m : Nat) (w : World) (hr : Rd w B A (iv (marks k m))) (hn : m ≤ 100000000) (hk0 : 0 ≤ k) (hk1 : k ≤ 100000000000) :
    Calls Try.prog 52 #[.slice A m c, .int .i64 k] w fun e w' => e = .returned (.int .i64 (k + m)) ∧ Drawn w w' := by
  have HR := Lib.hid hr; clear hr
  go_enter Try.func52, Try.ntmps52
  go_wp2
  go_loopw [1, 5] (fun q i wr => ∃ j : Nat, j ≤ m ∧ i = .int .i64 j ∧ q = .int .i64 (k + j) ∧ Drawn w wr) (fun _ i _ => m - (intOf i).toNat)
  case atStart => exact ⟨0, Nat.zero_le _, rfl, by simp, Drawn.refl _⟩
  case round =>
    obtain ⟨j, hj, rfl, rfl, hD⟩ := hrel
    have HD := Lib.hid hD; clear hD
    by_cases hlt : j < m
    · obtain ⟨b, o, rfl, hb, hc⟩ := HR.out.at (k := j) (by rw [iv_len, marks_len]; omega)
      have h0 : wr.cell? ⟨b, o + j, none⟩ = some (.int .i64 (k + j)) := (HD.out.cell _ _).trans (by have := hc _ _ (iv_get (marks k m) j (by rw [marks_len]; exact hlt)); rwa [marks_get] at this)
      clear hc
      go_wp2
      go_roundw
      case rel => exact ⟨j + 1, by omega, by go_num, by simp; omega, HD.out⟩
      case measure => simp [intOf]; omega
    · have hkk : j = m := by omega
      subst hkk
      go_wp2
      go_ret
      exact ⟨rfl, HD.out⟩
end Go.Proofs.Ytngominkeammiaa.SInt
