/- Contracts of the laws' helpers over slices of strings. -/
import Derived.Test.YtdlhjnfjpkmakaaDoorMem
import Derived.Deep.QuietTactic
import Derived.BigQuiet
import Derived.WalkLawsBesides
import Derived.WalkSpells
namespace Go.Proofs.YtdlhjnfjpkmakaaDoor.Strs
open Go.RowKit Go.Proofs.YtdlhjnfjpkmakaaDoor.Mem
set_option linter.unusedVariables false

def tot (ss : List ByteArray) : Int := ((ss.map ByteArray.size).sum : Nat)
theorem tot_nonneg (ss : List ByteArray) : 0 ≤ tot ss := by unfold tot; omega
theorem tot_snoc (ss : List ByteArray) (k : Nat) (h : k < ss.length) : tot (ss.take (k + 1)) = tot (ss.take k) + ss[k].size := by
  unfold tot
  rw [List.take_succ_eq_append_getElem h, List.map_append, List.sum_append]; simp
theorem tot_le (ss : List ByteArray) (k : Nat) (h : k < ss.length) : (ss[k].size : Int) ≤ tot ss := by
  have h1 := tot_snoc ss k h
  have h2 : tot ss = tot (ss.take (k+1)) + tot (ss.drop (k+1)) := by
    unfold tot
    conv => lhs; rw [← List.take_append_drop (k+1) ss]
    rw [List.map_append, List.sum_append]; omega
  have := tot_nonneg (ss.take k); have := tot_nonneg (ss.drop (k+1)); omega

def strv (ss : List ByteArray) : List Value := ss.map Value.string
theorem strv_len (ss : List ByteArray) : (strv ss).length = ss.length := by simp [strv]
theorem strv_get (ss : List ByteArray) (k : Nat) (h : k < ss.length) : (strv ss)[k]? = some (.string ss[k]) := by simp [strv, h]

theorem rd_strs {w : World} {a : Addr} {ss : List ByteArray} {len : Nat} (hl : len ≤ ss.length) (hcell : ∀ i, i < ss.length → w.cell? (a.add i) = some (.string (ss.getD i ByteArray.empty))) :
    Rd w w.heap.size (some a) (strv (ss.take len)) := by
  apply Rd.of_cells
  intro j v hv
  have hj : j < (strv (ss.take len)).length := by
    rcases Nat.lt_or_ge j (strv (ss.take len)).length with h | h
    · exact h
    · rw [List.getElem?_eq_none h] at hv; cases hv
  have hj' : j < ss.length := by rw [strv_len, List.length_take] at hj; omega
  have := hcell j hj'
  rw [this]
  rw [← hv]
  simp only [strv, List.getElem?_map]
  rw [List.getElem?_take, if_pos (by rw [strv_len, List.length_take] at hj; omega), List.getElem?_eq_getElem hj']
  simp [List.getD, List.getElem?_eq_getElem hj']

def SzPost (ss : List ByteArray) (left : Int) (w : World) (e : Ending) (w' : World) : Prop :=
  ∃ r : Int, e = .returned (.int .i64 r) ∧ (r = -1 ∨ (0 ≤ r ∧ r + ss.length + tot ss = left)) ∧ w = w'


def EqPost (ss ts : List ByteArray) (w : World) (e : Ending) (w' : World) : Prop :=
  e = .returned (.bool (decide (ss = ts))) ∧ Drawn w w'
theorem eq_yes {ss ts : List ByteArray} {w w' : World} (h : ss = ts) (hw : Drawn w w') : EqPost ss ts w (.returned (.bool true)) w' := ⟨by rw [decide_eq_true h], hw⟩
theorem eq_no {ss ts : List ByteArray} {w w' : World} (h : ss ≠ ts) (hw : Drawn w w') : EqPost ss ts w (.returned (.bool false)) w' := ⟨by rw [decide_eq_false h], hw⟩
set_option maxHeartbeats 400000 in
theorem eq_any (A A' : Option Addr) (cap cap' : Nat) (ss ts : List ByteArray) (w : World) (B : Nat) (hr : Rd w B A (strv ss)) (hr' : Rd w B A' (strv ts))
    (hn : ss.length ≤ maxLen) (hn' : ts.length ≤ maxLen) :
    Calls Tryd.prog 15 #[.slice A ss.length cap, .slice A' ts.length cap'] w (EqPost ss ts w) := by
  unfold maxLen at hn hn'
  by_cases hl : ss.length = ts.length
  · have hne : ((ss.length : Int) != ts.length) = false := by rw [bne_eq_false_iff_eq]; omega
    have HR := Lib.hid hr; clear hr
    have HR' := Lib.hid hr'; clear hr'
    have HL := Lib.hid hl; clear hl
    go_enter Tryd.func15, Tryd.ntmps15
    go_wp2
    go_loopw [5] (fun i wr => ∃ k : Nat, k ≤ ss.length ∧ i = .int .i64 k ∧ ss.take k = ts.take k ∧ ∃ n, wr = w.drewN n) (fun i _ => ss.length - (intOf i).toNat)
    case atStart => exact ⟨0, Nat.zero_le _, rfl, by simp, 0, rfl⟩
    case round =>
      obtain ⟨k, hk, rfl, hpre, n, rfl⟩ := hrel
      have HP := Lib.hid hpre; clear hpre
      by_cases hlt : k < ss.length
      · obtain ⟨b, o, rfl, hb, hc⟩ := HR.out.at (k := k) (by rw [strv_len]; exact hlt)
        obtain ⟨b', o', rfl, hb', hc'⟩ := HR'.out.at (k := k) (by rw [strv_len]; have := HL.out; omega)
        have hcell : w.cell? ⟨b, o + k, none⟩ = _ := hc k _ (strv_get ss k hlt)
        have hcell' : w.cell? ⟨b', o' + k, none⟩ = _ := hc' k _ (strv_get ts k (by have := HL.out; omega))
        have hlt' : k < ts.length := by have := HL.out; omega
        clear hc hc'
        go_wp2
        go_quiet (fail)
        go_wp2
        · have hh : (!(ss[k].toList == ts[k].toList)) = true := by assumption
          go_ret
          exact eq_no (take_ne hlt hlt' (str_ne_true hh)) (Drawn.nn _ _ _)
        · have hh : (!(ss[k].toList == ts[k].toList)) = false := by assumption
          exact ⟨⟨k + 1, by omega, by go_num, take_eq_succ hlt hlt' HP.out (str_ne_false hh), _, rfl⟩, by simp [intOf]; omega⟩
      · go_wp2
        go_ret
        exact eq_yes (by have h1 := HP.out; rwa [List.take_of_length_le (by omega), List.take_of_length_le (by have := HL.out; omega)] at h1) (Drawn.n _ _)
  · have hne : ((ss.length : Int) != ts.length) = true := by rw [bne_iff_ne]; omega
    go_enter Tryd.func15, Tryd.ntmps15
    go_wp2
    go_ret
    exact eq_no (fun e => hl (by rw [e])) (Drawn.refl _)


end Go.Proofs.YtdlhjnfjpkmakaaDoor.Strs
