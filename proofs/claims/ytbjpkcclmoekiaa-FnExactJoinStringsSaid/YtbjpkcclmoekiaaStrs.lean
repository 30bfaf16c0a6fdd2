/- Contracts of the laws' helpers over slices of strings. -/
import Derived.Test.YtbjpkcclmoekiaaMem
import Derived.Deep.QuietTactic
import Derived.BigQuiet
import Derived.WalkLawsBesides
import Derived.WalkSpells
namespace Go.Proofs.Ytbjpkcclmoekiaa.Strs
open Go.RowKit Go.Proofs.Ytbjpkcclmoekiaa.Mem
set_option linter.unusedVariables false

def tot (ss : List ByteArray) : Int := ((ss.map ByteArray.size).sum : Nat)
theorem tot_nonneg (ss : List ByteArray) : 0 ≤ tot ss := by unfold tot; omega
theorem tot_snoc (ss : List ByteArray) (k : Nat) (h : k < ss.length) : tot (ss.take (k + 1)) = tot (ss.take k) + ss[k].size := by
  unfold tot
  rw [List.take_succ_eq_append_getElem h, List.map_append, List.sum_append]; simp
theorem tot_le (ss : List ByteArray) (k : Nat) (h : k < ss.length) : (ss[k].size : Int) ≤ tot ss := by
  have h1 := tot_snoc ss k h
  have h2 : tot ss = tot (ss.take (k+1)) + tot (ss.drop (k+1)) := by
    unfold tot
    conv => lhs; rw [← List.take_append_drop (k+1) ss]
    rw [List.map_append, List.sum_append]; omega
  have := tot_nonneg (ss.take k); have := tot_nonneg (ss.drop (k+1)); omega

def strv (ss : List ByteArray) : List Value := ss.map Value.string
theorem strv_len (ss : List ByteArray) : (strv ss).length = ss.length := by simp [strv]
theorem strv_get (ss : List ByteArray) (k : Nat) (h : k < ss.length) : (strv ss)[k]? = some (.string ss[k]) := by simp [strv, h]

theorem rd_strs {w : World} {a : Addr} {ss : List ByteArray} {len : Nat} (hl : len ≤ ss.length) (hcell : ∀ i, i < ss.length → w.cell? (a.add i) = some (.string (ss.getD i ByteArray.empty))) :
    Rd w w.heap.size (some a) (strv (ss.take len)) := by
  apply Rd.of_cells
  intro j v hv
  have hj : j < (strv (ss.take len)).length := by
    rcases Nat.lt_or_ge j (strv (ss.take len)).length with h | h
    · exact h
    · rw [List.getElem?_eq_none h] at hv; cases hv
  have hj' : j < ss.length := by rw [strv_len, List.length_take] at hj; omega
  have := hcell j hj'
  rw [this]
  rw [← hv]
  simp only [strv, List.getElem?_map]
  rw [List.getElem?_take, if_pos (by rw [strv_len, List.length_take] at hj; omega), List.getElem?_eq_getElem hj']
  simp [List.getD, List.getElem?_eq_getElem hj']

def SzPost (ss : List ByteArray) (left : Int) (w : World) (e : Ending) (w' : World) : Prop :=
  ∃ r : Int, e = .returned (.int .i64 r) ∧ (r = -1 ∨ (0 ≤ r ∧ r + ss.length + tot ss = left)) ∧ w = w'

set_option maxHeartbeats 400000 in
theorem sz_any (A : Option Addr) (cap : Nat) (ss : List ByteArray) (left : Int) (w : World) (B : Nat) (hr : Rd w B A (strv ss)) (h0 : 0 ≤ left) (h1 : left ≤ 1048576)
    (hn : ss.length ≤ maxLen) (hz : ∀ s ∈ ss, s.size ≤ maxLen) :
    Calls Try.prog 6 #[.slice A ss.length cap, .int .i64 left] w (SzPost ss left w) := by
  unfold maxLen at hn hz
  have HZ := Lib.hid hz; clear hz
  have HR := Lib.hid hr; clear hr
  by_cases hs : left < ss.length
  · go_enter Try.func6, Try.ntmps6
    go_wp2
    go_ret
    exact ⟨-1, rfl, .inl rfl, rfl⟩
  · go_enter Try.func6, Try.ntmps6
    go_wp2
    go_loop [1, 5] (fun l i => ∃ k : Nat, k ≤ ss.length ∧ i = .int .i64 k ∧ ∃ r : Int, l = .int .i64 r ∧ 0 ≤ r ∧ r + ss.length + tot (ss.take k) = left) (fun _ i => ss.length - (intOf i).toNat)
    case atStart => exact ⟨0, Nat.zero_le _, rfl, _, rfl, by omega, by simp [tot]⟩
    case round =>
      obtain ⟨k, hk, rfl, r, rfl, hr0, hr1⟩ := hrel
      have HE := Lib.hid hr1; clear hr1
      have hrb : r ≤ left := by have := HE.out; have := tot_nonneg (ss.take k); omega
      by_cases hlt : k < ss.length
      · obtain ⟨b, o, rfl, hb, hc⟩ := HR.out.at (k := k) (by rw [strv_len]; exact hlt)
        have hcell := hc k _ (strv_get ss k hlt)
        have hsz : ss[k].size ≤ 9223372036854775807 := by have := HZ.out ss[k] (List.getElem_mem hlt); simpa using this
        clear hc
        by_cases hle : (ss[k].size : Int) ≤ r
        · go_wp2
          go_round
          case rel => exact ⟨k + 1, by omega, by go_num, _, rfl, by omega, by rw [tot_snoc ss k hlt]; have := HE.out; omega⟩
          case measure => simp [intOf]; omega
        · go_wp2
          go_ret
          exact ⟨-1, rfl, .inl rfl, rfl⟩
      · go_wp2
        go_ret
        refine ⟨r, rfl, .inr ⟨hr0, ?_⟩, rfl⟩
        have := HE.out
        rw [List.take_of_length_le (by omega)] at this
        exact this

def EqPost (ss ts : List ByteArray) (w : World) (e : Ending) (w' : World) : Prop :=
  e = .returned (.bool (decide (ss = ts))) ∧ Drawn w w'
theorem eq_yes {ss ts : List ByteArray} {w w' : World} (h : ss = ts) (hw : Drawn w w') : EqPost ss ts w (.returned (.bool true)) w' := ⟨by rw [decide_eq_true h], hw⟩
theorem eq_no {ss ts : List ByteArray} {w w' : World} (h : ss ≠ ts) (hw : Drawn w w') : EqPost ss ts w (.returned (.bool false)) w' := ⟨by rw [decide_eq_false h], hw⟩
set_option maxHeartbeats 400000 in
theorem eq_any (A A' : Option Addr) (cap cap' : Nat) (ss ts : List ByteArray) (w : World) (B : Nat) (hr : Rd w B A (strv ss)) (hr' : Rd w B A' (strv ts))
    (hn : ss.length ≤ maxLen) (hn' : ts.length ≤ maxLen) :
    Calls Try.prog 10 #[.slice A ss.length cap, .slice A' ts.length cap'] w (EqPost ss ts w) := by
  unfold maxLen at hn hn'
  by_cases hl : ss.length = ts.length
  · have hne : ((ss.length : Int) != ts.length) = false := by rw [bne_eq_false_iff_eq]; omega
    have HR := Lib.hid hr; clear hr
    have HR' := Lib.hid hr'; clear hr'
    have HL := Lib.hid hl; clear hl
    go_enter Try.func10, Try.ntmps10
    go_wp2
    go_loopw [5] (fun i wr => ∃ k : Nat, k ≤ ss.length ∧ i = .int .i64 k ∧ ss.take k = ts.take k ∧ ∃ n, wr = w.drewN n) (fun i _ => ss.length - (intOf i).toNat)
    case atStart => exact ⟨0, Nat.zero_le _, rfl, by simp, 0, rfl⟩
    case round =>
      obtain ⟨k, hk, rfl, hpre, n, rfl⟩ := hrel
      have HP := Lib.hid hpre; clear hpre
      by_cases hlt : k < ss.length
      · obtain ⟨b, o, rfl, hb, hc⟩ := HR.out.at (k := k) (by rw [strv_len]; exact hlt)
        obtain ⟨b', o', rfl, hb', hc'⟩ := HR'.out.at (k := k) (by rw [strv_len]; have := HL.out; omega)
        have hcell : w.cell? ⟨b, o + k, none⟩ = _ := hc k _ (strv_get ss k hlt)
        have hcell' : w.cell? ⟨b', o' + k, none⟩ = _ := hc' k _ (strv_get ts k (by have := HL.out; omega))
        have hlt' : k < ts.length := by have := HL.out; omega
        clear hc hc'
        go_wp2
        go_quiet (fail)
        go_wp2
        · have hh : (!(ss[k].toList == ts[k].toList)) = true := by assumption
          go_ret
          exact eq_no (take_ne hlt hlt' (str_ne_true hh)) (Drawn.nn _ _ _)
        · have hh : (!(ss[k].toList == ts[k].toList)) = false := by assumption
          exact ⟨⟨k + 1, by omega, by go_num, take_eq_succ hlt hlt' HP.out (str_ne_false hh), _, rfl⟩, by simp [intOf]; omega⟩
      · go_wp2
        go_ret
        exact eq_yes (by have h1 := HP.out; rwa [List.take_of_length_le (by omega), List.take_of_length_le (by have := HL.out; omega)] at h1) (Drawn.n _ _)
  · have hne : ((ss.length : Int) != ts.length) = true := by rw [bne_iff_ne]; omega
    go_enter Try.func10, Try.ntmps10
    go_wp2
    go_ret
    exact eq_no (fun e => hl (by rw [e])) (Drawn.refl _)

theorem info_str : (Try.prog.info? 9).map (fun i => (i.zero, i.size, i.bytes)) = some (some (.string ByteArray.empty), 1, 16) := by kernel_rfl
def ToPost (ss : List ByteArray) (w : World) (e : Ending) (w' : World) : Prop :=
  e = .returned (.slice (some ⟨w.heap.size, 0, none⟩) ss.length ss.length) ∧
    w'.ownsRow w.heap.size 9 1 (.slice (some ⟨w.heap.size, 0, none⟩) ss.length ss.length) ss.length (strv ss) ∧ Below w.heap.size w w'
def half (ss : List ByteArray) (k : Nat) : List Value := strv (ss.take k) ++ List.replicate (ss.length - k) (.string ByteArray.empty)
theorem half_zero (ss : List ByteArray) : half ss 0 = List.replicate ss.length (.string ByteArray.empty) := by simp [half, strv]
theorem half_full (ss : List ByteArray) : half ss ss.length = strv ss := by simp [half]
theorem half_len (ss : List ByteArray) (k : Nat) (h : k ≤ ss.length) : (half ss k).length = ss.length := by simp [half, strv]; omega
theorem half_set (ss : List ByteArray) (k : Nat) (h : k < ss.length) : (half ss k).set k (.string ss[k]) = half ss (k + 1) := by
  unfold half
  rw [List.set_append_right _ _ (by simp [strv]; omega), List.take_succ_eq_append_getElem h]
  have e : ss.length - k = (ss.length - (k + 1)) + 1 := by omega
  have e2 : k - (strv (ss.take k)).length = 0 := by simp [strv]; omega
  rw [e, e2, List.replicate_succ, List.set_cons_zero]
  unfold strv
  rw [List.map_append]
  simp
set_option maxHeartbeats 400000 in
theorem to_any (A : Option Addr) (cap : Nat) (ss : List ByteArray) (w : World) (hr : Rd w w.heap.size A (strv ss)) (hn : ss.length ≤ 1048576) :
    Calls Try.prog 8 #[.slice A ss.length cap] w (ToPost ss w) := by
  obtain ⟨i0, hi, hz0, hz1, hz2⟩ := info_parts info_str
  have HR := Lib.hid hr; clear hr
  have HI := Lib.hid hz2; clear hz2
  have HI1 := Lib.hid hz1; clear hz1
  have c1 : i0.bytes * ss.length ≤ 281474976710656 := by rw [HI.out]; omega
  have c2 : ss.length ≤ maxLen := by unfold maxLen; omega
  go_enter Try.func8, Try.ntmps8
  go_wp2_with (at_make; go_must (refine wpList_make_full _ rfl _ _ 22 rfl w.heap.size 9 i0 _ 1 Try.underlying22 hi hz0 HI1.out _ _ _ _ ss.length rfl rfl rfl rfl c1 c2 (Nat.le_refl _) ?_; intro w1 hown1 hg1))
  have hB1 : Below w.heap.size w w1 := (Below.refl _ w).grown hg1 (Nat.le_refl _) (by intro k hk; cases hk)
  have hown : w1.ownsRow w.heap.size 9 1 (.slice (some ⟨w.heap.size, 0, none⟩) ss.length ss.length) ss.length (half ss 0) := by
    rw [half_zero]; simpa [Value.cells, toList_madeCells_one] using hown1
  clear hown1 hg1
  go_wp2
  go_loopw [4] (fun i wr => ∃ k : Nat, k ≤ ss.length ∧ i = .int .i64 k ∧ wr.ownsRow w.heap.size 9 1 (.slice (some ⟨w.heap.size, 0, none⟩) ss.length ss.length) ss.length (half ss k) ∧ Below w.heap.size w wr) (fun i _ => ss.length - (intOf i).toNat)
  case atStart => exact ⟨0, Nat.zero_le _, rfl, hown, hB1⟩
  case round =>
    clear hown hB1
    obtain ⟨k, hk, rfl, hown, hB⟩ := hrel
    have HO := Lib.hid hown; clear hown
    have HB := Lib.hid hB; clear hB
    by_cases hlt : k < ss.length
    · obtain ⟨b, o, rfl, hb, hc⟩ := HR.out.at (k := k) (by rw [strv_len]; exact hlt)
      have hcell : wr.cell? ⟨b, o + k, none⟩ = some (.string ss[k]) := ((bcell HB.out).1 _ _ hb).trans (hc k _ (strv_get ss k hlt))
      have hmine : wr.cell? ⟨w.heap.size, k, none⟩ = some ((half ss k)[k]'(by rw [half_len ss k hk]; exact hlt)) := by
        rw [HO.out.cellAt k (by omega)]; exact List.getElem?_eq_getElem _
      have hfr : wr.frozen? ⟨w.heap.size, k, none⟩ = false := HO.out.frozenAt k
      clear hc
      go_wp2
      go_roundw
      case rel =>
        refine ⟨k + 1, by omega, by go_num, ?_, HB.out.setCell (Nat.le_refl _) _⟩
        have := (HO.out.stored k (.string ss[k])).1
        rwa [half_set ss k hlt] at this
      case measure => simp [intOf]; omega
    · have hkk : k = ss.length := by omega
      go_wp2
      go_ret
      refine ⟨rfl, ?_, HB.out⟩
      have := HO.out
      rwa [hkk, half_full] at this

end Go.Proofs.Ytbjpkcclmoekiaa.Strs
