/- Workers: slices.Grow of the nil slice, slices.Concat. -/
import Derived.Test.YtdikekecbapcaaaWorkI
import Derived.Test.YtdikekecbapcaaaWClone
import Derived.Lib.AppendZerosOnto
import Derived.Lib.SliceRun
import Derived.Lib.Walk
namespace Go.Proofs.Ytdikekecbapcaaa.WorkY
open Go.RowKit Go.Proofs.Ytdikekecbapcaaa.Mem Go.Proofs.Ytdikekecbapcaaa.Base Go.Proofs.Ytdikekecbapcaaa.SWorker Go.Proofs.Ytdikekecbapcaaa.Boxes Go.Proofs.Ytdikekecbapcaaa.Keep Go.Proofs.Ytdikekecbapcaaa.Work Go.Proofs.Ytdikekecbapcaaa.WorkS Go.Proofs.Ytdikekecbapcaaa.WorkI Go.Proofs.Ytdikekecbapcaaa.WClone
set_option linter.unusedVariables false
set_option maxRecDepth 100000
set_option maxHeartbeats 1000000 in
theorem grow_any (n : Nat) (hn : n ≤ 1000) (w : World) : Calls Try.prog 96 #[.slice none 0 0, .int .i64 (n : Int)] w (RowPost [] w) := by
  obtain ⟨i0, hi, hz0, hz1, hz2⟩ := info_parts info_T
  rcases Nat.eq_zero_or_pos n with h0 | h0
  · subst h0
    go_enter Try.func96, Try.ntmps96
    go_wp2
    go_ret
    exact row_mk rfl ⟨rfl, .inl ⟨rfl, rfl⟩⟩ (Below.refl _ _)
  · have hrz : ∀ ty, (Builtin.append_ #[24, 3] ty #[.slice none 0 0, .int .i64 (n : Int)]).run Try.prog w = .ok (.slice (some ⟨w.heap.size, 0, none⟩) (0 + n) (grownCap w (0 + n) 0 50)) (w.drew.alloc (.cells (([] : List Value).toArray ++ Builtin.zeroCells zero.val.cells n ++ Builtin.zeroCells zero.val.cells (grownCap w (0 + n) 0 50 - (0 + n))) 50)) := fun ty =>
      Lib.run_append_grow_zeros w 24 3 ty 50 i0 zero.val .i64 .i64 Try.underlying24 Try.underlying3 hi hz0 none 0 0 [] (run_firstCells_none w.drew i0.size 0 0 0) n h0 (by rw [hz1]; omega) (by omega) (by omega) (by rw [hz2]; omega) (growslice_fits (by omega) (by rw [hz2]; omega))
    have hGn : 0 + n ≤ grownCap w (0 + n) 0 50 := grownCap_ge w _ _ _
    have hGM := grownCap_le_maxLen w (0 + n) 0 50 (by unfold maxLen; omega)
    generalize grownCap w (0 + n) 0 50 = G at hrz hGn hGM
    have hZs : (([] : List Value).toArray ++ Builtin.zeroCells zero.val.cells n ++ Builtin.zeroCells zero.val.cells (G - (0 + n))).size = G * 5 := by
      have e : zero.val.cells.size = 5 := rfl
      simp only [Array.size_append, size_zeroCells, e]
      simp
      omega
    generalize (([] : List Value).toArray ++ Builtin.zeroCells zero.val.cells n ++ Builtin.zeroCells zero.val.cells (G - (0 + n))) = Z at hrz hZs
    have O : ((w.alloc (.cells Z 50)).drew).ownsRow w.heap.size 50 5 (.slice (some ⟨w.heap.size, 0, none⟩) 0 G) 0 (flat []) :=
      ⟨rfl, .inr ⟨w.heap.size, G, Z, rfl, Nat.le_refl _, heap_alloc_new w _, Nat.zero_le _, hGM, hZs, by simp [flat]⟩⟩
    clear hZs
    have HO := Lib.hid O; clear O
    have HG2 := Lib.hid hGM
    unfold maxLen at hGM
    go_enter Try.func96, Try.ntmps96
    go_wp2_with (at_builtin; refine Lib.wpList_append_run _ rfl _ _ _ _ rfl _ _ rfl rfl _ _ (hrz _) ?_)
    go_ret
    exact row_mk rfl HO.out (al (Below.refl _ _)).drew
/-- a slice in memory and what it holds. -/
structure Seg where
  b : Nat
  o : Nat
  c : Nat
  l : List R
def Seg.val (s : Seg) : Value := .slice (some ⟨s.b, s.o, none⟩) s.l.length s.c
def Seg.Lies (s : Seg) (w : World) : Prop := ∀ (j : Nat) (u : Value), (flat s.l)[j]? = some u → s.b < w.heap.size ∧ w.cell? ⟨s.b, s.o + j, none⟩ = some u
theorem Seg.Lies.keep {s : Seg} {w W : World} (h : s.Lies w) (hb : Below w.heap.size w W) : s.Lies W := fun j u hu => by
  obtain ⟨h1, h2⟩ := h j u hu
  exact ⟨Nat.lt_of_lt_of_le h1 hb.size, ((bcell hb).1 _ _ h1).trans h2⟩
def lens (ss : List Seg) : Nat := (ss.flatMap Seg.l).length
theorem lens_take {ss : List Seg} {k : Nat} (h : k < ss.length) : lens (ss.take (k + 1)) = lens (ss.take k) + ss[k].l.length := by
  unfold lens; rw [List.take_succ_eq_append_getElem h, List.flatMap_append]; simp
theorem flat_take {ss : List Seg} {k : Nat} (h : k < ss.length) : (ss.take (k + 1)).flatMap Seg.l = (ss.take k).flatMap Seg.l ++ ss[k].l := by
  rw [List.take_succ_eq_append_getElem h, List.flatMap_append]; simp
theorem lens_le (ss : List Seg) (k : Nat) : lens (ss.take k) ≤ lens ss := by
  have e : ss.take k ++ ss.drop k = ss := List.take_append_drop k ss
  have : lens ss = lens (ss.take k) + lens (ss.drop k) := by
    unfold lens
    conv => lhs; rw [← e]
    rw [List.flatMap_append, List.length_append]
  omega
theorem flat_two (p q : List R) : flat p ++ flat q = flat (p ++ q) := by simp [flat]
set_option maxHeartbeats 1000000 in
theorem concat_any (ss : List Seg) (b o cap : Nat) (w : World) (hb : b < w.heap.size) (hc : ∀ j (h : j < ss.length), w.cell? ⟨b, o + j, none⟩ = some (ss[j].val)) (hl : ∀ s ∈ ss, s.Lies w) (hn : lens ss ≤ 1000) (hk : ss.length ≤ 1000) :
    Calls Try.prog 82 #[.slice (some ⟨b, o, none⟩) ss.length cap] w (RowPost (ss.flatMap Seg.l) w) := by
  obtain ⟨i0, hi, hz0, hz1, hz2⟩ := info_parts info_T
  have HI := Lib.hid hz2; clear hz2
  have HI1 := Lib.hid hz1; clear hz1
  have HC := Lib.hid hc; clear hc
  have HLI := Lib.hid hl; clear hl
  go_enter Try.func82, Try.ntmps82
  go_wp2
  go_loopw [3, 11] (fun t i wr => ∃ (k s : Nat), k ≤ ss.length ∧ i = .int .i64 k ∧ t = .int .i64 s ∧ Hid (lens (ss.take k) = s) ∧ s ≤ 1000 ∧ w = wr) (fun _ i _ => ss.length - (intOf i).toNat)
  case atStart => exact ⟨0, 0, Nat.zero_le _, rfl, rfl, Lib.hid rfl, by omega, rfl⟩
  case round =>
    obtain ⟨k, s, hk2, rfl, rfl, HS, hs, rfl⟩ := hrel
    by_cases hlt : k < ss.length
    · have m0 := HC.out k hlt
      have HT := lens_take hlt
      have hle := lens_le ss (k + 1)
      have HLT := Lib.hid hlt
      rw [HS.out] at HT
      generalize ss[k] = g at m0 HT
      unfold Seg.val at m0
      have hb1 : s + g.l.length ≤ 1000 := by omega
      have HT1 := Lib.hid HT; clear HT hle
      have y1 : IntKind.i64.wrap ((s : Int) + (g.l.length : Int)) = ((s + g.l.length : Nat) : Int) := by rw [Int.natCast_add]; exact IntWalk.i64_in _ (by omega)
      have y2 : decide (((s + g.l.length : Nat) : Int) < 0) = false := decide_eq_false (by omega)
      go_wp2
      exact ⟨⟨k + 1, s + g.l.length, HLT.out, by go_num, by rw [Int.natCast_add], HT1, hb1, trivial⟩, by have := HLT.out; simp [intOf]; omega⟩
    · have HT := Lib.hid (show lens ss = s by have := HS.out; rwa [List.take_of_length_le (by omega)] at this)
      clear hk2 HS
      go_wp2_with fail
      refine (grow_any s hs w).mono ?_
      rintro e v1 ⟨A1, c1, rfl, O, HB⟩
      have HB0 := HB
      go_wp2
      go_loopw [6, 27] (fun t i wq => ∃ (k : Nat) (L : List R) (A : Option Addr) (c : Nat), k ≤ ss.length ∧ i = .int .i64 k ∧ t = .slice A L.length c ∧ Hid ((ss.take k).flatMap Seg.l = L) ∧ wq.ownsRow w.heap.size 50 5 (.slice A L.length c) L.length (flat L) ∧ Below w.heap.size w wq) (fun _ i _ => ss.length - (intOf i).toNat)
      case atStart => exact ⟨0, [], A1, c1, Nat.zero_le _, rfl, rfl, Lib.hid rfl, O, HB⟩
      case round =>
        clear O HB HB0
        obtain ⟨k, L, A, c, hk2, rfl, rfl, HL, O, HB⟩ := hrel
        by_cases hlt : k < ss.length
        · have m0 := ((bcell HB).1 _ _ hb).trans (HC.out k hlt)
          have HN := Lib.hid ((flat_take hlt).trans (by rw [HL.out]))
          have HG := Lib.hid ((HLI.out _ (List.getElem_mem hlt)).keep HB)
          have hle := lens_le ss (k + 1)
          rw [lens_take hlt] at hle
          have hle0 : lens (ss.take k) = L.length := by unfold lens; rw [HL.out]
          rw [hle0] at hle
          have HLT := Lib.hid hlt
          generalize ss[k] = g at *
          unfold Seg.val at m0
          have hm1 : L.length + g.l.length ≤ maxLen := by unfold maxLen; omega
          have hm2 : (L.length + g.l.length) * 40 ≤ 140737488355328 := by omega
          have HNW := Lib.hid (show ∀ j u, (flat g.l)[j]? = some u → _root_.Go.World.cell? _ ((⟨g.b, g.o, none⟩ : Addr).add j) = some u from fun j u hu => by rw [cell_add]; exact (HG.out j u hu).2)
          go_wp2_with (at_builtin; go_must (refine wpList_append_own _ rfl _ _ 24 rfl w.heap.size 50 i0 _ 5 40 Try.underlying24 hi hz0 HI1.out HI.out rfl (by decide) _ L.length _ rfl O ⟨g.b, g.o, none⟩ g.l.length g.c (flat g.l) rfl (flat_n g.l) HNW.out (flat_one g.l) hm1 hm2 HB.size ?_; intro v' w9 hown1 hgrow _))
          have hB9 := bl_grown HB hgrow (own_ge O)
          obtain ⟨A2, c2, rfl⟩ := own_form hown1
          rw [flat_two, ← List.length_append] at hown1
          clear hgrow HB O hm1 hm2
          go_wp2
          exact ⟨⟨k + 1, L ++ g.l, A2, c2, HLT.out, by go_num, by rw [List.length_append] <;> rfl, HN, hown1, hB9⟩, by have := HLT.out; simp [intOf]; omega⟩
        · have HE := Lib.hid (show ss.flatMap Seg.l = L by have := HL.out; rwa [List.take_of_length_le (by omega)] at this)
          go_wp2
          go_ret
          rw [HE.out]
          exact row_mk rfl O HB
end Go.Proofs.Ytdikekecbapcaaa.WorkY
