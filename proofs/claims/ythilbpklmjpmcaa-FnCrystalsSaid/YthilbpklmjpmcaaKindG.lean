/- Kinds: l2Word, l10Good, AreKinds; isWord, isKind, AreKinds, LessString. -/
import Derived.Test.YthilbpklmjpmcaaKindP
import Derived.Test.YthilbpklmjpmcaaKeep
import Derived.Test.YthilbpklmjpmcaaWithin
import Derived.Test.YthilbpklmjpmcaaRegn2
import Derived.Laws.IdiomStrings
import Derived.Deep.CutBlock
import Derived.Deep.CutRange
import Derived.Deep.DeepCutAuto
namespace Go.Proofs.Ythilbpklmjpmcaa.KindG
open Go.RowKit Go.Proofs.Ythilbpklmjpmcaa.Mem Go.Proofs.Ythilbpklmjpmcaa.Base Go.Proofs.Ythilbpklmjpmcaa.Regn Go.Proofs.Ythilbpklmjpmcaa.Boxes Go.Proofs.Ythilbpklmjpmcaa.Keep Go.Proofs.Ythilbpklmjpmcaa.Within Go.Proofs.Ythilbpklmjpmcaa.SKind Go.Proofs.Ythilbpklmjpmcaa.KindP
set_option linter.unusedVariables false
set_option maxRecDepth 100000
set_option maxHeartbeats 400000 in
theorem word_spec (s : ByteArray) (w : World) (hs : s.size ≤ maxLen) :
    Calls Try.prog 84 #[.string s] w (BPost (wordB s) w) := by
  unfold maxLen at hs
  go_enter Try.func84, Try.ntmps84
  go_wp2
  go_loop [3] (fun i => ∃ k : Nat, k ≤ s.size ∧ i = .int .i64 k ∧ Hid (Low s k)) (fun i => s.size - (intOf i).toNat)
  case atStart => exact ⟨0, Nat.zero_le _, rfl, Lib.hid (low_start s)⟩
  case round =>
    obtain ⟨k, hk, rfl, HN⟩ := hrel
    by_cases hlt : k < s.size
    · have hb := s[k].toNat_lt
      have HL := Lib.hid hlt
      by_cases h1 : s[k].toNat < 97
      · have HW := Lib.hid (word_no (low_no hlt (by omega)))
        have hq : decide ((s[k].toNat : Int) < 97) = true := decide_eq_true (by omega)
        go_wp2
        go_ret
        exact bpost HW.out.symm
      · by_cases h2 : 122 < s[k].toNat
        · have HW := Lib.hid (word_no (low_no hlt (by omega)))
          have hq : decide ((s[k].toNat : Int) < 97) = false := decide_eq_false (by omega)
          have hq2 : decide ((122 : Int) < s[k].toNat) = true := decide_eq_true (by omega)
          go_wp2
          go_ret
          exact bpost HW.out.symm
        · have HS := Lib.hid (low_step hlt HN.out (by omega))
          have hq : decide ((s[k].toNat : Int) < 97) = false := decide_eq_false (by omega)
          have hq2 : decide ((122 : Int) < s[k].toNat) = false := decide_eq_false (by omega)
          go_wp2
          exact ⟨⟨k + 1, HL.out, by go_num, HS⟩, by have := HL.out; simp [intOf]; omega⟩
    · have HW := Lib.hid (word_low (low_end (by omega) HN.out))
      go_wp2_with fail
      refine (in_any _ _ _ _).mono ?_
      rintro e _ ⟨rfl, rfl⟩
      go_wp2
      go_ret
      exact bpost HW.out.symm
theorem conv_cells (w : World) (Y : ByteArray) : ∃ (w1 : World) (c : Nat), (convert 9 22 (.string Y)).run Try.prog w = .ok (.slice (some ⟨w.heap.size, 0, none⟩) Y.size c) w1 ∧
    (∀ (k : Nat) (h : k < Y.size), w1.cell? ⟨w.heap.size, k, none⟩ = some (.int .u8 (Y[k].toNat : Int))) ∧ Below w.heap.size w w1 ∧ w.heap.size < w1.heap.size := by
  refine ⟨_, _, run_bytes_of_string w 9 22 5 Y Try.underlying9 Try.underlying22 Try.underlying5, ?_, ?_, ?_⟩
  · intro k hk
    have hj : k < Y.data.size := hk
    exact (cell_of_row _ _ k _ _ _ (heap_alloc_new w.drew _)).trans (by rw [bytesRow_at Y _ k hj]; rfl)
  · exact (Below.drew (Below.refl _ w)).alloc (Nat.le_refl _) _
  · simp
set_option maxHeartbeats 400000 in
theorem word_impl (s : ByteArray) (w : World) (hs : s.size ≤ maxLen) :
    Calls Try.prog 83 #[.string s] w (RPost (.bool (wordB s)) w) := by
  unfold maxLen at hs
  obtain ⟨w1, c, hcv, hcell, hB, hlt⟩ := conv_cells w s
  have HCV := Lib.hid hcv; clear hcv
  have HC := Lib.hid hcell; clear hcell
  have HB := Lib.hid hB; clear hB
  go_enter Try.func83, Try.ntmps83
  go_wp2_with fail
  rw [HCV.out]
  go_simp
  go_wp2
  go_loopw [8] (fun i wr => wr = w1 ∧ ∃ k : Nat, k ≤ s.size ∧ i = .int .i64 k ∧ Hid (Low s k)) (fun i _ => s.size - (intOf i).toNat)
  case atStart => exact ⟨rfl, 0, Nat.zero_le _, rfl, Lib.hid (low_start s)⟩
  case round =>
    obtain ⟨rfl, k, hk, rfl, HN⟩ := hrel
    by_cases hlt : k < s.size
    · have hb := s[k].toNat_lt
      have HL := Lib.hid hlt
      have hcell := HC.out k hlt
      by_cases h1 : s[k].toNat < 97
      · have HW := Lib.hid (word_no (low_no hlt (by omega)))
        have hq : decide ((s[k].toNat : Int) < 97) = true := decide_eq_true (by omega)
        go_wp2
        go_ret
        exact rpost (by rw [HW.out]; rfl) HB.out
      · by_cases h2 : 122 < s[k].toNat
        · have HW := Lib.hid (word_no (low_no hlt (by omega)))
          have hq : decide ((s[k].toNat : Int) < 97) = false := decide_eq_false (by omega)
          have hq2 : decide ((122 : Int) < s[k].toNat) = true := decide_eq_true (by omega)
          go_wp2
          go_ret
          exact rpost (by rw [HW.out]; rfl) HB.out
        · have HS := Lib.hid (low_step hlt HN.out (by omega))
          have hq : decide ((s[k].toNat : Int) < 97) = false := decide_eq_false (by omega)
          have hq2 : decide ((122 : Int) < s[k].toNat) = false := decide_eq_false (by omega)
          go_wp2
          go_roundw
          case rel => exact ⟨by trivial, k + 1, HL.out, by go_num, HS⟩
          case measure => have := HL.out; simp [intOf]; omega
    · have HW := Lib.hid (word_low (low_end (by omega) HN.out))
      go_wp2_with fail
      refine (within_any _ _ _ _).mono ?_
      rintro e _ ⟨rfl, rfl⟩
      go_wp2
      go_ret
      exact rpost (by rw [HW.out]; rfl) HB.out
theorem less_impl (a b : ByteArray) (w : World) : Calls Try.prog 59 #[.string a, .string b] w (BPost (lessB a b) w) := by
  go_enter Try.func59, Try.ntmps59
  go_wp2
  go_ret
  exact bpost rfl
theorem cells3 {w wr : World} {b o k : Nat} {l : List R} {x : R} (hB : Below w.heap.size w wr) (hb : b < w.heap.size) (hc : ∀ (j : Nat) (v : Value), (flat l)[j]? = some v → w.cell? ⟨b, o + j, none⟩ = some v) (hk : k < l.length) (hx : l[k] = x) :
    wr.cell? ⟨b, o + k * 3, none⟩ = some (.string x.f0) ∧ wr.cell? ⟨b, o + k * 3 + 1, none⟩ = some (.int .i64 x.f1) ∧ wr.cell? ⟨b, o + k * 3 + 2, none⟩ = some (.int .i64 x.f2) := by
  subst hx
  exact ⟨((bcell hB).1 _ _ hb).trans (hc _ _ (flat_0 l k hk)), ((bcell hB).1 _ _ hb).trans (hc _ _ (flat_1 l k hk)), ((bcell hB).1 _ _ hb).trans (hc _ _ (flat_2 l k hk))⟩
set_option maxHeartbeats 400000 in
theorem kind_impl (x : R) (w : World) (hs : x.f0.size ≤ maxLen) :
    Calls Try.prog 58 #[.agg #[.string x.f0, .int .i64 x.f1, .int .i64 x.f2]] w (RPost (.bool (kindB x)) w) := by
  have HQ := Lib.hid (show kindB x = (wordB x.f0 && (inB x.f1 0 9 && inB x.f2 1 1000)) from rfl)
  go_enter Try.func58, Try.ntmps58
  go_wp2_with fail
  have X := Box.new (Below.refl _ w) [.string x.f0, .int .i64 x.f1, .int .i64 x.f2] 37 (g := w.heap.size) rfl
  generalize (w.alloc (.cells #[.string x.f0, .int .i64 x.f1, .int .i64 x.f2] 37)) = W1 at X ⊢
  have X_0 := X.cells 0 _ rfl
  have X_1 := X.cells 1 _ rfl
  have X_2 := X.cells 2 _ rfl
  have X_f0 := X.free 0 (by simp)
  have X_f1 := X.free 1 (by simp)
  have X_f2 := X.free 2 (by simp)
  have X_t := X.there
  have X_0 := X.cells 0 _ rfl
  have X_1 := X.cells 1 _ rfl
  have X_2 := X.cells 2 _ rfl
  have X_f0 := X.free 0 (by simp)
  have X_f1 := X.free 1 (by simp)
  have X_f2 := X.free 2 (by simp)
  have X_t := X.there
  cases h0 : wordB x.f0
  · go_wp2_with fail
    refine (word_impl _ _ hs).mono ?_
    rintro e v2 ⟨rfl, hv2⟩
    clear X_0 X_1 X_2 X_f0 X_f1 X_f2 X_t
    replace X := X.more hv2
    have zhv2 := hv2.size
    clear hv2
    have X_0 := X.cells 0 _ rfl
    have X_1 := X.cells 1 _ rfl
    have X_2 := X.cells 2 _ rfl
    have X_f0 := X.free 0 (by simp)
    have X_f1 := X.free 1 (by simp)
    have X_f2 := X.free 2 (by simp)
    have X_t := X.there
    rw [h0]
    go_wp2
    go_ret
    exact rpost (by rw [HQ.out, h0] <;> rfl) X.below
  go_wp2_with fail
  refine (word_impl _ _ hs).mono ?_
  rintro e v3 ⟨rfl, hv3⟩
  clear X_0 X_1 X_2 X_f0 X_f1 X_f2 X_t
  replace X := X.more hv3
  have zhv3 := hv3.size
  clear hv3
  have X_0 := X.cells 0 _ rfl
  have X_1 := X.cells 1 _ rfl
  have X_2 := X.cells 2 _ rfl
  have X_f0 := X.free 0 (by simp)
  have X_f1 := X.free 1 (by simp)
  have X_f2 := X.free 2 (by simp)
  have X_t := X.there
  rw [h0]
  cases h1 : inB x.f1 0 9
  · go_wp2_with (go_at_call 57; (with_reducible refine (within_any _ _ _ _).mono ?_); rintro e _ ⟨rfl, rfl⟩)
    go_ret
    exact rpost (by rw [HQ.out, h0, h1] <;> rfl) X.below
  cases h2 : inB x.f2 1 1000
  · go_wp2_with (go_at_call 57; (with_reducible refine (within_any _ _ _ _).mono ?_); rintro e _ ⟨rfl, rfl⟩)
    go_ret
    exact rpost (by rw [HQ.out, h0, h1, h2] <;> rfl) X.below
  · go_wp2_with (go_at_call 57; (with_reducible refine (within_any _ _ _ _).mono ?_); rintro e _ ⟨rfl, rfl⟩)
    go_ret
    exact rpost (by rw [HQ.out, h0, h1, h2] <;> rfl) X.below
set_option maxHeartbeats 1600000 in
theorem good_spec (P : Option Addr) (cap : Nat) (l : List R) (w : World) (hr : Rd w w.heap.size P (flat l)) (hn : l.length ≤ 1048576) (hz : ∀ x ∈ l, x.f0.size ≤ maxLen) :
    Calls Try.prog 60 #[.slice P l.length cap] w (RPost (.bool (goodK l)) w) := by
  have HR := Lib.hid hr; clear hr
  have HZ := Lib.hid hz; clear hz
  go_enter Try.func60, Try.ntmps60
  go_wp2
  go_loopw [3] (fun i wr => ∃ k : Nat, k ≤ l.length ∧ i = .int .i64 k ∧ Hid (upto l k = true) ∧ Below w.heap.size w wr) (fun i _ => l.length - (intOf i).toNat)
  case atStart => exact ⟨0, Nat.zero_le _, rfl, Lib.hid (upto_zero l), Below.refl _ _⟩
  case round =>
    obtain ⟨k, hk, rfl, HOK, HB0⟩ := hrel
    by_cases hlt : k < l.length
    · obtain ⟨b, o, rfl, hb, hc⟩ := HR.out.at (k := k * 3) (by rw [flat_n]; omega)
      obtain ⟨x, hx⟩ : ∃ x, l[k] = x := ⟨_, rfl⟩
      have hxz : x.f0.size ≤ maxLen := by rw [← hx]; exact HZ.out _ (List.getElem_mem hlt)
      obtain ⟨h0, h1, h2⟩ := cells3 HB0 hb hc hlt hx
      have HX := Lib.hid hx; clear hx
      have HL := Lib.hid hlt
      have HC := Lib.hid hc; clear hc
      go_wp2_with fail
      have B := Box.new HB0 [.string x.f0, .int .i64 x.f1, .int .i64 x.f2] 37 (g := wr.heap.size) rfl
      generalize (wr.alloc (.cells #[.string x.f0, .int .i64 x.f1, .int .i64 x.f2] 37)) = W1 at B ⊢
      have B_0 := B.cells 0 _ rfl
      have B_1 := B.cells 1 _ rfl
      have B_2 := B.cells 2 _ rfl
      have B_f0 := B.free 0 (by simp)
      have B_f1 := B.free 1 (by simp)
      have B_f2 := B.free 2 (by simp)
      have B_t := B.there
      clear h0 h1 h2
      cases e0 : wordB x.f0
      · refine wp_region_text (fun w' => Box (wr.heap.size) [.string x.f0, .int .i64 x.f1, .int .i64 x.f2] w w') (by kernel_rfl) (by kernel_rfl) (B.drew) ?_
        clear B_0 B_1 B_2 B_f0 B_f1 B_f2 B_t
        iterate 31 (
          apply SeqH.one
          · intro uw K hS hK
            have qB := hS
            have qB_0 := qB.cells 0 _ rfl
            have qB_1 := qB.cells 1 _ rfl
            have qB_2 := qB.cells 2 _ rfl
            first
              | (go_simp; exact hK.out _ qB)
              | (go_simp; go_at_call 84; (with_reducible refine (word_spec _ _ hxz).mono ?_); rintro e _ ⟨rfl, rfl⟩; go_wp2_with fail; exact hK.out _ qB)
              | (go_simp; go_at_call 66; (with_reducible refine (in_any _ _ _ _).mono ?_); rintro e _ ⟨rfl, rfl⟩; go_wp2_with fail; exact hK.out _ qB)
          try simp only [Act.put, List.setIfInBounds_toArray, List.set_cons_zero, List.set_cons_succ])
        refine SeqH.end' rfl ?_
        intro v2 hS
        clear B
        have B := hS; clear hS
        have B_0 := B.cells 0 _ rfl
        have B_1 := B.cells 1 _ rfl
        have B_2 := B.cells 2 _ rfl
        have B_f0 := B.free 0 (by simp)
        have B_f1 := B.free 1 (by simp)
        have B_f2 := B.free 2 (by simp)
        have B_t := B.there
        go_wp2
        go_ret
        exact rpost (by rw [upto_bad HL.out (ok_kind HL.out HX.out (kind_word e0))] <;> rfl) B.below
      cases e1 : inB x.f1 0 9
      · refine wp_region_text (fun w' => Box (wr.heap.size) [.string x.f0, .int .i64 x.f1, .int .i64 x.f2] w w') (by kernel_rfl) (by kernel_rfl) (B.drew) ?_
        clear B_0 B_1 B_2 B_f0 B_f1 B_f2 B_t
        iterate 31 (
          apply SeqH.one
          · intro uw K hS hK
            have qB := hS
            have qB_0 := qB.cells 0 _ rfl
            have qB_1 := qB.cells 1 _ rfl
            have qB_2 := qB.cells 2 _ rfl
            first
              | (go_simp; exact hK.out _ qB)
              | (go_simp; go_at_call 84; (with_reducible refine (word_spec _ _ hxz).mono ?_); rintro e _ ⟨rfl, rfl⟩; go_wp2_with fail; exact hK.out _ qB)
              | (go_simp; go_at_call 66; (with_reducible refine (in_any _ _ _ _).mono ?_); rintro e _ ⟨rfl, rfl⟩; go_wp2_with fail; exact hK.out _ qB)
          try simp only [Act.put, List.setIfInBounds_toArray, List.set_cons_zero, List.set_cons_succ])
        refine SeqH.end' rfl ?_
        intro v3 hS
        clear B
        have B := hS; clear hS
        have B_0 := B.cells 0 _ rfl
        have B_1 := B.cells 1 _ rfl
        have B_2 := B.cells 2 _ rfl
        have B_f0 := B.free 0 (by simp)
        have B_f1 := B.free 1 (by simp)
        have B_f2 := B.free 2 (by simp)
        have B_t := B.there
        go_wp2
        go_ret
        exact rpost (by rw [upto_bad HL.out (ok_kind HL.out HX.out (kind_water e1))] <;> rfl) B.below
      cases e2 : inB x.f2 1 1000
      · refine wp_region_text (fun w' => Box (wr.heap.size) [.string x.f0, .int .i64 x.f1, .int .i64 x.f2] w w') (by kernel_rfl) (by kernel_rfl) (B.drew) ?_
        clear B_0 B_1 B_2 B_f0 B_f1 B_f2 B_t
        iterate 31 (
          apply SeqH.one
          · intro uw K hS hK
            have qB := hS
            have qB_0 := qB.cells 0 _ rfl
            have qB_1 := qB.cells 1 _ rfl
            have qB_2 := qB.cells 2 _ rfl
            first
              | (go_simp; exact hK.out _ qB)
              | (go_simp; go_at_call 84; (with_reducible refine (word_spec _ _ hxz).mono ?_); rintro e _ ⟨rfl, rfl⟩; go_wp2_with fail; exact hK.out _ qB)
              | (go_simp; go_at_call 66; (with_reducible refine (in_any _ _ _ _).mono ?_); rintro e _ ⟨rfl, rfl⟩; go_wp2_with fail; exact hK.out _ qB)
          try simp only [Act.put, List.setIfInBounds_toArray, List.set_cons_zero, List.set_cons_succ])
        refine SeqH.end' rfl ?_
        intro v4 hS
        clear B
        have B := hS; clear hS
        have B_0 := B.cells 0 _ rfl
        have B_1 := B.cells 1 _ rfl
        have B_2 := B.cells 2 _ rfl
        have B_f0 := B.free 0 (by simp)
        have B_f1 := B.free 1 (by simp)
        have B_f2 := B.free 2 (by simp)
        have B_t := B.there
        go_wp2
        go_ret
        exact rpost (by rw [upto_bad HL.out (ok_kind HL.out HX.out (kind_grams e2))] <;> rfl) B.below
      have hok := Lib.hid (kind_yes e0 e1 e2)
      rcases Nat.eq_zero_or_pos k with hz | hz
      · subst hz
        have HN := Lib.hid (show upto l (0 + 1) = true by rw [upto_succ, HOK.out, ok_first HL.out HX.out, hok.out]; rfl)
        have hz1 : decide ((0 : Int) < (0 : Nat)) = false := rfl
        refine wp_region_text (fun w' => Box (wr.heap.size) [.string x.f0, .int .i64 x.f1, .int .i64 x.f2] w w') (by kernel_rfl) (by kernel_rfl) (B.drew) ?_
        clear B_0 B_1 B_2 B_f0 B_f1 B_f2 B_t
        iterate 31 (
          apply SeqH.one
          · intro uw K hS hK
            have qB := hS
            have qB_0 := qB.cells 0 _ rfl
            have qB_1 := qB.cells 1 _ rfl
            have qB_2 := qB.cells 2 _ rfl
            first
              | (go_simp; exact hK.out _ qB)
              | (go_simp; go_at_call 84; (with_reducible refine (word_spec _ _ hxz).mono ?_); rintro e _ ⟨rfl, rfl⟩; go_wp2_with fail; exact hK.out _ qB)
              | (go_simp; go_at_call 66; (with_reducible refine (in_any _ _ _ _).mono ?_); rintro e _ ⟨rfl, rfl⟩; go_wp2_with fail; exact hK.out _ qB)
          try simp only [Act.put, List.setIfInBounds_toArray, List.set_cons_zero, List.set_cons_succ])
        refine SeqH.end' rfl ?_
        intro v5 hS
        clear B
        have B := hS; clear hS
        have B_0 := B.cells 0 _ rfl
        have B_1 := B.cells 1 _ rfl
        have B_2 := B.cells 2 _ rfl
        have B_f0 := B.free 0 (by simp)
        have B_f1 := B.free 1 (by simp)
        have B_f2 := B.free 2 (by simp)
        have B_t := B.there
        go_wp2
        go_roundw
        case rel => exact ⟨1, HL.out, by go_num, HN, B.below⟩
        case measure => have := HL.out; simp [intOf]; omega
      · obtain ⟨j, rfl⟩ : ∃ j, k = j + 1 := ⟨k - 1, by omega⟩
        obtain ⟨y, hy⟩ : ∃ y, l[j] = y := ⟨_, rfl⟩
        have hq : w.cell? ⟨b, o + j * 3, none⟩ = some (.string y.f0) := by rw [← hy]; exact HC.out _ _ (flat_0 l j (by omega))
        have HP := Lib.hid hy; clear hy hz
        have q1 : (0 : Int) < (j : Int) + 1 := by omega
        have q2 : IntKind.i64.wrap (j : Int) = j := IntWalk.i64_in _ (by omega)
        have q3 : j < l.length := by omega
        have hq_c := ((bcell B.below).1 _ _ hb).trans hq
        cases hlow : Op.bytesLess y.f0.toList x.f0.toList
        · have HW := Lib.hid (upto_bad HL.out (show okAt l (j + 1) = false by rw [ok_next HL.out HX.out HP.out]; unfold lessB; rw [hlow]; simp))
          refine wp_region_text (fun w' => Box (wr.heap.size) [.string x.f0, .int .i64 x.f1, .int .i64 x.f2] w w') (by kernel_rfl) (by kernel_rfl) (B.drew) ?_
          clear B_0 B_1 B_2 B_f0 B_f1 B_f2 B_t
          clear hq_c
          iterate 31 (
            apply SeqH.one
            · intro uw K hS hK
              have qB := hS
              have qB_0 := qB.cells 0 _ rfl
              have qB_1 := qB.cells 1 _ rfl
              have qB_2 := qB.cells 2 _ rfl
              have qhq_c := ((bcell qB.below).1 _ _ hb).trans hq
              first
                | (go_simp; exact hK.out _ qB)
                | (go_simp; go_at_call 84; (with_reducible refine (word_spec _ _ hxz).mono ?_); rintro e _ ⟨rfl, rfl⟩; go_wp2_with fail; exact hK.out _ qB)
                | (go_simp; go_at_call 66; (with_reducible refine (in_any _ _ _ _).mono ?_); rintro e _ ⟨rfl, rfl⟩; go_wp2_with fail; exact hK.out _ qB)
            try simp only [Act.put, List.setIfInBounds_toArray, List.set_cons_zero, List.set_cons_succ])
          refine SeqH.end' rfl ?_
          intro v6 hS
          clear B
          have B := hS; clear hS
          have B_0 := B.cells 0 _ rfl
          have B_1 := B.cells 1 _ rfl
          have B_2 := B.cells 2 _ rfl
          have B_f0 := B.free 0 (by simp)
          have B_f1 := B.free 1 (by simp)
          have B_f2 := B.free 2 (by simp)
          have B_t := B.there
          have hq_c := ((bcell B.below).1 _ _ hb).trans hq
          go_wp2
          go_ret
          exact rpost (by rw [HW.out] <;> rfl) B.below
        · have HN := Lib.hid (show upto l (j + 1 + 1) = true by rw [upto_succ, HOK.out, ok_next HL.out HX.out HP.out, hok.out]; unfold lessB; rw [hlow]; rfl)
          refine wp_region_text (fun w' => Box (wr.heap.size) [.string x.f0, .int .i64 x.f1, .int .i64 x.f2] w w') (by kernel_rfl) (by kernel_rfl) (B.drew) ?_
          clear B_0 B_1 B_2 B_f0 B_f1 B_f2 B_t
          clear hq_c
          iterate 31 (
            apply SeqH.one
            · intro uw K hS hK
              have qB := hS
              have qB_0 := qB.cells 0 _ rfl
              have qB_1 := qB.cells 1 _ rfl
              have qB_2 := qB.cells 2 _ rfl
              have qhq_c := ((bcell qB.below).1 _ _ hb).trans hq
              first
                | (go_simp; exact hK.out _ qB)
                | (go_simp; go_at_call 84; (with_reducible refine (word_spec _ _ hxz).mono ?_); rintro e _ ⟨rfl, rfl⟩; go_wp2_with fail; exact hK.out _ qB)
                | (go_simp; go_at_call 66; (with_reducible refine (in_any _ _ _ _).mono ?_); rintro e _ ⟨rfl, rfl⟩; go_wp2_with fail; exact hK.out _ qB)
            try simp only [Act.put, List.setIfInBounds_toArray, List.set_cons_zero, List.set_cons_succ])
          refine SeqH.end' rfl ?_
          intro v7 hS
          clear B
          have B := hS; clear hS
          have B_0 := B.cells 0 _ rfl
          have B_1 := B.cells 1 _ rfl
          have B_2 := B.cells 2 _ rfl
          have B_f0 := B.free 0 (by simp)
          have B_f1 := B.free 1 (by simp)
          have B_f2 := B.free 2 (by simp)
          have B_t := B.there
          have hq_c := ((bcell B.below).1 _ _ hb).trans hq
          go_wp2
          go_roundw
          case rel => exact ⟨j + 1 + 1, HL.out, by go_num, HN, B.below⟩
          case measure => have := HL.out; simp [intOf]; omega
    · have HE := Lib.hid (show goodK l = inB l.length 1 6 by unfold goodK; rw [show upto l l.length = true by have := HOK.out; rwa [show k = l.length by omega] at this]; rfl)
      go_wp2_with (go_at_call 66; (with_reducible refine (in_any _ _ _ _).mono ?_); rintro e _ ⟨rfl, rfl⟩)
      go_ret
      exact rpost (by rw [HE.out] <;> rfl) HB0
theorem are_spec (P : Option Addr) (cap : Nat) (l : List R) (w : World) (hr : Rd w w.heap.size P (flat l)) (hn : l.length ≤ 1048576) (hz : ∀ x ∈ l, x.f0.size ≤ maxLen) :
    Calls Try.prog 23 #[.slice P l.length cap] w (RPost (.bool (goodK l)) w) := by
  go_enter Try.func23, Try.ntmps23
  go_wp2_with fail
  refine (good_spec P cap l w hr hn hz).mono ?_
  rintro e w1 ⟨rfl, HB⟩
  go_wp2
  go_ret
  exact rpost rfl HB
set_option maxHeartbeats 1600000 in
theorem are_impl (P : Option Addr) (cap : Nat) (l : List R) (w : World) (hr : Rd w w.heap.size P (flat l)) (hn : l.length ≤ 1048576) (hz : ∀ x ∈ l, x.f0.size ≤ maxLen) :
    Calls Try.prog 22 #[.slice P l.length cap] w (RPost (.bool (goodK l)) w) := by
  have HR := Lib.hid hr; clear hr
  have HZ := Lib.hid hz; clear hz
  cases hin : inB l.length 1 6
  · have HE := Lib.hid (show goodK l = false by unfold goodK; rw [hin, Bool.and_false])
    go_enter Try.func22, Try.ntmps22
    go_wp2_with (go_at_call 57; (with_reducible refine (within_any _ _ _ _).mono ?_); rintro e _ ⟨rfl, rfl⟩)
    go_ret
    exact rpost (by rw [HE.out] <;> rfl) (Below.refl _ _)
  · go_enter Try.func22, Try.ntmps22
    go_wp2_with (go_at_call 57; (with_reducible refine (within_any _ _ _ _).mono ?_); rintro e _ ⟨rfl, rfl⟩)
    go_loopw [11] (fun i wr => ∃ k : Nat, k ≤ l.length ∧ i = .int .i64 k ∧ Hid (upto l k = true) ∧ Below w.heap.size w wr) (fun i _ => l.length - (intOf i).toNat)
    case atStart => exact ⟨0, Nat.zero_le _, rfl, Lib.hid (upto_zero l), Below.refl _ _⟩
    case round =>
      obtain ⟨k, hk, rfl, HOK, HB0⟩ := hrel
      by_cases hlt : k < l.length
      · obtain ⟨b, o, rfl, hb, hc⟩ := HR.out.at (k := k * 3) (by rw [flat_n]; omega)
        obtain ⟨x, hx⟩ : ∃ x, l[k] = x := ⟨_, rfl⟩
        have hxz : x.f0.size ≤ maxLen := by rw [← hx]; exact HZ.out _ (List.getElem_mem hlt)
        obtain ⟨h0, h1, h2⟩ := cells3 HB0 hb hc hlt hx
        have HX := Lib.hid hx; clear hx
        have HL := Lib.hid hlt
        have HC := Lib.hid hc; clear hc
        go_wp2_with fail
        have B := Box.new HB0 [.string x.f0, .int .i64 x.f1, .int .i64 x.f2] 37 (g := wr.heap.size) rfl
        generalize (wr.alloc (.cells #[.string x.f0, .int .i64 x.f1, .int .i64 x.f2] 37)) = W1 at B ⊢
        have B_0 := B.cells 0 _ rfl
        have B_1 := B.cells 1 _ rfl
        have B_2 := B.cells 2 _ rfl
        have B_f0 := B.free 0 (by simp)
        have B_f1 := B.free 1 (by simp)
        have B_f2 := B.free 2 (by simp)
        have B_t := B.there
        clear h0 h1 h2
        cases hok : kindB x
        · refine wp_region_text (fun w' => Box (wr.heap.size) [.string x.f0, .int .i64 x.f1, .int .i64 x.f2] w w') (by kernel_rfl) (by kernel_rfl) (B.drew) ?_
          clear B_0 B_1 B_2 B_f0 B_f1 B_f2 B_t
          iterate 19 (
            apply SeqH.one
            · intro uw K hS hK
              have qB := hS
              have qB_0 := qB.cells 0 _ rfl
              have qB_1 := qB.cells 1 _ rfl
              have qB_2 := qB.cells 2 _ rfl
              first
                | (go_simp; exact hK.out _ qB)
                | (go_simp; go_at_call 58; (with_reducible refine (kind_impl x _ hxz).mono ?_); rintro e uw1 ⟨rfl, hv⟩; rw [hok]; go_wp2_with fail; exact hK.out _ (qB.more hv))
                | (go_simp; go_at_call 59; (with_reducible refine (less_impl _ _ _).mono ?_); rintro e _ ⟨rfl, rfl⟩; go_wp2_with fail; exact hK.out _ qB)
            try simp only [Act.put, List.setIfInBounds_toArray, List.set_cons_zero, List.set_cons_succ])
          refine SeqH.end' rfl ?_
          intro v2 hS
          clear B
          have B := hS; clear hS
          have B_0 := B.cells 0 _ rfl
          have B_1 := B.cells 1 _ rfl
          have B_2 := B.cells 2 _ rfl
          have B_f0 := B.free 0 (by simp)
          have B_f1 := B.free 1 (by simp)
          have B_f2 := B.free 2 (by simp)
          have B_t := B.there
          go_wp2
          go_ret
          exact rpost (by rw [upto_bad HL.out (ok_kind HL.out HX.out hok)] <;> rfl) B.below
        · rcases Nat.eq_zero_or_pos k with hz | hz
          · subst hz
            have HN := Lib.hid (show upto l (0 + 1) = true by rw [upto_succ, HOK.out, ok_first HL.out HX.out, hok]; rfl)
            have hz1 : decide ((0 : Int) < (0 : Nat)) = false := rfl
            refine wp_region_text (fun w' => Box (wr.heap.size) [.string x.f0, .int .i64 x.f1, .int .i64 x.f2] w w') (by kernel_rfl) (by kernel_rfl) (B.drew) ?_
            clear B_0 B_1 B_2 B_f0 B_f1 B_f2 B_t
            iterate 19 (
              apply SeqH.one
              · intro uw K hS hK
                have qB := hS
                have qB_0 := qB.cells 0 _ rfl
                have qB_1 := qB.cells 1 _ rfl
                have qB_2 := qB.cells 2 _ rfl
                first
                  | (go_simp; exact hK.out _ qB)
                  | (go_simp; go_at_call 58; (with_reducible refine (kind_impl x _ hxz).mono ?_); rintro e uw1 ⟨rfl, hv⟩; rw [hok]; go_wp2_with fail; exact hK.out _ (qB.more hv))
                  | (go_simp; go_at_call 59; (with_reducible refine (less_impl _ _ _).mono ?_); rintro e _ ⟨rfl, rfl⟩; go_wp2_with fail; exact hK.out _ qB)
              try simp only [Act.put, List.setIfInBounds_toArray, List.set_cons_zero, List.set_cons_succ])
            refine SeqH.end' rfl ?_
            intro v3 hS
            clear B
            have B := hS; clear hS
            have B_0 := B.cells 0 _ rfl
            have B_1 := B.cells 1 _ rfl
            have B_2 := B.cells 2 _ rfl
            have B_f0 := B.free 0 (by simp)
            have B_f1 := B.free 1 (by simp)
            have B_f2 := B.free 2 (by simp)
            have B_t := B.there
            go_wp2
            go_roundw
            case rel => exact ⟨1, HL.out, by go_num, HN, B.below⟩
            case measure => have := HL.out; simp [intOf]; omega
          · obtain ⟨j, rfl⟩ : ∃ j, k = j + 1 := ⟨k - 1, by omega⟩
            obtain ⟨y, hy⟩ : ∃ y, l[j] = y := ⟨_, rfl⟩
            have hq : w.cell? ⟨b, o + j * 3, none⟩ = some (.string y.f0) := by rw [← hy]; exact HC.out _ _ (flat_0 l j (by omega))
            have HP := Lib.hid hy; clear hy hz
            have q1 : (0 : Int) < (j : Int) + 1 := by omega
            have q2 : IntKind.i64.wrap (j : Int) = j := IntWalk.i64_in _ (by omega)
            have q3 : j < l.length := by omega
            have hq_c := ((bcell B.below).1 _ _ hb).trans hq
            cases hlow : lessB y.f0 x.f0
            · have HW := Lib.hid (upto_bad HL.out (show okAt l (j + 1) = false by rw [ok_next HL.out HX.out HP.out, hlow]; simp))
              refine wp_region_text (fun w' => Box (wr.heap.size) [.string x.f0, .int .i64 x.f1, .int .i64 x.f2] w w') (by kernel_rfl) (by kernel_rfl) (B.drew) ?_
              clear B_0 B_1 B_2 B_f0 B_f1 B_f2 B_t
              clear hq_c
              iterate 19 (
                apply SeqH.one
                · intro uw K hS hK
                  have qB := hS
                  have qB_0 := qB.cells 0 _ rfl
                  have qB_1 := qB.cells 1 _ rfl
                  have qB_2 := qB.cells 2 _ rfl
                  have qhq_c := ((bcell qB.below).1 _ _ hb).trans hq
                  first
                    | (go_simp; exact hK.out _ qB)
                    | (go_simp; go_at_call 58; (with_reducible refine (kind_impl x _ hxz).mono ?_); rintro e uw1 ⟨rfl, hv⟩; rw [hok]; go_wp2_with fail; exact hK.out _ (qB.more hv))
                    | (go_simp; go_at_call 59; (with_reducible refine (less_impl _ _ _).mono ?_); rintro e _ ⟨rfl, rfl⟩; go_wp2_with fail; exact hK.out _ qB)
                try simp only [Act.put, List.setIfInBounds_toArray, List.set_cons_zero, List.set_cons_succ])
              refine SeqH.end' rfl ?_
              intro v4 hS
              clear B
              have B := hS; clear hS
              have B_0 := B.cells 0 _ rfl
              have B_1 := B.cells 1 _ rfl
              have B_2 := B.cells 2 _ rfl
              have B_f0 := B.free 0 (by simp)
              have B_f1 := B.free 1 (by simp)
              have B_f2 := B.free 2 (by simp)
              have B_t := B.there
              have hq_c := ((bcell B.below).1 _ _ hb).trans hq
              go_wp2
              go_ret
              exact rpost (by rw [HW.out] <;> rfl) B.below
            · have HN := Lib.hid (show upto l (j + 1 + 1) = true by rw [upto_succ, HOK.out, ok_next HL.out HX.out HP.out, hok, hlow]; rfl)
              refine wp_region_text (fun w' => Box (wr.heap.size) [.string x.f0, .int .i64 x.f1, .int .i64 x.f2] w w') (by kernel_rfl) (by kernel_rfl) (B.drew) ?_
              clear B_0 B_1 B_2 B_f0 B_f1 B_f2 B_t
              clear hq_c
              iterate 19 (
                apply SeqH.one
                · intro uw K hS hK
                  have qB := hS
                  have qB_0 := qB.cells 0 _ rfl
                  have qB_1 := qB.cells 1 _ rfl
                  have qB_2 := qB.cells 2 _ rfl
                  have qhq_c := ((bcell qB.below).1 _ _ hb).trans hq
                  first
                    | (go_simp; exact hK.out _ qB)
                    | (go_simp; go_at_call 58; (with_reducible refine (kind_impl x _ hxz).mono ?_); rintro e uw1 ⟨rfl, hv⟩; rw [hok]; go_wp2_with fail; exact hK.out _ (qB.more hv))
                    | (go_simp; go_at_call 59; (with_reducible refine (less_impl _ _ _).mono ?_); rintro e _ ⟨rfl, rfl⟩; go_wp2_with fail; exact hK.out _ qB)
                try simp only [Act.put, List.setIfInBounds_toArray, List.set_cons_zero, List.set_cons_succ])
              refine SeqH.end' rfl ?_
              intro v5 hS
              clear B
              have B := hS; clear hS
              have B_0 := B.cells 0 _ rfl
              have B_1 := B.cells 1 _ rfl
              have B_2 := B.cells 2 _ rfl
              have B_f0 := B.free 0 (by simp)
              have B_f1 := B.free 1 (by simp)
              have B_f2 := B.free 2 (by simp)
              have B_t := B.there
              have hq_c := ((bcell B.below).1 _ _ hb).trans hq
              go_wp2
              go_roundw
              case rel => exact ⟨j + 1 + 1, HL.out, by go_num, HN, B.below⟩
              case measure => have := HL.out; simp [intOf]; omega
      · have HE := Lib.hid (show goodK l = true by unfold goodK; rw [show upto l l.length = true by have := HOK.out; rwa [show k = l.length by omega] at this, hin]; rfl)
        go_wp2
        go_ret
        exact rpost (by rw [HE.out] <;> rfl) HB0
end Go.Proofs.Ythilbpklmjpmcaa.KindG
