/- The laws' helpers over [2]int: two ints, by value and in slices. Made by tools/mk_spair.py. -/
import Derived.Test.YtpbmncecejchjaaBase
import Derived.Test.YtpbmncecejchjaaBox
import Derived.Test.YtpbmncecejchjaaRegn2
import Derived.Test.YtpbmncecejchjaaKeep
import Derived.Deep.QuietTactic
import Derived.BigQuiet
import Derived.WalkLawsBesides
import Derived.WalkSpells
import Derived.StillTailTactics
namespace Go.Proofs.Ytpbmncecejchjaa.SPair
open Go.RowKit Go.Proofs.Ytpbmncecejchjaa.Mem Go.Proofs.Ytpbmncecejchjaa.Base Go.Proofs.Ytpbmncecejchjaa.Regn Go.Proofs.Ytpbmncecejchjaa.Boxes Go.Proofs.Ytpbmncecejchjaa.Keep
set_option linter.unusedVariables false
set_option maxRecDepth 100000

structure R where
  f0 : Int
  f1 : Int
  deriving DecidableEq
def R.cells (x : R) : List Value := [.int .i64 x.f0, .int .i64 x.f1]
def R.val (x : R) : Value := .agg #[.int .i64 x.f0, .int .i64 x.f1]
def flat (l : List R) : List Value := l.flatMap R.cells
theorem flat_n (l : List R) : (flat l).length = l.length * 2 := flat_len R.cells 2 (fun _ => rfl) l
theorem flat_0 (l : List R) (i : Nat) (h : i < l.length) : (flat l)[i * 2]? = some (.int .i64 l[i].f0) := flat_get R.cells 2 (fun _ => rfl) l i 0 h (by omega)
theorem flat_1 (l : List R) (i : Nat) (h : i < l.length) : (flat l)[i * 2 + 1]? = some (.int .i64 l[i].f1) := flat_get R.cells 2 (fun _ => rfl) l i 1 h (by omega)
def zero : R := ⟨0, 0⟩
theorem flat_set (l : List R) (k : Nat) (x : R) (h : k < l.length) : (((flat l).set (k * 2) (.int .i64 x.f0)).set (k * 2 + 1) (.int .i64 x.f1)) = flat (l.set k x) := by
  refine flat_ext R.cells 2 (fun _ => rfl) _ _ (by simp [flat_n]) fun i j hi hj => ?_
  have hi' : i < l.length := by simpa using hi
  have hb := flat_get R.cells 2 (fun _ => rfl) l i j hi' hj
  by_cases hik : i = k
  · subst hik
    have hlen := flat_n l
    have hi2 : i * 2 + 2 ≤ l.length * 2 := by have := Nat.mul_le_mul_right 2 (show i + 1 ≤ l.length by omega); rw [Nat.succ_mul] at this; exact this
    rw [List.getElem_set_self]
    match j, hj with
    | 0, _ => simp [List.getElem?_set, R.cells, hlen]; omega
    | 1, _ => simp [List.getElem?_set, R.cells, hlen]; omega
  · rw [List.getElem_set_ne (fun e => hik e.symm), ← hb]
    have hne : ∀ q, q < 2 → ¬ (k * 2 + q = i * 2 + j) := fun q hq e => hik (idx_inj hq hj e)
    rw [List.getElem?_set_ne (by have := hne 1 (by omega); omega), List.getElem?_set_ne (by have := hne 0 (by omega); omega)]
    rfl
theorem made (m : Nat) : (madeCells (R.val zero).cells (m * 2)).toList = flat (List.replicate m zero) := by
  refine flat_ext R.cells 2 (fun _ => rfl) _ _ (by simp [size_madeCells]) fun i j hi hj => ?_
  have hi' : i < m := by simpa using hi
  have hlt : i * 2 + j < m * 2 := by have := Nat.mul_le_mul_right 2 (show i + 1 ≤ m by omega); rw [Nat.succ_mul] at this; omega
  rw [List.getElem_replicate, made_get (R.val zero).cells 2 (m * 2) i j rfl hj hlt]
  simp [R.val, R.cells, Value.cells]
def R.wf (x : R) : Prop := (Lit.int .i64 x.f0).wf = true ∧ (Lit.int .i64 x.f1).wf = true
theorem of_cells {w : World} {a : Addr} {len : Nat} (h : ∀ i, i < len → ∀ j, j < 2 → ∃ q : Int, w.cell? (a.add (i * 2 + j)) = some (.int .i64 q) ∧ (Lit.int .i64 q).wf = true) :
    ∃ l : List R, l.length = len ∧ Rd w w.heap.size (some a) (flat l) ∧ ∀ x ∈ l, x.wf := by
  have h' : ∀ i, ∃ x : R, i < len → (∀ j v, x.cells[j]? = some v → w.cell? (a.add (i * 2 + j)) = some v) ∧ x.wf := by
    intro i
    by_cases hi : i < len
    · obtain ⟨q0, c0, v0⟩ := h i hi 0 (by omega)
      obtain ⟨q1, c1, v1⟩ := h i hi 1 (by omega)
      refine ⟨⟨q0, q1⟩, fun _ => ⟨fun j v hv => ?_, v0, v1⟩⟩
      have hj : j < 2 := by
        rcases Nat.lt_or_ge j 2 with h1 | h1
        · exact h1
        · rw [List.getElem?_eq_none (by exact h1)] at hv; cases hv
      match j, hj, hv with
      | 0, _, hv => injection hv with hv; subst hv; exact c0
      | 1, _, hv => injection hv with hv; subst hv; exact c1
    · exact ⟨zero, fun h1 => absurd h1 hi⟩
  obtain ⟨f, hf⟩ := Classical.axiomOfChoice h'
  refine ⟨(List.range len).map f, by simp, Rd.of_cells fun j v hv => ?_, fun x hx => ?_⟩
  · have hjl : j < ((List.range len).map f).length * 2 := by
      rcases Nat.lt_or_ge j (((List.range len).map f).length * 2) with h1 | h1
      · exact h1
      · rw [List.getElem?_eq_none (by rw [flat_n]; exact h1)] at hv; cases hv
    have e : j / 2 * 2 + j % 2 = j := Nat.div_add_mod' j 2
    have hi : j / 2 < ((List.range len).map f).length := by omega
    have h2 := flat_get R.cells 2 (fun _ => rfl) ((List.range len).map f) (j / 2) (j % 2) hi (Nat.mod_lt _ (by omega))
    rw [e] at h2
    have h3 : (flat ((List.range len).map f))[j]? = _ := h2
    rw [h3] at hv
    have h4 := (hf (j / 2) (by simpa using hi)).1 (j % 2) v (by simpa using hv)
    rwa [e] at h4
  · obtain ⟨i, hi, rfl⟩ := List.mem_map.1 hx
    exact (hf i (List.mem_range.1 hi)).2

/-- returned with this value, only new memory. -/
def RPost (v : Value) (w : World) (e : Ending) (w' : World) : Prop := e = .returned v ∧ Below w.heap.size w w'
def same (x y : R) : Bool := decide (x = y)
theorem same_self (x : R) : same x x = true := decide_eq_true rfl
theorem same_ne {x y : R} (h : x ≠ y) : same x y = false := decide_eq_false h
theorem rpost {v u : Value} {w w' : World} (h : u = v) (hw : Below w.heap.size w w') : RPost v w (.returned u) w' := ⟨by rw [h], hw⟩
theorem info_T : (Try.prog.info? 48).map (fun i => (i.zero, i.size, i.bytes)) = some (some zero.val, 2, 16) := by kernel_rfl
set_option maxHeartbeats 800000 in
theorem eq_any (x y : R) (w : World) : Calls Try.prog 106 #[.agg #[.int .i64 x.f0, .int .i64 x.f1], .agg #[.int .i64 y.f0, .int .i64 y.f1]] w (RPost (.bool (same x y)) w) := by
  obtain ⟨a0, a1⟩ := x
  obtain ⟨b0, b1⟩ := y
  have HD := Lib.hid (show (a0 ≠ b0 ∨ a1 ≠ b1) → same ⟨a0, a1⟩ ⟨b0, b1⟩ = false from fun h => same_ne (fun e => by injection e with e0 e1; rcases h with h | h <;> contradiction))
  dsimp only
  go_enter Try.func106, Try.ntmps106
  go_wp2_with fail
  have B := (Box.new (Below.refl _ w) [.int .i64 a0, .int .i64 a1] 48 (g := w.heap.size) rfl).alloc (.cells #[.int .i64 b0, .int .i64 b1] 48)
  have C := Box.new (al (Below.refl _ w) (o := (.cells #[.int .i64 a0, .int .i64 a1] 48))) [.int .i64 b0, .int .i64 b1] 48 (g := w.heap.size + 1) (by simp only [size_alloc'])
  generalize ((w.alloc (.cells #[.int .i64 a0, .int .i64 a1] 48)).alloc (.cells #[.int .i64 b0, .int .i64 b1] 48)) = W1 at B C ⊢
  have B_0 := B.cells 0 _ rfl
  have B_1 := B.cells 1 _ rfl
  have B_f0 := B.free 0 (by simp)
  have B_f1 := B.free 1 (by simp)
  have B_t := B.there
  have C_0 := C.cells 0 _ rfl
  have C_1 := C.cells 1 _ rfl
  have C_f0 := C.free 0 (by simp)
  have C_f1 := C.free 1 (by simp)
  have C_t := C.there
  go_wp2
  go_loopw [5] (fun i wr => ∃ k : Nat, k ≤ 2 ∧ i = .int .i64 k ∧ Hid ((1 ≤ k → a0 = b0) ∧ (2 ≤ k → a1 = b1)) ∧ Box (w.heap.size) [.int .i64 a0, .int .i64 a1] w wr ∧ Box (w.heap.size + 1) [.int .i64 b0, .int .i64 b1] w wr) (fun i _ => 2 - (intOf i).toNat)
  case atStart => exact ⟨0, by omega, rfl, Lib.hid ⟨by omega, by omega⟩, B, C⟩
  case round =>
    clear B_0 B_1 B_f0 B_f1 B_t
    clear C_0 C_1 C_f0 C_f1 C_t
    clear B C
    obtain ⟨k, hk, rfl, HK, B, C⟩ := hrel
    have B_0 := B.cells 0 _ rfl
    have B_1 := B.cells 1 _ rfl
    have B_f0 := B.free 0 (by simp)
    have B_f1 := B.free 1 (by simp)
    have B_t := B.there
    have C_0 := C.cells 0 _ rfl
    have C_1 := C.cells 1 _ rfl
    have C_f0 := C.free 0 (by simp)
    have C_f1 := C.free 1 (by simp)
    have C_t := C.there
    rcases (show k = 0 ∨ k = 1 ∨ k = 2 by omega) with rfl | rfl | rfl
    · cases h0 : (a0 != b0)
      · have HK1 := Lib.hid (show (1 ≤ 1 → a0 = b0) ∧ (2 ≤ 1 → a1 = b1) from ⟨fun _ => by simpa using h0, by omega⟩)
        go_wp2
        refine wp_region_text (fun w' => Box (w.heap.size) [.int .i64 a0, .int .i64 a1] w w' ∧ Box (w.heap.size + 1) [.int .i64 b0, .int .i64 b1] w w') (by kernel_rfl) (by kernel_rfl) ⟨B.drew, C.drew⟩ ?_
        clear B_0 B_1 B_f0 B_f1 B_t
        clear C_0 C_1 C_f0 C_f1 C_t
        iterate 7 (
          apply SeqH.one
          · intro uw K hS hK
            obtain ⟨qB, qC⟩ := hS
            have qB_0 := qB.cells 0 _ rfl
            have qB_1 := qB.cells 1 _ rfl
            have qC_0 := qC.cells 0 _ rfl
            have qC_1 := qC.cells 1 _ rfl
            first
              | (go_simp; exact hK.out _ ⟨qB, qC⟩)
          try simp only [Act.put, List.setIfInBounds_toArray, List.set_cons_zero, List.set_cons_succ])
        refine SeqH.end' rfl ?_
        intro v2 hS
        clear B C
        obtain ⟨B, C⟩ := hS
        have B_0 := B.cells 0 _ rfl
        have B_1 := B.cells 1 _ rfl
        have B_f0 := B.free 0 (by simp)
        have B_f1 := B.free 1 (by simp)
        have B_t := B.there
        have C_0 := C.cells 0 _ rfl
        have C_1 := C.cells 1 _ rfl
        have C_f0 := C.free 0 (by simp)
        have C_f1 := C.free 1 (by simp)
        have C_t := C.there
        go_wp2
        go_roundw
        case rel => exact ⟨1, by omega, by go_num, HK1, B, C⟩
        case measure => simp [intOf]
      · have HX := Lib.hid (HD.out (.inl (by simpa using h0)))
        go_wp2
        refine wp_region_text (fun w' => Box (w.heap.size) [.int .i64 a0, .int .i64 a1] w w' ∧ Box (w.heap.size + 1) [.int .i64 b0, .int .i64 b1] w w') (by kernel_rfl) (by kernel_rfl) ⟨B.drew, C.drew⟩ ?_
        clear B_0 B_1 B_f0 B_f1 B_t
        clear C_0 C_1 C_f0 C_f1 C_t
        iterate 7 (
          apply SeqH.one
          · intro uw K hS hK
            obtain ⟨qB, qC⟩ := hS
            have qB_0 := qB.cells 0 _ rfl
            have qB_1 := qB.cells 1 _ rfl
            have qC_0 := qC.cells 0 _ rfl
            have qC_1 := qC.cells 1 _ rfl
            first
              | (go_simp; exact hK.out _ ⟨qB, qC⟩)
          try simp only [Act.put, List.setIfInBounds_toArray, List.set_cons_zero, List.set_cons_succ])
        refine SeqH.end' rfl ?_
        intro v3 hS
        clear B C
        obtain ⟨B, C⟩ := hS
        have B_0 := B.cells 0 _ rfl
        have B_1 := B.cells 1 _ rfl
        have B_f0 := B.free 0 (by simp)
        have B_f1 := B.free 1 (by simp)
        have B_t := B.there
        have C_0 := C.cells 0 _ rfl
        have C_1 := C.cells 1 _ rfl
        have C_f0 := C.free 0 (by simp)
        have C_f1 := C.free 1 (by simp)
        have C_t := C.there
        go_wp2
        go_ret
        exact rpost (by rw [HX.out] <;> rfl) B.below
    · cases h0 : (a1 != b1)
      · have HK1 := Lib.hid (show (1 ≤ 2 → a0 = b0) ∧ (2 ≤ 2 → a1 = b1) from ⟨fun _ => HK.out.1 (by omega), fun _ => by simpa using h0⟩)
        go_wp2
        refine wp_region_text (fun w' => Box (w.heap.size) [.int .i64 a0, .int .i64 a1] w w' ∧ Box (w.heap.size + 1) [.int .i64 b0, .int .i64 b1] w w') (by kernel_rfl) (by kernel_rfl) ⟨B.drew, C.drew⟩ ?_
        clear B_0 B_1 B_f0 B_f1 B_t
        clear C_0 C_1 C_f0 C_f1 C_t
        iterate 7 (
          apply SeqH.one
          · intro uw K hS hK
            obtain ⟨qB, qC⟩ := hS
            have qB_0 := qB.cells 0 _ rfl
            have qB_1 := qB.cells 1 _ rfl
            have qC_0 := qC.cells 0 _ rfl
            have qC_1 := qC.cells 1 _ rfl
            first
              | (go_simp; exact hK.out _ ⟨qB, qC⟩)
          try simp only [Act.put, List.setIfInBounds_toArray, List.set_cons_zero, List.set_cons_succ])
        refine SeqH.end' rfl ?_
        intro v4 hS
        clear B C
        obtain ⟨B, C⟩ := hS
        have B_0 := B.cells 0 _ rfl
        have B_1 := B.cells 1 _ rfl
        have B_f0 := B.free 0 (by simp)
        have B_f1 := B.free 1 (by simp)
        have B_t := B.there
        have C_0 := C.cells 0 _ rfl
        have C_1 := C.cells 1 _ rfl
        have C_f0 := C.free 0 (by simp)
        have C_f1 := C.free 1 (by simp)
        have C_t := C.there
        go_wp2
        go_roundw
        case rel => exact ⟨2, by omega, by go_num, HK1, B, C⟩
        case measure => simp [intOf]
      · have HX := Lib.hid (HD.out (.inr (by simpa using h0)))
        go_wp2
        refine wp_region_text (fun w' => Box (w.heap.size) [.int .i64 a0, .int .i64 a1] w w' ∧ Box (w.heap.size + 1) [.int .i64 b0, .int .i64 b1] w w') (by kernel_rfl) (by kernel_rfl) ⟨B.drew, C.drew⟩ ?_
        clear B_0 B_1 B_f0 B_f1 B_t
        clear C_0 C_1 C_f0 C_f1 C_t
        iterate 7 (
          apply SeqH.one
          · intro uw K hS hK
            obtain ⟨qB, qC⟩ := hS
            have qB_0 := qB.cells 0 _ rfl
            have qB_1 := qB.cells 1 _ rfl
            have qC_0 := qC.cells 0 _ rfl
            have qC_1 := qC.cells 1 _ rfl
            first
              | (go_simp; exact hK.out _ ⟨qB, qC⟩)
          try simp only [Act.put, List.setIfInBounds_toArray, List.set_cons_zero, List.set_cons_succ])
        refine SeqH.end' rfl ?_
        intro v5 hS
        clear B C
        obtain ⟨B, C⟩ := hS
        have B_0 := B.cells 0 _ rfl
        have B_1 := B.cells 1 _ rfl
        have B_f0 := B.free 0 (by simp)
        have B_f1 := B.free 1 (by simp)
        have B_t := B.there
        have C_0 := C.cells 0 _ rfl
        have C_1 := C.cells 1 _ rfl
        have C_f0 := C.free 0 (by simp)
        have C_f1 := C.free 1 (by simp)
        have C_t := C.there
        go_wp2
        go_ret
        exact rpost (by rw [HX.out] <;> rfl) B.below
    · have HX := Lib.hid (show same ⟨a0, a1⟩ ⟨b0, b1⟩ = true from (by rw [HK.out.1 (by omega), HK.out.2 (by omega)]; exact same_self _))
      go_wp2
      go_ret
      exact rpost (by rw [HX.out] <;> rfl) B.below
def EqPost (l m : List R) (w : World) (e : Ending) (w' : World) : Prop := e = .returned (.bool (decide (l = m))) ∧ Below w.heap.size w w'
theorem eq_yes {l m : List R} {w w' : World} (h : l = m) (hw : Below w.heap.size w w') : EqPost l m w (.returned (.bool true)) w' := ⟨by rw [decide_eq_true h], hw⟩
theorem eq_no {l m : List R} {w w' : World} (h : l ≠ m) (hw : Below w.heap.size w w') : EqPost l m w (.returned (.bool false)) w' := ⟨by rw [decide_eq_false h], hw⟩
set_option maxHeartbeats 1000000 in
theorem eqS_any (A A' : Option Addr) (cap cap' : Nat) (l m : List R) (w : World) (hr : Rd w w.heap.size A (flat l)) (hr' : Rd w w.heap.size A' (flat m)) (hn : l.length ≤ maxLen) (hn' : m.length ≤ maxLen) :
    Calls Try.prog 47 #[.slice A l.length cap, .slice A' m.length cap'] w (EqPost l m w) := by
  unfold maxLen at hn hn'
  by_cases hl : l.length = m.length
  · have hne : ((l.length : Int) != m.length) = false := by rw [bne_eq_false_iff_eq]; omega
    have HR := Lib.hid hr; clear hr
    have HR' := Lib.hid hr'; clear hr'
    have HL := Lib.hid hl; clear hl
    go_enter Try.func47, Try.ntmps47
    go_wp2
    go_loopw [5] (fun i wr => ∃ k : Nat, k ≤ l.length ∧ i = .int .i64 k ∧ l.take k = m.take k ∧ Below w.heap.size w wr) (fun i _ => l.length - (intOf i).toNat)
    case atStart => exact ⟨0, Nat.zero_le _, rfl, by simp, Below.refl _ _⟩
    case round =>
      obtain ⟨k, hk, rfl, hpre, hB⟩ := hrel
      have HP := Lib.hid hpre; clear hpre
      have HB := Lib.hid hB; clear hB
      by_cases hlt : k < l.length
      · have hlt' : k < m.length := by have := HL.out; omega
        obtain ⟨b, o, rfl, hb, hc⟩ := HR.out.at (k := k * 2) (by rw [flat_n]; omega)
        obtain ⟨b', o', rfl, hb', hc'⟩ := HR'.out.at (k := k * 2) (by rw [flat_n]; omega)
        have h0 : wr.cell? ⟨b, o + k * 2, none⟩ = some (.int .i64 l[k].f0) := ((bcell HB.out).1 _ _ hb).trans (hc _ _ (flat_0 l k hlt))
        have k0 : wr.cell? ⟨b', o' + k * 2, none⟩ = some (.int .i64 m[k].f0) := ((bcell HB.out).1 _ _ hb').trans (hc' _ _ (flat_0 m k hlt'))
        have h1 : wr.cell? ⟨b, o + k * 2 + 1, none⟩ = some (.int .i64 l[k].f1) := ((bcell HB.out).1 _ _ hb).trans (hc _ _ (flat_1 l k hlt))
        have k1 : wr.cell? ⟨b', o' + k * 2 + 1, none⟩ = some (.int .i64 m[k].f1) := ((bcell HB.out).1 _ _ hb').trans (hc' _ _ (flat_1 m k hlt'))
        clear hc hc'
        go_wp2_with fail
        go_still_tail 8, (by kernel_rfl)
        obtain ⟨w2, hw2⟩ : ∃ W : World, W = wr.drew := ⟨_, rfl⟩
        change wpList _ _ _ _ _ wr.drew
        rw [← hw2]
        have HB2 := Lib.hid (show Below w.heap.size w w2 by rw [hw2]; exact HB.out.drew)
        clear hw2 h0 k0 h1 k1 HB
        go_wp2_with fail
        refine (eq_any l[k] m[k] w2).mono ?_
        rintro e w3 ⟨rfl, hB3⟩
        have HB3 := Lib.hid (be HB2.out hB3); clear hB3 HB2
        by_cases he : l[k] = m[k]
        · have HE := Lib.hid (show same l[k] m[k] = true by rw [he]; exact same_self _)
          have HE2 := Lib.hid (take_eq_succ hlt hlt' HP.out he); clear he
          rw [HE.out]
          go_wp2
          go_roundw
          case rel => exact ⟨k + 1, by omega, by go_num, HE2.out, HB3.out⟩
          case measure => simp [intOf]; omega
        · have HE := Lib.hid (same_ne he)
          have HE2 := Lib.hid (take_ne hlt hlt' he); clear he
          rw [HE.out]
          go_wp2
          go_ret
          exact eq_no HE2.out HB3.out
      · go_wp2
        go_ret
        exact eq_yes (by have h1 := HP.out; rwa [List.take_of_length_le (by omega), List.take_of_length_le (by have := HL.out; omega)] at h1) HB.out
  · have hne : ((l.length : Int) != m.length) = true := by rw [bne_iff_ne]; omega
    go_enter Try.func47, Try.ntmps47
    go_wp2
    go_ret
    exact eq_no (fun e => hl (by rw [e])) (Below.refl _ _)
/-- what marking from k on leaves. -/
def mk (k : Int) (i : Nat) : R := ⟨k + i * 2, k + i * 2 + 1⟩
def marks (k : Int) (m : Nat) : List R := (List.range m).map (mk k)
theorem marks_len (k : Int) (m : Nat) : (marks k m).length = m := by simp [marks]
theorem marks_get (k : Int) (m i : Nat) (h : i < (marks k m).length) : (marks k m)[i] = mk k i := by simp [marks]
def part (l : List R) (k : Int) (i : Nat) : List R := marks k i ++ l.drop i
theorem part_zero (l : List R) (k : Int) : part l k 0 = l := by simp [part, marks]
theorem part_full (l : List R) (k : Int) : part l k l.length = marks k l.length := by simp [part]
theorem part_len (l : List R) (k : Int) (i : Nat) (h : i ≤ l.length) : (part l k i).length = l.length := by simp [part, marks]; omega
theorem part_set (l : List R) (k : Int) (i : Nat) (h : i < l.length) : (part l k i).set i (mk k i) = part l k (i + 1) := by
  unfold part
  rw [List.set_append_right _ _ (by rw [marks_len]; exact Nat.le_refl _), marks_len, Nat.sub_self, List.drop_eq_getElem_cons h, List.set_cons_zero]
  simp [marks, List.range_succ]
/-- p cells marked. -/
def mf (k : Int) (p : Nat) (xs : List Value) : List Value := (List.range p).map (fun i : Nat => Value.int .i64 (k + (i : Int))) ++ xs.drop p
theorem mf_zero (k : Int) (xs : List Value) : mf k 0 xs = xs := by simp [mf]
theorem mf_len (k : Int) (p : Nat) (xs : List Value) (h : p ≤ xs.length) : (mf k p xs).length = xs.length := by simp [mf]; omega
theorem mf_set (k : Int) (p : Nat) (xs : List Value) (h : p < xs.length) : (mf k p xs).set p (.int .i64 (k + (p : Int))) = mf k (p + 1) xs := by
  unfold mf
  rw [List.set_append_right _ _ (by simp)]
  simp [List.range_succ]
  rw [List.drop_eq_getElem_cons h]; rfl
theorem mf_full (k : Int) (l : List R) : mf k (l.length * 2) (flat l) = flat (marks k l.length) := by
  refine flat_ext R.cells 2 (fun _ => rfl) _ _ (by rw [mf_len k _ _ (by rw [flat_n]; omega), flat_n, marks_len]) fun i j hi hj => ?_
  have hi' : i < l.length := by simpa [marks_len] using hi
  have hlt : i * 2 + j < l.length * 2 := by omega
  unfold mf
  rw [List.getElem?_append_left (by simpa using hlt), List.getElem?_map, List.getElem?_range hlt, marks_get]
  match j, hj with
  | 0, _ => (simp [mk, R.cells] <;> omega)
  | 1, _ => (simp [mk, R.cells] <;> omega)
def MkPost (l : List R) (A : Option Addr) (c base : Nat) (k : Int) (w : World) (e : Ending) (w' : World) : Prop :=
  e = .returned (.int .i64 (k + l.length * 2)) ∧ w'.ownsRow base 48 2 (.slice A l.length c) l.length (flat (marks k l.length)) ∧ w.grownBy w' (Value.slice A l.length c).ownBlock
set_option maxHeartbeats 1000000 in
theorem markS_any (A : Option Addr) (c base : Nat) (l : List R) (k : Int) (w : World) (ho : w.ownsRow base 48 2 (.slice A l.length c) l.length (flat l)) (hn : l.length ≤ 100000000) (hk0 : 0 ≤ k) (hk1 : k ≤ 100000000000) :
    Calls Try.prog 49 #[.slice A l.length c, .int .i64 k] w (MkPost l A c base k w) := by
  have HO0 := Lib.hid ho; clear ho
  go_enter Try.func49, Try.ntmps49
  go_wp2
  go_loopw [1, 5] (fun q i wr => ∃ j : Nat, j ≤ l.length ∧ i = .int .i64 j ∧ q = .int .i64 (k + (j * 2 : Nat)) ∧ wr.ownsRow base 48 2 (.slice A l.length c) l.length (mf k (j * 2) (flat l)) ∧ w.grownBy wr (Value.slice A l.length c).ownBlock) (fun _ i _ => l.length - (intOf i).toNat)
  case atStart => exact ⟨0, Nat.zero_le _, rfl, by simp, by rw [Nat.zero_mul, mf_zero]; exact HO0.out, World.grownBy.refl _ _⟩
  case round =>
    obtain ⟨j, hj, rfl, rfl, ho, hg⟩ := hrel
    have HO := Lib.hid ho; clear ho
    have HG := Lib.hid hg; clear hg
    by_cases hlt : j < l.length
    · obtain ⟨g, cap', hA⟩ := own_some HO.out (by omega)
      obtain ⟨rfl, rfl⟩ := hA
      have HL := Lib.hid hlt
      generalize wr = w0 at *
      go_wp2
      go_loopw [1, 6] (fun q i wr => ∃ r : Nat, r ≤ 2 ∧ i = .int .i64 r ∧ q = .int .i64 (k + (j * 2 + r : Nat)) ∧ wr.ownsRow base 48 2 (.slice (some ⟨g, 0, none⟩) l.length c) l.length (mf k (j * 2 + r) (flat l)) ∧ w.grownBy wr (Value.slice (some ⟨g, 0, none⟩) l.length c).ownBlock) (fun _ i _ => 2 - (intOf i).toNat)
      case atStart => exact ⟨0, by omega, rfl, rfl, HO.out, HG.out⟩
      case round =>
        clear HO HG
        obtain ⟨r, hr, rfl, rfl, ho, hg⟩ := hrel
        have HO := Lib.hid ho; clear ho
        have HG := Lib.hid hg; clear hg
        have hz : j * 2 + 2 ≤ l.length * 2 := by have := HL.out; omega
        by_cases hr2 : r < 2
        · have hfl : (mf k (j * 2 + r) (flat l)).length = l.length * 2 := by rw [mf_len _ _ _ (by rw [flat_n]; omega), flat_n]
          obtain ⟨q0, m0⟩ : ∃ v, wr.cell? ⟨g, j * 2 + r, none⟩ = some v :=
            ⟨_, (HO.out.cellAt (j * 2 + r) (by omega)).trans (List.getElem?_eq_getElem (by rw [hfl]; omega))⟩
          have g0 : wr.frozen? ⟨g, j * 2 + r, none⟩ = false := HO.out.frozenAt _
          have hr3 : (r : Int) < 2 := by omega
          have HR2 := Lib.hid hr2
          have HZ := Lib.hid hz
          clear hfl hz
          go_wp2
          go_roundw
          case rel =>
            have h1 := (HO.out.stored (j * 2 + r) (.int .i64 (k + (j * 2 + r : Nat)))).1
            rw [mf_set k (j * 2 + r) (flat l) (by rw [flat_n]; have := HR2.out; have := HZ.out; omega)] at h1
            exact ⟨r + 1, HR2.out, by go_num, by go_num, h1, HG.out.setOwn _ _⟩
          case measure => have := HR2.out; simp [intOf]; omega
        · have hr3 : r = 2 := by omega
          subst hr3
          clear hz
          go_wp2
          go_roundw
          case rel => exact ⟨j + 1, HL.out, by go_num, by go_num, by have := HO.out; rwa [show j * 2 + 2 = (j + 1) * 2 by omega] at this, HG.out⟩
          case measure => have := HL.out; simp [intOf]; omega
    · have hkk : j = l.length := by omega
      subst hkk
      go_wp2
      go_ret
      exact ⟨by simp, by have := HO.out; rwa [mf_full] at this, HG.out⟩
theorem marks_cell (k : Int) (m p : Nat) (h : p < m * 2) : (flat (marks k m))[p]? = some (.int .i64 (k + (p : Int))) := by
  have hi : p / 2 < (marks k m).length := by rw [marks_len]; omega
  have h1 := flat_get R.cells 2 (fun _ => rfl) (marks k m) (p / 2) (p % 2) hi (Nat.mod_lt _ (by omega))
  rw [Nat.div_add_mod' p 2] at h1
  refine (show (flat (marks k m))[p]? = _ from h1).trans ?_
  rw [marks_get]
  rcases Nat.mod_two_eq_zero_or_one p with h2 | h2
  · rw [h2]; simp [mk, R.cells]; omega
  · rw [h2]; simp [mk, R.cells]; omega
set_option maxHeartbeats 1000000 in
theorem heldS_any (A : Option Addr) (c B : Nat) (k : Int) (m : Nat) (w : World) (hr : Rd w B A (flat (marks k m))) (hn : m ≤ 100000000) (hk0 : 0 ≤ k) (hk1 : k ≤ 100000000000) :
    Calls Try.prog 50 #[.slice A m c, .int .i64 k] w fun e w' => e = .returned (.int .i64 (k + m * 2)) ∧ Drawn w w' := by
  have HR := Lib.hid hr; clear hr
  go_enter Try.func50, Try.ntmps50
  go_wp2
  go_loopw [1, 5] (fun q i wr => ∃ j : Nat, j ≤ m ∧ i = .int .i64 j ∧ q = .int .i64 (k + (j * 2 : Nat)) ∧ Drawn w wr) (fun _ i _ => m - (intOf i).toNat)
  case atStart => exact ⟨0, Nat.zero_le _, rfl, by simp, Drawn.refl _⟩
  case round =>
    obtain ⟨j, hj, rfl, rfl, hD⟩ := hrel
    have HD := Lib.hid hD; clear hD
    by_cases hlt : j < m
    · obtain ⟨b, o, rfl, hb, hc⟩ := HR.out.at (k := j * 2) (by rw [flat_n, marks_len]; omega)
      have HC := Lib.hid hc; clear hc
      have HL := Lib.hid hlt
      generalize wr = w0 at *
      go_wp2
      go_loopw [1, 6] (fun q i wr => ∃ r : Nat, r ≤ 2 ∧ i = .int .i64 r ∧ q = .int .i64 (k + (j * 2 + r : Nat)) ∧ Drawn w wr) (fun _ i _ => 2 - (intOf i).toNat)
      case atStart => exact ⟨0, by omega, rfl, rfl, HD.out⟩
      case round =>
        clear HD
        obtain ⟨r, hr, rfl, rfl, hD⟩ := hrel
        have HD := Lib.hid hD; clear hD
        by_cases hr2 : r < 2
        · have h0 : wr.cell? ⟨b, o + j * 2 + r, none⟩ = some (.int .i64 (k + (j * 2 + r : Nat))) := (HD.out.cell _ _).trans (by rw [show o + j * 2 + r = o + (j * 2 + r) by omega]; exact HC.out _ _ (marks_cell k m _ (by have := HL.out; omega)))
          have hr3 : (r : Int) < 2 := by omega
          have HR2 := Lib.hid hr2
          go_wp2
          go_roundw
          case rel => exact ⟨r + 1, HR2.out, by go_num, by go_num, HD.out⟩
          case measure => have := HR2.out; simp [intOf]; omega
        · have hr3 : r = 2 := by omega
          subst hr3
          go_wp2
          go_roundw
          case rel => exact ⟨j + 1, HL.out, by go_num, by go_num, HD.out⟩
          case measure => have := HL.out; simp [intOf]; omega
    · have hkk : j = m := by omega
      subst hkk
      go_wp2
      go_ret
      exact ⟨by simp, HD.out⟩
end Go.Proofs.Ytpbmncecejchjaa.SPair
