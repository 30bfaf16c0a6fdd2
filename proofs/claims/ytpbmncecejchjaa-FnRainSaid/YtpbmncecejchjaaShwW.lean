/- Showers: WettestDay. -/
import Derived.Deep.Cut
import Derived.Test.YtpbmncecejchjaaShwL
namespace Go.Proofs.Ytpbmncecejchjaa.ShwW
open Go.RowKit Go.Proofs.Ytpbmncecejchjaa.Mem Go.Proofs.Ytpbmncecejchjaa.Base Go.Proofs.Ytpbmncecejchjaa.SShower Go.Proofs.Ytpbmncecejchjaa.Regn Go.Proofs.Ytpbmncecejchjaa.Boxes Go.Proofs.Ytpbmncecejchjaa.Keep Go.Proofs.Ytpbmncecejchjaa.Shw Go.Proofs.Ytpbmncecejchjaa.ShwS Go.Proofs.Ytpbmncecejchjaa.ShwG
set_option linter.unusedVariables false
set_option maxRecDepth 100000
/-- the wettest one, the first one of several. -/
def wet : List R → R → R
  | [], b => b
  | x :: l, b => wet l (if b.f1 < x.f1 then x else b)
theorem wet_drop {l : List R} {k : Nat} {x b : R} (hk : k < l.length) (hx : l[k] = x) : wet (l.drop k) b = wet (l.drop (k + 1)) (if b.f1 < x.f1 then x else b) := by
  rw [List.drop_eq_getElem_cons hk, hx]; rfl
theorem wet_new {l : List R} {k : Nat} {x b : R} (hk : k < l.length) (hx : l[k] = x) (h : b.f1 < x.f1) : wet (l.drop (k + 1)) x = wet (l.drop k) b := by rw [wet_drop hk hx, if_pos h]
theorem wet_old {l : List R} {k : Nat} {x b : R} (hk : k < l.length) (hx : l[k] = x) (h : ¬ b.f1 < x.f1) : wet (l.drop (k + 1)) b = wet (l.drop k) b := by rw [wet_drop hk hx, if_neg h]
theorem wet_end {l : List R} {k : Nat} {b : R} (hk : l.length ≤ k) : wet (l.drop k) b = b := by rw [List.drop_eq_nil_of_le hk]; rfl
theorem wet_max : ∀ (l : List R) (b : R), b.f1 ≤ (wet l b).f1 ∧ ∀ x ∈ l, x.f1 ≤ (wet l b).f1 := by
  intro l
  induction l with
  | nil => intro b; exact ⟨Int.le_refl _, by simp⟩
  | cons y l ih =>
    intro b
    unfold wet
    obtain ⟨h1, h2⟩ := ih (if b.f1 < y.f1 then y else b)
    split at h1 <;> split at h2 <;> first | contradiction | skip
    · rename_i h _
      rw [if_pos h]
      refine ⟨by omega, fun x hx => ?_⟩
      rcases List.mem_cons.1 hx with rfl | hx
      · exact h1
      · exact h2 x hx
    · rename_i h _
      rw [if_neg h]
      refine ⟨h1, fun x hx => ?_⟩
      rcases List.mem_cons.1 hx with rfl | hx
      · omega
      · exact h2 x hx
theorem wet_mem : ∀ (l : List R) (b : R), wet l b = b ∨ wet l b ∈ l := by
  intro l
  induction l with
  | nil => intro b; exact .inl rfl
  | cons y l ih =>
    intro b
    unfold wet
    rcases ih (if b.f1 < y.f1 then y else b) with h | h
    · rw [h]; split
      · exact .inr (by simp)
      · exact .inl rfl
    · exact .inr (by simp [h])
def wetOk (l : List R) : Bool := good l && decide (0 < l.length)
def wetR (l : List R) : R := wet (l.drop 1) (l.getD 0 zero)
def wetV (l : List R) : Value := if wetOk l = true then .tuple #[.int .i64 (wetR l).f0, .bool true] else .tuple #[.int .i64 0, .bool false]
theorem wetV_no1 {l : List R} (h : good l = false) : wetV l = .tuple #[.int .i64 0, .bool false] := by unfold wetV wetOk; rw [h]; rfl
theorem wetV_no2 {l : List R} (h : l.length = 0) : wetV l = .tuple #[.int .i64 0, .bool false] := by unfold wetV wetOk; rw [decide_eq_false (by omega), Bool.and_false]; rfl
theorem wetV_yes {l : List R} {x : R} (h : good l = true) (h1 : 0 < l.length) (hx : wetR l = x) : wetV l = .tuple #[.int .i64 x.f0, .bool true] := by unfold wetV wetOk; rw [h, decide_eq_true h1, hx]; rfl
theorem wetR_at {l : List R} {x : R} (h : 0 < l.length) (hx : l[0] = x) : wet (l.drop 1) x = wetR l := by unfold wetR; rw [getD_at h, hx]
theorem wet_form (l : List R) : ∃ x q, wetV l = .tuple #[.int .i64 x, .bool q] := by
  unfold wetV; split
  · exact ⟨_, _, rfl⟩
  · exact ⟨_, _, rfl⟩
set_option maxHeartbeats 800000 in
theorem wet_spec (P : Option Addr) (cap : Nat) (l : List R) (w : World) (hr : Rd w w.heap.size P (flat l)) (hn : l.length ≤ 1048576) :
    Calls Try.prog 41 #[.slice P l.length cap] w (RPost (wetV l) w) := by
  have HR := Lib.hid hr; clear hr
  go_enter Try.func41, Try.ntmps41
  go_wp2_with fail
  refine (good_spec P cap l w HR.out hn).mono ?_
  rintro e w1 ⟨rfl, HB0⟩
  cases hg : good l
  · have HV := Lib.hid (wetV_no1 hg)
    go_wp2
    go_ret2
    exact rpost (by rw [HV.out] <;> rfl) HB0
  have HG := Lib.hid hg; clear hg
  by_cases h0 : l.length = 0
  · have HV := Lib.hid (wetV_no2 h0)
    have hz : ((l.length : Int) == 0) = true := by rw [beq_iff_eq]; omega
    clear h0
    go_wp2
    go_ret2
    exact rpost (by rw [HV.out] <;> rfl) HB0
  have hz : ((l.length : Int) == 0) = false := by rw [beq_eq_false_iff_ne]; omega
  have hpos : 0 < l.length := by omega
  obtain ⟨z, hzz⟩ : ∃ z, l[0] = z := ⟨_, rfl⟩
  have HP := Lib.hid hpos
  have HZ := Lib.hid (wetR_at hpos hzz)
  have HZ0 := Lib.hid (show ∃ h : 0 < l.length, l[0] = z from ⟨hpos, hzz⟩)
  clear h0 hzz
  go_wp2
  go_loopw [4, 5] (fun s i wr => ∃ (k j : Nat) (y : R), k ≤ l.length ∧ j < k ∧ i = .int .i64 k ∧ s = .int .i64 j ∧ Hid (∃ h : j < l.length, l[j] = y) ∧ Hid (wet (l.drop k) y = wetR l) ∧ Below w.heap.size w wr) (fun _ i _ => l.length - (intOf i).toNat)
  case atStart => exact ⟨1, 0, z, hpos, by omega, rfl, rfl, HZ0, HZ, HB0⟩
  case round =>
    clear HB0 HZ HZ0
    obtain ⟨k, j, y, hk, hjk, rfl, rfl, HY, HW, HB⟩ := hrel
    by_cases hlt : k < l.length
    · obtain ⟨b, o, rfl, hb, hc⟩ := HR.out.at (k := k * 2) (by rw [flat_n]; omega)
      obtain ⟨x, hx⟩ : ∃ x, l[k] = x := ⟨_, rfl⟩
      obtain ⟨h0, h1⟩ := cells2 (Below.refl _ _) hb hc hlt hx
      obtain ⟨hj, hy⟩ := HY.out
      obtain ⟨e0, e1⟩ := cells2 (Below.refl _ _) hb hc hj hy
      have HX := Lib.hid hx
      have HL := Lib.hid hlt
      have HJ := Lib.hid hjk
      clear hc hx h0 e0 hy
      have h1_c := ((bcell HB).1 _ _ hb).trans h1
      have e1_c := ((bcell HB).1 _ _ hb).trans e1
      by_cases hm : y.f1 < x.f1
      · have hm' : decide (y.f1 < x.f1) = true := decide_eq_true hm
        have HN := Lib.hid ((wet_new HL.out HX.out hm).trans HW.out)
        have HK := Lib.hid (show ∃ h : k < l.length, l[k] = x from ⟨HL.out, HX.out⟩)
        clear hm
        go_wp2_with fail
        refine wp_region_text (fun w' => Below w.heap.size w w') (by kernel_rfl) (by kernel_rfl) (be HB (Below.refl _ _).drew) ?_
        clear h1_c
        clear e1_c
        iterate 11 (
          apply SeqH.one
          · intro uw K hS hK
            have qHB := hS
            have qh1_c := ((bcell qHB).1 _ _ hb).trans h1
            have qe1_c := ((bcell qHB).1 _ _ hb).trans e1
            first
              | (go_simp; exact hK.out _ qHB)
          try simp only [Act.put, List.setIfInBounds_toArray, List.set_cons_zero, List.set_cons_succ])
        refine SeqH.end' rfl ?_
        intro v1 hS
        clear HB
        have HB := hS; clear hS
        have h1_c := ((bcell HB).1 _ _ hb).trans h1
        have e1_c := ((bcell HB).1 _ _ hb).trans e1
        go_wp2
        go_roundw
        case rel => exact ⟨k + 1, k, x, HL.out, by omega, by go_num, rfl, HK, HN, HB⟩
        case measure => have := HL.out; simp [intOf]; omega
      · have hm' : decide (y.f1 < x.f1) = false := decide_eq_false hm
        have HN := Lib.hid ((wet_old HL.out HX.out hm).trans HW.out)
        clear hm
        go_wp2_with fail
        refine wp_region_text (fun w' => Below w.heap.size w w') (by kernel_rfl) (by kernel_rfl) (be HB (Below.refl _ _).drew) ?_
        clear h1_c
        clear e1_c
        iterate 11 (
          apply SeqH.one
          · intro uw K hS hK
            have qHB := hS
            have qh1_c := ((bcell qHB).1 _ _ hb).trans h1
            have qe1_c := ((bcell qHB).1 _ _ hb).trans e1
            first
              | (go_simp; exact hK.out _ qHB)
          try simp only [Act.put, List.setIfInBounds_toArray, List.set_cons_zero, List.set_cons_succ])
        refine SeqH.end' rfl ?_
        intro v2 hS
        clear HB
        have HB := hS; clear hS
        have h1_c := ((bcell HB).1 _ _ hb).trans h1
        have e1_c := ((bcell HB).1 _ _ hb).trans e1
        go_wp2
        go_roundw
        case rel => exact ⟨k + 1, j, y, HL.out, by have := HJ.out; omega, by go_num, rfl, HY, HN, HB⟩
        case measure => have := HL.out; simp [intOf]; omega
    · obtain ⟨hj, hy⟩ := HY.out
      obtain ⟨b, o, rfl, hb, hc⟩ := HR.out.at (k := j * 2) (by rw [flat_n]; omega)
      obtain ⟨e0, e1⟩ := cells2 HB hb hc hj hy
      have HV := Lib.hid (wetV_yes HG.out HP.out (HW.out.symm.trans (wet_end (by omega))))
      clear hc e1 hy
      go_wp2
      go_ret2
      exact rpost (by rw [HV.out] <;> rfl) HB
set_option maxHeartbeats 800000 in
theorem wet_impl (P : Option Addr) (cap : Nat) (l : List R) (w : World) (hr : Rd w w.heap.size P (flat l)) (hcap : l.length ≤ cap) (hn : l.length ≤ 1048576) :
    Calls Try.prog 40 #[.slice P l.length cap] w (RPost (wetV l) w) := by
  have HR := Lib.hid hr; clear hr
  go_enter Try.func40, Try.ntmps40
  go_wp2_with fail
  refine (are_impl P cap l w HR.out hn).mono ?_
  rintro e w1 ⟨rfl, HB0⟩
  cases hg : good l
  · have HV := Lib.hid (wetV_no1 hg)
    go_wp2
    go_ret2
    exact rpost (by rw [HV.out] <;> rfl) HB0
  have HG := Lib.hid hg; clear hg
  by_cases h0 : l.length = 0
  · have HV := Lib.hid (wetV_no2 h0)
    have hz : ((l.length : Int) == 0) = true := by rw [beq_iff_eq]; omega
    clear h0
    go_wp2
    go_ret2
    exact rpost (by rw [HV.out] <;> rfl) HB0
  have hz : ((l.length : Int) == 0) = false := by rw [beq_eq_false_iff_ne]; omega
  have hpos : 0 < l.length := by omega
  obtain ⟨z, hzz⟩ : ∃ z, l[0] = z := ⟨_, rfl⟩
  have HP := Lib.hid hpos
  have HZ := Lib.hid (wetR_at hpos hzz)
  obtain ⟨b, o, rfl, hb, hc⟩ := HR.out.at (k := 0) (by rw [flat_n]; omega)
  obtain ⟨c0, c1⟩ := cells2 (k := 0) HB0 hb hc hpos hzz
  rw [Nat.zero_mul, Nat.add_zero] at c0 c1
  have HC := Lib.hid hc
  have hq : (1 : Int) ≤ l.length := by omega
  have hq2 : (1 : Int) ≤ cap := by omega
  clear h0 hzz hc
  by_cases hcap1 : cap = 1
  · have HL1 := Lib.hid (show l.length = 1 by omega)
    subst hcap1
    have HV := Lib.hid (wetV_yes HG.out HP.out (HZ.out.symm.trans (wet_end (by have := HL1.out; omega))))
    go_wp2_with fail
    have B := Box.new HB0 [.int .i64 z.f0, .int .i64 z.f1] 54 (g := w1.heap.size) rfl
    generalize (w1.alloc (.cells #[.int .i64 z.f0, .int .i64 z.f1] 54)) = W1 at B ⊢
    have B_0 := B.cells 0 _ rfl
    have B_1 := B.cells 1 _ rfl
    have B_f0 := B.free 0 (by simp)
    have B_f1 := B.free 1 (by simp)
    have B_t := B.there
    go_wp2
    rw [HL1.out]
    go_loopw [21] (fun i wr => i = .int .i64 0 ∧ Box (w1.heap.size) [.int .i64 z.f0, .int .i64 z.f1] w wr) (fun i _ => 0)
    case atStart => exact ⟨rfl, B⟩
    case round =>
      clear B_0 B_1 B_f0 B_f1 B_t
      clear B
      obtain ⟨rfl, B⟩ := hrel
      have B_0 := B.cells 0 _ rfl
      have B_1 := B.cells 1 _ rfl
      have B_f0 := B.free 0 (by simp)
      have B_f1 := B.free 1 (by simp)
      have B_t := B.there
      go_wp2
      go_ret2
      exact rpost (by rw [HV.out] <;> rfl) B.below
  obtain ⟨n, hnl⟩ : ∃ n, l.length - 1 = n := ⟨_, rfl⟩
  have HNL := Lib.hid (show l.length = n + 1 by omega)
  have hnn : n ≤ 1048576 := by omega
  go_wp2_with fail
  have B := Box.new HB0 [.int .i64 z.f0, .int .i64 z.f1] 54 (g := w1.heap.size) rfl
  generalize (w1.alloc (.cells #[.int .i64 z.f0, .int .i64 z.f1] 54)) = W2 at B ⊢
  have B_0 := B.cells 0 _ rfl
  have B_1 := B.cells 1 _ rfl
  have B_f0 := B.free 0 (by simp)
  have B_f1 := B.free 1 (by simp)
  have B_t := B.there
  go_wp2
  clear hnl c0 c1
  go_loopw [21] (fun i wr => ∃ (k : Nat) (y : R), k ≤ n ∧ i = .int .i64 k ∧ Hid (wet (l.drop (k + 1)) y = wetR l) ∧ Box (w1.heap.size) [.int .i64 y.f0, .int .i64 y.f1] w wr) (fun i _ => n - (intOf i).toNat)
  case atStart => exact ⟨0, z, Nat.zero_le _, rfl, HZ, B⟩
  case round =>
    clear B_0 B_1 B_f0 B_f1 B_t
    clear B
    obtain ⟨k, y, hk, rfl, HW, B⟩ := hrel
    have B_0 := B.cells 0 _ rfl
    have B_1 := B.cells 1 _ rfl
    have B_f0 := B.free 0 (by simp)
    have B_f1 := B.free 1 (by simp)
    have B_t := B.there
    by_cases hlt : k < n
    · obtain ⟨x, hx⟩ : ∃ x, l[k + 1]'(by have := HNL.out; omega) = x := ⟨_, rfl⟩
      obtain ⟨e0, e1⟩ := cells2 (Below.refl _ _) hb HC.out (by have := HNL.out; omega) hx
      rw [show o + (k + 1) * 2 = o + 2 + k * 2 by omega] at e0 e1
      have HX := Lib.hid hx
      have HL := Lib.hid hlt
      clear hx
      have e0_c := ((bcell B.below).1 _ _ hb).trans e0
      have e1_c := ((bcell B.below).1 _ _ hb).trans e1
      go_upto_region 7 with fail
      have B_t3 := B.there
      have X := Box.new B.below [.int .i64 x.f0, .int .i64 x.f1] 54 (g := wr.heap.size) rfl
      clear B_0 B_1 B_f0 B_f1 B_t
      replace B := (B).alloc (.cells #[.int .i64 x.f0, .int .i64 x.f1] 54)
      generalize (wr.alloc (.cells #[.int .i64 x.f0, .int .i64 x.f1] 54)) = W3 at X B ⊢
      clear e0_c
      clear e1_c
      have B_0 := B.cells 0 _ rfl
      have B_1 := B.cells 1 _ rfl
      have B_f0 := B.free 0 (by simp)
      have B_f1 := B.free 1 (by simp)
      have B_t := B.there
      have X_0 := X.cells 0 _ rfl
      have X_1 := X.cells 1 _ rfl
      have X_f0 := X.free 0 (by simp)
      have X_f1 := X.free 1 (by simp)
      have X_t := X.there
      have e0_c := ((bcell B.below).1 _ _ hb).trans e0
      have e1_c := ((bcell B.below).1 _ _ hb).trans e1
      by_cases hm : y.f1 < x.f1
      · have hm' : decide (y.f1 < x.f1) = true := decide_eq_true hm
        have HN := Lib.hid ((wet_new (by have := HNL.out; have := HL.out; omega) HX.out hm).trans HW.out)
        clear hm
        go_wp2
        clear B_0 B_1 B_f0 B_f1 B_t
        clear X_0 X_1 X_f0 X_f1 X_t
        clear e0_c
        clear e1_c
        have B_t4 := B.there
        have X_t4 := X.there
        have B' : Box (w1.heap.size) [.int .i64 x.f0, .int .i64 x.f1] w _ := ((B.set 0 (.int .i64 x.f0)).set 1 (.int .i64 x.f1))
        have X' : Box (wr.heap.size) [.int .i64 x.f0, .int .i64 x.f1] w _ := ((X.far B.base (by omega) 0 (.int .i64 x.f0)).far B.base (by omega) 1 (.int .i64 x.f1))
        clear B; have B := B'; clear B'
        clear X; have X := X'; clear X'
        have sz4 : ((W3.setCell ⟨w1.heap.size, 0, none⟩ (.int .i64 x.f0)).setCell ⟨w1.heap.size, 1, none⟩ (.int .i64 x.f1)).heap.size = W3.heap.size := by simp only [size_set']
        generalize ((W3.setCell ⟨w1.heap.size, 0, none⟩ (.int .i64 x.f0)).setCell ⟨w1.heap.size, 1, none⟩ (.int .i64 x.f1)) = W4 at B X sz4 ⊢
        replace sz4 := Lib.hid sz4
        have B_0 := B.cells 0 _ rfl
        have B_1 := B.cells 1 _ rfl
        have B_f0 := B.free 0 (by simp)
        have B_f1 := B.free 1 (by simp)
        have B_t := B.there
        have X_0 := X.cells 0 _ rfl
        have X_1 := X.cells 1 _ rfl
        have X_f0 := X.free 0 (by simp)
        have X_f1 := X.free 1 (by simp)
        have X_t := X.there
        have e0_c := ((bcell B.below).1 _ _ hb).trans e0
        have e1_c := ((bcell B.below).1 _ _ hb).trans e1
        go_roundw
        case rel => exact ⟨k + 1, x, HL.out, by go_num, HN, B⟩
        case measure => have := HL.out; simp [intOf]; omega
      · have hm' : decide (y.f1 < x.f1) = false := decide_eq_false hm
        have HN := Lib.hid ((wet_old (by have := HNL.out; have := HL.out; omega) HX.out hm).trans HW.out)
        clear hm
        go_wp2
        go_roundw
        case rel => exact ⟨k + 1, y, HL.out, by go_num, HN, B⟩
        case measure => have := HL.out; simp [intOf]; omega
    · have HV := Lib.hid (wetV_yes HG.out HP.out (HW.out.symm.trans (wet_end (by have := HNL.out; omega))))
      go_wp2
      go_ret2
      exact rpost (by rw [HV.out] <;> rfl) B.below
end Go.Proofs.Ytpbmncecejchjaa.ShwW
