/- Trips: AddTrip, the program's; slices.BinarySearchFunc over trips. Made by tools/mk_tripa.py. -/
import Derived.Test.YtknlgdahcfgbeaaTripI
import Derived.Test.YtknlgdahcfgbeaaTripN
import Derived.Test.YtknlgdahcfgbeaaRegn3
namespace Go.Proofs.Ytknlgdahcfgbeaa.TripA
open Go.RowKit Go.Proofs.Ytknlgdahcfgbeaa.Mem Go.Proofs.Ytknlgdahcfgbeaa.Base Go.Proofs.Ytknlgdahcfgbeaa.Within Go.Proofs.Ytknlgdahcfgbeaa.STrip Go.Proofs.Ytknlgdahcfgbeaa.Regn Go.Proofs.Ytknlgdahcfgbeaa.Boxes Go.Proofs.Ytknlgdahcfgbeaa.Keep Go.Proofs.Ytknlgdahcfgbeaa.TripP Go.Proofs.Ytknlgdahcfgbeaa.TripS Go.Proofs.Ytknlgdahcfgbeaa.TripG Go.Proofs.Ytknlgdahcfgbeaa.TripC Go.Proofs.Ytknlgdahcfgbeaa.TripM Go.Proofs.Ytknlgdahcfgbeaa.TripN
set_option linter.unusedVariables false
set_option linter.unusedSimpArgs false
set_option maxRecDepth 100000
/-- how many come ahead of an id. -/
def low (l : List R) (d : Int) : Nat := (l.takeWhile fun x => decide (x.f0 < d)).length
theorem low_is {l : List R} {d : Int} {k : Nat} (hk : k ≤ l.length) (h1 : ∀ j (h : j < l.length), j < k → l[j].f0 < d) (h2 : ∀ h : k < l.length, ¬ l[k].f0 < d) : low l d = k := by
  unfold low
  have e : l.takeWhile (fun x => decide (x.f0 < d)) = l.take k := by
    have h3 : ∀ a ∈ l.take k, decide (a.f0 < d) = true := by
      intro a ha
      obtain ⟨j, hj, rfl⟩ := List.getElem_of_mem ha
      rw [List.length_take] at hj
      rw [List.getElem_take]
      exact decide_eq_true (h1 j (by omega) (by omega))
    have h4 : (l.drop k).takeWhile (fun x => decide (x.f0 < d)) = [] := by
      by_cases hlt : k < l.length
      · rw [List.drop_eq_getElem_cons hlt, List.takeWhile_cons, decide_eq_false (h2 hlt)]; rfl
      · rw [List.drop_eq_nil_of_le (by omega)]; rfl
    conv => lhs; rw [← List.take_append_drop k l]
    rw [List.takeWhile_append_of_pos h3, h4, List.append_nil]
  rw [e, List.length_take]; omega
theorem low_le (l : List R) (d : Int) : low l d ≤ l.length := by
  unfold low
  exact (List.takeWhile_sublist _).length_le
def raw (l : List R) (t : R) : List R := TripI.ins l (low l t.f0) t
theorem raw_len (l : List R) (t : R) : (raw l t).length = l.length + 1 := TripI.ins_len l _ t (low_le _ _)
theorem raw_mem (l : List R) (t : R) : t ∈ raw l t := by unfold raw TripI.ins; simp
def addOk (l : List R) (t : R) : Bool := good l && good (raw l t) && freeB l t
def addF (l : List R) (t : R) : List R := if addOk l t = true then raw l t else []
theorem addF_no {l : List R} {t : R} (h : addOk l t = false) : addF l t = [] := by unfold addF; rw [h]; rfl
theorem addF_yes {l : List R} {t : R} (h : addOk l t = true) : addF l t = raw l t := by unfold addF; rw [if_pos h]
theorem add1 {l : List R} {t : R} (h : good l = false) : addOk l t = false := by unfold addOk; rw [h]; rfl
theorem add2 {l : List R} {t : R} (h : good (raw l t) = false) : addOk l t = false := by unfold addOk; rw [h, Bool.and_false]; rfl
theorem add3 {l : List R} {t : R} (h : freeB l t = false) : addOk l t = false := by unfold addOk; rw [h, Bool.and_false]
theorem add4 {l : List R} {t : R} (h : good l = true) (h1 : good (raw l t) = true) (h2 : freeB l t = true) : addOk l t = true := by unfold addOk; rw [h, h1, h2]; rfl
theorem add5 {l : List R} {t : R} (h : okT t = false) : addOk l t = false := by
  refine add2 ?_
  cases h1 : good (raw l t)
  · rfl
  · have := good_mem h1 t (raw_mem l t)
    rw [h] at this; cases this
theorem add_len (l : List R) (t : R) : (addF l t).length ≤ 100 := by
  unfold addF
  split
  · rename_i h
    unfold addOk at h
    simp only [Bool.and_eq_true] at h
    have := (good_all h.1.1).1
    rw [raw_len]; omega
  · simp
def APost (l : List R) (t : R) (w : World) (e : Ending) (w' : World) : Prop :=
  ∃ (A : Option Addr) (c : Nat), e = .returned (.tuple #[.slice A (addF l t).length c, .bool (addOk l t)]) ∧ w'.ownsRow w.heap.size 25 5 (.slice A (addF l t).length c) (addF l t).length (flat (addF l t)) ∧ Below w.heap.size w w'
theorem a_bad {l : List R} {t : R} {w u : World} (h : addOk l t = false) (hb : Below w.heap.size w u) : APost l t w (.returned (.tuple #[.slice (some ⟨u.heap.size, 0, none⟩) 0 0, .bool false])) (u.alloc (.cells #[] 25)) := by
  have e := addF_no h
  refine ⟨some ⟨u.heap.size, 0, none⟩, 0, by rw [e, h]; rfl, ?_, al hb⟩
  rw [e]
  exact TripCl.empty_own hb
theorem a_good {l m : List R} {t : R} {w u : World} {A : Option Addr} {c B : Nat} (h : addOk l t = true) (hm : raw l t = m) (hb : Below w.heap.size w u) (hB : w.heap.size ≤ B) (O : u.ownsRow B 25 5 (.slice A m.length c) m.length (flat m)) :
    APost l t w (.returned (.tuple #[.slice A m.length c, .bool true])) u := by
  have e := addF_yes h
  refine ⟨A, c, by rw [e, h, hm], ?_, hb⟩
  rw [e, hm]
  exact own_base O hB
theorem good_mono {l : List R} (h : good l = true) {a b : Nat} (hab : a ≤ b) (hb : b < l.length) : l[a].f0 ≤ l[b].f0 := by
  rcases Nat.lt_or_ge a b with h1 | h1
  · have := good_lt h (b - a - 1) a (by omega)
    have e : a + (b - a - 1) + 1 = b := by omega
    simp only [e] at this
    omega
  · have : a = b := by omega
    subst this; exact Int.le_refl _
theorem cmp_lam (x t : R) (w : World) : Calls Try.prog 43 #[.agg #[.int .i64 x.f0, .int .i64 x.f1, .int .i64 x.f2, .int .i64 x.f3, .int .i64 x.f4], .agg #[.int .i64 t.f0, .int .i64 t.f1, .int .i64 t.f2, .int .i64 t.f3, .int .i64 t.f4]] w (RPost (.int .i64 (cmpI x.f0 t.f0)) w) := by
  go_enter Try.func43, Try.ntmps43
  go_wp2_with (go_at_call 44; (with_reducible refine (cmp_any _ _ _).mono ?_); rintro e' w' ⟨rfl, rfl⟩)
  go_ret
  exact rpost rfl (al (al (Below.refl _ _)))
theorem cmp_lt {a b : Int} : decide (cmpI a b < 0) = decide (a < b) := by
  unfold cmpI
  by_cases h : a < b
  · rw [if_pos h, decide_eq_true h]; rfl
  · rw [if_neg h, decide_eq_false h]; split <;> rfl
def BsPost (n : Nat) (w : World) (e : Ending) (w' : World) : Prop := ∃ q : Bool, e = .returned (.tuple #[.int .i64 (n : Int), .bool q]) ∧ Below w.heap.size w w'
theorem bs_mk {n m : Nat} {w w' : World} {v : Value} {q : Bool} (h : v = .tuple #[.int .i64 (m : Int), .bool q]) (hn : n = m) (hb : Below w.heap.size w w') : BsPost n w (.returned v) w' := by subst hn; exact ⟨q, by rw [h], hb⟩
set_option maxHeartbeats 1600000 in
theorem bs_any (P : Option Addr) (cap : Nat) (l : List R) (t : R) (hg : good l = true) (w : World) (hr : Rd w w.heap.size P (flat l)) :
    Calls Try.prog 42 #[.slice P l.length cap, .agg #[.int .i64 t.f0, .int .i64 t.f1, .int .i64 t.f2, .int .i64 t.f3, .int .i64 t.f4], .func (.func 43) #[] #[]] w (BsPost (low l t.f0) w) := by
  have HR := Lib.hid hr; clear hr
  have HG := Lib.hid hg
  have h10 := (good_all hg).1
  clear hg
  go_enter Try.func42, Try.ntmps42
  go_wp2_with fail
  have B := Box.new (Below.refl _ w) [.int .i64 t.f0, .int .i64 t.f1, .int .i64 t.f2, .int .i64 t.f3, .int .i64 t.f4] 25 (g := w.heap.size) rfl
  go_loopw [9, 10] (fun iv jv wr => ∃ i j : Nat, i ≤ j ∧ j ≤ l.length ∧ iv = .int .i64 i ∧ jv = .int .i64 j ∧ Hid (∀ m (h : m < l.length), m < i → l[m].f0 < t.f0) ∧ Hid (∀ m (h : m < l.length), j ≤ m → ¬ l[m].f0 < t.f0) ∧ Box w.heap.size [.int .i64 t.f0, .int .i64 t.f1, .int .i64 t.f2, .int .i64 t.f3, .int .i64 t.f4] w wr) (fun iv jv _ => (intOf jv).toNat - (intOf iv).toNat)
  case atStart => exact ⟨0, l.length, Nat.zero_le _, Nat.le_refl _, rfl, rfl, Lib.hid (fun m h hm => by omega), Lib.hid (fun m h hm => by omega), B⟩
  case round =>
    clear B
    obtain ⟨i, j, hij, hj, rfl, rfl, HI, HJ, B⟩ := hrel
    by_cases hlt : i < j
    · obtain ⟨h, hh⟩ : ∃ h, (i + j) / 2 = h := ⟨_, rfl⟩
      have hin : i ≤ h := by omega
      have hhj : h < j := by omega
      have hhl : h < l.length := by omega
      obtain ⟨b, o, rfl, hb, hc⟩ := HR.out.at (k := h * 5) (by rw [flat_n]; omega)
      obtain ⟨x, hx⟩ : ∃ x, l[h] = x := ⟨_, rfl⟩
      obtain ⟨h0, h1, h2, h3, h4⟩ := cells5 (Below.refl _ _) hb hc hhl hx
      have HX := Lib.hid hx
      have z1 : IntKind.i64.wrap ((i : Int) + j) = ((i + j : Nat) : Int) := by rw [IntWalk.i64_in _ (by omega)]; omega
      have z2 : IntKind.i64.wrap ((h : Int) + 1) = h + 1 := IntWalk.i64_in _ (by omega)
      have HH := Lib.hid hh
      clear hc hx hh
      go_upto_region 5 with fail
      rw [show ((i : Int) + j) / 2 = (h : Int) by have := HH.out; omega]
      have B_0 := B.cells 0 _ rfl
      have B_1 := B.cells 1 _ rfl
      have B_2 := B.cells 2 _ rfl
      have B_3 := B.cells 3 _ rfl
      have B_4 := B.cells 4 _ rfl
      have B_f0 := B.free 0 (by simp)
      have B_f1 := B.free 1 (by simp)
      have B_f2 := B.free 2 (by simp)
      have B_f3 := B.free 3 (by simp)
      have B_f4 := B.free 4 (by simp)
      have B_t := B.there
      have h0_c := ((bcell B.below).1 _ _ hb).trans h0
      have h1_c := ((bcell B.below).1 _ _ hb).trans h1
      have h2_c := ((bcell B.below).1 _ _ hb).trans h2
      have h3_c := ((bcell B.below).1 _ _ hb).trans h3
      have h4_c := ((bcell B.below).1 _ _ hb).trans h4
      have hcm := cmp_lt (a := x.f0) (b := t.f0)
      obtain ⟨z, hz⟩ : ∃ z, cmpI x.f0 t.f0 = z := ⟨_, rfl⟩
      have HZ := Lib.hid hz
      rw [hz] at hcm
      clear hz
      by_cases hq : x.f0 < t.f0
      · have e1 : decide (z < 0) = true := by rw [hcm, decide_eq_true hq]
        have HQ := Lib.hid hq
        clear hcm hq
        refine wp_region_text (fun w' => Box (w.heap.size) [.int .i64 t.f0, .int .i64 t.f1, .int .i64 t.f2, .int .i64 t.f3, .int .i64 t.f4] w w') (by kernel_rfl) (by kernel_rfl) (B.drew) ?_
        clear B_0 B_1 B_2 B_3 B_4 B_f0 B_f1 B_f2 B_f3 B_f4 B_t
        clear h0_c
        clear h1_c
        clear h2_c
        clear h3_c
        clear h4_c
        iterate 8 (
          apply SeqH.one
          · intro uw K hS hK
            have qB := hS
            have qB_0 := qB.cells 0 _ rfl
            have qB_1 := qB.cells 1 _ rfl
            have qB_2 := qB.cells 2 _ rfl
            have qB_3 := qB.cells 3 _ rfl
            have qB_4 := qB.cells 4 _ rfl
            have qh0_c := ((bcell qB.below).1 _ _ hb).trans h0
            have qh1_c := ((bcell qB.below).1 _ _ hb).trans h1
            have qh2_c := ((bcell qB.below).1 _ _ hb).trans h2
            have qh3_c := ((bcell qB.below).1 _ _ hb).trans h3
            have qh4_c := ((bcell qB.below).1 _ _ hb).trans h4
            first
              | (go_simp; exact hK.out _ qB)
              | (go_simp; go_at_call 43; (with_reducible refine (cmp_lam x t _).mono ?_); rintro e uw1 ⟨rfl, hv⟩; rw [HZ.out]; exact hK.out _ (qB.more hv))
          try simp only [Act.put, List.setIfInBounds_toArray, List.set_cons_zero, List.set_cons_succ])
        refine SeqH.end' rfl ?_
        intro v1 hS
        clear B
        have B := hS; clear hS
        have B_0 := B.cells 0 _ rfl
        have B_1 := B.cells 1 _ rfl
        have B_2 := B.cells 2 _ rfl
        have B_3 := B.cells 3 _ rfl
        have B_4 := B.cells 4 _ rfl
        have B_f0 := B.free 0 (by simp)
        have B_f1 := B.free 1 (by simp)
        have B_f2 := B.free 2 (by simp)
        have B_f3 := B.free 3 (by simp)
        have B_f4 := B.free 4 (by simp)
        have B_t := B.there
        have h0_c := ((bcell B.below).1 _ _ hb).trans h0
        have h1_c := ((bcell B.below).1 _ _ hb).trans h1
        have h2_c := ((bcell B.below).1 _ _ hb).trans h2
        have h3_c := ((bcell B.below).1 _ _ hb).trans h3
        have h4_c := ((bcell B.below).1 _ _ hb).trans h4
        go_wp2
        go_roundw
        case rel => exact ⟨h + 1, j, by omega, hj, by go_num, rfl, Lib.hid (fun m hm hm2 => by
            have h7 := good_mono HG.out (show m ≤ h by omega) hhl
            have h8 : l[h] = x := HX.out
            have h9 := HQ.out
            rw [h8] at h7; omega), HJ, B⟩
        case measure => simp [intOf]; omega
      · have e1 : decide (z < 0) = false := by rw [hcm, decide_eq_false hq]
        have HQ := Lib.hid hq
        clear hcm hq
        refine wp_region_text (fun w' => Box (w.heap.size) [.int .i64 t.f0, .int .i64 t.f1, .int .i64 t.f2, .int .i64 t.f3, .int .i64 t.f4] w w') (by kernel_rfl) (by kernel_rfl) (B.drew) ?_
        clear B_0 B_1 B_2 B_3 B_4 B_f0 B_f1 B_f2 B_f3 B_f4 B_t
        clear h0_c
        clear h1_c
        clear h2_c
        clear h3_c
        clear h4_c
        iterate 8 (
          apply SeqH.one
          · intro uw K hS hK
            have qB := hS
            have qB_0 := qB.cells 0 _ rfl
            have qB_1 := qB.cells 1 _ rfl
            have qB_2 := qB.cells 2 _ rfl
            have qB_3 := qB.cells 3 _ rfl
            have qB_4 := qB.cells 4 _ rfl
            have qh0_c := ((bcell qB.below).1 _ _ hb).trans h0
            have qh1_c := ((bcell qB.below).1 _ _ hb).trans h1
            have qh2_c := ((bcell qB.below).1 _ _ hb).trans h2
            have qh3_c := ((bcell qB.below).1 _ _ hb).trans h3
            have qh4_c := ((bcell qB.below).1 _ _ hb).trans h4
            first
              | (go_simp; exact hK.out _ qB)
              | (go_simp; go_at_call 43; (with_reducible refine (cmp_lam x t _).mono ?_); rintro e uw1 ⟨rfl, hv⟩; rw [HZ.out]; exact hK.out _ (qB.more hv))
          try simp only [Act.put, List.setIfInBounds_toArray, List.set_cons_zero, List.set_cons_succ])
        refine SeqH.end' rfl ?_
        intro v2 hS
        clear B
        have B := hS; clear hS
        have B_0 := B.cells 0 _ rfl
        have B_1 := B.cells 1 _ rfl
        have B_2 := B.cells 2 _ rfl
        have B_3 := B.cells 3 _ rfl
        have B_4 := B.cells 4 _ rfl
        have B_f0 := B.free 0 (by simp)
        have B_f1 := B.free 1 (by simp)
        have B_f2 := B.free 2 (by simp)
        have B_f3 := B.free 3 (by simp)
        have B_f4 := B.free 4 (by simp)
        have B_t := B.there
        have h0_c := ((bcell B.below).1 _ _ hb).trans h0
        have h1_c := ((bcell B.below).1 _ _ hb).trans h1
        have h2_c := ((bcell B.below).1 _ _ hb).trans h2
        have h3_c := ((bcell B.below).1 _ _ hb).trans h3
        have h4_c := ((bcell B.below).1 _ _ hb).trans h4
        go_wp2
        go_roundw
        case rel => exact ⟨i, h, hin, by omega, rfl, rfl, HI, Lib.hid (fun m hm hm2 => by
            have h7 := good_mono HG.out hm2 hm
            have h8 : l[h] = x := HX.out
            have h9 := HQ.out
            rw [h8] at h7; omega), B⟩
        case measure => simp [intOf]; omega
    · obtain rfl : i = j := by omega
      have HF := Lib.hid (low_is hj HI.out (fun h => HJ.out i h (Nat.le_refl _)))
      have B_0 := B.cells 0 _ rfl
      have B_1 := B.cells 1 _ rfl
      have B_2 := B.cells 2 _ rfl
      have B_3 := B.cells 3 _ rfl
      have B_4 := B.cells 4 _ rfl
      have B_f0 := B.free 0 (by simp)
      have B_f1 := B.free 1 (by simp)
      have B_f2 := B.free 2 (by simp)
      have B_f3 := B.free 3 (by simp)
      have B_f4 := B.free 4 (by simp)
      have B_t := B.there
      by_cases hlt2 : i < l.length
      · obtain ⟨b, o, rfl, hb, hc⟩ := HR.out.at (k := i * 5) (by rw [flat_n]; omega)
        obtain ⟨x, hx⟩ : ∃ x, l[i] = x := ⟨_, rfl⟩
        obtain ⟨h0, h1, h2, h3, h4⟩ := cells5 (Below.refl _ _) hb hc hlt2 hx
        clear hc hx
        go_wp2_with fail
        have h0_c := ((bcell B.below).1 _ _ hb).trans h0
        have h1_c := ((bcell B.below).1 _ _ hb).trans h1
        have h2_c := ((bcell B.below).1 _ _ hb).trans h2
        have h3_c := ((bcell B.below).1 _ _ hb).trans h3
        have h4_c := ((bcell B.below).1 _ _ hb).trans h4
        refine wp_region_text (fun w' => Box (w.heap.size) [.int .i64 t.f0, .int .i64 t.f1, .int .i64 t.f2, .int .i64 t.f3, .int .i64 t.f4] w w') (by kernel_rfl) (by kernel_rfl) (B.drew) ?_
        clear B_0 B_1 B_2 B_3 B_4 B_f0 B_f1 B_f2 B_f3 B_f4 B_t
        clear h0_c
        clear h1_c
        clear h2_c
        clear h3_c
        clear h4_c
        iterate 16 (
          apply SeqH.one
          · intro uw K hS hK
            have qB := hS
            have qB_0 := qB.cells 0 _ rfl
            have qB_1 := qB.cells 1 _ rfl
            have qB_2 := qB.cells 2 _ rfl
            have qB_3 := qB.cells 3 _ rfl
            have qB_4 := qB.cells 4 _ rfl
            have qh0_c := ((bcell qB.below).1 _ _ hb).trans h0
            have qh1_c := ((bcell qB.below).1 _ _ hb).trans h1
            have qh2_c := ((bcell qB.below).1 _ _ hb).trans h2
            have qh3_c := ((bcell qB.below).1 _ _ hb).trans h3
            have qh4_c := ((bcell qB.below).1 _ _ hb).trans h4
            first
              | (go_simp; exact hK.out _ qB)
              | (go_simp; go_at_call 43; (with_reducible refine (cmp_lam x t _).mono ?_); rintro e uw1 ⟨rfl, hv⟩; exact hK.out _ (qB.more hv))
          try simp only [Act.put, List.setIfInBounds_toArray, List.set_cons_zero, List.set_cons_succ])
        refine SeqH.end' rfl ?_
        intro v3 hS
        clear B
        have B := hS; clear hS
        have B_0 := B.cells 0 _ rfl
        have B_1 := B.cells 1 _ rfl
        have B_2 := B.cells 2 _ rfl
        have B_3 := B.cells 3 _ rfl
        have B_4 := B.cells 4 _ rfl
        have B_f0 := B.free 0 (by simp)
        have B_f1 := B.free 1 (by simp)
        have B_f2 := B.free 2 (by simp)
        have B_f3 := B.free 3 (by simp)
        have B_f4 := B.free 4 (by simp)
        have B_t := B.there
        have h0_c := ((bcell B.below).1 _ _ hb).trans h0
        have h1_c := ((bcell B.below).1 _ _ hb).trans h1
        have h2_c := ((bcell B.below).1 _ _ hb).trans h2
        have h3_c := ((bcell B.below).1 _ _ hb).trans h3
        have h4_c := ((bcell B.below).1 _ _ hb).trans h4
        go_wp2
        go_ret2
        exact bs_mk rfl HF.out B.below
      · go_wp2_with fail
        refine wp_region_text (fun w' => Box (w.heap.size) [.int .i64 t.f0, .int .i64 t.f1, .int .i64 t.f2, .int .i64 t.f3, .int .i64 t.f4] w w') (by kernel_rfl) (by kernel_rfl) (B.drew) ?_
        clear B_0 B_1 B_2 B_3 B_4 B_f0 B_f1 B_f2 B_f3 B_f4 B_t
        iterate 16 (
          apply SeqH.one
          · intro uw K hS hK
            have qB := hS
            have qB_0 := qB.cells 0 _ rfl
            have qB_1 := qB.cells 1 _ rfl
            have qB_2 := qB.cells 2 _ rfl
            have qB_3 := qB.cells 3 _ rfl
            have qB_4 := qB.cells 4 _ rfl
            first
              | (go_simp; exact hK.out _ qB)
          try simp only [Act.put, List.setIfInBounds_toArray, List.set_cons_zero, List.set_cons_succ])
        refine SeqH.end' rfl ?_
        intro v4 hS
        clear B
        have B := hS; clear hS
        have B_0 := B.cells 0 _ rfl
        have B_1 := B.cells 1 _ rfl
        have B_2 := B.cells 2 _ rfl
        have B_3 := B.cells 3 _ rfl
        have B_4 := B.cells 4 _ rfl
        have B_f0 := B.free 0 (by simp)
        have B_f1 := B.free 1 (by simp)
        have B_f2 := B.free 2 (by simp)
        have B_f3 := B.free 3 (by simp)
        have B_f4 := B.free 4 (by simp)
        have B_t := B.there
        go_wp2
        go_ret2
        exact bs_mk rfl HF.out B.below
end Go.Proofs.Ytknlgdahcfgbeaa.TripA
