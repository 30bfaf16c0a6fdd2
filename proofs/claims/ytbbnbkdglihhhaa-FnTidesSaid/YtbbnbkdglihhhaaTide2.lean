/- IsTide: the model's and the program's. -/
import Derived.Test.YtbbnbkdglihhhaaTide
import Derived.Test.YtbbnbkdglihhhaaRegn2
import Derived.Test.YtbbnbkdglihhhaaBox
import Derived.Test.YtbbnbkdglihhhaaWithin
namespace Go.Proofs.Ytbbnbkdglihhhaa.Tide2
open Go.RowKit Go.Proofs.Ytbbnbkdglihhhaa.Mem Go.Proofs.Ytbbnbkdglihhhaa.Base Go.Proofs.Ytbbnbkdglihhhaa.Within Go.Proofs.Ytbbnbkdglihhhaa.SMark Go.Proofs.Ytbbnbkdglihhhaa.Regn Go.Proofs.Ytbbnbkdglihhhaa.Boxes Go.Proofs.Ytbbnbkdglihhhaa.Tide
set_option linter.unusedVariables false
set_option maxRecDepth 100000
theorem height_spec (x : Int) (w : World) : Calls Try.prog 97 #[.int .i64 x] w (BPost (inB x (-500) 500) w) := by
  go_enter Try.func97, Try.ntmps97
  go_wp2_with fail
  refine (in_any _ _ _ _).mono ?_
  rintro e _ ⟨rfl, rfl⟩
  go_wp2
  go_ret
  exact bpost rfl
theorem minute_spec (x : Int) (w : World) : Calls Try.prog 93 #[.int .i64 x] w (BPost (inB x 0 1440) w) := by
  go_enter Try.func93, Try.ntmps93
  go_wp2_with fail
  refine (in_any _ _ _ _).mono ?_
  rintro e _ ⟨rfl, rfl⟩
  go_wp2
  go_ret
  exact bpost rfl
theorem height_impl (x : Int) (w : World) : Calls Try.prog 82 #[.int .i64 x] w (BPost (inB x (-500) 500) w) := by
  go_enter Try.func82, Try.ntmps82
  go_wp2_with fail
  refine (within_any _ _ _ _).mono ?_
  rintro e _ ⟨rfl, rfl⟩
  go_wp2
  go_ret
  exact bpost rfl
/-- the cells of mark k. -/
theorem rd2 {w : World} {B : Nat} {P : Option Addr} {l : List R} (h : Rd w B P (flat l)) {k : Nat} (hk : k < l.length) : ∃ b o, P = some ⟨b, o, none⟩ ∧ b < B ∧ ∀ j, j < l.length → w.cell? ⟨b, o + j * 2, none⟩ = some (.int .i64 (at_ l j).f0) ∧ w.cell? ⟨b, o + j * 2 + 1, none⟩ = some (.int .i64 (at_ l j).f1) := by
  obtain ⟨b, o, hA, hb, hc⟩ := h.at (k := k * 2) (by rw [flat_n]; omega)
  exact ⟨b, o, hA, hb, fun j hj => by rw [at_get hj]; exact ⟨hc _ _ (flat_0 l j hj), hc _ _ (flat_1 l j hj)⟩⟩
theorem mark_bad {l : List R} {k : Nat} (h : inB (at_ l k).f1 (-500) 500 = false) : markOk l k = false := by unfold markOk; rw [h]; rfl
theorem mark_zero {l : List R} {k : Nat} (hz : k = 0) (h : inB (at_ l k).f1 (-500) 500 = true) : markOk l k = true := by subst hz; unfold markOk; rw [h]; rfl
theorem mark_next {l : List R} {j : Nat} {b : Bool} (h : inB (at_ l (j + 1)).f1 (-500) 500 = true) (hb : decide ((at_ l j).f0 < (at_ l (j + 1)).f0) = b) : markOk l (j + 1) = b := by
  unfold markOk; rw [h, Nat.add_sub_cancel, hb]; cases b <;> rfl
theorem ends_len {l : List R} (h : inB (l.length : Int) 2 12 = false) : ends l = false := by unfold ends; rw [h]; rfl
theorem ends_is {l : List R} (h : inB (l.length : Int) 2 12 = true) : ends l = (decide ((at_ l 0).f0 = 0) && decide ((at_ l (l.length - 1)).f0 = 1440)) := by unfold ends; rw [h]; rfl
set_option maxHeartbeats 1600000 in
theorem good_spec (P : Option Addr) (cap : Nat) (l : List R) (w : World) (hr : Rd w w.heap.size P (flat l)) (hn : l.length ≤ 1048576) :
    Calls Try.prog 89 #[.slice P l.length cap] w (RPost (.bool (good l)) w) := by
  have HR := Lib.hid hr; clear hr
  go_enter Try.func89, Try.ntmps89
  go_wp2
  go_loopw [3] (fun i wr => ∃ k : Nat, k ≤ l.length ∧ i = .int .i64 k ∧ Hid (Ok l k) ∧ Below w.heap.size w wr) (fun i _ => l.length - (intOf i).toNat)
  case atStart => exact ⟨0, Nat.zero_le _, rfl, Lib.hid (fun j hj => by omega), Below.refl _ _⟩
  case round =>
    obtain ⟨k, hk, rfl, HOK, HB0⟩ := hrel
    by_cases hlt : k < l.length
    · obtain ⟨b, o, rfl, hb, hc⟩ := rd2 HR.out hlt
      obtain ⟨x, hx⟩ : ∃ x, at_ l k = x := ⟨_, rfl⟩
      obtain ⟨h0, h1⟩ := hc k hlt
      rw [hx] at h0 h1
      have HX := Lib.hid hx; clear hx
      have HC := Lib.hid hc; clear hc
      have HL := Lib.hid hlt
      have h0_c := ((bcell HB0).1 _ _ hb).trans h0
      have h1_c := ((bcell HB0).1 _ _ hb).trans h1
      cases e1 : inB x.f0 0 1440
      · have HV := Lib.hid (minute_no HL.out (by rw [HX.out]; exact e1))
        go_wp2_with fail
        refine wp_region_text (fun w' => Below w.heap.size w w') (by kernel_rfl) (by kernel_rfl) (be HB0 (Below.refl _ _).drew) ?_
        clear h0_c
        clear h1_c
        iterate 34 (
          apply SeqH.one
          · intro uw K hS hK
            have qHB0 := hS
            have qh0_c := ((bcell qHB0).1 _ _ hb).trans h0
            have qh1_c := ((bcell qHB0).1 _ _ hb).trans h1
            first
              | (go_simp; exact hK.out _ qHB0)
              | (go_simp; go_at_call 93; (with_reducible refine (minute_spec _ _).mono ?_); rintro e _ ⟨rfl, rfl⟩; rw [e1]; go_wp2_with fail; exact hK.out _ qHB0)
          try simp only [Act.put, List.setIfInBounds_toArray, List.set_cons_zero, List.set_cons_succ])
        refine SeqH.end' rfl ?_
        intro v1 hS
        clear HB0
        have HB0 := hS; clear hS
        have h0_c := ((bcell HB0).1 _ _ hb).trans h0
        have h1_c := ((bcell HB0).1 _ _ hb).trans h1
        go_wp2
        go_ret
        exact rpost (by rw [HV.out] <;> rfl) HB0
      cases e2 : inB x.f1 (-500) 500
      · have HV := Lib.hid (good_no HL.out (mark_bad (by rw [HX.out]; exact e2)))
        go_wp2_with fail
        refine wp_region_text (fun w' => Below w.heap.size w w') (by kernel_rfl) (by kernel_rfl) (be HB0 (Below.refl _ _).drew) ?_
        clear h0_c
        clear h1_c
        iterate 34 (
          apply SeqH.one
          · intro uw K hS hK
            have qHB0 := hS
            have qh0_c := ((bcell qHB0).1 _ _ hb).trans h0
            have qh1_c := ((bcell qHB0).1 _ _ hb).trans h1
            first
              | (go_simp; exact hK.out _ qHB0)
              | (go_simp; go_at_call 93; (with_reducible refine (minute_spec _ _).mono ?_); rintro e _ ⟨rfl, rfl⟩; rw [e1]; go_wp2_with fail; exact hK.out _ qHB0)
              | (go_simp; go_at_call 97; (with_reducible refine (height_spec _ _).mono ?_); rintro e _ ⟨rfl, rfl⟩; rw [e2]; go_wp2_with fail; exact hK.out _ qHB0)
          try simp only [Act.put, List.setIfInBounds_toArray, List.set_cons_zero, List.set_cons_succ])
        refine SeqH.end' rfl ?_
        intro v2 hS
        clear HB0
        have HB0 := hS; clear hS
        have h0_c := ((bcell HB0).1 _ _ hb).trans h0
        have h1_c := ((bcell HB0).1 _ _ hb).trans h1
        go_wp2
        go_ret
        exact rpost (by rw [HV.out] <;> rfl) HB0
      rcases Nat.eq_zero_or_pos k with hz | hz
      · have hz1 : decide ((0 : Int) < k) = false := decide_eq_false (by omega)
        have hz2 : decide (0 < k) = false := decide_eq_false (by omega)
        have HN := Lib.hid (HOK.out.next (mark_zero hz (by rw [HX.out]; exact e2)))
        have HZ := Lib.hid hz; clear hz
        go_wp2_with fail
        refine wp_region_text (fun w' => Below w.heap.size w w') (by kernel_rfl) (by kernel_rfl) (be HB0 (Below.refl _ _).drew) ?_
        clear h0_c
        clear h1_c
        iterate 34 (
          apply SeqH.one
          · intro uw K hS hK
            have qHB0 := hS
            have qh0_c := ((bcell qHB0).1 _ _ hb).trans h0
            have qh1_c := ((bcell qHB0).1 _ _ hb).trans h1
            first
              | (go_simp; exact hK.out _ qHB0)
              | (go_simp; go_at_call 93; (with_reducible refine (minute_spec _ _).mono ?_); rintro e _ ⟨rfl, rfl⟩; rw [e1]; go_wp2_with fail; exact hK.out _ qHB0)
              | (go_simp; go_at_call 97; (with_reducible refine (height_spec _ _).mono ?_); rintro e _ ⟨rfl, rfl⟩; rw [e2]; go_wp2_with fail; exact hK.out _ qHB0)
          try simp only [Act.put, List.setIfInBounds_toArray, List.set_cons_zero, List.set_cons_succ])
        refine SeqH.end' rfl ?_
        intro v3 hS
        clear HB0
        have HB0 := hS; clear hS
        have h0_c := ((bcell HB0).1 _ _ hb).trans h0
        have h1_c := ((bcell HB0).1 _ _ hb).trans h1
        go_wp2
        go_roundw
        case rel => exact ⟨k + 1, HL.out, by go_num, HN, HB0⟩
        case measure => have := HL.out; simp [intOf]; omega
      · obtain ⟨j, rfl⟩ : ∃ j, k = j + 1 := ⟨k - 1, by omega⟩
        obtain ⟨p, hp⟩ : ∃ p, (at_ l j).f0 = p := ⟨_, rfl⟩
        have hq := (HC.out j (by omega)).1
        rw [hp] at hq
        have HP := Lib.hid hp; clear hp hz
        have q1 : (0 : Int) < (j : Int) + 1 := by omega
        have q2 : IntKind.i64.wrap (j : Int) = j := IntWalk.i64_in _ (by omega)
        have q3 : j < l.length := by omega
        have hq_c := ((bcell HB0).1 _ _ hb).trans hq
        by_cases hlow : p < x.f0
        · have hle : decide (x.f0 ≤ p) = false := decide_eq_false (by omega)
          have HN := Lib.hid (HOK.out.next (mark_next (by rw [HX.out]; exact e2) (by rw [HX.out, HP.out]; exact decide_eq_true hlow)))
          clear hlow
          go_wp2_with fail
          refine wp_region_text (fun w' => Below w.heap.size w w') (by kernel_rfl) (by kernel_rfl) (be HB0 (Below.refl _ _).drew) ?_
          clear h0_c
          clear h1_c
          clear hq_c
          iterate 34 (
            apply SeqH.one
            · intro uw K hS hK
              have qHB0 := hS
              have qh0_c := ((bcell qHB0).1 _ _ hb).trans h0
              have qh1_c := ((bcell qHB0).1 _ _ hb).trans h1
              have qhq_c := ((bcell qHB0).1 _ _ hb).trans hq
              first
                | (go_simp; exact hK.out _ qHB0)
                | (go_simp; go_at_call 93; (with_reducible refine (minute_spec _ _).mono ?_); rintro e _ ⟨rfl, rfl⟩; rw [e1]; go_wp2_with fail; exact hK.out _ qHB0)
                | (go_simp; go_at_call 97; (with_reducible refine (height_spec _ _).mono ?_); rintro e _ ⟨rfl, rfl⟩; rw [e2]; go_wp2_with fail; exact hK.out _ qHB0)
            try simp only [Act.put, List.setIfInBounds_toArray, List.set_cons_zero, List.set_cons_succ])
          refine SeqH.end' rfl ?_
          intro v4 hS
          clear HB0
          have HB0 := hS; clear hS
          have h0_c := ((bcell HB0).1 _ _ hb).trans h0
          have h1_c := ((bcell HB0).1 _ _ hb).trans h1
          have hq_c := ((bcell HB0).1 _ _ hb).trans hq
          go_wp2
          go_roundw
          case rel => exact ⟨j + 1 + 1, HL.out, by go_num, HN, HB0⟩
          case measure => have := HL.out; simp [intOf]; omega
        · have hle : decide (x.f0 ≤ p) = true := decide_eq_true (by omega)
          have HV := Lib.hid (good_no HL.out (mark_next (by rw [HX.out]; exact e2) (by rw [HX.out, HP.out]; exact decide_eq_false hlow)))
          clear hlow
          go_wp2_with fail
          refine wp_region_text (fun w' => Below w.heap.size w w') (by kernel_rfl) (by kernel_rfl) (be HB0 (Below.refl _ _).drew) ?_
          clear h0_c
          clear h1_c
          clear hq_c
          iterate 34 (
            apply SeqH.one
            · intro uw K hS hK
              have qHB0 := hS
              have qh0_c := ((bcell qHB0).1 _ _ hb).trans h0
              have qh1_c := ((bcell qHB0).1 _ _ hb).trans h1
              have qhq_c := ((bcell qHB0).1 _ _ hb).trans hq
              first
                | (go_simp; exact hK.out _ qHB0)
                | (go_simp; go_at_call 93; (with_reducible refine (minute_spec _ _).mono ?_); rintro e _ ⟨rfl, rfl⟩; rw [e1]; go_wp2_with fail; exact hK.out _ qHB0)
                | (go_simp; go_at_call 97; (with_reducible refine (height_spec _ _).mono ?_); rintro e _ ⟨rfl, rfl⟩; rw [e2]; go_wp2_with fail; exact hK.out _ qHB0)
            try simp only [Act.put, List.setIfInBounds_toArray, List.set_cons_zero, List.set_cons_succ])
          refine SeqH.end' rfl ?_
          intro v5 hS
          clear HB0
          have HB0 := hS; clear hS
          have h0_c := ((bcell HB0).1 _ _ hb).trans h0
          have h1_c := ((bcell HB0).1 _ _ hb).trans h1
          have hq_c := ((bcell HB0).1 _ _ hb).trans hq
          go_wp2
          go_ret
          exact rpost (by rw [HV.out] <;> rfl) HB0
    · obtain rfl : k = l.length := by omega
      have HG := Lib.hid (good_end HOK.out); clear HOK hk
      cases e1 : inB (l.length : Int) 2 12
      · have HE := Lib.hid (HG.out.trans (ends_len e1))
        go_wp2_with fail
        refine (in_any _ _ _ _).mono ?_
        rintro e _ ⟨rfl, rfl⟩
        rw [e1]
        go_wp2
        go_ret
        exact rpost (by rw [HE.out] <;> rfl) HB0
      · have hl2 := of_inB e1
        have HE := Lib.hid (HG.out.trans (ends_is e1)); clear HG
        obtain ⟨b, o, rfl, hb, hc⟩ := rd2 HR.out (k := 0) (by omega)
        have h0 := (hc 0 (by omega)).1
        have h9 := (hc (l.length - 1) (by omega)).1
        clear hc
        obtain ⟨p, hp⟩ : ∃ p, (at_ l 0).f0 = p := ⟨_, rfl⟩
        obtain ⟨q, hq⟩ : ∃ q, (at_ l (l.length - 1)).f0 = q := ⟨_, rfl⟩
        rw [hp, hq] at HE
        rw [hp] at h0; rw [hq] at h9
        clear hp hq
        rw [Nat.zero_mul, Nat.add_zero] at h0
        have g0 := ((bcell HB0).1 _ _ hb).trans h0
        have g9 := ((bcell HB0).1 _ _ hb).trans h9
        clear h0 h9 hb HR
        generalize l.length = n at *
        obtain ⟨m, rfl⟩ : ∃ m, n = m + 1 := ⟨n - 1, by omega⟩
        rw [Nat.add_sub_cancel] at g9
        have q2 : IntKind.i64.wrap (m : Int) = m := IntWalk.i64_in _ (by omega)
        have e1' : inB ((m : Int) + 1) 2 12 = true := by push_cast at e1; exact e1
        go_wp2_with fail
        refine (in_any _ _ _ _).mono ?_
        rintro e _ ⟨rfl, rfl⟩
        rw [e1']
        by_cases c0 : p = 0
        · have c0' : (p == 0) = true := by simp [c0]
          rw [decide_eq_true c0, Bool.true_and] at HE
          clear c0
          by_cases c9 : q = 1440
          · have c9' : (q == 1440) = true := by simp [c9]
            rw [decide_eq_true c9] at HE
            clear c9
            go_wp2
            go_ret
            exact rpost (by rw [HE.out] <;> rfl) HB0
          · have c9' : (q == 1440) = false := by simp [c9]
            rw [decide_eq_false c9] at HE
            clear c9
            go_wp2
            go_ret
            exact rpost (by rw [HE.out] <;> rfl) HB0
        · have c0' : (p == 0) = false := by simp [c0]
          rw [decide_eq_false c0, Bool.false_and] at HE
          clear c0
          go_wp2
          go_ret
          exact rpost (by rw [HE.out] <;> rfl) HB0
set_option maxHeartbeats 1600000 in
theorem tide_impl (P : Option Addr) (cap : Nat) (l : List R) (w : World) (hr : Rd w w.heap.size P (flat l)) (hn : l.length ≤ 1048576) :
    Calls Try.prog 33 #[.slice P l.length cap] w (RPost (.bool (good l)) w) := by
  have HR := Lib.hid hr; clear hr
  go_enter Try.func33, Try.ntmps33
  cases e1 : inB (l.length : Int) 2 12
  · have HE := Lib.hid (good_ends (ends_len e1))
    go_wp2_with fail
    refine (within_any _ _ _ _).mono ?_
    rintro e _ ⟨rfl, rfl⟩
    rw [e1]
    go_wp2
    go_ret
    exact rpost (by rw [HE.out] <;> rfl) (Below.refl _ _)
  have hl2 := of_inB e1
  have HE := Lib.hid (ends_is e1)
  obtain ⟨b, o, rfl, hb, hc⟩ := rd2 HR.out (k := 0) (by omega)
  have h0 := (hc 0 (by omega)).1
  have h9 := (hc (l.length - 1) (by omega)).1
  have HC := Lib.hid hc; clear hc
  obtain ⟨p, hp⟩ : ∃ p, (at_ l 0).f0 = p := ⟨_, rfl⟩
  obtain ⟨q, hq⟩ : ∃ q, (at_ l (l.length - 1)).f0 = q := ⟨_, rfl⟩
  rw [hp, hq] at HE
  rw [hp] at h0; rw [hq] at h9
  clear hp hq
  rw [Nat.zero_mul, Nat.add_zero] at h0
  obtain ⟨n, hln⟩ : ∃ n, l.length = n := ⟨_, rfl⟩
  have HL := Lib.hid hln
  rw [hln] at h9 e1 hl2 hn ⊢
  obtain ⟨m, rfl⟩ : ∃ m, n = m + 1 := ⟨n - 1, by omega⟩
  rw [Nat.add_sub_cancel] at h9
  clear hln
  have q2 : IntKind.i64.wrap (m : Int) = m := IntWalk.i64_in _ (by omega)
  have e1' : inB ((m : Int) + 1) 2 12 = true := by push_cast at e1; exact e1
  go_wp2_with fail
  refine (within_any _ _ _ _).mono ?_
  rintro e _ ⟨rfl, rfl⟩
  rw [e1']
  by_cases c0 : p = 0
  rotate_left
  · have c0' : (p != 0) = true := by simp [c0]
    rw [decide_eq_false c0, Bool.false_and] at HE
    have HV := Lib.hid (good_ends HE.out)
    clear c0
    go_wp2
    go_ret
    exact rpost (by rw [HV.out] <;> rfl) (Below.refl _ _)
  have c0' : (p != 0) = false := by simp [c0]
  rw [decide_eq_true c0, Bool.true_and] at HE
  by_cases c9 : q = 1440
  rotate_left
  · have c9' : (q != 1440) = true := by simp [c9]
    rw [decide_eq_false c9] at HE
    have HV := Lib.hid (good_ends HE.out)
    clear c0 c9
    go_wp2
    go_ret
    exact rpost (by rw [HV.out] <;> rfl) (Below.refl _ _)
  have c9' : (q != 1440) = false := by simp [c9]
  rw [decide_eq_true c9] at HE
  clear c0 c9
  go_wp2
  clear c0' c9' h0 h9 q2 e1 e1'
  go_loopw [28] (fun i wr => ∃ k : Nat, k ≤ m + 1 ∧ i = .int .i64 k ∧ Hid (Ok l k) ∧ Below w.heap.size w wr) (fun i _ => m + 1 - (intOf i).toNat)
  case atStart => exact ⟨0, Nat.zero_le _, rfl, Lib.hid (fun j hj => by omega), Below.refl _ _⟩
  case round =>
    obtain ⟨k, hk, rfl, HOK, HB0⟩ := hrel
    by_cases hlt : k < m + 1
    · obtain ⟨x, hx⟩ : ∃ x, at_ l k = x := ⟨_, rfl⟩
      obtain ⟨h0, h1⟩ := HC.out k (by rw [HL.out]; exact hlt)
      rw [hx] at h0 h1
      have HX := Lib.hid hx; clear hx
      have HLT := Lib.hid (show k < l.length by rw [HL.out]; exact hlt)
      have h0_c := ((bcell HB0).1 _ _ hb).trans h0
      have h1_c := ((bcell HB0).1 _ _ hb).trans h1
      go_wp2_with fail
      have B := Box.new HB0 [.int .i64 x.f0, .int .i64 x.f1] 95 (g := wr.heap.size) rfl
      generalize (wr.alloc (.cells #[.int .i64 x.f0, .int .i64 x.f1] 95)) = W3 at B ⊢
      clear h0_c
      clear h1_c
      have B_0 := B.cells 0 _ rfl
      have B_1 := B.cells 1 _ rfl
      have B_f0 := B.free 0 (by simp)
      have B_f1 := B.free 1 (by simp)
      have B_t := B.there
      have h0_c := ((bcell B.below).1 _ _ hb).trans h0
      have h1_c := ((bcell B.below).1 _ _ hb).trans h1
      cases e2 : inB x.f1 (-500) 500
      · have HV := Lib.hid (good_no HLT.out (mark_bad (by rw [HX.out]; exact e2)))
        refine wp_region_text (fun w' => Box (wr.heap.size) [.int .i64 x.f0, .int .i64 x.f1] w w') (by kernel_rfl) (by kernel_rfl) (B.drew) ?_
        clear B_0 B_1 B_f0 B_f1 B_t
        clear h0_c
        clear h1_c
        iterate 19 (
          apply SeqH.one
          · intro uw K hS hK
            have qB := hS
            have qB_0 := qB.cells 0 _ rfl
            have qB_1 := qB.cells 1 _ rfl
            have qh0_c := ((bcell qB.below).1 _ _ hb).trans h0
            have qh1_c := ((bcell qB.below).1 _ _ hb).trans h1
            first
              | (go_simp; exact hK.out _ qB)
              | (go_simp; go_at_call 82; (with_reducible refine (height_impl _ _).mono ?_); rintro e _ ⟨rfl, rfl⟩; rw [e2]; go_wp2_with fail; exact hK.out _ qB)
          try simp only [Act.put, List.setIfInBounds_toArray, List.set_cons_zero, List.set_cons_succ])
        refine SeqH.end' rfl ?_
        intro v4 hS
        clear B
        have B := hS; clear hS
        have B_0 := B.cells 0 _ rfl
        have B_1 := B.cells 1 _ rfl
        have B_f0 := B.free 0 (by simp)
        have B_f1 := B.free 1 (by simp)
        have B_t := B.there
        have h0_c := ((bcell B.below).1 _ _ hb).trans h0
        have h1_c := ((bcell B.below).1 _ _ hb).trans h1
        go_wp2
        go_ret
        exact rpost (by rw [HV.out] <;> rfl) B.below
      rcases Nat.eq_zero_or_pos k with hz | hz
      · have hz1 : decide ((0 : Int) < k) = false := decide_eq_false (by omega)
        have hz2 : decide (0 < k) = false := decide_eq_false (by omega)
        have HN := Lib.hid (HOK.out.next (mark_zero hz (by rw [HX.out]; exact e2)))
        have HZ := Lib.hid hz; clear hz
        refine wp_region_text (fun w' => Box (wr.heap.size) [.int .i64 x.f0, .int .i64 x.f1] w w') (by kernel_rfl) (by kernel_rfl) (B.drew) ?_
        clear B_0 B_1 B_f0 B_f1 B_t
        clear h0_c
        clear h1_c
        iterate 19 (
          apply SeqH.one
          · intro uw K hS hK
            have qB := hS
            have qB_0 := qB.cells 0 _ rfl
            have qB_1 := qB.cells 1 _ rfl
            have qh0_c := ((bcell qB.below).1 _ _ hb).trans h0
            have qh1_c := ((bcell qB.below).1 _ _ hb).trans h1
            first
              | (go_simp; exact hK.out _ qB)
              | (go_simp; go_at_call 82; (with_reducible refine (height_impl _ _).mono ?_); rintro e _ ⟨rfl, rfl⟩; rw [e2]; go_wp2_with fail; exact hK.out _ qB)
          try simp only [Act.put, List.setIfInBounds_toArray, List.set_cons_zero, List.set_cons_succ])
        refine SeqH.end' rfl ?_
        intro v5 hS
        clear B
        have B := hS; clear hS
        have B_0 := B.cells 0 _ rfl
        have B_1 := B.cells 1 _ rfl
        have B_f0 := B.free 0 (by simp)
        have B_f1 := B.free 1 (by simp)
        have B_t := B.there
        have h0_c := ((bcell B.below).1 _ _ hb).trans h0
        have h1_c := ((bcell B.below).1 _ _ hb).trans h1
        go_wp2
        go_roundw
        case rel => exact ⟨k + 1, hlt, by go_num, HN, B.below⟩
        case measure => simp [intOf]; omega
      · obtain ⟨j, rfl⟩ : ∃ j, k = j + 1 := ⟨k - 1, by omega⟩
        obtain ⟨p, hp⟩ : ∃ p, (at_ l j).f0 = p := ⟨_, rfl⟩
        have hq := (HC.out j (by rw [HL.out]; omega)).1
        rw [hp] at hq
        have HP := Lib.hid hp; clear hp hz
        have q1 : (0 : Int) < (j : Int) + 1 := by omega
        have q2 : IntKind.i64.wrap (j : Int) = j := IntWalk.i64_in _ (by omega)
        have q3 : j ≤ m := by omega
        have q4 : (j : Int) ≤ m := by omega
        have q5 : (j : Int) < (m : Int) + 1 := by omega
        have q6 : j < m + 1 := by omega
        have hq_c := ((bcell B.below).1 _ _ hb).trans hq
        by_cases hlow : p < x.f0
        · have hle : decide (x.f0 ≤ p) = false := decide_eq_false (by omega)
          have HN := Lib.hid (HOK.out.next (mark_next (by rw [HX.out]; exact e2) (by rw [HX.out, HP.out]; exact decide_eq_true hlow)))
          clear hlow
          refine wp_region_text (fun w' => Box (wr.heap.size) [.int .i64 x.f0, .int .i64 x.f1] w w') (by kernel_rfl) (by kernel_rfl) (B.drew) ?_
          clear B_0 B_1 B_f0 B_f1 B_t
          clear h0_c
          clear h1_c
          clear hq_c
          iterate 19 (
            apply SeqH.one
            · intro uw K hS hK
              have qB := hS
              have qB_0 := qB.cells 0 _ rfl
              have qB_1 := qB.cells 1 _ rfl
              have qh0_c := ((bcell qB.below).1 _ _ hb).trans h0
              have qh1_c := ((bcell qB.below).1 _ _ hb).trans h1
              have qhq_c := ((bcell qB.below).1 _ _ hb).trans hq
              first
                | (go_simp; exact hK.out _ qB)
                | (go_simp; go_at_call 82; (with_reducible refine (height_impl _ _).mono ?_); rintro e _ ⟨rfl, rfl⟩; rw [e2]; go_wp2_with fail; exact hK.out _ qB)
            try simp only [Act.put, List.setIfInBounds_toArray, List.set_cons_zero, List.set_cons_succ])
          refine SeqH.end' rfl ?_
          intro v6 hS
          clear B
          have B := hS; clear hS
          have B_0 := B.cells 0 _ rfl
          have B_1 := B.cells 1 _ rfl
          have B_f0 := B.free 0 (by simp)
          have B_f1 := B.free 1 (by simp)
          have B_t := B.there
          have h0_c := ((bcell B.below).1 _ _ hb).trans h0
          have h1_c := ((bcell B.below).1 _ _ hb).trans h1
          have hq_c := ((bcell B.below).1 _ _ hb).trans hq
          go_wp2
          go_roundw
          case rel => exact ⟨j + 1 + 1, hlt, by go_num, HN, B.below⟩
          case measure => simp [intOf]; omega
        · have hle : decide (x.f0 ≤ p) = true := decide_eq_true (by omega)
          have HV := Lib.hid (good_no HLT.out (mark_next (by rw [HX.out]; exact e2) (by rw [HX.out, HP.out]; exact decide_eq_false hlow)))
          clear hlow
          refine wp_region_text (fun w' => Box (wr.heap.size) [.int .i64 x.f0, .int .i64 x.f1] w w') (by kernel_rfl) (by kernel_rfl) (B.drew) ?_
          clear B_0 B_1 B_f0 B_f1 B_t
          clear h0_c
          clear h1_c
          clear hq_c
          iterate 19 (
            apply SeqH.one
            · intro uw K hS hK
              have qB := hS
              have qB_0 := qB.cells 0 _ rfl
              have qB_1 := qB.cells 1 _ rfl
              have qh0_c := ((bcell qB.below).1 _ _ hb).trans h0
              have qh1_c := ((bcell qB.below).1 _ _ hb).trans h1
              have qhq_c := ((bcell qB.below).1 _ _ hb).trans hq
              first
                | (go_simp; exact hK.out _ qB)
                | (go_simp; go_at_call 82; (with_reducible refine (height_impl _ _).mono ?_); rintro e _ ⟨rfl, rfl⟩; rw [e2]; go_wp2_with fail; exact hK.out _ qB)
            try simp only [Act.put, List.setIfInBounds_toArray, List.set_cons_zero, List.set_cons_succ])
          refine SeqH.end' rfl ?_
          intro v7 hS
          clear B
          have B := hS; clear hS
          have B_0 := B.cells 0 _ rfl
          have B_1 := B.cells 1 _ rfl
          have B_f0 := B.free 0 (by simp)
          have B_f1 := B.free 1 (by simp)
          have B_t := B.there
          have h0_c := ((bcell B.below).1 _ _ hb).trans h0
          have h1_c := ((bcell B.below).1 _ _ hb).trans h1
          have hq_c := ((bcell B.below).1 _ _ hb).trans hq
          go_wp2
          go_ret
          exact rpost (by rw [HV.out] <;> rfl) B.below
    · obtain rfl : k = m + 1 := by omega
      have HV := Lib.hid ((good_end (by rw [HL.out]; exact HOK.out)).trans HE.out)
      go_wp2
      go_ret
      exact rpost (by rw [HV.out] <;> rfl) HB0
end Go.Proofs.Ytbbnbkdglihhhaa.Tide2
