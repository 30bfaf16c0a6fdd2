/- Showers: l6Good and AreSuns. -/
import Derived.Test.YtpbmncecejchjaaShwS
namespace Go.Proofs.Ytpbmncecejchjaa.ShwG
open Go.RowKit Go.Proofs.Ytpbmncecejchjaa.Mem Go.Proofs.Ytpbmncecejchjaa.Base Go.Proofs.Ytpbmncecejchjaa.SShower Go.Proofs.Ytpbmncecejchjaa.Regn Go.Proofs.Ytpbmncecejchjaa.Boxes Go.Proofs.Ytpbmncecejchjaa.Keep Go.Proofs.Ytpbmncecejchjaa.Shw Go.Proofs.Ytpbmncecejchjaa.ShwS
set_option linter.unusedVariables false
set_option maxRecDepth 100000
theorem bad_day {x : R} (h : inB x.f0 0 4000 = false) : okS x = false := by unfold okS; rw [h]; rfl
theorem bad_rate {x : R} (h : inB x.f1 1 200000 = false) : okS x = false := by unfold okS; rw [h, Bool.and_false]
theorem ok_both {x : R} (h : inB x.f0 0 4000 = true) (h1 : inB x.f1 1 200000 = true) : okS x = true := by unfold okS; rw [h, h1]; rfl
set_option maxHeartbeats 1600000 in
theorem good_spec (P : Option Addr) (cap : Nat) (l : List R) (w : World) (hr : Rd w w.heap.size P (flat l)) (hn : l.length ≤ 1048576) :
    Calls Try.prog 85 #[.slice P l.length cap] w (RPost (.bool (good l)) w) := by
  have HR := Lib.hid hr; clear hr
  go_enter Try.func85, Try.ntmps85
  go_wp2
  go_loopw [3] (fun i wr => ∃ k : Nat, k ≤ l.length ∧ i = .int .i64 k ∧ Hid (Ok l k) ∧ Below w.heap.size w wr) (fun i _ => l.length - (intOf i).toNat)
  case atStart => exact ⟨0, Nat.zero_le _, rfl, Lib.hid (fun j hj => by omega), Below.refl _ _⟩
  case round =>
    obtain ⟨k, hk, rfl, HOK, HB⟩ := hrel
    by_cases hlt : k < l.length
    · obtain ⟨b, o, rfl, hb, hc⟩ := HR.out.at (k := k * 2) (by rw [flat_n]; omega)
      obtain ⟨x, hx⟩ : ∃ x, l[k] = x := ⟨_, rfl⟩
      obtain ⟨h0, h1⟩ := cells2 (Below.refl _ _) hb hc hlt hx
      have HX := Lib.hid hx; clear hx
      have HL := Lib.hid hlt
      cases hd : inB x.f0 0 4000
      · clear hc
        go_wp2_with fail
        have h0_c := ((bcell HB).1 _ _ hb).trans h0
        have h1_c := ((bcell HB).1 _ _ hb).trans h1
        refine wp_region_text (fun w' => Below w.heap.size w w') (by kernel_rfl) (by kernel_rfl) (be HB (Below.refl _ _).drew) ?_
        clear h0_c
        clear h1_c
        iterate 34 (
          apply SeqH.one
          · intro uw K hS hK
            have qHB := hS
            have qh0_c := ((bcell qHB).1 _ _ hb).trans h0
            have qh1_c := ((bcell qHB).1 _ _ hb).trans h1
            first
              | (go_simp; exact hK.out _ qHB)
              | (go_simp; go_at_call 93; (with_reducible refine (day_spec _ _).mono ?_); rintro e _ ⟨rfl, rfl⟩; go_wp2_with fail; exact hK.out _ qHB)
              | (go_simp; go_at_call 82; (with_reducible refine (in_any _ _ _ _).mono ?_); rintro e _ ⟨rfl, rfl⟩; go_wp2_with fail; exact hK.out _ qHB)
          try simp only [Act.put, List.setIfInBounds_toArray, List.set_cons_zero, List.set_cons_succ])
        refine SeqH.end' rfl ?_
        intro v1 hS
        clear HB
        have HB := hS; clear hS
        have h0_c := ((bcell HB).1 _ _ hb).trans h0
        have h1_c := ((bcell HB).1 _ _ hb).trans h1
        go_wp2
        go_ret
        exact rpost (by rw [good_no HL.out (at_bad HL.out HX.out (bad_day hd))] <;> rfl) HB
      cases hrt : inB x.f1 1 200000
      · clear hc
        go_wp2_with fail
        have h0_c := ((bcell HB).1 _ _ hb).trans h0
        have h1_c := ((bcell HB).1 _ _ hb).trans h1
        refine wp_region_text (fun w' => Below w.heap.size w w') (by kernel_rfl) (by kernel_rfl) (be HB (Below.refl _ _).drew) ?_
        clear h0_c
        clear h1_c
        iterate 34 (
          apply SeqH.one
          · intro uw K hS hK
            have qHB := hS
            have qh0_c := ((bcell qHB).1 _ _ hb).trans h0
            have qh1_c := ((bcell qHB).1 _ _ hb).trans h1
            first
              | (go_simp; exact hK.out _ qHB)
              | (go_simp; go_at_call 93; (with_reducible refine (day_spec _ _).mono ?_); rintro e _ ⟨rfl, rfl⟩; go_wp2_with fail; exact hK.out _ qHB)
              | (go_simp; go_at_call 82; (with_reducible refine (in_any _ _ _ _).mono ?_); rintro e _ ⟨rfl, rfl⟩; go_wp2_with fail; exact hK.out _ qHB)
          try simp only [Act.put, List.setIfInBounds_toArray, List.set_cons_zero, List.set_cons_succ])
        refine SeqH.end' rfl ?_
        intro v2 hS
        clear HB
        have HB := hS; clear hS
        have h0_c := ((bcell HB).1 _ _ hb).trans h0
        have h1_c := ((bcell HB).1 _ _ hb).trans h1
        go_wp2
        go_ret
        exact rpost (by rw [good_no HL.out (at_bad HL.out HX.out (bad_rate hrt))] <;> rfl) HB
      have hok := Lib.hid (ok_both hd hrt)
      rcases Nat.eq_zero_or_pos k with hz | hz
      · clear hc
        have HN := Lib.hid (show Ok l (k + 1) by subst hz; exact HOK.out.next (at_zero HL.out HX.out hok.out))
        have hz1 : decide ((0 : Int) < k) = false := decide_eq_false (by omega)
        have hz2 : decide (0 < k) = false := decide_eq_false (by omega)
        have HZ := Lib.hid hz; clear hz
        go_wp2_with fail
        have h0_c := ((bcell HB).1 _ _ hb).trans h0
        have h1_c := ((bcell HB).1 _ _ hb).trans h1
        refine wp_region_text (fun w' => Below w.heap.size w w') (by kernel_rfl) (by kernel_rfl) (be HB (Below.refl _ _).drew) ?_
        clear h0_c
        clear h1_c
        iterate 34 (
          apply SeqH.one
          · intro uw K hS hK
            have qHB := hS
            have qh0_c := ((bcell qHB).1 _ _ hb).trans h0
            have qh1_c := ((bcell qHB).1 _ _ hb).trans h1
            first
              | (go_simp; exact hK.out _ qHB)
              | (go_simp; go_at_call 93; (with_reducible refine (day_spec _ _).mono ?_); rintro e _ ⟨rfl, rfl⟩; go_wp2_with fail; exact hK.out _ qHB)
              | (go_simp; go_at_call 82; (with_reducible refine (in_any _ _ _ _).mono ?_); rintro e _ ⟨rfl, rfl⟩; go_wp2_with fail; exact hK.out _ qHB)
          try simp only [Act.put, List.setIfInBounds_toArray, List.set_cons_zero, List.set_cons_succ])
        refine SeqH.end' rfl ?_
        intro v3 hS
        clear HB
        have HB := hS; clear hS
        have h0_c := ((bcell HB).1 _ _ hb).trans h0
        have h1_c := ((bcell HB).1 _ _ hb).trans h1
        go_wp2
        go_roundw
        case rel => exact ⟨k + 1, HL.out, by go_num, HN, HB⟩
        case measure => have := HL.out; simp [intOf]; omega
      · obtain ⟨j, rfl⟩ : ∃ j, k = j + 1 := ⟨k - 1, by omega⟩
        obtain ⟨p, hp⟩ : ∃ p, l[j].f0 = p := ⟨_, rfl⟩
        have hq : w.cell? ⟨b, o + j * 2, none⟩ = some (.int .i64 p) := by rw [← hp]; exact hc _ _ (flat_0 l j (by omega))
        have HP := Lib.hid hp; clear hp hc hz
        have q1 : (0 : Int) < (j : Int) + 1 := by omega
        have q2 : IntKind.i64.wrap (j : Int) = j := IntWalk.i64_in _ (by omega)
        have q3 : j < l.length := by omega
        by_cases hlow : p < x.f0
        · have hle : decide (x.f0 ≤ p) = false := decide_eq_false (by omega)
          have HN := Lib.hid (HOK.out.next (at_yes HL.out HX.out hok.out (by rw [HP.out]; exact hlow)))
          clear hlow
          go_wp2_with fail
          have h0_c := ((bcell HB).1 _ _ hb).trans h0
          have h1_c := ((bcell HB).1 _ _ hb).trans h1
          have hq_c := ((bcell HB).1 _ _ hb).trans hq
          refine wp_region_text (fun w' => Below w.heap.size w w') (by kernel_rfl) (by kernel_rfl) (be HB (Below.refl _ _).drew) ?_
          clear h0_c
          clear h1_c
          clear hq_c
          iterate 34 (
            apply SeqH.one
            · intro uw K hS hK
              have qHB := hS
              have qh0_c := ((bcell qHB).1 _ _ hb).trans h0
              have qh1_c := ((bcell qHB).1 _ _ hb).trans h1
              have qhq_c := ((bcell qHB).1 _ _ hb).trans hq
              first
                | (go_simp; exact hK.out _ qHB)
                | (go_simp; go_at_call 93; (with_reducible refine (day_spec _ _).mono ?_); rintro e _ ⟨rfl, rfl⟩; go_wp2_with fail; exact hK.out _ qHB)
                | (go_simp; go_at_call 82; (with_reducible refine (in_any _ _ _ _).mono ?_); rintro e _ ⟨rfl, rfl⟩; go_wp2_with fail; exact hK.out _ qHB)
            try simp only [Act.put, List.setIfInBounds_toArray, List.set_cons_zero, List.set_cons_succ])
          refine SeqH.end' rfl ?_
          intro v4 hS
          clear HB
          have HB := hS; clear hS
          have h0_c := ((bcell HB).1 _ _ hb).trans h0
          have h1_c := ((bcell HB).1 _ _ hb).trans h1
          have hq_c := ((bcell HB).1 _ _ hb).trans hq
          go_wp2
          go_roundw
          case rel => exact ⟨j + 1 + 1, HL.out, by go_num, HN, HB⟩
          case measure => have := HL.out; simp [intOf]; omega
        · have HW := Lib.hid (good_no HL.out (at_low HL.out HX.out (by rw [HP.out]; exact hlow)))
          have hle : decide (x.f0 ≤ p) = true := decide_eq_true (by omega)
          clear hlow HP
          go_wp2_with fail
          have h0_c := ((bcell HB).1 _ _ hb).trans h0
          have h1_c := ((bcell HB).1 _ _ hb).trans h1
          have hq_c := ((bcell HB).1 _ _ hb).trans hq
          refine wp_region_text (fun w' => Below w.heap.size w w') (by kernel_rfl) (by kernel_rfl) (be HB (Below.refl _ _).drew) ?_
          clear h0_c
          clear h1_c
          clear hq_c
          iterate 34 (
            apply SeqH.one
            · intro uw K hS hK
              have qHB := hS
              have qh0_c := ((bcell qHB).1 _ _ hb).trans h0
              have qh1_c := ((bcell qHB).1 _ _ hb).trans h1
              have qhq_c := ((bcell qHB).1 _ _ hb).trans hq
              first
                | (go_simp; exact hK.out _ qHB)
                | (go_simp; go_at_call 93; (with_reducible refine (day_spec _ _).mono ?_); rintro e _ ⟨rfl, rfl⟩; go_wp2_with fail; exact hK.out _ qHB)
                | (go_simp; go_at_call 82; (with_reducible refine (in_any _ _ _ _).mono ?_); rintro e _ ⟨rfl, rfl⟩; go_wp2_with fail; exact hK.out _ qHB)
            try simp only [Act.put, List.setIfInBounds_toArray, List.set_cons_zero, List.set_cons_succ])
          refine SeqH.end' rfl ?_
          intro v5 hS
          clear HB
          have HB := hS; clear hS
          have h0_c := ((bcell HB).1 _ _ hb).trans h0
          have h1_c := ((bcell HB).1 _ _ hb).trans h1
          have hq_c := ((bcell HB).1 _ _ hb).trans hq
          go_wp2
          go_ret
          exact rpost (by rw [HW.out] <;> rfl) HB
    · have HE := Lib.hid (good_end HOK.out (show l.length ≤ k by omega))
      by_cases h12 : l.length ≤ 20
      · have h13 : decide ((l.length : Int) ≤ 20) = true := decide_eq_true (by omega)
        go_wp2
        go_ret
        exact rpost (by rw [HE.out, decide_eq_true h12] <;> rfl) HB
      · have h13 : decide ((l.length : Int) ≤ 20) = false := decide_eq_false (by omega)
        go_wp2
        go_ret
        exact rpost (by rw [HE.out, decide_eq_false h12] <;> rfl) HB
set_option maxHeartbeats 1600000 in
theorem are_impl (P : Option Addr) (cap : Nat) (l : List R) (w : World) (hr : Rd w w.heap.size P (flat l)) (hn : l.length ≤ 1048576) :
    Calls Try.prog 19 #[.slice P l.length cap] w (RPost (.bool (good l)) w) := by
  have HR := Lib.hid hr; clear hr
  by_cases h12 : l.length ≤ 20
  · have h12' : decide ((20 : Int) < l.length) = false := decide_eq_false (by omega)
    go_enter Try.func19, Try.ntmps19
    go_wp2
    go_loopw [10] (fun i wr => ∃ k : Nat, k ≤ l.length ∧ i = .int .i64 k ∧ Hid (Ok l k) ∧ Below w.heap.size w wr) (fun i _ => l.length - (intOf i).toNat)
    case atStart => exact ⟨0, Nat.zero_le _, rfl, Lib.hid (fun j hj => by omega), Below.refl _ _⟩
    case round =>
      obtain ⟨k, hk, rfl, HOK, HB0⟩ := hrel
      by_cases hlt : k < l.length
      · obtain ⟨b, o, rfl, hb, hc⟩ := HR.out.at (k := k * 2) (by rw [flat_n]; omega)
        obtain ⟨x, hx⟩ : ∃ x, l[k] = x := ⟨_, rfl⟩
        obtain ⟨h0, h1⟩ := cells2 HB0 hb hc hlt hx
        have HX := Lib.hid hx; clear hx
        have HL := Lib.hid hlt
        have HC := Lib.hid hc; clear hc
        go_wp2_with fail
        have B := Box.new HB0 [.int .i64 x.f0, .int .i64 x.f1] 54 (g := wr.heap.size) rfl
        generalize (wr.alloc (.cells #[.int .i64 x.f0, .int .i64 x.f1] 54)) = W1 at B ⊢
        have B_0 := B.cells 0 _ rfl
        have B_1 := B.cells 1 _ rfl
        have B_f0 := B.free 0 (by simp)
        have B_f1 := B.free 1 (by simp)
        have B_t := B.there
        clear h0 h1
        cases hok : okS x
        · refine wp_region_text (fun w' => Box (wr.heap.size) [.int .i64 x.f0, .int .i64 x.f1] w w') (by kernel_rfl) (by kernel_rfl) (B.drew) ?_
          clear B_0 B_1 B_f0 B_f1 B_t
          iterate 18 (
            apply SeqH.one
            · intro uw K hS hK
              have qB := hS
              have qB_0 := qB.cells 0 _ rfl
              have qB_1 := qB.cells 1 _ rfl
              first
                | (go_simp; exact hK.out _ qB)
                | (go_simp; go_at_call 84; (with_reducible refine (one_impl x _).mono ?_); rintro e uw1 ⟨rfl, hv⟩; rw [hok]; go_wp2_with fail; exact hK.out _ (qB.more hv))
            try simp only [Act.put, List.setIfInBounds_toArray, List.set_cons_zero, List.set_cons_succ])
          refine SeqH.end' rfl ?_
          intro v2 hS
          clear B
          have B := hS; clear hS
          have B_0 := B.cells 0 _ rfl
          have B_1 := B.cells 1 _ rfl
          have B_f0 := B.free 0 (by simp)
          have B_f1 := B.free 1 (by simp)
          have B_t := B.there
          go_wp2
          go_ret
          exact rpost (by rw [good_no HL.out (at_bad HL.out HX.out hok)] <;> rfl) B.below
        · rcases Nat.eq_zero_or_pos k with hz | hz
          · subst hz
            have HN := Lib.hid (HOK.out.next (at_zero HL.out HX.out hok))
            have hz1 : decide ((0 : Int) < (0 : Nat)) = false := rfl
            refine wp_region_text (fun w' => Box (wr.heap.size) [.int .i64 x.f0, .int .i64 x.f1] w w') (by kernel_rfl) (by kernel_rfl) (B.drew) ?_
            clear B_0 B_1 B_f0 B_f1 B_t
            iterate 18 (
              apply SeqH.one
              · intro uw K hS hK
                have qB := hS
                have qB_0 := qB.cells 0 _ rfl
                have qB_1 := qB.cells 1 _ rfl
                first
                  | (go_simp; exact hK.out _ qB)
                  | (go_simp; go_at_call 84; (with_reducible refine (one_impl x _).mono ?_); rintro e uw1 ⟨rfl, hv⟩; rw [hok]; go_wp2_with fail; exact hK.out _ (qB.more hv))
              try simp only [Act.put, List.setIfInBounds_toArray, List.set_cons_zero, List.set_cons_succ])
            refine SeqH.end' rfl ?_
            intro v3 hS
            clear B
            have B := hS; clear hS
            have B_0 := B.cells 0 _ rfl
            have B_1 := B.cells 1 _ rfl
            have B_f0 := B.free 0 (by simp)
            have B_f1 := B.free 1 (by simp)
            have B_t := B.there
            go_wp2
            go_roundw
            case rel => exact ⟨1, HL.out, by go_num, HN, B.below⟩
            case measure => have := HL.out; simp [intOf]; omega
          · obtain ⟨j, rfl⟩ : ∃ j, k = j + 1 := ⟨k - 1, by omega⟩
            obtain ⟨p, hp⟩ : ∃ p, l[j].f0 = p := ⟨_, rfl⟩
            have hq : w.cell? ⟨b, o + j * 2, none⟩ = some (.int .i64 p) := by rw [← hp]; exact HC.out _ _ (flat_0 l j (by omega))
            have HP := Lib.hid hp; clear hp hz
            have q1 : (0 : Int) < (j : Int) + 1 := by omega
            have q2 : IntKind.i64.wrap (j : Int) = j := IntWalk.i64_in _ (by omega)
            have q3 : j < l.length := by omega
            have hq_c := ((bcell B.below).1 _ _ hb).trans hq
            by_cases hlow : p < x.f0
            · have hle : decide (x.f0 ≤ p) = false := decide_eq_false (by omega)
              have HN := Lib.hid (HOK.out.next (at_yes HL.out HX.out hok (by rw [HP.out]; exact hlow)))
              clear hlow
              refine wp_region_text (fun w' => Box (wr.heap.size) [.int .i64 x.f0, .int .i64 x.f1] w w') (by kernel_rfl) (by kernel_rfl) (B.drew) ?_
              clear B_0 B_1 B_f0 B_f1 B_t
              clear hq_c
              iterate 18 (
                apply SeqH.one
                · intro uw K hS hK
                  have qB := hS
                  have qB_0 := qB.cells 0 _ rfl
                  have qB_1 := qB.cells 1 _ rfl
                  have qhq_c := ((bcell qB.below).1 _ _ hb).trans hq
                  first
                    | (go_simp; exact hK.out _ qB)
                    | (go_simp; go_at_call 84; (with_reducible refine (one_impl x _).mono ?_); rintro e uw1 ⟨rfl, hv⟩; rw [hok]; go_wp2_with fail; exact hK.out _ (qB.more hv))
                try simp only [Act.put, List.setIfInBounds_toArray, List.set_cons_zero, List.set_cons_succ])
              refine SeqH.end' rfl ?_
              intro v4 hS
              clear B
              have B := hS; clear hS
              have B_0 := B.cells 0 _ rfl
              have B_1 := B.cells 1 _ rfl
              have B_f0 := B.free 0 (by simp)
              have B_f1 := B.free 1 (by simp)
              have B_t := B.there
              have hq_c := ((bcell B.below).1 _ _ hb).trans hq
              go_wp2
              go_roundw
              case rel => exact ⟨j + 1 + 1, HL.out, by go_num, HN, B.below⟩
              case measure => have := HL.out; simp [intOf]; omega
            · have HW := Lib.hid (good_no HL.out (at_low HL.out HX.out (by rw [HP.out]; exact hlow)))
              have hle : decide (x.f0 ≤ p) = true := decide_eq_true (by omega)
              clear hlow HP
              refine wp_region_text (fun w' => Box (wr.heap.size) [.int .i64 x.f0, .int .i64 x.f1] w w') (by kernel_rfl) (by kernel_rfl) (B.drew) ?_
              clear B_0 B_1 B_f0 B_f1 B_t
              clear hq_c
              iterate 18 (
                apply SeqH.one
                · intro uw K hS hK
                  have qB := hS
                  have qB_0 := qB.cells 0 _ rfl
                  have qB_1 := qB.cells 1 _ rfl
                  have qhq_c := ((bcell qB.below).1 _ _ hb).trans hq
                  first
                    | (go_simp; exact hK.out _ qB)
                    | (go_simp; go_at_call 84; (with_reducible refine (one_impl x _).mono ?_); rintro e uw1 ⟨rfl, hv⟩; rw [hok]; go_wp2_with fail; exact hK.out _ (qB.more hv))
                try simp only [Act.put, List.setIfInBounds_toArray, List.set_cons_zero, List.set_cons_succ])
              refine SeqH.end' rfl ?_
              intro v5 hS
              clear B
              have B := hS; clear hS
              have B_0 := B.cells 0 _ rfl
              have B_1 := B.cells 1 _ rfl
              have B_f0 := B.free 0 (by simp)
              have B_f1 := B.free 1 (by simp)
              have B_t := B.there
              have hq_c := ((bcell B.below).1 _ _ hb).trans hq
              go_wp2
              go_ret
              exact rpost (by rw [HW.out] <;> rfl) B.below
      · have HE := Lib.hid ((good_end HOK.out (show l.length ≤ k by omega)).trans (decide_eq_true h12))
        go_wp2
        go_ret
        exact rpost (by rw [HE.out] <;> rfl) HB0
  · have h12' : decide ((20 : Int) < l.length) = true := decide_eq_true (by omega)
    have HE := Lib.hid (good_long (l := l) (by omega))
    go_enter Try.func19, Try.ntmps19
    go_wp2
    go_ret
    exact rpost (by rw [HE.out] <;> rfl) (Below.refl _ _)
end Go.Proofs.Ytpbmncecejchjaa.ShwG
