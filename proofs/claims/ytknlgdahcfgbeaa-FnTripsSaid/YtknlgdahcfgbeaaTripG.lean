/- Trips: l11Good and AreTrips. -/
import Derived.Test.YtknlgdahcfgbeaaTripS
namespace Go.Proofs.Ytknlgdahcfgbeaa.TripG
open Go.RowKit Go.Proofs.Ytknlgdahcfgbeaa.Mem Go.Proofs.Ytknlgdahcfgbeaa.Base Go.Proofs.Ytknlgdahcfgbeaa.STrip Go.Proofs.Ytknlgdahcfgbeaa.Regn Go.Proofs.Ytknlgdahcfgbeaa.Boxes Go.Proofs.Ytknlgdahcfgbeaa.Keep Go.Proofs.Ytknlgdahcfgbeaa.TripP Go.Proofs.Ytknlgdahcfgbeaa.TripS
set_option linter.unusedVariables false
set_option maxRecDepth 100000
set_option maxHeartbeats 1600000 in
theorem good_spec (P : Option Addr) (cap : Nat) (l : List R) (w : World) (hr : Rd w w.heap.size P (flat l)) (hn : l.length ≤ 1048576) :
    Calls Try.prog 39 #[.slice P l.length cap] w (RPost (.bool (good l)) w) := by
  have HR := Lib.hid hr; clear hr
  go_enter Try.func39, Try.ntmps39
  go_wp2
  go_loopw [3] (fun i wr => ∃ k : Nat, k ≤ l.length ∧ i = .int .i64 k ∧ Hid (Ok l k) ∧ Below w.heap.size w wr) (fun i _ => l.length - (intOf i).toNat)
  case atStart => exact ⟨0, Nat.zero_le _, rfl, Lib.hid (fun j hj => by omega), Below.refl _ _⟩
  case round =>
    obtain ⟨k, hk, rfl, HOK, HB⟩ := hrel
    by_cases hlt : k < l.length
    · obtain ⟨b, o, rfl, hb, hc⟩ := HR.out.at (k := k * 5) (by rw [flat_n]; omega)
      obtain ⟨x, hx⟩ : ∃ x, l[k] = x := ⟨_, rfl⟩
      obtain ⟨h0, h1, h2, h3, h4⟩ := cells5 (Below.refl _ _) hb hc hlt hx
      have HX := Lib.hid hx; clear hx
      have HL := Lib.hid hlt
      cases hok : okT x
      · clear hc
        go_wp2_with fail
        have h0_c := ((bcell HB).1 _ _ hb).trans h0
        have h1_c := ((bcell HB).1 _ _ hb).trans h1
        have h2_c := ((bcell HB).1 _ _ hb).trans h2
        have h3_c := ((bcell HB).1 _ _ hb).trans h3
        have h4_c := ((bcell HB).1 _ _ hb).trans h4
        refine wp_region_text (fun w' => Below w.heap.size w w') (by kernel_rfl) (by kernel_rfl) (be HB (Below.refl _ _).drew) ?_
        clear h0_c
        clear h1_c
        clear h2_c
        clear h3_c
        clear h4_c
        iterate 24 (
          apply SeqH.one
          · intro uw K hS hK
            have qHB := hS
            have qh0_c := ((bcell qHB).1 _ _ hb).trans h0
            have qh1_c := ((bcell qHB).1 _ _ hb).trans h1
            have qh2_c := ((bcell qHB).1 _ _ hb).trans h2
            have qh3_c := ((bcell qHB).1 _ _ hb).trans h3
            have qh4_c := ((bcell qHB).1 _ _ hb).trans h4
            first
              | (go_simp; exact hK.out _ qHB)
              | (go_simp; go_at_call 27; (with_reducible refine (one_spec x _).mono ?_); rintro e uw1 ⟨rfl, hv⟩; go_wp2_with fail; exact hK.out _ (be qHB hv))
          try simp only [Act.put, List.setIfInBounds_toArray, List.set_cons_zero, List.set_cons_succ])
        refine SeqH.end' rfl ?_
        intro v1 hS
        clear HB
        have HB := hS; clear hS
        have h0_c := ((bcell HB).1 _ _ hb).trans h0
        have h1_c := ((bcell HB).1 _ _ hb).trans h1
        have h2_c := ((bcell HB).1 _ _ hb).trans h2
        have h3_c := ((bcell HB).1 _ _ hb).trans h3
        have h4_c := ((bcell HB).1 _ _ hb).trans h4
        go_wp2
        go_ret
        exact rpost (by rw [good_no HL.out (at_bad HL.out HX.out hok)] <;> rfl) HB
      · rcases Nat.eq_zero_or_pos k with hz | hz
        · clear hc
          have HN := Lib.hid (show Ok l (k + 1) by subst hz; exact HOK.out.next (at_zero HL.out HX.out hok))
          have hz1 : decide ((0 : Int) < k) = false := decide_eq_false (by omega)
          have hz2 : decide (0 < k) = false := decide_eq_false (by omega)
          have HZ := Lib.hid hz; clear hz
          go_wp2_with fail
          have h0_c := ((bcell HB).1 _ _ hb).trans h0
          have h1_c := ((bcell HB).1 _ _ hb).trans h1
          have h2_c := ((bcell HB).1 _ _ hb).trans h2
          have h3_c := ((bcell HB).1 _ _ hb).trans h3
          have h4_c := ((bcell HB).1 _ _ hb).trans h4
          refine wp_region_text (fun w' => Below w.heap.size w w') (by kernel_rfl) (by kernel_rfl) (be HB (Below.refl _ _).drew) ?_
          clear h0_c
          clear h1_c
          clear h2_c
          clear h3_c
          clear h4_c
          iterate 24 (
            apply SeqH.one
            · intro uw K hS hK
              have qHB := hS
              have qh0_c := ((bcell qHB).1 _ _ hb).trans h0
              have qh1_c := ((bcell qHB).1 _ _ hb).trans h1
              have qh2_c := ((bcell qHB).1 _ _ hb).trans h2
              have qh3_c := ((bcell qHB).1 _ _ hb).trans h3
              have qh4_c := ((bcell qHB).1 _ _ hb).trans h4
              first
                | (go_simp; exact hK.out _ qHB)
                | (go_simp; go_at_call 27; (with_reducible refine (one_spec x _).mono ?_); rintro e uw1 ⟨rfl, hv⟩; go_wp2_with fail; exact hK.out _ (be qHB hv))
            try simp only [Act.put, List.setIfInBounds_toArray, List.set_cons_zero, List.set_cons_succ])
          refine SeqH.end' rfl ?_
          intro v2 hS
          clear HB
          have HB := hS; clear hS
          have h0_c := ((bcell HB).1 _ _ hb).trans h0
          have h1_c := ((bcell HB).1 _ _ hb).trans h1
          have h2_c := ((bcell HB).1 _ _ hb).trans h2
          have h3_c := ((bcell HB).1 _ _ hb).trans h3
          have h4_c := ((bcell HB).1 _ _ hb).trans h4
          go_wp2
          go_roundw
          case rel => exact ⟨k + 1, HL.out, by go_num, HN, HB⟩
          case measure => have := HL.out; simp [intOf]; omega
        · obtain ⟨j, rfl⟩ : ∃ j, k = j + 1 := ⟨k - 1, by omega⟩
          obtain ⟨p, hp⟩ : ∃ p, l[j].f0 = p := ⟨_, rfl⟩
          have hq : w.cell? ⟨b, o + j * 5, none⟩ = some (.int .i64 p) := by rw [← hp]; exact hc _ _ (flat_0 l j (by omega))
          have HP := Lib.hid hp; clear hp hc hz
          have q1 : (0 : Int) < (j : Int) + 1 := by omega
          have q2 : IntKind.i64.wrap (j : Int) = j := IntWalk.i64_in _ (by omega)
          have q3 : j < l.length := by omega
          by_cases hlow : p < x.f0
          · have hle : decide (x.f0 ≤ p) = false := decide_eq_false (by omega)
            have HN := Lib.hid (HOK.out.next (at_yes HL.out HX.out hok (by rw [HP.out]; exact hlow)))
            clear hlow
            go_wp2_with fail
            have h0_c := ((bcell HB).1 _ _ hb).trans h0
            have h1_c := ((bcell HB).1 _ _ hb).trans h1
            have h2_c := ((bcell HB).1 _ _ hb).trans h2
            have h3_c := ((bcell HB).1 _ _ hb).trans h3
            have h4_c := ((bcell HB).1 _ _ hb).trans h4
            have hq_c := ((bcell HB).1 _ _ hb).trans hq
            refine wp_region_text (fun w' => Below w.heap.size w w') (by kernel_rfl) (by kernel_rfl) (be HB (Below.refl _ _).drew) ?_
            clear h0_c
            clear h1_c
            clear h2_c
            clear h3_c
            clear h4_c
            clear hq_c
            iterate 24 (
              apply SeqH.one
              · intro uw K hS hK
                have qHB := hS
                have qh0_c := ((bcell qHB).1 _ _ hb).trans h0
                have qh1_c := ((bcell qHB).1 _ _ hb).trans h1
                have qh2_c := ((bcell qHB).1 _ _ hb).trans h2
                have qh3_c := ((bcell qHB).1 _ _ hb).trans h3
                have qh4_c := ((bcell qHB).1 _ _ hb).trans h4
                have qhq_c := ((bcell qHB).1 _ _ hb).trans hq
                first
                  | (go_simp; exact hK.out _ qHB)
                  | (go_simp; go_at_call 27; (with_reducible refine (one_spec x _).mono ?_); rintro e uw1 ⟨rfl, hv⟩; go_wp2_with fail; exact hK.out _ (be qHB hv))
              try simp only [Act.put, List.setIfInBounds_toArray, List.set_cons_zero, List.set_cons_succ])
            refine SeqH.end' rfl ?_
            intro v3 hS
            clear HB
            have HB := hS; clear hS
            have h0_c := ((bcell HB).1 _ _ hb).trans h0
            have h1_c := ((bcell HB).1 _ _ hb).trans h1
            have h2_c := ((bcell HB).1 _ _ hb).trans h2
            have h3_c := ((bcell HB).1 _ _ hb).trans h3
            have h4_c := ((bcell HB).1 _ _ hb).trans h4
            have hq_c := ((bcell HB).1 _ _ hb).trans hq
            go_wp2
            go_roundw
            case rel => exact ⟨j + 1 + 1, HL.out, by go_num, HN, HB⟩
            case measure => have := HL.out; simp [intOf]; omega
          · have HW := Lib.hid (good_no HL.out (at_low HL.out HX.out (by rw [HP.out]; exact hlow)))
            have hle : decide (x.f0 ≤ p) = true := decide_eq_true (by omega)
            clear hlow HP
            go_wp2_with fail
            have h0_c := ((bcell HB).1 _ _ hb).trans h0
            have h1_c := ((bcell HB).1 _ _ hb).trans h1
            have h2_c := ((bcell HB).1 _ _ hb).trans h2
            have h3_c := ((bcell HB).1 _ _ hb).trans h3
            have h4_c := ((bcell HB).1 _ _ hb).trans h4
            have hq_c := ((bcell HB).1 _ _ hb).trans hq
            refine wp_region_text (fun w' => Below w.heap.size w w') (by kernel_rfl) (by kernel_rfl) (be HB (Below.refl _ _).drew) ?_
            clear h0_c
            clear h1_c
            clear h2_c
            clear h3_c
            clear h4_c
            clear hq_c
            iterate 24 (
              apply SeqH.one
              · intro uw K hS hK
                have qHB := hS
                have qh0_c := ((bcell qHB).1 _ _ hb).trans h0
                have qh1_c := ((bcell qHB).1 _ _ hb).trans h1
                have qh2_c := ((bcell qHB).1 _ _ hb).trans h2
                have qh3_c := ((bcell qHB).1 _ _ hb).trans h3
                have qh4_c := ((bcell qHB).1 _ _ hb).trans h4
                have qhq_c := ((bcell qHB).1 _ _ hb).trans hq
                first
                  | (go_simp; exact hK.out _ qHB)
                  | (go_simp; go_at_call 27; (with_reducible refine (one_spec x _).mono ?_); rintro e uw1 ⟨rfl, hv⟩; go_wp2_with fail; exact hK.out _ (be qHB hv))
              try simp only [Act.put, List.setIfInBounds_toArray, List.set_cons_zero, List.set_cons_succ])
            refine SeqH.end' rfl ?_
            intro v4 hS
            clear HB
            have HB := hS; clear hS
            have h0_c := ((bcell HB).1 _ _ hb).trans h0
            have h1_c := ((bcell HB).1 _ _ hb).trans h1
            have h2_c := ((bcell HB).1 _ _ hb).trans h2
            have h3_c := ((bcell HB).1 _ _ hb).trans h3
            have h4_c := ((bcell HB).1 _ _ hb).trans h4
            have hq_c := ((bcell HB).1 _ _ hb).trans hq
            go_wp2
            go_ret
            exact rpost (by rw [HW.out] <;> rfl) HB
    · have HE := Lib.hid (good_end HOK.out (show l.length ≤ k by omega))
      by_cases h12 : l.length ≤ 10
      · have h13 : decide ((l.length : Int) ≤ 10) = true := decide_eq_true (by omega)
        go_wp2
        go_ret
        exact rpost (by rw [HE.out, decide_eq_true h12] <;> rfl) HB
      · have h13 : decide ((l.length : Int) ≤ 10) = false := decide_eq_false (by omega)
        go_wp2
        go_ret
        exact rpost (by rw [HE.out, decide_eq_false h12] <;> rfl) HB
set_option maxHeartbeats 1600000 in
theorem are_impl (P : Option Addr) (cap : Nat) (l : List R) (w : World) (hr : Rd w w.heap.size P (flat l)) (hn : l.length ≤ 1048576) :
    Calls Try.prog 23 #[.slice P l.length cap] w (RPost (.bool (good l)) w) := by
  have HR := Lib.hid hr; clear hr
  by_cases h12 : l.length ≤ 10
  · have h12' : decide ((10 : Int) < l.length) = false := decide_eq_false (by omega)
    go_enter Try.func23, Try.ntmps23
    go_wp2
    go_loopw [10] (fun i wr => ∃ k : Nat, k ≤ l.length ∧ i = .int .i64 k ∧ Hid (Ok l k) ∧ Below w.heap.size w wr) (fun i _ => l.length - (intOf i).toNat)
    case atStart => exact ⟨0, Nat.zero_le _, rfl, Lib.hid (fun j hj => by omega), Below.refl _ _⟩
    case round =>
      obtain ⟨k, hk, rfl, HOK, HB0⟩ := hrel
      by_cases hlt : k < l.length
      · obtain ⟨b, o, rfl, hb, hc⟩ := HR.out.at (k := k * 5) (by rw [flat_n]; omega)
        obtain ⟨x, hx⟩ : ∃ x, l[k] = x := ⟨_, rfl⟩
        obtain ⟨h0, h1, h2, h3, h4⟩ := cells5 HB0 hb hc hlt hx
        have HX := Lib.hid hx; clear hx
        have HL := Lib.hid hlt
        have HC := Lib.hid hc; clear hc
        go_wp2_with fail
        have B := Box.new HB0 [.int .i64 x.f0, .int .i64 x.f1, .int .i64 x.f2, .int .i64 x.f3, .int .i64 x.f4] 25 (g := wr.heap.size) rfl
        generalize (wr.alloc (.cells #[.int .i64 x.f0, .int .i64 x.f1, .int .i64 x.f2, .int .i64 x.f3, .int .i64 x.f4] 25)) = W1 at B ⊢
        have B_0 := B.cells 0 _ rfl
        have B_1 := B.cells 1 _ rfl
        have B_2 := B.cells 2 _ rfl
        have B_3 := B.cells 3 _ rfl
        have B_4 := B.cells 4 _ rfl
        have B_f0 := B.free 0 (by simp)
        have B_f1 := B.free 1 (by simp)
        have B_f2 := B.free 2 (by simp)
        have B_f3 := B.free 3 (by simp)
        have B_f4 := B.free 4 (by simp)
        have B_t := B.there
        clear h0 h1 h2 h3 h4
        cases hok : okT x
        · refine wp_region_text (fun w' => Box (wr.heap.size) [.int .i64 x.f0, .int .i64 x.f1, .int .i64 x.f2, .int .i64 x.f3, .int .i64 x.f4] w w') (by kernel_rfl) (by kernel_rfl) (B.drew) ?_
          clear B_0 B_1 B_2 B_3 B_4 B_f0 B_f1 B_f2 B_f3 B_f4 B_t
          iterate 18 (
            apply SeqH.one
            · intro uw K hS hK
              have qB := hS
              have qB_0 := qB.cells 0 _ rfl
              have qB_1 := qB.cells 1 _ rfl
              have qB_2 := qB.cells 2 _ rfl
              have qB_3 := qB.cells 3 _ rfl
              have qB_4 := qB.cells 4 _ rfl
              first
                | (go_simp; exact hK.out _ qB)
                | (go_simp; go_at_call 11; (with_reducible refine (one_impl x _).mono ?_); rintro e uw1 ⟨rfl, hv⟩; rw [hok]; go_wp2_with fail; exact hK.out _ (qB.more hv))
            try simp only [Act.put, List.setIfInBounds_toArray, List.set_cons_zero, List.set_cons_succ])
          refine SeqH.end' rfl ?_
          intro v2 hS
          clear B
          have B := hS; clear hS
          have B_0 := B.cells 0 _ rfl
          have B_1 := B.cells 1 _ rfl
          have B_2 := B.cells 2 _ rfl
          have B_3 := B.cells 3 _ rfl
          have B_4 := B.cells 4 _ rfl
          have B_f0 := B.free 0 (by simp)
          have B_f1 := B.free 1 (by simp)
          have B_f2 := B.free 2 (by simp)
          have B_f3 := B.free 3 (by simp)
          have B_f4 := B.free 4 (by simp)
          have B_t := B.there
          go_wp2
          go_ret
          exact rpost (by rw [good_no HL.out (at_bad HL.out HX.out hok)] <;> rfl) B.below
        · rcases Nat.eq_zero_or_pos k with hz | hz
          · subst hz
            have HN := Lib.hid (HOK.out.next (at_zero HL.out HX.out hok))
            have hz1 : decide ((0 : Int) < (0 : Nat)) = false := rfl
            refine wp_region_text (fun w' => Box (wr.heap.size) [.int .i64 x.f0, .int .i64 x.f1, .int .i64 x.f2, .int .i64 x.f3, .int .i64 x.f4] w w') (by kernel_rfl) (by kernel_rfl) (B.drew) ?_
            clear B_0 B_1 B_2 B_3 B_4 B_f0 B_f1 B_f2 B_f3 B_f4 B_t
            iterate 18 (
              apply SeqH.one
              · intro uw K hS hK
                have qB := hS
                have qB_0 := qB.cells 0 _ rfl
                have qB_1 := qB.cells 1 _ rfl
                have qB_2 := qB.cells 2 _ rfl
                have qB_3 := qB.cells 3 _ rfl
                have qB_4 := qB.cells 4 _ rfl
                first
                  | (go_simp; exact hK.out _ qB)
                  | (go_simp; go_at_call 11; (with_reducible refine (one_impl x _).mono ?_); rintro e uw1 ⟨rfl, hv⟩; rw [hok]; go_wp2_with fail; exact hK.out _ (qB.more hv))
              try simp only [Act.put, List.setIfInBounds_toArray, List.set_cons_zero, List.set_cons_succ])
            refine SeqH.end' rfl ?_
            intro v3 hS
            clear B
            have B := hS; clear hS
            have B_0 := B.cells 0 _ rfl
            have B_1 := B.cells 1 _ rfl
            have B_2 := B.cells 2 _ rfl
            have B_3 := B.cells 3 _ rfl
            have B_4 := B.cells 4 _ rfl
            have B_f0 := B.free 0 (by simp)
            have B_f1 := B.free 1 (by simp)
            have B_f2 := B.free 2 (by simp)
            have B_f3 := B.free 3 (by simp)
            have B_f4 := B.free 4 (by simp)
            have B_t := B.there
            go_wp2
            go_roundw
            case rel => exact ⟨1, HL.out, by go_num, HN, B.below⟩
            case measure => have := HL.out; simp [intOf]; omega
          · obtain ⟨j, rfl⟩ : ∃ j, k = j + 1 := ⟨k - 1, by omega⟩
            obtain ⟨p, hp⟩ : ∃ p, l[j].f0 = p := ⟨_, rfl⟩
            have hq : w.cell? ⟨b, o + j * 5, none⟩ = some (.int .i64 p) := by rw [← hp]; exact HC.out _ _ (flat_0 l j (by omega))
            have HP := Lib.hid hp; clear hp hz
            have q1 : (0 : Int) < (j : Int) + 1 := by omega
            have q2 : IntKind.i64.wrap (j : Int) = j := IntWalk.i64_in _ (by omega)
            have q3 : j < l.length := by omega
            have hq_c := ((bcell B.below).1 _ _ hb).trans hq
            by_cases hlow : p < x.f0
            · have hle : decide (x.f0 ≤ p) = false := decide_eq_false (by omega)
              have HN := Lib.hid (HOK.out.next (at_yes HL.out HX.out hok (by rw [HP.out]; exact hlow)))
              clear hlow
              refine wp_region_text (fun w' => Box (wr.heap.size) [.int .i64 x.f0, .int .i64 x.f1, .int .i64 x.f2, .int .i64 x.f3, .int .i64 x.f4] w w') (by kernel_rfl) (by kernel_rfl) (B.drew) ?_
              clear B_0 B_1 B_2 B_3 B_4 B_f0 B_f1 B_f2 B_f3 B_f4 B_t
              clear hq_c
              iterate 18 (
                apply SeqH.one
                · intro uw K hS hK
                  have qB := hS
                  have qB_0 := qB.cells 0 _ rfl
                  have qB_1 := qB.cells 1 _ rfl
                  have qB_2 := qB.cells 2 _ rfl
                  have qB_3 := qB.cells 3 _ rfl
                  have qB_4 := qB.cells 4 _ rfl
                  have qhq_c := ((bcell qB.below).1 _ _ hb).trans hq
                  first
                    | (go_simp; exact hK.out _ qB)
                    | (go_simp; go_at_call 11; (with_reducible refine (one_impl x _).mono ?_); rintro e uw1 ⟨rfl, hv⟩; rw [hok]; go_wp2_with fail; exact hK.out _ (qB.more hv))
                try simp only [Act.put, List.setIfInBounds_toArray, List.set_cons_zero, List.set_cons_succ])
              refine SeqH.end' rfl ?_
              intro v4 hS
              clear B
              have B := hS; clear hS
              have B_0 := B.cells 0 _ rfl
              have B_1 := B.cells 1 _ rfl
              have B_2 := B.cells 2 _ rfl
              have B_3 := B.cells 3 _ rfl
              have B_4 := B.cells 4 _ rfl
              have B_f0 := B.free 0 (by simp)
              have B_f1 := B.free 1 (by simp)
              have B_f2 := B.free 2 (by simp)
              have B_f3 := B.free 3 (by simp)
              have B_f4 := B.free 4 (by simp)
              have B_t := B.there
              have hq_c := ((bcell B.below).1 _ _ hb).trans hq
              go_wp2
              go_roundw
              case rel => exact ⟨j + 1 + 1, HL.out, by go_num, HN, B.below⟩
              case measure => have := HL.out; simp [intOf]; omega
            · have HW := Lib.hid (good_no HL.out (at_low HL.out HX.out (by rw [HP.out]; exact hlow)))
              have hle : decide (x.f0 ≤ p) = true := decide_eq_true (by omega)
              clear hlow HP
              refine wp_region_text (fun w' => Box (wr.heap.size) [.int .i64 x.f0, .int .i64 x.f1, .int .i64 x.f2, .int .i64 x.f3, .int .i64 x.f4] w w') (by kernel_rfl) (by kernel_rfl) (B.drew) ?_
              clear B_0 B_1 B_2 B_3 B_4 B_f0 B_f1 B_f2 B_f3 B_f4 B_t
              clear hq_c
              iterate 18 (
                apply SeqH.one
                · intro uw K hS hK
                  have qB := hS
                  have qB_0 := qB.cells 0 _ rfl
                  have qB_1 := qB.cells 1 _ rfl
                  have qB_2 := qB.cells 2 _ rfl
                  have qB_3 := qB.cells 3 _ rfl
                  have qB_4 := qB.cells 4 _ rfl
                  have qhq_c := ((bcell qB.below).1 _ _ hb).trans hq
                  first
                    | (go_simp; exact hK.out _ qB)
                    | (go_simp; go_at_call 11; (with_reducible refine (one_impl x _).mono ?_); rintro e uw1 ⟨rfl, hv⟩; rw [hok]; go_wp2_with fail; exact hK.out _ (qB.more hv))
                try simp only [Act.put, List.setIfInBounds_toArray, List.set_cons_zero, List.set_cons_succ])
              refine SeqH.end' rfl ?_
              intro v5 hS
              clear B
              have B := hS; clear hS
              have B_0 := B.cells 0 _ rfl
              have B_1 := B.cells 1 _ rfl
              have B_2 := B.cells 2 _ rfl
              have B_3 := B.cells 3 _ rfl
              have B_4 := B.cells 4 _ rfl
              have B_f0 := B.free 0 (by simp)
              have B_f1 := B.free 1 (by simp)
              have B_f2 := B.free 2 (by simp)
              have B_f3 := B.free 3 (by simp)
              have B_f4 := B.free 4 (by simp)
              have B_t := B.there
              have hq_c := ((bcell B.below).1 _ _ hb).trans hq
              go_wp2
              go_ret
              exact rpost (by rw [HW.out] <;> rfl) B.below
      · have HE := Lib.hid ((good_end HOK.out (show l.length ≤ k by omega)).trans (decide_eq_true h12))
        go_wp2
        go_ret
        exact rpost (by rw [HE.out] <;> rfl) HB0
  · have h12' : decide ((10 : Int) < l.length) = true := decide_eq_true (by omega)
    have HE := Lib.hid (good_long (l := l) (by omega))
    go_enter Try.func23, Try.ntmps23
    go_wp2
    go_ret
    exact rpost (by rw [HE.out] <;> rfl) (Below.refl _ _)
end Go.Proofs.Ytknlgdahcfgbeaa.TripG
