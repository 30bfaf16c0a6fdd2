/- Heaps: l7One, l7Good, IsHeap, areLayers, AreHeaps. -/
import Derived.Test.YtokgncbcknpfiaaDoorHeap
import Derived.Test.YtokgncbcknpfiaaDoorHeapE
import Derived.Test.YtokgncbcknpfiaaDoorWithin
namespace Go.Proofs.YtokgncbcknpfiaaDoor.HeapG
open Go.RowKit Go.Proofs.YtokgncbcknpfiaaDoor.Mem Go.Proofs.YtokgncbcknpfiaaDoor.Base Go.Proofs.YtokgncbcknpfiaaDoor.Within Go.Proofs.YtokgncbcknpfiaaDoor.SInt Go.Proofs.YtokgncbcknpfiaaDoor.Boxes Go.Proofs.YtokgncbcknpfiaaDoor.Keep Go.Proofs.YtokgncbcknpfiaaDoor.Regn Go.Proofs.YtokgncbcknpfiaaDoor.Nest Go.Proofs.YtokgncbcknpfiaaDoor.HeapS Go.Proofs.YtokgncbcknpfiaaDoor.HeapW Go.Proofs.YtokgncbcknpfiaaDoor.Heap
set_option linter.unusedVariables false
set_option maxRecDepth 100000
theorem grade_spec (x : Int) (w : World) : Calls Tryd.prog 42 #[.int .i64 x] w (BPost (inB x 1 4) w) := by
  go_enter Tryd.func42, Tryd.ntmps42
  go_wp2_with (go_at_call 43; (with_reducible refine (in_any _ _ _ _).mono ?_); rintro e' w' ⟨rfl, rfl⟩)
  go_ret
  exact bpost rfl
theorem grade_impl (x : Int) (w : World) : Calls Tryd.prog 36 #[.int .i64 x] w (BPost (inB x 1 4) w) := by
  go_enter Tryd.func36, Tryd.ntmps36
  go_wp2_with (go_at_call 38; (with_reducible refine (within_any _ _ _ _).mono ?_); rintro e' w' ⟨rfl, rfl⟩)
  go_ret
  exact bpost rfl
theorem layer_impl (x : Int) (w : World) : Calls Tryd.prog 65 #[.int .i64 x] w (BPost (inB x 1 500) w) := by
  go_enter Tryd.func65, Tryd.ntmps65
  go_wp2_with (go_at_call 38; (with_reducible refine (within_any _ _ _ _).mono ?_); rintro e' w' ⟨rfl, rfl⟩)
  go_ret
  exact bpost rfl
set_option maxHeartbeats 1600000 in
theorem one_spec (x : R) (w : World) (hr : Rd w w.heap.size x.f2.A (iv x.f2.ls)) (hn : x.f2.ls.length ≤ 1048576) :
    Calls Tryd.prog 51 #[.agg #[.int .i64 x.f0, .int .i64 x.f1, .slice x.f2.A x.f2.ls.length x.f2.cap, .bool x.f3]] w (RPost (.bool (okH x.pure)) w) := by
  obtain ⟨a, g, ⟨A, c, l⟩, q⟩ := x
  dsimp only at hr hn ⊢
  have HR := Lib.hid hr; clear hr
  have HG := Lib.hid (show okH (R.pure ⟨a, g, ⟨A, c, l⟩, q⟩) = (inB a 1 99 && inB g 1 4 && okLs l) from rfl)
  generalize okH (R.pure ⟨a, g, ⟨A, c, l⟩, q⟩) = res at HG ⊢
  have HG0 : okLs l = false → res = false := fun h => by rw [HG.out, h, Bool.and_false]
  go_enter Tryd.func51, Tryd.ntmps51
  go_upto_region 2 with fail
  have X := Box.new (Below.refl _ w) [.int .i64 a, .int .i64 g, .slice A l.length c, .bool q] 41 (g := w.heap.size) rfl
  generalize (w.alloc (.cells #[.int .i64 a, .int .i64 g, .slice A l.length c, .bool q] 41)) = W1 at X ⊢
  have X_0 := X.cells 0 _ rfl
  have X_1 := X.cells 1 _ rfl
  have X_2 := X.cells 2 _ rfl
  have X_3 := X.cells 3 _ rfl
  have X_f0 := X.free 0 (by simp)
  have X_f1 := X.free 1 (by simp)
  have X_f2 := X.free 2 (by simp)
  have X_f3 := X.free 3 (by simp)
  have X_t := X.there
  go_loopw [3] (fun i wr => ∃ k : Nat, k ≤ l.length ∧ i = .int .i64 k ∧ Hid (Ok (layAt l) k) ∧ Box w.heap.size [.int .i64 a, .int .i64 g, .slice A l.length c, .bool q] w wr) (fun i _ => l.length - (intOf i).toNat)
  case atStart => exact ⟨0, Nat.zero_le _, rfl, Lib.hid (Ok.zero _), X⟩
  case round =>
    clear X
    obtain ⟨k, hk, rfl, HOK, X⟩ := hrel
    by_cases hlt : k < l.length
    · obtain ⟨b, o, rfl, hb, hc⟩ := HR.out.at (k := k) (by rw [iv_len]; exact hlt)
      obtain ⟨y, hy⟩ : ∃ y, l[k] = y := ⟨_, rfl⟩
      have h0 : w.cell? ⟨b, o + k, none⟩ = some (.int .i64 y) := by rw [← hy]; exact hc k _ (iv_get l k hlt)
      have HY := Lib.hid hy; clear hy
      have HL := Lib.hid hlt
      have X_0 := X.cells 0 _ rfl
      have X_1 := X.cells 1 _ rfl
      have X_2 := X.cells 2 _ rfl
      have X_3 := X.cells 3 _ rfl
      have X_f0 := X.free 0 (by simp)
      have X_f1 := X.free 1 (by simp)
      have X_f2 := X.free 2 (by simp)
      have X_f3 := X.free 3 (by simp)
      have X_t := X.there
      cases hok : inB y 1 500
      · have HF := Lib.hid (HG0 (okLs_no HL.out (lay_bad HL.out HY.out hok)))
        clear hc HG0
        go_wp2_with fail
        have h0_c := ((bcell X.below).1 _ _ hb).trans h0
        refine wp_region_text (fun w' => Box (w.heap.size) [.int .i64 a, .int .i64 g, .slice (some ⟨b, o, none⟩) l.length c, .bool q] w w') (by kernel_rfl) (by kernel_rfl) (X.drew) ?_
        clear X_0 X_1 X_2 X_3 X_f0 X_f1 X_f2 X_f3 X_t
        clear h0_c
        iterate 25 (
          apply SeqH.one
          · intro uw K hS hK
            have qX := hS
            have qX_0 := qX.cells 0 _ rfl
            have qX_1 := qX.cells 1 _ rfl
            have qX_2 := qX.cells 2 _ rfl
            have qX_3 := qX.cells 3 _ rfl
            have qh0_c := ((bcell qX.below).1 _ _ hb).trans h0
            first
              | (go_simp; exact hK.out _ qX)
              | (go_simp; go_at_call 43; (with_reducible refine (in_any _ _ _ _).mono ?_); rintro e _ ⟨rfl, rfl⟩; rw [hok]; go_wp2_with fail; exact hK.out _ qX)
          try simp only [Act.put, List.setIfInBounds_toArray, List.set_cons_zero, List.set_cons_succ])
        refine SeqH.end' rfl ?_
        intro v2 hS
        clear X
        have X := hS; clear hS
        have X_0 := X.cells 0 _ rfl
        have X_1 := X.cells 1 _ rfl
        have X_2 := X.cells 2 _ rfl
        have X_3 := X.cells 3 _ rfl
        have X_f0 := X.free 0 (by simp)
        have X_f1 := X.free 1 (by simp)
        have X_f2 := X.free 2 (by simp)
        have X_f3 := X.free 3 (by simp)
        have X_t := X.there
        have h0_c := ((bcell X.below).1 _ _ hb).trans h0
        go_wp2
        go_ret
        exact rpost (by rw [HF.out] <;> rfl) X.below
      rcases Nat.eq_zero_or_pos k with hz | hz
      · clear hc
        have HN := Lib.hid (show Ok (layAt l) (k + 1) by subst hz; exact HOK.out.next (lay_zero HL.out HY.out hok))
        have hz1 : decide ((0 : Int) < k) = false := decide_eq_false (by omega)
        have hz2 : decide (0 < k) = false := decide_eq_false (by omega)
        have HZ := Lib.hid hz; clear hz
        replace HG0 := Lib.hid HG0
        go_wp2_with fail
        have h0_c := ((bcell X.below).1 _ _ hb).trans h0
        refine wp_region_text (fun w' => Box (w.heap.size) [.int .i64 a, .int .i64 g, .slice (some ⟨b, o, none⟩) l.length c, .bool q] w w') (by kernel_rfl) (by kernel_rfl) (X.drew) ?_
        clear X_0 X_1 X_2 X_3 X_f0 X_f1 X_f2 X_f3 X_t
        clear h0_c
        iterate 25 (
          apply SeqH.one
          · intro uw K hS hK
            have qX := hS
            have qX_0 := qX.cells 0 _ rfl
            have qX_1 := qX.cells 1 _ rfl
            have qX_2 := qX.cells 2 _ rfl
            have qX_3 := qX.cells 3 _ rfl
            have qh0_c := ((bcell qX.below).1 _ _ hb).trans h0
            first
              | (go_simp; exact hK.out _ qX)
              | (go_simp; go_at_call 43; (with_reducible refine (in_any _ _ _ _).mono ?_); rintro e _ ⟨rfl, rfl⟩; rw [hok]; go_wp2_with fail; exact hK.out _ qX)
          try simp only [Act.put, List.setIfInBounds_toArray, List.set_cons_zero, List.set_cons_succ])
        refine SeqH.end' rfl ?_
        intro v3 hS
        clear X
        have X := hS; clear hS
        have X_0 := X.cells 0 _ rfl
        have X_1 := X.cells 1 _ rfl
        have X_2 := X.cells 2 _ rfl
        have X_3 := X.cells 3 _ rfl
        have X_f0 := X.free 0 (by simp)
        have X_f1 := X.free 1 (by simp)
        have X_f2 := X.free 2 (by simp)
        have X_f3 := X.free 3 (by simp)
        have X_t := X.there
        have h0_c := ((bcell X.below).1 _ _ hb).trans h0
        go_wp2
        go_roundw
        case rel => exact ⟨k + 1, HL.out, by go_num, HN, X⟩
        case measure => have := HL.out; simp [intOf]; omega
      · obtain ⟨j, rfl⟩ : ∃ j, k = j + 1 := ⟨k - 1, by omega⟩
        obtain ⟨p, hp⟩ : ∃ p, l[j] = p := ⟨_, rfl⟩
        have hq : w.cell? ⟨b, o + j, none⟩ = some (.int .i64 p) := by rw [← hp]; exact hc _ _ (iv_get l j (by omega))
        have HP := Lib.hid hp; clear hp hc hz
        have q1 : (0 : Int) < (j : Int) + 1 := by omega
        have q2 : IntKind.i64.wrap (j : Int) = j := IntWalk.i64_in _ (by omega)
        have q3 : j < l.length := by omega
        by_cases hlow : y ≤ p
        · have hle : decide (p < y) = false := decide_eq_false (by omega)
          have HN := Lib.hid (HOK.out.next (lay_yes HL.out HY.out hok (by rw [HP.out]; exact hlow)))
          clear hlow
          replace HG0 := Lib.hid HG0
          go_wp2_with fail
          have h0_c := ((bcell X.below).1 _ _ hb).trans h0
          have hq_c := ((bcell X.below).1 _ _ hb).trans hq
          refine wp_region_text (fun w' => Box (w.heap.size) [.int .i64 a, .int .i64 g, .slice (some ⟨b, o, none⟩) l.length c, .bool q] w w') (by kernel_rfl) (by kernel_rfl) (X.drew) ?_
          clear X_0 X_1 X_2 X_3 X_f0 X_f1 X_f2 X_f3 X_t
          clear h0_c
          clear hq_c
          iterate 25 (
            apply SeqH.one
            · intro uw K hS hK
              have qX := hS
              have qX_0 := qX.cells 0 _ rfl
              have qX_1 := qX.cells 1 _ rfl
              have qX_2 := qX.cells 2 _ rfl
              have qX_3 := qX.cells 3 _ rfl
              have qh0_c := ((bcell qX.below).1 _ _ hb).trans h0
              have qhq_c := ((bcell qX.below).1 _ _ hb).trans hq
              first
                | (go_simp; exact hK.out _ qX)
                | (go_simp; go_at_call 43; (with_reducible refine (in_any _ _ _ _).mono ?_); rintro e _ ⟨rfl, rfl⟩; rw [hok]; go_wp2_with fail; exact hK.out _ qX)
            try simp only [Act.put, List.setIfInBounds_toArray, List.set_cons_zero, List.set_cons_succ])
          refine SeqH.end' rfl ?_
          intro v4 hS
          clear X
          have X := hS; clear hS
          have X_0 := X.cells 0 _ rfl
          have X_1 := X.cells 1 _ rfl
          have X_2 := X.cells 2 _ rfl
          have X_3 := X.cells 3 _ rfl
          have X_f0 := X.free 0 (by simp)
          have X_f1 := X.free 1 (by simp)
          have X_f2 := X.free 2 (by simp)
          have X_f3 := X.free 3 (by simp)
          have X_t := X.there
          have h0_c := ((bcell X.below).1 _ _ hb).trans h0
          have hq_c := ((bcell X.below).1 _ _ hb).trans hq
          go_wp2
          go_roundw
          case rel => exact ⟨j + 1 + 1, HL.out, by go_num, HN, X⟩
          case measure => have := HL.out; simp [intOf]; omega
        · have HW := Lib.hid (HG0 (okLs_no HL.out (lay_high HL.out HY.out (by rw [HP.out]; omega))))
          have hle : decide (p < y) = true := decide_eq_true (by omega)
          clear hlow HP HG0
          go_wp2_with fail
          have h0_c := ((bcell X.below).1 _ _ hb).trans h0
          have hq_c := ((bcell X.below).1 _ _ hb).trans hq
          refine wp_region_text (fun w' => Box (w.heap.size) [.int .i64 a, .int .i64 g, .slice (some ⟨b, o, none⟩) l.length c, .bool q] w w') (by kernel_rfl) (by kernel_rfl) (X.drew) ?_
          clear X_0 X_1 X_2 X_3 X_f0 X_f1 X_f2 X_f3 X_t
          clear h0_c
          clear hq_c
          iterate 25 (
            apply SeqH.one
            · intro uw K hS hK
              have qX := hS
              have qX_0 := qX.cells 0 _ rfl
              have qX_1 := qX.cells 1 _ rfl
              have qX_2 := qX.cells 2 _ rfl
              have qX_3 := qX.cells 3 _ rfl
              have qh0_c := ((bcell qX.below).1 _ _ hb).trans h0
              have qhq_c := ((bcell qX.below).1 _ _ hb).trans hq
              first
                | (go_simp; exact hK.out _ qX)
                | (go_simp; go_at_call 43; (with_reducible refine (in_any _ _ _ _).mono ?_); rintro e _ ⟨rfl, rfl⟩; rw [hok]; go_wp2_with fail; exact hK.out _ qX)
            try simp only [Act.put, List.setIfInBounds_toArray, List.set_cons_zero, List.set_cons_succ])
          refine SeqH.end' rfl ?_
          intro v5 hS
          clear X
          have X := hS; clear hS
          have X_0 := X.cells 0 _ rfl
          have X_1 := X.cells 1 _ rfl
          have X_2 := X.cells 2 _ rfl
          have X_3 := X.cells 3 _ rfl
          have X_f0 := X.free 0 (by simp)
          have X_f1 := X.free 1 (by simp)
          have X_f2 := X.free 2 (by simp)
          have X_f3 := X.free 3 (by simp)
          have X_t := X.there
          have h0_c := ((bcell X.below).1 _ _ hb).trans h0
          have hq_c := ((bcell X.below).1 _ _ hb).trans hq
          go_wp2
          go_ret
          exact rpost (by rw [HW.out] <;> rfl) X.below
    · have HE := Lib.hid (okLs_end HOK.out (show l.length ≤ k by omega))
      have HV := Lib.hid (show res = (inB a 1 99 && inB g 1 4 && decide ((l.length : Int) ≤ 12)) by rw [HG.out, HE.out]; congr 1; apply decide_eq_decide.2; omega)
      clear HG0
      have X_0 := X.cells 0 _ rfl
      have X_1 := X.cells 1 _ rfl
      have X_2 := X.cells 2 _ rfl
      have X_3 := X.cells 3 _ rfl
      have X_f0 := X.free 0 (by simp)
      have X_f1 := X.free 1 (by simp)
      have X_f2 := X.free 2 (by simp)
      have X_f3 := X.free 3 (by simp)
      have X_t := X.there
      cases h1 : inB a 1 99
      all_goals cases h2 : inB g 1 4
      all_goals
        go_wp2_with (first | (go_at_call 43; (with_reducible refine (in_any _ _ _ _).mono ?_); rintro e' w' ⟨rfl, rfl⟩) | (go_at_call 42; (with_reducible refine (grade_spec _ _).mono ?_); rintro e' w' ⟨rfl, rfl⟩))
        go_ret
        exact rpost (by rw [HV.out, h1, h2] <;> simp) X.below
theorem pl_x {l : List R} {k : Nat} {x : R} (hk : k < l.length) (hx : l[k] = x) : (pl l)[k]'(by rw [pl_len]; exact hk) = x.pure := by rw [pl_get l k hk, hx]
theorem pl_lt {l : List R} {k : Nat} (hk : k < l.length) : k < (pl l).length := by rw [pl_len]; exact hk
theorem hs_at {w W : World} {A : Option Addr} {l : List R} (h : Hs w w.heap.size A l) (HB : Below w.heap.size w W) {k : Nat} {x : R} (hk : k < l.length) (hx : l[k] = x) :
    ∃ b o, A = some ⟨b, o, none⟩ ∧ b < w.heap.size ∧ W.cell? ⟨b, o + k * 4, none⟩ = some (.int .i64 x.f0) ∧ W.cell? ⟨b, o + k * 4 + 1, none⟩ = some (.int .i64 x.f1) ∧
      W.cell? ⟨b, o + k * 4 + 2, none⟩ = some (.slice x.f2.A x.f2.ls.length x.f2.cap) ∧ W.cell? ⟨b, o + k * 4 + 3, none⟩ = some (.bool x.f3) := (h.below HB (Nat.le_refl _)).at hk hx
theorem hs_row {w : World} {A : Option Addr} {l : List R} (h : Hs w w.heap.size A l) {k : Nat} {x : R} (hk : k < l.length) (hx : l[k] = x) : Rd w w.heap.size x.f2.A (iv x.f2.ls) ∧ x.f2.ls.length ≤ 1048576 := by
  subst hx; exact h.row hk
set_option maxHeartbeats 1600000 in
theorem good_spec (P : Option Addr) (cap : Nat) (l : List R) (w : World) (hr : Hs w w.heap.size P l) :
    Calls Tryd.prog 41 #[.slice P l.length cap] w (RPost (.bool (good (pl l))) w) := by
  have hn := hr.len
  have HR := Lib.hid hr; clear hr
  have HPL := Lib.hid (pl_len l)
  go_enter Tryd.func41, Tryd.ntmps41
  go_wp2
  go_loopw [3] (fun i wr => ∃ k : Nat, k ≤ l.length ∧ i = .int .i64 k ∧ Hid (Ok (goodAt (pl l)) k) ∧ Below w.heap.size w wr) (fun i _ => l.length - (intOf i).toNat)
  case atStart => exact ⟨0, Nat.zero_le _, rfl, Lib.hid (Ok.zero _), Below.refl _ _⟩
  case round =>
    obtain ⟨k, hk, rfl, HOK, HB⟩ := hrel
    by_cases hlt : k < l.length
    · obtain ⟨x, hx⟩ : ∃ x, l[k] = x := ⟨_, rfl⟩
      obtain ⟨b, o, rfl, hb, h0, h1, h2, h3⟩ := hs_at HR.out (Below.refl _ _) hlt hx
      have hrow := hs_row HR.out hlt hx
      have HRX := Lib.hid hrow.1; have HNX := Lib.hid hrow.2; clear hrow
      have HX := Lib.hid (pl_x hlt hx); clear hx
      have HL := Lib.hid hlt
      cases hok : okH x.pure
      · have HF := Lib.hid (good_no (pl_lt HL.out) (at_bad (pl_lt HL.out) HX.out hok))
        go_wp2_with fail
        have h0_c := ((bcell HB).1 _ _ hb).trans h0
        have h1_c := ((bcell HB).1 _ _ hb).trans h1
        have h2_c := ((bcell HB).1 _ _ hb).trans h2
        have h3_c := ((bcell HB).1 _ _ hb).trans h3
        refine wp_region_text (fun w' => Below w.heap.size w w') (by kernel_rfl) (by kernel_rfl) (be HB (Below.refl _ _).drew) ?_
        clear h0_c
        clear h1_c
        clear h2_c
        clear h3_c
        iterate 24 (
          apply SeqH.one
          · intro uw K hS hK
            have qHB := hS
            have qh0_c := ((bcell qHB).1 _ _ hb).trans h0
            have qh1_c := ((bcell qHB).1 _ _ hb).trans h1
            have qh2_c := ((bcell qHB).1 _ _ hb).trans h2
            have qh3_c := ((bcell qHB).1 _ _ hb).trans h3
            first
              | (go_simp; exact hK.out _ qHB)
              | (go_simp; go_at_call 51; (with_reducible refine (one_spec x _ (rd_keep HRX.out qHB) HNX.out).mono ?_); rintro e uw1 ⟨rfl, hv⟩; rw [hok]; go_wp2_with fail; exact hK.out _ (be qHB hv))
          try simp only [Act.put, List.setIfInBounds_toArray, List.set_cons_zero, List.set_cons_succ])
        refine SeqH.end' rfl ?_
        intro v1 hS
        clear HB
        have HB := hS; clear hS
        have h0_c := ((bcell HB).1 _ _ hb).trans h0
        have h1_c := ((bcell HB).1 _ _ hb).trans h1
        have h2_c := ((bcell HB).1 _ _ hb).trans h2
        have h3_c := ((bcell HB).1 _ _ hb).trans h3
        go_wp2
        go_ret
        exact rpost (by rw [HF.out] <;> rfl) HB
      rcases Nat.eq_zero_or_pos k with hz | hz
      · have HN := Lib.hid (show Ok (goodAt (pl l)) (k + 1) by subst hz; exact HOK.out.next (at_zero (pl_lt HL.out) HX.out hok))
        have hz1 : decide ((0 : Int) < k) = false := decide_eq_false (by omega)
        have hz2 : decide (0 < k) = false := decide_eq_false (by omega)
        have HZ := Lib.hid hz; clear hz
        go_wp2_with fail
        have h0_c := ((bcell HB).1 _ _ hb).trans h0
        have h1_c := ((bcell HB).1 _ _ hb).trans h1
        have h2_c := ((bcell HB).1 _ _ hb).trans h2
        have h3_c := ((bcell HB).1 _ _ hb).trans h3
        refine wp_region_text (fun w' => Below w.heap.size w w') (by kernel_rfl) (by kernel_rfl) (be HB (Below.refl _ _).drew) ?_
        clear h0_c
        clear h1_c
        clear h2_c
        clear h3_c
        iterate 24 (
          apply SeqH.one
          · intro uw K hS hK
            have qHB := hS
            have qh0_c := ((bcell qHB).1 _ _ hb).trans h0
            have qh1_c := ((bcell qHB).1 _ _ hb).trans h1
            have qh2_c := ((bcell qHB).1 _ _ hb).trans h2
            have qh3_c := ((bcell qHB).1 _ _ hb).trans h3
            first
              | (go_simp; exact hK.out _ qHB)
              | (go_simp; go_at_call 51; (with_reducible refine (one_spec x _ (rd_keep HRX.out qHB) HNX.out).mono ?_); rintro e uw1 ⟨rfl, hv⟩; rw [hok]; go_wp2_with fail; exact hK.out _ (be qHB hv))
          try simp only [Act.put, List.setIfInBounds_toArray, List.set_cons_zero, List.set_cons_succ])
        refine SeqH.end' rfl ?_
        intro v2 hS
        clear HB
        have HB := hS; clear hS
        have h0_c := ((bcell HB).1 _ _ hb).trans h0
        have h1_c := ((bcell HB).1 _ _ hb).trans h1
        have h2_c := ((bcell HB).1 _ _ hb).trans h2
        have h3_c := ((bcell HB).1 _ _ hb).trans h3
        go_wp2
        go_roundw
        case rel => exact ⟨k + 1, HL.out, by go_num, HN, HB⟩
        case measure => have := HL.out; simp [intOf]; omega
      · obtain ⟨j, rfl⟩ : ∃ j, k = j + 1 := ⟨k - 1, by omega⟩
        have hj : j < l.length := by omega
        obtain ⟨y, hy⟩ : ∃ y, l[j] = y := ⟨_, rfl⟩
        obtain ⟨b', o', hA, hb', hq, _⟩ := hs_at HR.out (Below.refl _ _) hj hy
        obtain ⟨rfl, rfl⟩ : b = b' ∧ o = o' := by injection hA with hA; injection hA with e1 e2 _; exact ⟨e1, e2⟩
        have HY := Lib.hid (pl_x hj hy); clear hy hA hb' hz
        have q1 : (0 : Int) < (j : Int) + 1 := by omega
        have q2 : IntKind.i64.wrap (j : Int) = j := IntWalk.i64_in _ (by omega)
        by_cases hlow : y.f0 < x.f0
        · have hle : decide (x.f0 ≤ y.f0) = false := decide_eq_false (by omega)
          have HN := Lib.hid (HOK.out.next (at_yes (pl_lt HL.out) HX.out hok (by rw [HY.out]; exact hlow)))
          clear hlow
          go_wp2_with fail
          have h0_c := ((bcell HB).1 _ _ hb).trans h0
          have h1_c := ((bcell HB).1 _ _ hb).trans h1
          have h2_c := ((bcell HB).1 _ _ hb).trans h2
          have h3_c := ((bcell HB).1 _ _ hb).trans h3
          have hq_c := ((bcell HB).1 _ _ hb).trans hq
          refine wp_region_text (fun w' => Below w.heap.size w w') (by kernel_rfl) (by kernel_rfl) (be HB (Below.refl _ _).drew) ?_
          clear h0_c
          clear h1_c
          clear h2_c
          clear h3_c
          clear hq_c
          iterate 24 (
            apply SeqH.one
            · intro uw K hS hK
              have qHB := hS
              have qh0_c := ((bcell qHB).1 _ _ hb).trans h0
              have qh1_c := ((bcell qHB).1 _ _ hb).trans h1
              have qh2_c := ((bcell qHB).1 _ _ hb).trans h2
              have qh3_c := ((bcell qHB).1 _ _ hb).trans h3
              have qhq_c := ((bcell qHB).1 _ _ hb).trans hq
              first
                | (go_simp; exact hK.out _ qHB)
                | (go_simp; go_at_call 51; (with_reducible refine (one_spec x _ (rd_keep HRX.out qHB) HNX.out).mono ?_); rintro e uw1 ⟨rfl, hv⟩; rw [hok]; go_wp2_with fail; exact hK.out _ (be qHB hv))
            try simp only [Act.put, List.setIfInBounds_toArray, List.set_cons_zero, List.set_cons_succ])
          refine SeqH.end' rfl ?_
          intro v3 hS
          clear HB
          have HB := hS; clear hS
          have h0_c := ((bcell HB).1 _ _ hb).trans h0
          have h1_c := ((bcell HB).1 _ _ hb).trans h1
          have h2_c := ((bcell HB).1 _ _ hb).trans h2
          have h3_c := ((bcell HB).1 _ _ hb).trans h3
          have hq_c := ((bcell HB).1 _ _ hb).trans hq
          go_wp2
          go_roundw
          case rel => exact ⟨j + 1 + 1, HL.out, by go_num, HN, HB⟩
          case measure => have := HL.out; simp [intOf]; omega
        · have HW := Lib.hid (good_no (pl_lt HL.out) (at_low (pl_lt HL.out) HX.out (by rw [HY.out]; exact hlow)))
          have hle : decide (x.f0 ≤ y.f0) = true := decide_eq_true (by omega)
          clear hlow
          go_wp2_with fail
          have h0_c := ((bcell HB).1 _ _ hb).trans h0
          have h1_c := ((bcell HB).1 _ _ hb).trans h1
          have h2_c := ((bcell HB).1 _ _ hb).trans h2
          have h3_c := ((bcell HB).1 _ _ hb).trans h3
          have hq_c := ((bcell HB).1 _ _ hb).trans hq
          refine wp_region_text (fun w' => Below w.heap.size w w') (by kernel_rfl) (by kernel_rfl) (be HB (Below.refl _ _).drew) ?_
          clear h0_c
          clear h1_c
          clear h2_c
          clear h3_c
          clear hq_c
          iterate 24 (
            apply SeqH.one
            · intro uw K hS hK
              have qHB := hS
              have qh0_c := ((bcell qHB).1 _ _ hb).trans h0
              have qh1_c := ((bcell qHB).1 _ _ hb).trans h1
              have qh2_c := ((bcell qHB).1 _ _ hb).trans h2
              have qh3_c := ((bcell qHB).1 _ _ hb).trans h3
              have qhq_c := ((bcell qHB).1 _ _ hb).trans hq
              first
                | (go_simp; exact hK.out _ qHB)
                | (go_simp; go_at_call 51; (with_reducible refine (one_spec x _ (rd_keep HRX.out qHB) HNX.out).mono ?_); rintro e uw1 ⟨rfl, hv⟩; rw [hok]; go_wp2_with fail; exact hK.out _ (be qHB hv))
            try simp only [Act.put, List.setIfInBounds_toArray, List.set_cons_zero, List.set_cons_succ])
          refine SeqH.end' rfl ?_
          intro v4 hS
          clear HB
          have HB := hS; clear hS
          have h0_c := ((bcell HB).1 _ _ hb).trans h0
          have h1_c := ((bcell HB).1 _ _ hb).trans h1
          have h2_c := ((bcell HB).1 _ _ hb).trans h2
          have h3_c := ((bcell HB).1 _ _ hb).trans h3
          have hq_c := ((bcell HB).1 _ _ hb).trans hq
          go_wp2
          go_ret
          exact rpost (by rw [HW.out] <;> rfl) HB
    · have HE := Lib.hid ((good_end HOK.out (show (pl l).length ≤ k by rw [HPL.out]; omega)).trans (show decide ((pl l).length ≤ 10) = decide ((l.length : Int) ≤ 10) by rw [HPL.out]; apply decide_eq_decide.2; omega))
      go_wp2
      go_ret
      exact rpost (by rw [HE.out] <;> simp) HB
set_option maxHeartbeats 1600000 in
theorem lays_impl (A : Option Addr) (c : Nat) (l : List Int) (w : World) (hr : Rd w w.heap.size A (iv l)) (hn : l.length ≤ 1048576) :
    Calls Tryd.prog 53 #[.slice A l.length c] w (RPost (.bool (okLs l)) w) := by
  have HR := Lib.hid hr; clear hr
  by_cases h12 : l.length ≤ 12
  · have h12' : decide ((12 : Int) < l.length) = false := decide_eq_false (by omega)
    go_enter Tryd.func53, Tryd.ntmps53
    go_wp2
    go_loopw [10] (fun i wr => ∃ k : Nat, k ≤ l.length ∧ i = .int .i64 k ∧ Hid (Ok (layAt l) k) ∧ Below w.heap.size w wr) (fun i _ => l.length - (intOf i).toNat)
    case atStart => exact ⟨0, Nat.zero_le _, rfl, Lib.hid (Ok.zero _), Below.refl _ _⟩
    case round =>
      obtain ⟨k, hk, rfl, HOK, HB⟩ := hrel
      by_cases hlt : k < l.length
      · obtain ⟨b, o, rfl, hb, hc⟩ := HR.out.at (k := k) (by rw [iv_len]; exact hlt)
        obtain ⟨y, hy⟩ : ∃ y, l[k] = y := ⟨_, rfl⟩
        have h0 : wr.cell? ⟨b, o + k, none⟩ = some (.int .i64 y) := ((bcell HB).1 _ _ hb).trans (by rw [← hy]; exact hc k _ (iv_get l k hlt))
        have HY := Lib.hid hy; clear hy
        have HL := Lib.hid hlt
        cases hok : inB y 1 500
        · have HF := Lib.hid (okLs_no HL.out (lay_bad HL.out HY.out hok))
          clear hc
          go_wp2_with (go_at_call 65; (with_reducible refine (layer_impl _ _).mono ?_); rintro e' w' ⟨rfl, rfl⟩; try rw [hok])
          go_ret
          exact rpost (by rw [HF.out] <;> rfl) HB
        rcases Nat.eq_zero_or_pos k with hz | hz
        · clear hc
          have HN := Lib.hid (show Ok (layAt l) (k + 1) by subst hz; exact HOK.out.next (lay_zero HL.out HY.out hok))
          have hz1 : decide ((0 : Int) < k) = false := decide_eq_false (by omega)
          have hz2 : decide (0 < k) = false := decide_eq_false (by omega)
          have HZ := Lib.hid hz; clear hz
          go_wp2_with (go_at_call 65; (with_reducible refine (layer_impl _ _).mono ?_); rintro e' w' ⟨rfl, rfl⟩; try rw [hok])
          go_roundw
          case rel => exact ⟨k + 1, HL.out, by go_num, HN, HB⟩
          case measure => have := HL.out; simp [intOf]; omega
        · obtain ⟨j, rfl⟩ : ∃ j, k = j + 1 := ⟨k - 1, by omega⟩
          obtain ⟨p, hp⟩ : ∃ p, l[j] = p := ⟨_, rfl⟩
          have hq : wr.cell? ⟨b, o + j, none⟩ = some (.int .i64 p) := ((bcell HB).1 _ _ hb).trans (by rw [← hp]; exact hc _ _ (iv_get l j (by omega)))
          have HP := Lib.hid hp; clear hp hc hz
          have q1 : (0 : Int) < (j : Int) + 1 := by omega
          have q2 : IntKind.i64.wrap (j : Int) = j := IntWalk.i64_in _ (by omega)
          have q3 : j < l.length := by omega
          by_cases hlow : y ≤ p
          · have hle : decide (p < y) = false := decide_eq_false (by omega)
            have HN := Lib.hid (HOK.out.next (lay_yes HL.out HY.out hok (by rw [HP.out]; exact hlow)))
            clear hlow
            go_wp2_with (go_at_call 65; (with_reducible refine (layer_impl _ _).mono ?_); rintro e' w' ⟨rfl, rfl⟩; try rw [hok])
            go_roundw
            case rel => exact ⟨j + 1 + 1, HL.out, by go_num, HN, HB⟩
            case measure => have := HL.out; simp [intOf]; omega
          · have HW := Lib.hid (okLs_no HL.out (lay_high HL.out HY.out (by rw [HP.out]; omega)))
            have hle : decide (p < y) = true := decide_eq_true (by omega)
            clear hlow HP
            go_wp2_with (go_at_call 65; (with_reducible refine (layer_impl _ _).mono ?_); rintro e' w' ⟨rfl, rfl⟩; try rw [hok])
            go_ret
            exact rpost (by rw [HW.out] <;> rfl) HB
      · have HE := Lib.hid ((okLs_end HOK.out (show l.length ≤ k by omega)).trans (decide_eq_true h12))
        go_wp2
        go_ret
        exact rpost (by rw [HE.out] <;> rfl) HB
  · have h12' : decide ((12 : Int) < l.length) = true := decide_eq_true (by omega)
    have HE := Lib.hid (okLs_long (ls := l) (by omega))
    go_enter Tryd.func53, Tryd.ntmps53
    go_wp2
    go_ret
    exact rpost (by rw [HE.out] <;> rfl) (Below.refl _ _)
set_option maxHeartbeats 800000 in
theorem one_impl (x : R) (w : World) (hr : Rd w w.heap.size x.f2.A (iv x.f2.ls)) (hn : x.f2.ls.length ≤ 1048576) :
    Calls Tryd.prog 22 #[.agg #[.int .i64 x.f0, .int .i64 x.f1, .slice x.f2.A x.f2.ls.length x.f2.cap, .bool x.f3]] w (RPost (.bool (okH x.pure)) w) := by
  obtain ⟨a, g, ⟨A, c, l⟩, q⟩ := x
  dsimp only at hr hn ⊢
  have HR := Lib.hid hr; clear hr
  have HG := Lib.hid (show okH (R.pure ⟨a, g, ⟨A, c, l⟩, q⟩) = (inB a 1 99 && inB g 1 4 && okLs l) from rfl)
  generalize okH (R.pure ⟨a, g, ⟨A, c, l⟩, q⟩) = res at HG ⊢
  have HB := al (Below.refl w.heap.size w) (o := .cells #[.int .i64 a, .int .i64 g, .slice A l.length c, .bool q] 41)
  have HB0 := Lib.hid HB
  cases h1 : inB a 1 99
  · go_enter Tryd.func22, Tryd.ntmps22
    go_wp2_with (go_at_call 38; (with_reducible refine (within_any _ _ _ _).mono ?_); rintro e' w' ⟨rfl, rfl⟩; try rw [h1])
    go_ret
    exact rpost (by rw [HG.out, h1] <;> rfl) HB
  cases h2 : inB g 1 4
  · go_enter Tryd.func22, Tryd.ntmps22
    go_wp2_with (first | (go_at_call 38; (with_reducible refine (within_any _ _ _ _).mono ?_); rintro e' w' ⟨rfl, rfl⟩; try rw [h1]) | (go_at_call 36; (with_reducible refine (grade_impl _ _).mono ?_); rintro e' w' ⟨rfl, rfl⟩; try rw [h2]))
    go_ret
    exact rpost (by rw [HG.out, h1, h2] <;> rfl) HB
  go_enter Tryd.func22, Tryd.ntmps22
  go_wp2_with (first | (go_at_call 38; (with_reducible refine (within_any _ _ _ _).mono ?_); rintro e' w' ⟨rfl, rfl⟩; try rw [h1]) | (go_at_call 36; (with_reducible refine (grade_impl _ _).mono ?_); rintro e' w' ⟨rfl, rfl⟩; try rw [h2]))
  refine (lays_impl A c l _ (rd_keep HR.out HB) hn).mono ?_
  rintro e w2 ⟨rfl, hB2⟩
  replace HB := be HB hB2
  go_wp2
  go_ret
  exact rpost (by rw [HG.out, h1, h2] <;> rfl) HB
set_option maxHeartbeats 1600000 in
theorem are_impl (P : Option Addr) (cap : Nat) (l : List R) (w : World) (hr : Hs w w.heap.size P l) :
    Calls Tryd.prog 11 #[.slice P l.length cap] w (RPost (.bool (good (pl l))) w) := by
  have hn := hr.len
  have HR := Lib.hid hr; clear hr
  have HPL := Lib.hid (pl_len l)
  by_cases h12 : l.length ≤ 10
  · have h12' : decide ((10 : Int) < l.length) = false := decide_eq_false (by omega)
    go_enter Tryd.func11, Tryd.ntmps11
    go_wp2
    go_loopw [10] (fun i wr => ∃ k : Nat, k ≤ l.length ∧ i = .int .i64 k ∧ Hid (Ok (goodAt (pl l)) k) ∧ Below w.heap.size w wr) (fun i _ => l.length - (intOf i).toNat)
    case atStart => exact ⟨0, Nat.zero_le _, rfl, Lib.hid (Ok.zero _), Below.refl _ _⟩
    case round =>
      obtain ⟨k, hk, rfl, HOK, HB0⟩ := hrel
      by_cases hlt : k < l.length
      · obtain ⟨x, hx⟩ : ∃ x, l[k] = x := ⟨_, rfl⟩
        obtain ⟨b, o, rfl, hb, h0, h1, h2, h3⟩ := hs_at HR.out HB0 hlt hx
        have hrow := hs_row HR.out hlt hx
        have HRX := Lib.hid hrow.1; have HNX := Lib.hid hrow.2; clear hrow
        have HX := Lib.hid (pl_x hlt hx); clear hx
        have HL := Lib.hid hlt
        go_wp2_with fail
        have B := Box.new HB0 [.int .i64 x.f0, .int .i64 x.f1, .slice x.f2.A x.f2.ls.length x.f2.cap, .bool x.f3] 41 (g := wr.heap.size) rfl
        replace HB0 := be HB0 (al (Below.refl _ _) (o := (.cells #[.int .i64 x.f0, .int .i64 x.f1, .slice x.f2.A x.f2.ls.length x.f2.cap, .bool x.f3] 41)))
        generalize (wr.alloc (.cells #[.int .i64 x.f0, .int .i64 x.f1, .slice x.f2.A x.f2.ls.length x.f2.cap, .bool x.f3] 41)) = W1 at B HB0 ⊢
        have B_0 := B.cells 0 _ rfl
        have B_1 := B.cells 1 _ rfl
        have B_2 := B.cells 2 _ rfl
        have B_3 := B.cells 3 _ rfl
        have B_f0 := B.free 0 (by simp)
        have B_f1 := B.free 1 (by simp)
        have B_f2 := B.free 2 (by simp)
        have B_f3 := B.free 3 (by simp)
        have B_t := B.there
        clear h0 h1 h2 h3
        cases hok : okH x.pure
        · have HF := Lib.hid (good_no (pl_lt HL.out) (at_bad (pl_lt HL.out) HX.out hok))
          refine wp_region_text (fun w' => Box (wr.heap.size) [.int .i64 x.f0, .int .i64 x.f1, .slice x.f2.A x.f2.ls.length x.f2.cap, .bool x.f3] w w' ∧ Below w.heap.size w w') (by kernel_rfl) (by kernel_rfl) ⟨B.drew, be HB0 (Below.refl _ _).drew⟩ ?_
          clear B_0 B_1 B_2 B_3 B_f0 B_f1 B_f2 B_f3 B_t
          iterate 18 (
            apply SeqH.one
            · intro uw K hS hK
              obtain ⟨qB, qHB0⟩ := hS
              have qB_0 := qB.cells 0 _ rfl
              have qB_1 := qB.cells 1 _ rfl
              have qB_2 := qB.cells 2 _ rfl
              have qB_3 := qB.cells 3 _ rfl
              first
                | (go_simp; exact hK.out _ ⟨qB, qHB0⟩)
                | (go_simp; go_at_call 22; (with_reducible refine (one_impl x _ (rd_keep HRX.out qB.below) HNX.out).mono ?_); rintro e uw1 ⟨rfl, hv⟩; rw [hok]; go_wp2_with fail; exact hK.out _ ⟨qB.more hv, be qHB0 hv⟩)
            try simp only [Act.put, List.setIfInBounds_toArray, List.set_cons_zero, List.set_cons_succ])
          refine SeqH.end' rfl ?_
          intro v2 hS
          clear B HB0
          obtain ⟨B, HB0⟩ := hS
          have B_0 := B.cells 0 _ rfl
          have B_1 := B.cells 1 _ rfl
          have B_2 := B.cells 2 _ rfl
          have B_3 := B.cells 3 _ rfl
          have B_f0 := B.free 0 (by simp)
          have B_f1 := B.free 1 (by simp)
          have B_f2 := B.free 2 (by simp)
          have B_f3 := B.free 3 (by simp)
          have B_t := B.there
          go_wp2
          go_ret
          exact rpost (by rw [HF.out] <;> rfl) B.below
        rcases Nat.eq_zero_or_pos k with hz | hz
        · subst hz
          have HN := Lib.hid (HOK.out.next (at_zero (pl_lt HL.out) HX.out hok))
          have hz1 : decide ((0 : Int) < (0 : Nat)) = false := rfl
          refine wp_region_text (fun w' => Box (wr.heap.size) [.int .i64 x.f0, .int .i64 x.f1, .slice x.f2.A x.f2.ls.length x.f2.cap, .bool x.f3] w w' ∧ Below w.heap.size w w') (by kernel_rfl) (by kernel_rfl) ⟨B.drew, be HB0 (Below.refl _ _).drew⟩ ?_
          clear B_0 B_1 B_2 B_3 B_f0 B_f1 B_f2 B_f3 B_t
          iterate 18 (
            apply SeqH.one
            · intro uw K hS hK
              obtain ⟨qB, qHB0⟩ := hS
              have qB_0 := qB.cells 0 _ rfl
              have qB_1 := qB.cells 1 _ rfl
              have qB_2 := qB.cells 2 _ rfl
              have qB_3 := qB.cells 3 _ rfl
              first
                | (go_simp; exact hK.out _ ⟨qB, qHB0⟩)
                | (go_simp; go_at_call 22; (with_reducible refine (one_impl x _ (rd_keep HRX.out qB.below) HNX.out).mono ?_); rintro e uw1 ⟨rfl, hv⟩; rw [hok]; go_wp2_with fail; exact hK.out _ ⟨qB.more hv, be qHB0 hv⟩)
            try simp only [Act.put, List.setIfInBounds_toArray, List.set_cons_zero, List.set_cons_succ])
          refine SeqH.end' rfl ?_
          intro v3 hS
          clear B HB0
          obtain ⟨B, HB0⟩ := hS
          have B_0 := B.cells 0 _ rfl
          have B_1 := B.cells 1 _ rfl
          have B_2 := B.cells 2 _ rfl
          have B_3 := B.cells 3 _ rfl
          have B_f0 := B.free 0 (by simp)
          have B_f1 := B.free 1 (by simp)
          have B_f2 := B.free 2 (by simp)
          have B_f3 := B.free 3 (by simp)
          have B_t := B.there
          go_wp2
          go_roundw
          case rel => exact ⟨1, HL.out, by go_num, HN, B.below⟩
          case measure => have := HL.out; simp [intOf]; omega
        · obtain ⟨j, rfl⟩ : ∃ j, k = j + 1 := ⟨k - 1, by omega⟩
          have hj : j < l.length := by omega
          obtain ⟨y, hy⟩ : ∃ y, l[j] = y := ⟨_, rfl⟩
          obtain ⟨b', o', hA, hb', hq, _⟩ := hs_at HR.out (Below.refl _ _) hj hy
          obtain ⟨rfl, rfl⟩ : b = b' ∧ o = o' := by injection hA with hA; injection hA with e1 e2 _; exact ⟨e1, e2⟩
          have HY := Lib.hid (pl_x hj hy); clear hy hA hb' hz
          have q1 : (0 : Int) < (j : Int) + 1 := by omega
          have q2 : IntKind.i64.wrap (j : Int) = j := IntWalk.i64_in _ (by omega)
          have hq_c := ((bcell B.below).1 _ _ hb).trans hq
          by_cases hlow : y.f0 < x.f0
          · have hle : decide (x.f0 ≤ y.f0) = false := decide_eq_false (by omega)
            have HN := Lib.hid (HOK.out.next (at_yes (pl_lt HL.out) HX.out hok (by rw [HY.out]; exact hlow)))
            clear hlow
            refine wp_region_text (fun w' => Box (wr.heap.size) [.int .i64 x.f0, .int .i64 x.f1, .slice x.f2.A x.f2.ls.length x.f2.cap, .bool x.f3] w w' ∧ Below w.heap.size w w') (by kernel_rfl) (by kernel_rfl) ⟨B.drew, be HB0 (Below.refl _ _).drew⟩ ?_
            clear B_0 B_1 B_2 B_3 B_f0 B_f1 B_f2 B_f3 B_t
            clear hq_c
            iterate 18 (
              apply SeqH.one
              · intro uw K hS hK
                obtain ⟨qB, qHB0⟩ := hS
                have qB_0 := qB.cells 0 _ rfl
                have qB_1 := qB.cells 1 _ rfl
                have qB_2 := qB.cells 2 _ rfl
                have qB_3 := qB.cells 3 _ rfl
                have qhq_c := ((bcell qB.below).1 _ _ hb).trans hq
                first
                  | (go_simp; exact hK.out _ ⟨qB, qHB0⟩)
                  | (go_simp; go_at_call 22; (with_reducible refine (one_impl x _ (rd_keep HRX.out qB.below) HNX.out).mono ?_); rintro e uw1 ⟨rfl, hv⟩; rw [hok]; go_wp2_with fail; exact hK.out _ ⟨qB.more hv, be qHB0 hv⟩)
              try simp only [Act.put, List.setIfInBounds_toArray, List.set_cons_zero, List.set_cons_succ])
            refine SeqH.end' rfl ?_
            intro v4 hS
            clear B HB0
            obtain ⟨B, HB0⟩ := hS
            have B_0 := B.cells 0 _ rfl
            have B_1 := B.cells 1 _ rfl
            have B_2 := B.cells 2 _ rfl
            have B_3 := B.cells 3 _ rfl
            have B_f0 := B.free 0 (by simp)
            have B_f1 := B.free 1 (by simp)
            have B_f2 := B.free 2 (by simp)
            have B_f3 := B.free 3 (by simp)
            have B_t := B.there
            have hq_c := ((bcell B.below).1 _ _ hb).trans hq
            go_wp2
            go_roundw
            case rel => exact ⟨j + 1 + 1, HL.out, by go_num, HN, B.below⟩
            case measure => have := HL.out; simp [intOf]; omega
          · have HW := Lib.hid (good_no (pl_lt HL.out) (at_low (pl_lt HL.out) HX.out (by rw [HY.out]; exact hlow)))
            have hle : decide (x.f0 ≤ y.f0) = true := decide_eq_true (by omega)
            clear hlow
            refine wp_region_text (fun w' => Box (wr.heap.size) [.int .i64 x.f0, .int .i64 x.f1, .slice x.f2.A x.f2.ls.length x.f2.cap, .bool x.f3] w w' ∧ Below w.heap.size w w') (by kernel_rfl) (by kernel_rfl) ⟨B.drew, be HB0 (Below.refl _ _).drew⟩ ?_
            clear B_0 B_1 B_2 B_3 B_f0 B_f1 B_f2 B_f3 B_t
            clear hq_c
            iterate 18 (
              apply SeqH.one
              · intro uw K hS hK
                obtain ⟨qB, qHB0⟩ := hS
                have qB_0 := qB.cells 0 _ rfl
                have qB_1 := qB.cells 1 _ rfl
                have qB_2 := qB.cells 2 _ rfl
                have qB_3 := qB.cells 3 _ rfl
                have qhq_c := ((bcell qB.below).1 _ _ hb).trans hq
                first
                  | (go_simp; exact hK.out _ ⟨qB, qHB0⟩)
                  | (go_simp; go_at_call 22; (with_reducible refine (one_impl x _ (rd_keep HRX.out qB.below) HNX.out).mono ?_); rintro e uw1 ⟨rfl, hv⟩; rw [hok]; go_wp2_with fail; exact hK.out _ ⟨qB.more hv, be qHB0 hv⟩)
              try simp only [Act.put, List.setIfInBounds_toArray, List.set_cons_zero, List.set_cons_succ])
            refine SeqH.end' rfl ?_
            intro v5 hS
            clear B HB0
            obtain ⟨B, HB0⟩ := hS
            have B_0 := B.cells 0 _ rfl
            have B_1 := B.cells 1 _ rfl
            have B_2 := B.cells 2 _ rfl
            have B_3 := B.cells 3 _ rfl
            have B_f0 := B.free 0 (by simp)
            have B_f1 := B.free 1 (by simp)
            have B_f2 := B.free 2 (by simp)
            have B_f3 := B.free 3 (by simp)
            have B_t := B.there
            have hq_c := ((bcell B.below).1 _ _ hb).trans hq
            go_wp2
            go_ret
            exact rpost (by rw [HW.out] <;> rfl) B.below
      · have HE := Lib.hid ((good_end HOK.out (show (pl l).length ≤ k by rw [HPL.out]; omega)).trans (decide_eq_true (by rw [HPL.out]; exact h12)))
        go_wp2
        go_ret
        exact rpost (by rw [HE.out] <;> rfl) HB0
  · have h12' : decide ((10 : Int) < l.length) = true := decide_eq_true (by omega)
    have HE := Lib.hid (good_long (l := pl l) (by rw [HPL.out]; omega))
    go_enter Tryd.func11, Tryd.ntmps11
    go_wp2
    go_ret
    exact rpost (by rw [HE.out] <;> rfl) (Below.refl _ _)
end Go.Proofs.YtokgncbcknpfiaaDoor.HeapG
