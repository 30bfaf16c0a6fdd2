/- Ladders: l13Good, IsLadder. -/
import Derived.Test.YtngominkeammiaaLadS
namespace Go.Proofs.Ytngominkeammiaa.LadG
open Go.RowKit Go.Proofs.Ytngominkeammiaa.Mem Go.Proofs.Ytngominkeammiaa.Base Go.Proofs.Ytngominkeammiaa.Within Go.Proofs.Ytngominkeammiaa.Brine Go.Proofs.Ytngominkeammiaa.Regn Go.Proofs.Ytngominkeammiaa.Boxes Go.Proofs.Ytngominkeammiaa.Keep Go.Proofs.Ytngominkeammiaa.LadP Go.Proofs.Ytngominkeammiaa.LadS
open Go.Proofs.Ytngominkeammiaa.SRung hiding RPost rpost
set_option linter.unusedVariables false
set_option linter.unusedSimpArgs false
set_option maxRecDepth 100000
def prev (l : List R) (k : Nat) : R := if k = 0 then zero else l.getD (k - 1) zero
theorem prev_next {l : List R} {j : Nat} {y : R} (h : j < l.length) (hy : l[j] = y) : prev l (j + 1) = y := by
  unfold prev; rw [if_neg (by omega), Nat.add_sub_cancel, getD_at h, hy]
/-- the first k are valid. -/
def Up (l : List R) (k : Nat) : Prop := goF 0 0 l = goF (prev l k).f0 (prev l k).f1 (l.drop k)
theorem up_zero (l : List R) : Up l 0 := by unfold Up; rw [List.drop_zero]; rfl
theorem Up.bad {l : List R} {k : Nat} {x : R} (h : Up l k) (hk : k < l.length) (hx : l[k] = x) (ho : okR x = false) : good l = false := good_no (h.trans (go_bad hk hx ho))
theorem Up.low {l : List R} {k : Nat} {x : R} (h : Up l k) (hk : k < l.length) (hx : l[k] = x) (ho : ¬ (prev l k).f0 ≤ x.f0) : good l = false := good_no (h.trans (go_low hk hx ho))
theorem Up.high {l : List R} {k : Nat} {x : R} (h : Up l k) (hk : k < l.length) (hx : l[k] = x) (ho : ¬ (prev l k).f1 ≤ x.f1) : good l = false := good_no (h.trans (go_high hk hx ho))
theorem Up.next {l : List R} {k : Nat} {x : R} (h : Up l k) (hk : k < l.length) (hx : l[k] = x) (ho : okR x = true) (h0 : (prev l k).f0 ≤ x.f0) (h1 : (prev l k).f1 ≤ x.f1) : Up l (k + 1) := by
  unfold Up; rw [prev_next hk hx]; exact h.trans (go_next hk hx ho h0 h1)
theorem Up.first {l : List R} {x : R} (h : Up l 0) (hk : 0 < l.length) (hx : l[0] = x) (ho : okR x = true) : Up l 1 := by
  obtain ⟨h0, h1, h2⟩ := okR_true ho
  exact h.next hk hx ho h0 (show (0 : Int) ≤ x.f1 by omega)
theorem Up.done {l : List R} {k : Nat} (h : Up l k) (hk : l.length ≤ k) : good l = inB (l.length : Int) 1 8 := good_end (h.trans (go_nil _ _ hk))
set_option maxHeartbeats 3200000 in
theorem good_spec (P : Option Addr) (cap : Nat) (l : List R) (w : World) (hr : Rd w w.heap.size P (flat l)) (hn : l.length ≤ 1048576) :
    Calls Try.prog 58 #[.slice P l.length cap] w (RPost (.bool (good l)) w) := by
  have HR := Lib.hid hr; clear hr
  go_enter Try.func58, Try.ntmps58
  go_wp2
  go_loopw [3] (fun i wr => ∃ k : Nat, k ≤ l.length ∧ i = .int .i64 k ∧ Hid (Up l k) ∧ Below w.heap.size w wr) (fun i _ => l.length - (intOf i).toNat)
  case atStart => exact ⟨0, Nat.zero_le _, rfl, Lib.hid (up_zero l), Below.refl _ _⟩
  case round =>
    obtain ⟨k, hk, rfl, HOK, HB⟩ := hrel
    by_cases hlt : k < l.length
    · obtain ⟨b, o, rfl, hb, hc⟩ := HR.out.at (k := k * 2) (by rw [flat_n]; omega)
      obtain ⟨x, hx⟩ : ∃ x, l[k] = x := ⟨_, rfl⟩
      obtain ⟨h0, h1⟩ := cells2 (Below.refl _ _) hb hc hlt hx
      have HX := Lib.hid hx; clear hx
      have HL := Lib.hid hlt
      cases hin : inB x.f0 0 x.f1
      · clear hc
        go_wp2_with fail
        have h0_c := ((bcell HB).1 _ _ hb).trans h0
        have h1_c := ((bcell HB).1 _ _ hb).trans h1
        refine wp_region_text (fun w' => Below w.heap.size w w') (by kernel_rfl) (by kernel_rfl) (be HB (Below.refl _ _).drew) ?_
        clear h0_c
        clear h1_c
        iterate 52 (
          apply SeqH.one
          · intro uw K hS hK
            have qHB := hS
            have qh0_c := ((bcell qHB).1 _ _ hb).trans h0
            have qh1_c := ((bcell qHB).1 _ _ hb).trans h1
            first
              | (go_simp; exact hK.out _ qHB)
              | (go_simp; go_at_call 82; (with_reducible refine (in_any _ _ _ _).mono ?_); rintro e _ ⟨rfl, rfl⟩; go_wp2_with fail; exact hK.out _ qHB)
          try simp only [Act.put, List.setIfInBounds_toArray, List.set_cons_zero, List.set_cons_succ])
        refine SeqH.end' rfl ?_
        intro v1 hS
        clear HB
        have HB := hS; clear hS
        have h0_c := ((bcell HB).1 _ _ hb).trans h0
        have h1_c := ((bcell HB).1 _ _ hb).trans h1
        go_wp2
        go_ret
        exact rpost (by rw [HOK.out.bad HL.out HX.out (bad_in hin)] <;> rfl) HB
      rcases Int.lt_or_le 1000 x.f1 with htop | htop
      · have HT := Lib.hid htop
        have ht1 : decide ((1000 : Int) < x.f1) = true := decide_eq_true (by omega)
        clear hc htop
        go_wp2_with fail
        have h0_c := ((bcell HB).1 _ _ hb).trans h0
        have h1_c := ((bcell HB).1 _ _ hb).trans h1
        refine wp_region_text (fun w' => Below w.heap.size w w') (by kernel_rfl) (by kernel_rfl) (be HB (Below.refl _ _).drew) ?_
        clear h0_c
        clear h1_c
        iterate 52 (
          apply SeqH.one
          · intro uw K hS hK
            have qHB := hS
            have qh0_c := ((bcell qHB).1 _ _ hb).trans h0
            have qh1_c := ((bcell qHB).1 _ _ hb).trans h1
            first
              | (go_simp; exact hK.out _ qHB)
              | (go_simp; go_at_call 82; (with_reducible refine (in_any _ _ _ _).mono ?_); rintro e _ ⟨rfl, rfl⟩; go_wp2_with fail; exact hK.out _ qHB)
          try simp only [Act.put, List.setIfInBounds_toArray, List.set_cons_zero, List.set_cons_succ])
        refine SeqH.end' rfl ?_
        intro v2 hS
        clear HB
        have HB := hS; clear hS
        have h0_c := ((bcell HB).1 _ _ hb).trans h0
        have h1_c := ((bcell HB).1 _ _ hb).trans h1
        go_wp2
        go_ret
        exact rpost (by rw [HOK.out.bad HL.out HX.out (bad_top (by have := HT.out; omega))] <;> rfl) HB
      have ht1 : decide ((1000 : Int) < x.f1) = false := decide_eq_false (by omega)
      have hok := Lib.hid (ok_both hin htop)
      clear htop
      rcases Nat.eq_zero_or_pos k with hz | hz
      · clear hc
        have HN := Lib.hid (show Up l (k + 1) by subst hz; exact HOK.out.first HL.out HX.out hok.out)
        have hz1 : decide ((0 : Int) < k) = false := decide_eq_false (by omega)
        have hz2 : decide (0 < k) = false := decide_eq_false (by omega)
        have HZ := Lib.hid hz; clear hz
        go_wp2_with fail
        have h0_c := ((bcell HB).1 _ _ hb).trans h0
        have h1_c := ((bcell HB).1 _ _ hb).trans h1
        refine wp_region_text (fun w' => Below w.heap.size w w') (by kernel_rfl) (by kernel_rfl) (be HB (Below.refl _ _).drew) ?_
        clear h0_c
        clear h1_c
        iterate 52 (
          apply SeqH.one
          · intro uw K hS hK
            have qHB := hS
            have qh0_c := ((bcell qHB).1 _ _ hb).trans h0
            have qh1_c := ((bcell qHB).1 _ _ hb).trans h1
            first
              | (go_simp; exact hK.out _ qHB)
              | (go_simp; go_at_call 82; (with_reducible refine (in_any _ _ _ _).mono ?_); rintro e _ ⟨rfl, rfl⟩; go_wp2_with fail; exact hK.out _ qHB)
          try simp only [Act.put, List.setIfInBounds_toArray, List.set_cons_zero, List.set_cons_succ])
        refine SeqH.end' rfl ?_
        intro v3 hS
        clear HB
        have HB := hS; clear hS
        have h0_c := ((bcell HB).1 _ _ hb).trans h0
        have h1_c := ((bcell HB).1 _ _ hb).trans h1
        go_wp2
        go_roundw
        case rel => exact ⟨k + 1, HL.out, by go_num, HN, HB⟩
        case measure => have := HL.out; simp [intOf]; omega
      · obtain ⟨j, rfl⟩ : ∃ j, k = j + 1 := ⟨k - 1, by omega⟩
        obtain ⟨y, hy⟩ : ∃ y, l[j] = y := ⟨_, rfl⟩
        have q3 : j < l.length := by omega
        obtain ⟨y0, y1⟩ := cells2 (Below.refl _ _) hb hc q3 hy
        have HP := Lib.hid (prev_next q3 hy); clear hy hc hz
        have q1 : (0 : Int) < (j : Int) + 1 := by omega
        have q2 : IntKind.i64.wrap (j : Int) = j := IntWalk.i64_in _ (by omega)
        rcases Int.lt_or_le x.f0 y.f0 with hlow | hlow
        · have HW := Lib.hid (HOK.out.low HL.out HX.out (by rw [HP.out]; omega))
          have hle : decide (x.f0 < y.f0) = true := decide_eq_true (by omega)
          clear hlow
          go_wp2_with fail
          have h0_c := ((bcell HB).1 _ _ hb).trans h0
          have h1_c := ((bcell HB).1 _ _ hb).trans h1
          have y0_c := ((bcell HB).1 _ _ hb).trans y0
          have y1_c := ((bcell HB).1 _ _ hb).trans y1
          refine wp_region_text (fun w' => Below w.heap.size w w') (by kernel_rfl) (by kernel_rfl) (be HB (Below.refl _ _).drew) ?_
          clear h0_c
          clear h1_c
          clear y0_c
          clear y1_c
          iterate 52 (
            apply SeqH.one
            · intro uw K hS hK
              have qHB := hS
              have qh0_c := ((bcell qHB).1 _ _ hb).trans h0
              have qh1_c := ((bcell qHB).1 _ _ hb).trans h1
              have qy0_c := ((bcell qHB).1 _ _ hb).trans y0
              have qy1_c := ((bcell qHB).1 _ _ hb).trans y1
              first
                | (go_simp; exact hK.out _ qHB)
                | (go_simp; go_at_call 82; (with_reducible refine (in_any _ _ _ _).mono ?_); rintro e _ ⟨rfl, rfl⟩; go_wp2_with fail; exact hK.out _ qHB)
            try simp only [Act.put, List.setIfInBounds_toArray, List.set_cons_zero, List.set_cons_succ])
          refine SeqH.end' rfl ?_
          intro v4 hS
          clear HB
          have HB := hS; clear hS
          have h0_c := ((bcell HB).1 _ _ hb).trans h0
          have h1_c := ((bcell HB).1 _ _ hb).trans h1
          have y0_c := ((bcell HB).1 _ _ hb).trans y0
          have y1_c := ((bcell HB).1 _ _ hb).trans y1
          go_wp2
          go_ret
          exact rpost (by rw [HW.out] <;> rfl) HB
        have hle : decide (x.f0 < y.f0) = false := decide_eq_false (by omega)
        rcases Int.lt_or_le x.f1 y.f1 with hhigh | hhigh
        · have HW := Lib.hid (HOK.out.high HL.out HX.out (by rw [HP.out]; omega))
          have hle2 : decide (x.f1 < y.f1) = true := decide_eq_true (by omega)
          clear hlow hhigh
          go_wp2_with fail
          have h0_c := ((bcell HB).1 _ _ hb).trans h0
          have h1_c := ((bcell HB).1 _ _ hb).trans h1
          have y0_c := ((bcell HB).1 _ _ hb).trans y0
          have y1_c := ((bcell HB).1 _ _ hb).trans y1
          refine wp_region_text (fun w' => Below w.heap.size w w') (by kernel_rfl) (by kernel_rfl) (be HB (Below.refl _ _).drew) ?_
          clear h0_c
          clear h1_c
          clear y0_c
          clear y1_c
          iterate 52 (
            apply SeqH.one
            · intro uw K hS hK
              have qHB := hS
              have qh0_c := ((bcell qHB).1 _ _ hb).trans h0
              have qh1_c := ((bcell qHB).1 _ _ hb).trans h1
              have qy0_c := ((bcell qHB).1 _ _ hb).trans y0
              have qy1_c := ((bcell qHB).1 _ _ hb).trans y1
              first
                | (go_simp; exact hK.out _ qHB)
                | (go_simp; go_at_call 82; (with_reducible refine (in_any _ _ _ _).mono ?_); rintro e _ ⟨rfl, rfl⟩; go_wp2_with fail; exact hK.out _ qHB)
            try simp only [Act.put, List.setIfInBounds_toArray, List.set_cons_zero, List.set_cons_succ])
          refine SeqH.end' rfl ?_
          intro v5 hS
          clear HB
          have HB := hS; clear hS
          have h0_c := ((bcell HB).1 _ _ hb).trans h0
          have h1_c := ((bcell HB).1 _ _ hb).trans h1
          have y0_c := ((bcell HB).1 _ _ hb).trans y0
          have y1_c := ((bcell HB).1 _ _ hb).trans y1
          go_wp2
          go_ret
          exact rpost (by rw [HW.out] <;> rfl) HB
        have hle2 : decide (x.f1 < y.f1) = false := decide_eq_false (by omega)
        have HN := Lib.hid (HOK.out.next HL.out HX.out hok.out (by rw [HP.out]; exact hlow) (by rw [HP.out]; exact hhigh))
        clear hlow hhigh
        go_wp2_with fail
        have h0_c := ((bcell HB).1 _ _ hb).trans h0
        have h1_c := ((bcell HB).1 _ _ hb).trans h1
        have y0_c := ((bcell HB).1 _ _ hb).trans y0
        have y1_c := ((bcell HB).1 _ _ hb).trans y1
        refine wp_region_text (fun w' => Below w.heap.size w w') (by kernel_rfl) (by kernel_rfl) (be HB (Below.refl _ _).drew) ?_
        clear h0_c
        clear h1_c
        clear y0_c
        clear y1_c
        iterate 52 (
          apply SeqH.one
          · intro uw K hS hK
            have qHB := hS
            have qh0_c := ((bcell qHB).1 _ _ hb).trans h0
            have qh1_c := ((bcell qHB).1 _ _ hb).trans h1
            have qy0_c := ((bcell qHB).1 _ _ hb).trans y0
            have qy1_c := ((bcell qHB).1 _ _ hb).trans y1
            first
              | (go_simp; exact hK.out _ qHB)
              | (go_simp; go_at_call 82; (with_reducible refine (in_any _ _ _ _).mono ?_); rintro e _ ⟨rfl, rfl⟩; go_wp2_with fail; exact hK.out _ qHB)
          try simp only [Act.put, List.setIfInBounds_toArray, List.set_cons_zero, List.set_cons_succ])
        refine SeqH.end' rfl ?_
        intro v6 hS
        clear HB
        have HB := hS; clear hS
        have h0_c := ((bcell HB).1 _ _ hb).trans h0
        have h1_c := ((bcell HB).1 _ _ hb).trans h1
        have y0_c := ((bcell HB).1 _ _ hb).trans y0
        have y1_c := ((bcell HB).1 _ _ hb).trans y1
        go_wp2
        go_roundw
        case rel => exact ⟨j + 1 + 1, HL.out, by go_num, HN, HB⟩
        case measure => have := HL.out; simp [intOf]; omega
    · have HE := Lib.hid (HOK.out.done (show l.length ≤ k by omega))
      go_wp2_with (go_at_call 82; (with_reducible refine (in_any _ _ _ _).mono ?_); rintro e' w' ⟨rfl, rfl⟩)
      go_ret
      exact rpost (by rw [HE.out] <;> rfl) HB
theorem is_spec (P : Option Addr) (cap : Nat) (l : List R) (w : World) (hr : Rd w w.heap.size P (flat l)) (hn : l.length ≤ 1048576) :
    Calls Try.prog 20 #[.slice P l.length cap] w (RPost (.bool (good l)) w) := by
  have HC := Lib.hid (good_spec P cap l w hr hn); clear hr
  go_enter Try.func20, Try.ntmps20
  go_wp2_with fail
  refine HC.out.mono ?_
  rintro e w1 ⟨rfl, HB⟩
  go_wp2
  go_ret
  exact rpost rfl HB
set_option maxHeartbeats 1600000 in
theorem good_impl (P : Option Addr) (cap : Nat) (l : List R) (w : World) (hr : Rd w w.heap.size P (flat l)) (hn : l.length ≤ 1048576) :
    Calls Try.prog 19 #[.slice P l.length cap] w (RPost (.bool (good l)) w) := by
  have HR := Lib.hid hr; clear hr
  cases h8 : inB (l.length : Int) 1 8
  · have HE := Lib.hid (good_long h8)
    go_enter Try.func19, Try.ntmps19
    go_wp2_with (go_at_call 61; (with_reducible refine (within_any _ _ _ _).mono ?_); rintro e' w' ⟨rfl, rfl⟩)
    go_ret
    exact rpost (by rw [HE.out] <;> rfl) (Below.refl _ _)
  go_enter Try.func19, Try.ntmps19
  go_wp2_with fail
  go_wp2_with fail
  refine (within_any _ _ _ _).mono ?_
  rintro e _ ⟨rfl, rfl⟩
  rw [h8]
  go_wp2
  have L := Box.new (Below.refl _ w) [.int .i64 0, .int .i64 0] 54 (g := w.heap.size) rfl
  generalize (w.alloc (.cells #[.int .i64 0, .int .i64 0] 54)) = W2 at L ⊢
  have L_0 := L.cells 0 _ rfl
  have L_1 := L.cells 1 _ rfl
  have L_f0 := L.free 0 (by simp)
  have L_f1 := L.free 1 (by simp)
  have L_t := L.there
  go_loopw [13] (fun i wr => ∃ k : Nat, k ≤ l.length ∧ i = .int .i64 k ∧ Hid (Up l k) ∧ Box (w.heap.size) [.int .i64 (prev l k).f0, .int .i64 (prev l k).f1] w wr) (fun i _ => l.length - (intOf i).toNat)
  case atStart => exact ⟨0, Nat.zero_le _, rfl, Lib.hid (up_zero l), L⟩
  case round =>
    clear L_0 L_1 L_f0 L_f1 L_t
    clear L
    obtain ⟨k, hk, rfl, HOK, L⟩ := hrel
    obtain ⟨y, hy⟩ : ∃ y, prev l k = y := ⟨_, rfl⟩
    rw [hy] at L
    have HY := Lib.hid hy; clear hy
    have L_0 := L.cells 0 _ rfl
    have L_1 := L.cells 1 _ rfl
    have L_f0 := L.free 0 (by simp)
    have L_f1 := L.free 1 (by simp)
    have L_t := L.there
    by_cases hlt : k < l.length
    · obtain ⟨b, o, rfl, hb, hc⟩ := HR.out.at (k := k * 2) (by rw [flat_n]; omega)
      obtain ⟨x, hx⟩ : ∃ x, l[k] = x := ⟨_, rfl⟩
      obtain ⟨h0, h1⟩ := cells2 L.below hb hc hlt hx
      have HX := Lib.hid hx; clear hx hc
      have HL := Lib.hid hlt
      go_wp2_with fail
      have L_t3 := L.there
      have B := Box.new L.below [.int .i64 x.f0, .int .i64 x.f1] 54 (g := wr.heap.size) rfl
      clear L_0 L_1 L_f0 L_f1 L_t
      replace L := (L).alloc (.cells #[.int .i64 x.f0, .int .i64 x.f1] 54)
      generalize (wr.alloc (.cells #[.int .i64 x.f0, .int .i64 x.f1] 54)) = W3 at B L ⊢
      have L_0 := L.cells 0 _ rfl
      have L_1 := L.cells 1 _ rfl
      have L_f0 := L.free 0 (by simp)
      have L_f1 := L.free 1 (by simp)
      have L_t := L.there
      have B_0 := B.cells 0 _ rfl
      have B_1 := B.cells 1 _ rfl
      have B_f0 := B.free 0 (by simp)
      have B_f1 := B.free 1 (by simp)
      have B_t := B.there
      clear h0 h1
      cases hok : okR x
      · have HW := Lib.hid (HOK.out.bad HL.out HX.out hok)
        go_wp2_with fail
        refine (one_impl x _).mono ?_
        rintro e v4 ⟨rfl, hv4⟩
        clear L_0 L_1 L_f0 L_f1 L_t
        clear B_0 B_1 B_f0 B_f1 B_t
        replace L := L.more hv4
        replace B := B.more hv4
        have zhv4 := hv4.size
        clear hv4
        have L_0 := L.cells 0 _ rfl
        have L_1 := L.cells 1 _ rfl
        have L_f0 := L.free 0 (by simp)
        have L_f1 := L.free 1 (by simp)
        have L_t := L.there
        have B_0 := B.cells 0 _ rfl
        have B_1 := B.cells 1 _ rfl
        have B_f0 := B.free 0 (by simp)
        have B_f1 := B.free 1 (by simp)
        have B_t := B.there
        rw [hok]
        go_wp2
        go_ret
        exact rpost (by rw [HW.out] <;> rfl) B.below
      rcases Int.lt_or_le x.f0 y.f0 with hlow | hlow
      · have HW := Lib.hid (HOK.out.low HL.out HX.out (by rw [HY.out]; omega))
        have hle : decide (x.f0 < y.f0) = true := decide_eq_true (by omega)
        clear hlow
        go_wp2_with fail
        refine (one_impl x _).mono ?_
        rintro e v5 ⟨rfl, hv5⟩
        clear L_0 L_1 L_f0 L_f1 L_t
        clear B_0 B_1 B_f0 B_f1 B_t
        replace L := L.more hv5
        replace B := B.more hv5
        have zhv5 := hv5.size
        clear hv5
        have L_0 := L.cells 0 _ rfl
        have L_1 := L.cells 1 _ rfl
        have L_f0 := L.free 0 (by simp)
        have L_f1 := L.free 1 (by simp)
        have L_t := L.there
        have B_0 := B.cells 0 _ rfl
        have B_1 := B.cells 1 _ rfl
        have B_f0 := B.free 0 (by simp)
        have B_f1 := B.free 1 (by simp)
        have B_t := B.there
        rw [hok]
        go_wp2
        go_ret
        exact rpost (by rw [HW.out] <;> rfl) B.below
      have hle : decide (x.f0 < y.f0) = false := decide_eq_false (by omega)
      rcases Int.lt_or_le x.f1 y.f1 with hhigh | hhigh
      · have HW := Lib.hid (HOK.out.high HL.out HX.out (by rw [HY.out]; omega))
        have hle2 : decide (x.f1 < y.f1) = true := decide_eq_true (by omega)
        clear hlow hhigh
        go_wp2_with fail
        refine (one_impl x _).mono ?_
        rintro e v6 ⟨rfl, hv6⟩
        clear L_0 L_1 L_f0 L_f1 L_t
        clear B_0 B_1 B_f0 B_f1 B_t
        replace L := L.more hv6
        replace B := B.more hv6
        have zhv6 := hv6.size
        clear hv6
        have L_0 := L.cells 0 _ rfl
        have L_1 := L.cells 1 _ rfl
        have L_f0 := L.free 0 (by simp)
        have L_f1 := L.free 1 (by simp)
        have L_t := L.there
        have B_0 := B.cells 0 _ rfl
        have B_1 := B.cells 1 _ rfl
        have B_f0 := B.free 0 (by simp)
        have B_f1 := B.free 1 (by simp)
        have B_t := B.there
        rw [hok]
        go_wp2
        go_ret
        exact rpost (by rw [HW.out] <;> rfl) B.below
      have hle2 : decide (x.f1 < y.f1) = false := decide_eq_false (by omega)
      have HN := Lib.hid (HOK.out.next HL.out HX.out hok (by rw [HY.out]; exact hlow) (by rw [HY.out]; exact hhigh))
      have HQ := Lib.hid (prev_next HL.out HX.out)
      clear hlow hhigh
      go_wp2_with fail
      refine (one_impl x _).mono ?_
      rintro e v7 ⟨rfl, hv7⟩
      clear L_0 L_1 L_f0 L_f1 L_t
      clear B_0 B_1 B_f0 B_f1 B_t
      replace L := L.more hv7
      replace B := B.more hv7
      have zhv7 := hv7.size
      clear hv7
      have L_0 := L.cells 0 _ rfl
      have L_1 := L.cells 1 _ rfl
      have L_f0 := L.free 0 (by simp)
      have L_f1 := L.free 1 (by simp)
      have L_t := L.there
      have B_0 := B.cells 0 _ rfl
      have B_1 := B.cells 1 _ rfl
      have B_f0 := B.free 0 (by simp)
      have B_f1 := B.free 1 (by simp)
      have B_t := B.there
      rw [hok]
      go_wp2
      clear L_0 L_1 L_f0 L_f1 L_t
      clear B_0 B_1 B_f0 B_f1 B_t
      have L_t8 := L.there
      have B_t8 := B.there
      have L' : Box (w.heap.size) [.int .i64 x.f0, .int .i64 x.f1] w _ := ((L.set 0 (.int .i64 x.f0)).set 1 (.int .i64 x.f1))
      have B' : Box (wr.heap.size) [.int .i64 x.f0, .int .i64 x.f1] w _ := ((B.far L.base (by omega) 0 (.int .i64 x.f0)).far L.base (by omega) 1 (.int .i64 x.f1))
      clear L; have L := L'; clear L'
      clear B; have B := B'; clear B'
      have sz8 : ((v7.setCell ⟨w.heap.size, 0, none⟩ (.int .i64 x.f0)).setCell ⟨w.heap.size, 1, none⟩ (.int .i64 x.f1)).heap.size = v7.heap.size := by simp only [size_set']
      generalize ((v7.setCell ⟨w.heap.size, 0, none⟩ (.int .i64 x.f0)).setCell ⟨w.heap.size, 1, none⟩ (.int .i64 x.f1)) = W8 at L B sz8 ⊢
      replace sz8 := Lib.hid sz8
      have L_0 := L.cells 0 _ rfl
      have L_1 := L.cells 1 _ rfl
      have L_f0 := L.free 0 (by simp)
      have L_f1 := L.free 1 (by simp)
      have L_t := L.there
      have B_0 := B.cells 0 _ rfl
      have B_1 := B.cells 1 _ rfl
      have B_f0 := B.free 0 (by simp)
      have B_f1 := B.free 1 (by simp)
      have B_t := B.there
      go_wp2
      exact ⟨⟨k + 1, HL.out, by go_num, HN, by rw [HQ.out]; exact L⟩, by have := HL.out; simp only [intOf]; omega⟩
    · have HE := Lib.hid ((HOK.out.done (show l.length ≤ k by omega)).trans h8)
      go_wp2
      go_ret
      exact rpost (by rw [HE.out] <;> rfl) L.below
end Go.Proofs.Ytngominkeammiaa.LadG
