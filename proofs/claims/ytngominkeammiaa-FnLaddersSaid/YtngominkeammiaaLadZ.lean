/- Ladders: l13Asked, RoomOnRung, SunOnRung. Made by tools/mk_lady.py. -/
import Derived.Test.YtngominkeammiaaLadY
import Derived.Test.YtngominkeammiaaRegn3
import Derived.Lib.MinMax
import Derived.Deep.Cut
import Derived.Deep.CutBlock
import Derived.Deep.CutRange
import Derived.Deep.DeepCutAuto
namespace Go.Proofs.Ytngominkeammiaa.LadZ
open Go.RowKit Go.Proofs.Ytngominkeammiaa.Mem Go.Proofs.Ytngominkeammiaa.Base Go.Proofs.Ytngominkeammiaa.Within Go.Proofs.Ytngominkeammiaa.Brine Go.Proofs.Ytngominkeammiaa.Regn Go.Proofs.Ytngominkeammiaa.Boxes Go.Proofs.Ytngominkeammiaa.Keep Go.Proofs.Ytngominkeammiaa.LadP Go.Proofs.Ytngominkeammiaa.LadS Go.Proofs.Ytngominkeammiaa.LadG Go.Proofs.Ytngominkeammiaa.LadY
open Go.Proofs.Ytngominkeammiaa.SRung hiding RPost rpost
set_option linter.unusedVariables false
set_option linter.unusedSimpArgs false
set_option maxRecDepth 100000
set_option maxHeartbeats 4000000 in
theorem ask_spec (P : Option Addr) (cap : Nat) (l : List R) (i a c : Int) (w : World) (hr : Rd w w.heap.size P (flat l)) (hn : l.length ≤ 1048576) :
    Calls Try.prog 78 #[.slice P l.length cap, .int .i64 i, .agg #[.int .i64 a, .int .i64 c]] w (RPost (.bool (asked l i a c)) w) := by
  have HR := Lib.hid hr; clear hr
  have q1 : IntKind.i64.wrap ((l.length : Int) - 1) = l.length - 1 := IntWalk.i64_in _ (by omega)
  go_enter Try.func78, Try.ntmps78
  go_upto_region 1 with fail
  have B := Box.new (Below.refl _ w) [.int .i64 a, .int .i64 c] 32 (g := w.heap.size) rfl
  generalize (w.alloc (.cells #[.int .i64 a, .int .i64 c] 32)) = W1 at B ⊢
  have B_0 := B.cells 0 _ rfl
  have B_1 := B.cells 1 _ rfl
  have B_f0 := B.free 0 (by simp)
  have B_f1 := B.free 1 (by simp)
  have B_t := B.there
  cases hg : good l
  ·
    have HV := Lib.hid (ask1 (i := i) (a := a) (b := c) hg)
    refine wp_region_text (fun w' => Box (w.heap.size) [.int .i64 a, .int .i64 c] w w') (by kernel_rfl) (by kernel_rfl) (B.drew) ?_
    clear B_0 B_1 B_f0 B_f1 B_t
    iterate 27 (
      apply SeqH.one
      · intro uw K hS hK
        have qB := hS
        have qB_0 := qB.cells 0 _ rfl
        have qB_1 := qB.cells 1 _ rfl
        first
          | (go_simp; exact hK.out _ qB)
          | (go_simp; go_at_call 58; (with_reducible refine (good_spec _ cap l _ (rd_keep HR.out qB.below) hn).mono ?_); rintro e uw1 ⟨rfl, hv⟩; rw [hg]; go_wp2_with fail; exact hK.out _ (qB.more hv))
      try simp only [Act.put, List.setIfInBounds_toArray, List.set_cons_zero, List.set_cons_succ])
    refine SeqH.end' rfl ?_
    intro v2 hS
    clear B
    have B := hS; clear hS
    have B_0 := B.cells 0 _ rfl
    have B_1 := B.cells 1 _ rfl
    have B_f0 := B.free 0 (by simp)
    have B_f1 := B.free 1 (by simp)
    have B_t := B.there
    go_wp2
    go_ret
    exact rpost (by rw [HV.out] <;> rfl) B.below
  cases hin : inB i 0 ((l.length : Int) - 1)
  ·
    have HV := Lib.hid (ask2 (a := a) (b := c) hin)
    refine wp_region_text (fun w' => Box (w.heap.size) [.int .i64 a, .int .i64 c] w w') (by kernel_rfl) (by kernel_rfl) (B.drew) ?_
    clear B_0 B_1 B_f0 B_f1 B_t
    iterate 27 (
      apply SeqH.one
      · intro uw K hS hK
        have qB := hS
        have qB_0 := qB.cells 0 _ rfl
        have qB_1 := qB.cells 1 _ rfl
        first
          | (go_simp; exact hK.out _ qB)
          | (go_simp; go_at_call 58; (with_reducible refine (good_spec _ cap l _ (rd_keep HR.out qB.below) hn).mono ?_); rintro e uw1 ⟨rfl, hv⟩; rw [hg]; go_wp2_with fail; exact hK.out _ (qB.more hv))
          | (go_simp; go_at_call 82; (with_reducible refine (in_any _ _ _ _).mono ?_); rintro e _ ⟨rfl, rfl⟩; rw [hin]; go_wp2_with fail; exact hK.out _ qB)
      try simp only [Act.put, List.setIfInBounds_toArray, List.set_cons_zero, List.set_cons_succ])
    refine SeqH.end' rfl ?_
    intro v3 hS
    clear B
    have B := hS; clear hS
    have B_0 := B.cells 0 _ rfl
    have B_1 := B.cells 1 _ rfl
    have B_f0 := B.free 0 (by simp)
    have B_f1 := B.free 1 (by simp)
    have B_t := B.there
    go_wp2
    go_ret
    exact rpost (by rw [HV.out] <;> rfl) B.below
  have hi := of_inB hin
  obtain ⟨k, hk⟩ : ∃ k : Nat, i = k := ⟨i.toNat, by omega⟩
  subst hk
  have hlt : k < l.length := by omega
  cases hbr : okB a c
  ·
    have HV := Lib.hid (ask3 (l := l) (i := (k : Int)) hbr)
    refine wp_region_text (fun w' => Box (w.heap.size) [.int .i64 a, .int .i64 c] w w') (by kernel_rfl) (by kernel_rfl) (B.drew) ?_
    clear B_0 B_1 B_f0 B_f1 B_t
    iterate 27 (
      apply SeqH.one
      · intro uw K hS hK
        have qB := hS
        have qB_0 := qB.cells 0 _ rfl
        have qB_1 := qB.cells 1 _ rfl
        first
          | (go_simp; exact hK.out _ qB)
          | (go_simp; go_at_call 58; (with_reducible refine (good_spec _ cap l _ (rd_keep HR.out qB.below) hn).mono ?_); rintro e uw1 ⟨rfl, hv⟩; rw [hg]; go_wp2_with fail; exact hK.out _ (qB.more hv))
          | (go_simp; go_at_call 82; (with_reducible refine (in_any _ _ _ _).mono ?_); rintro e _ ⟨rfl, rfl⟩; rw [hin]; go_wp2_with fail; exact hK.out _ qB)
          | (go_simp; go_at_call 68; (with_reducible refine (brine_spec a c _).mono ?_); rintro e uw1 ⟨rfl, hv⟩; rw [hbr]; go_wp2_with fail; exact hK.out _ (qB.more hv))
      try simp only [Act.put, List.setIfInBounds_toArray, List.set_cons_zero, List.set_cons_succ])
    refine SeqH.end' rfl ?_
    intro v4 hS
    clear B
    have B := hS; clear hS
    have B_0 := B.cells 0 _ rfl
    have B_1 := B.cells 1 _ rfl
    have B_f0 := B.free 0 (by simp)
    have B_f1 := B.free 1 (by simp)
    have B_t := B.there
    go_wp2
    go_ret
    exact rpost (by rw [HV.out] <;> rfl) B.below
  have HBD := Lib.hid (okB_true hbr)
  have h4 := HBD.out
  rcases Int.lt_or_le 0 (a + c) with hm | hm
  rotate_left
  · have hm1 : decide (0 < a + c) = false := decide_eq_false (by omega)
    have HNO := Lib.hid (ask4 (l := l) (i := (k : Int)) (show ¬ 0 < a + c by omega))
    clear hm h4 hi
    have HV := Lib.hid (HNO.out)
    refine wp_region_text (fun w' => Box (w.heap.size) [.int .i64 a, .int .i64 c] w w') (by kernel_rfl) (by kernel_rfl) (B.drew) ?_
    clear B_0 B_1 B_f0 B_f1 B_t
    iterate 27 (
      apply SeqH.one
      · intro uw K hS hK
        have qB := hS
        have qB_0 := qB.cells 0 _ rfl
        have qB_1 := qB.cells 1 _ rfl
        first
          | (go_simp; exact hK.out _ qB)
          | (go_simp; go_at_call 58; (with_reducible refine (good_spec _ cap l _ (rd_keep HR.out qB.below) hn).mono ?_); rintro e uw1 ⟨rfl, hv⟩; rw [hg]; go_wp2_with fail; exact hK.out _ (qB.more hv))
          | (go_simp; go_at_call 82; (with_reducible refine (in_any _ _ _ _).mono ?_); rintro e _ ⟨rfl, rfl⟩; rw [hin]; go_wp2_with fail; exact hK.out _ qB)
          | (go_simp; go_at_call 68; (with_reducible refine (brine_spec a c _).mono ?_); rintro e uw1 ⟨rfl, hv⟩; rw [hbr]; go_wp2_with fail; exact hK.out _ (qB.more hv))
          | (go_simp; go_at_call 79; (with_reducible refine (mass_spec a c HBD.out.1 HBD.out.2.1 HBD.out.2.2.1 HBD.out.2.2.2 _).mono ?_); rintro e uw1 ⟨rfl, hv⟩; go_wp2_with fail; exact hK.out _ (qB.more hv))
      try simp only [Act.put, List.setIfInBounds_toArray, List.set_cons_zero, List.set_cons_succ])
    refine SeqH.end' rfl ?_
    intro v5 hS
    clear B
    have B := hS; clear hS
    have B_0 := B.cells 0 _ rfl
    have B_1 := B.cells 1 _ rfl
    have B_f0 := B.free 0 (by simp)
    have B_f1 := B.free 1 (by simp)
    have B_t := B.there
    go_wp2
    go_ret
    exact rpost (by rw [HV.out] <;> rfl) B.below
  obtain ⟨b, o, rfl, hbl, hc⟩ := HR.out.at (k := k * 2) (by rw [flat_n]; omega)
  obtain ⟨x, hx⟩ : ∃ x, l[k] = x := ⟨_, rfl⟩
  obtain ⟨x0, x1⟩ := cells2 (Below.refl _ w) hbl hc hlt hx
  have hm1 : decide (0 < a + c) = true := decide_eq_true hm
  have HX := Lib.hid hx
  have i1 : (k : Int) < l.length := by omega
  obtain ⟨q, hq⟩ : ∃ q, st x a c = q := ⟨_, rfl⟩
  have HST := Lib.hid (fun u => show Calls Try.prog 69 #[.agg #[.int .i64 x.f0, .int .i64 x.f1], .agg #[.int .i64 a, .int .i64 c]] u (RPost (.bool q) u) by rw [← hq]; exact st_spec x a c (good_get hg hlt hx) hbr u)
  have HV0 := Lib.hid (show asked l (k : Int) a c = q by
    cases q
    · exact ask5 (a := a) (b := c) (i := (k : Int)) rfl hlt hx hq
    · exact ask6 rfl hlt hx hg hin hbr hm hq)
  clear hq hx hc hi hm h4 HX
  have x0_c := ((bcell B.below).1 _ _ hbl).trans x0
  have x1_c := ((bcell B.below).1 _ _ hbl).trans x1
  have HV := Lib.hid (HV0.out)
  refine wp_region_text (fun w' => Box (w.heap.size) [.int .i64 a, .int .i64 c] w w') (by kernel_rfl) (by kernel_rfl) (B.drew) ?_
  clear B_0 B_1 B_f0 B_f1 B_t
  clear x0_c
  clear x1_c
  iterate 27 (
    apply SeqH.one
    · intro uw K hS hK
      have qB := hS
      have qB_0 := qB.cells 0 _ rfl
      have qB_1 := qB.cells 1 _ rfl
      have qx0_c := ((bcell qB.below).1 _ _ hbl).trans x0
      have qx1_c := ((bcell qB.below).1 _ _ hbl).trans x1
      first
        | (go_simp; exact hK.out _ qB)
        | (go_simp; go_at_call 58; (with_reducible refine (good_spec _ cap l _ (rd_keep HR.out qB.below) hn).mono ?_); rintro e uw1 ⟨rfl, hv⟩; rw [hg]; go_wp2_with fail; exact hK.out _ (qB.more hv))
        | (go_simp; go_at_call 82; (with_reducible refine (in_any _ _ _ _).mono ?_); rintro e _ ⟨rfl, rfl⟩; rw [hin]; go_wp2_with fail; exact hK.out _ qB)
        | (go_simp; go_at_call 68; (with_reducible refine (brine_spec a c _).mono ?_); rintro e uw1 ⟨rfl, hv⟩; rw [hbr]; go_wp2_with fail; exact hK.out _ (qB.more hv))
        | (go_simp; go_at_call 79; (with_reducible refine (mass_spec a c HBD.out.1 HBD.out.2.1 HBD.out.2.2.1 HBD.out.2.2.2 _).mono ?_); rintro e uw1 ⟨rfl, hv⟩; go_wp2_with fail; exact hK.out _ (qB.more hv))
        | (go_simp; go_at_call 69; (with_reducible refine (HST.out _).mono ?_); rintro e uw1 ⟨rfl, hv⟩; go_wp2_with fail; exact hK.out _ (qB.more hv))
    try simp only [Act.put, List.setIfInBounds_toArray, List.set_cons_zero, List.set_cons_succ])
  refine SeqH.end' rfl ?_
  intro v6 hS
  clear B
  have B := hS; clear hS
  have B_0 := B.cells 0 _ rfl
  have B_1 := B.cells 1 _ rfl
  have B_f0 := B.free 0 (by simp)
  have B_f1 := B.free 1 (by simp)
  have B_t := B.there
  have x0_c := ((bcell B.below).1 _ _ hbl).trans x0
  have x1_c := ((bcell B.below).1 _ _ hbl).trans x1
  go_wp2
  go_ret
  exact rpost (by rw [HV.out] <;> rfl) B.below
end Go.Proofs.Ytngominkeammiaa.LadZ
