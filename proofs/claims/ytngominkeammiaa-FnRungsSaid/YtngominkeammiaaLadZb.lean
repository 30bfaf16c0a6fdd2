/- Ladders: l13Asked, RoomOnRung, SunOnRung. Made by tools/mk_lady.py. -/
import Derived.Test.YtngominkeammiaaLadZ
import Derived.Test.YtngominkeammiaaRegn3
import Derived.Lib.MinMax
import Derived.Deep.Cut
import Derived.Deep.CutBlock
import Derived.Deep.CutRange
import Derived.Deep.DeepCutAuto
namespace Go.Proofs.Ytngominkeammiaa.LadZb
open Go.RowKit Go.Proofs.Ytngominkeammiaa.Mem Go.Proofs.Ytngominkeammiaa.Base Go.Proofs.Ytngominkeammiaa.Within Go.Proofs.Ytngominkeammiaa.Brine Go.Proofs.Ytngominkeammiaa.Regn Go.Proofs.Ytngominkeammiaa.Boxes Go.Proofs.Ytngominkeammiaa.Keep Go.Proofs.Ytngominkeammiaa.LadP Go.Proofs.Ytngominkeammiaa.LadS Go.Proofs.Ytngominkeammiaa.LadG Go.Proofs.Ytngominkeammiaa.LadY Go.Proofs.Ytngominkeammiaa.LadZ
open Go.Proofs.Ytngominkeammiaa.SRung hiding RPost rpost
set_option linter.unusedVariables false
set_option linter.unusedSimpArgs false
set_option maxRecDepth 100000
set_option maxHeartbeats 1600000 in
theorem room_spec (P : Option Addr) (cap : Nat) (l : List R) (i a c : Int) (w : World) (hr : Rd w w.heap.size P (flat l)) (hn : l.length ≤ 1048576) :
    Calls Try.prog 33 #[.slice P l.length cap, .int .i64 i, .agg #[.int .i64 a, .int .i64 c]] w (RPost (roomV l i a c) w) := by
  have HR := Lib.hid hr; clear hr
  cases hk : asked l i a c
  · have HV := Lib.hid (room_no hk)
    go_enter Try.func33, Try.ntmps33
    go_wp2_with fail
    have B := Box.new (Below.refl _ w) [.int .i64 a, .int .i64 c] 32 (g := w.heap.size) rfl
    generalize (w.alloc (.cells #[.int .i64 a, .int .i64 c] 32)) = W1 at B ⊢
    have B_0 := B.cells 0 _ rfl
    have B_1 := B.cells 1 _ rfl
    have B_f0 := B.free 0 (by simp)
    have B_f1 := B.free 1 (by simp)
    have B_t := B.there
    go_wp2_with fail
    refine (ask_spec P cap l i a c _ (rd_keep HR.out B.below) hn).mono ?_
    rintro e v2 ⟨rfl, hv2⟩
    clear B_0 B_1 B_f0 B_f1 B_t
    replace B := B.more hv2
    have zhv2 := hv2.size
    clear hv2
    have B_0 := B.cells 0 _ rfl
    have B_1 := B.cells 1 _ rfl
    have B_f0 := B.free 0 (by simp)
    have B_f1 := B.free 1 (by simp)
    have B_t := B.there
    rw [hk]
    go_wp2
    go_ret2
    exact rpost (by rw [HV.out] <;> rfl) B.below
  obtain ⟨hg, hbr, hm, k, x, hlt, rfl, hx, hox, hst, hgx⟩ := ask_parts hk
  obtain ⟨a0, a1, c0, c1⟩ := okB_true hbr
  obtain ⟨x0b, x1b, x2b⟩ := okR_true hox
  obtain ⟨b, o, rfl, hbl, hc⟩ := HR.out.at (k := k * 2) (by rw [flat_n]; omega)
  obtain ⟨x0, x1⟩ := cells2 (Below.refl _ w) hbl hc hlt hx
  have i1 : (k : Int) < l.length := by omega
  have HK := Lib.hid hk
  rcases Int.lt_or_le 0 x.f0 with hp | hp
  · have HV := Lib.hid ((room_yes hk hgx).trans (show _ = Value.tuple #[.int .i64 (least (1000000 - a) (1000 * c / x.f0 - (a + c))), .bool true] by unfold roomI; rw [if_pos hp]))
    have y0 : IntKind.i64.wrap (1000000 - a) = 1000000 - a := IntWalk.i64_in _ (by omega)
    have y1 : IntKind.i64.wrap (1000 * c) = 1000 * c := IntWalk.i64_in _ (by omega)
    have y2 : (1000 * c).tdiv x.f0 = 1000 * c / x.f0 := Int.tdiv_eq_ediv_of_nonneg (by omega)
    have y3 : 0 ≤ 1000 * c / x.f0 := Int.ediv_nonneg (by omega) (by omega)
    have y4 : 1000 * c / x.f0 ≤ 1000 * c := Int.ediv_le_self _ (by omega)
    have y5 : IntKind.i64.wrap (1000 * c / x.f0) = 1000 * c / x.f0 := IntWalk.i64_in _ (by omega)
    have y6 : IntKind.i64.wrap (1000 * c / x.f0 - (a + c)) = 1000 * c / x.f0 - (a + c) := IntWalk.i64_in _ (by omega)
    have y7 : ¬ x.f0 = 0 := by omega
    have y8 : (x.f0 == 0) = false := beq_eq_false_iff_ne.2 y7
    have hp1 : decide (0 < x.f0) = true := decide_eq_true hp
    have HX := Lib.hid hx
    clear y3 y4 y7 hp hm hg hbr hox hst hgx hk hx hc x0b x1b x2b
    go_enter Try.func33, Try.ntmps33
    go_wp2_with fail
    have B := Box.new (Below.refl _ w) [.int .i64 a, .int .i64 c] 32 (g := w.heap.size) rfl
    generalize (w.alloc (.cells #[.int .i64 a, .int .i64 c] 32)) = W1 at B ⊢
    have B_0 := B.cells 0 _ rfl
    have B_1 := B.cells 1 _ rfl
    have B_f0 := B.free 0 (by simp)
    have B_f1 := B.free 1 (by simp)
    have B_t := B.there
    have x0_c := ((bcell B.below).1 _ _ hbl).trans x0
    have x1_c := ((bcell B.below).1 _ _ hbl).trans x1
    go_wp2_with fail
    refine (ask_spec _ cap l k a c _ (rd_keep HR.out B.below) hn).mono ?_
    rintro e v2 ⟨rfl, hv2⟩
    clear B_0 B_1 B_f0 B_f1 B_t
    clear x0_c
    clear x1_c
    replace B := B.more hv2
    have zhv2 := hv2.size
    clear hv2
    have B_0 := B.cells 0 _ rfl
    have B_1 := B.cells 1 _ rfl
    have B_f0 := B.free 0 (by simp)
    have B_f1 := B.free 1 (by simp)
    have B_t := B.there
    have x0_c := ((bcell B.below).1 _ _ hbl).trans x0
    have x1_c := ((bcell B.below).1 _ _ hbl).trans x1
    rw [HK.out]
    have x0c := ((bcell B.below).1 _ _ hbl).trans x0
    go_upto_region 6 with fail
    clear x0c
    have y7 : ¬ x.f0 = 0 := by simpa using y8
    refine wp_region_text (fun w' => Box (w.heap.size) [.int .i64 a, .int .i64 c] w w') (by kernel_rfl) (by kernel_rfl) (B.drew) ?_
    clear B_0 B_1 B_f0 B_f1 B_t
    clear x0_c
    clear x1_c
    iterate 11 (
      apply SeqH.one
      · intro uw K hS hK
        have qB := hS
        have qB_0 := qB.cells 0 _ rfl
        have qB_1 := qB.cells 1 _ rfl
        have qx0_c := ((bcell qB.below).1 _ _ hbl).trans x0
        have qx1_c := ((bcell qB.below).1 _ _ hbl).trans x1
        first
          | (go_simp; exact hK.out _ qB)
          | (go_simp; go_at_call 60; (with_reducible refine (least_any _ _ _).mono ?_); rintro e _ ⟨rfl, rfl⟩; go_wp2_with fail; exact hK.out _ qB)
          | (go_simp; go_at_call 79; (with_reducible refine (mass_spec a c a0 a1 c0 c1 _).mono ?_); rintro e uw1 ⟨rfl, hv⟩; go_wp2_with fail; exact hK.out _ (qB.more hv))
      try simp only [Act.put, List.setIfInBounds_toArray, List.set_cons_zero, List.set_cons_succ])
    refine SeqH.end' rfl ?_
    intro v3 hS
    clear B
    have B := hS; clear hS
    have B_0 := B.cells 0 _ rfl
    have B_1 := B.cells 1 _ rfl
    have B_f0 := B.free 0 (by simp)
    have B_f1 := B.free 1 (by simp)
    have B_t := B.there
    have x0_c := ((bcell B.below).1 _ _ hbl).trans x0
    have x1_c := ((bcell B.below).1 _ _ hbl).trans x1
    go_wp2
    go_ret2
    exact rpost (by rw [HV.out] <;> rfl) B.below
  · have HV := Lib.hid ((room_yes hk hgx).trans (show _ = Value.tuple #[.int .i64 (1000000 - a), .bool true] by unfold roomI; rw [if_neg (by omega)]))
    have y0 : IntKind.i64.wrap (1000000 - a) = 1000000 - a := IntWalk.i64_in _ (by omega)
    have y1 : IntKind.i64.wrap (1000 * c) = 1000 * c := IntWalk.i64_in _ (by omega)
    have hp1 : decide (0 < x.f0) = false := decide_eq_false (by omega)
    have HX := Lib.hid hx
    clear hp hm hg hbr hox hst hgx hk hx hc x0b x1b x2b
    go_enter Try.func33, Try.ntmps33
    go_wp2_with fail
    have B := Box.new (Below.refl _ w) [.int .i64 a, .int .i64 c] 32 (g := w.heap.size) rfl
    generalize (w.alloc (.cells #[.int .i64 a, .int .i64 c] 32)) = W1 at B ⊢
    have B_0 := B.cells 0 _ rfl
    have B_1 := B.cells 1 _ rfl
    have B_f0 := B.free 0 (by simp)
    have B_f1 := B.free 1 (by simp)
    have B_t := B.there
    go_wp2_with fail
    refine (ask_spec _ cap l k a c _ (rd_keep HR.out B.below) hn).mono ?_
    rintro e v2 ⟨rfl, hv2⟩
    clear B_0 B_1 B_f0 B_f1 B_t
    replace B := B.more hv2
    have zhv2 := hv2.size
    clear hv2
    have B_0 := B.cells 0 _ rfl
    have B_1 := B.cells 1 _ rfl
    have B_f0 := B.free 0 (by simp)
    have B_f1 := B.free 1 (by simp)
    have B_t := B.there
    rw [HK.out]
    have x0c := ((bcell B.below).1 _ _ hbl).trans x0
    go_wp2
    go_ret2
    exact rpost (by rw [HV.out] <;> rfl) B.below
set_option maxHeartbeats 1600000 in
theorem sun_spec (P : Option Addr) (cap : Nat) (l : List R) (i a c : Int) (w : World) (hr : Rd w w.heap.size P (flat l)) (hn : l.length ≤ 1048576) :
    Calls Try.prog 35 #[.slice P l.length cap, .int .i64 i, .agg #[.int .i64 a, .int .i64 c]] w (RPost (sunV l i a c) w) := by
  have HR := Lib.hid hr; clear hr
  cases hk : asked l i a c
  · have HV := Lib.hid (sun_no hk)
    go_enter Try.func35, Try.ntmps35
    go_wp2_with fail
    have B := Box.new (Below.refl _ w) [.int .i64 a, .int .i64 c] 32 (g := w.heap.size) rfl
    generalize (w.alloc (.cells #[.int .i64 a, .int .i64 c] 32)) = W1 at B ⊢
    have B_0 := B.cells 0 _ rfl
    have B_1 := B.cells 1 _ rfl
    have B_f0 := B.free 0 (by simp)
    have B_f1 := B.free 1 (by simp)
    have B_t := B.there
    go_wp2_with fail
    refine (ask_spec P cap l i a c _ (rd_keep HR.out B.below) hn).mono ?_
    rintro e v2 ⟨rfl, hv2⟩
    clear B_0 B_1 B_f0 B_f1 B_t
    replace B := B.more hv2
    have zhv2 := hv2.size
    clear hv2
    have B_0 := B.cells 0 _ rfl
    have B_1 := B.cells 1 _ rfl
    have B_f0 := B.free 0 (by simp)
    have B_f1 := B.free 1 (by simp)
    have B_t := B.there
    rw [hk]
    go_wp2
    go_ret2
    exact rpost (by rw [HV.out] <;> rfl) B.below
  obtain ⟨hg, hbr, hm, k, x, hlt, rfl, hx, hox, hst, hgx⟩ := ask_parts hk
  obtain ⟨a0, a1, c0, c1⟩ := okB_true hbr
  obtain ⟨x0b, x1b, x2b⟩ := okR_true hox
  obtain ⟨b, o, rfl, hbl, hc⟩ := HR.out.at (k := k * 2) (by rw [flat_n]; omega)
  obtain ⟨x0, x1⟩ := cells2 (Below.refl _ w) hbl hc hlt hx
  have i1 : (k : Int) < l.length := by omega
  have HK := Lib.hid hk
  by_cases hb : c = 0
  · have HV := Lib.hid ((sun_yes hk hgx).trans (show _ = Value.tuple #[.int .i64 a, .bool true] by unfold sunI; rw [if_pos hb]))
    have z3 : (c == 0) = true := beq_iff_eq.2 hb
    have HX := Lib.hid hx
    clear hb hm hg hbr hox hst hgx hk hx hc x0b x1b x2b c0 c1
    go_enter Try.func35, Try.ntmps35
    go_wp2_with fail
    have B := Box.new (Below.refl _ w) [.int .i64 a, .int .i64 c] 32 (g := w.heap.size) rfl
    generalize (w.alloc (.cells #[.int .i64 a, .int .i64 c] 32)) = W1 at B ⊢
    have B_0 := B.cells 0 _ rfl
    have B_1 := B.cells 1 _ rfl
    have B_f0 := B.free 0 (by simp)
    have B_f1 := B.free 1 (by simp)
    have B_t := B.there
    go_wp2_with fail
    refine (ask_spec _ cap l k a c _ (rd_keep HR.out B.below) hn).mono ?_
    rintro e v2 ⟨rfl, hv2⟩
    clear B_0 B_1 B_f0 B_f1 B_t
    replace B := B.more hv2
    have zhv2 := hv2.size
    clear hv2
    have B_0 := B.cells 0 _ rfl
    have B_1 := B.cells 1 _ rfl
    have B_f0 := B.free 0 (by simp)
    have B_f1 := B.free 1 (by simp)
    have B_t := B.there
    rw [HK.out]
    go_wp2
    go_ret2
    exact rpost (by rw [HV.out] <;> rfl) B.below
  · have HV := Lib.hid ((sun_yes hk hgx).trans (show _ = Value.tuple #[.int .i64 (least a (a + c - (1000 * c + x.f1 - 1) / x.f1)), .bool true] by rw [sun_least hbr hst hb hox]))
    have z1 : IntKind.i64.wrap (1000 * c) = 1000 * c := IntWalk.i64_in _ (by omega)
    have h1 := high_pos hbr hst hb hox
    have hu := up_bd c0 c1 h1 x2b
    have z2 : IntKind.i64.wrap (a + c - (1000 * c + x.f1 - 1) / x.f1) = a + c - (1000 * c + x.f1 - 1) / x.f1 := IntWalk.i64_in _ (by omega)
    have z3 : (c == 0) = false := beq_eq_false_iff_ne.2 hb
    have z4 : (1000 * c + x.f1 - 1).tdiv x.f1 = (1000 * c + x.f1 - 1) / x.f1 := Int.tdiv_eq_ediv_of_nonneg (by omega)
    have z5 : IntKind.i64.wrap ((1000 * c + x.f1 - 1) / x.f1) = (1000 * c + x.f1 - 1) / x.f1 := IntWalk.i64_in _ (by omega)
    have z6 : IntKind.i64.wrap (1000 * c + x.f1) = 1000 * c + x.f1 := IntWalk.i64_in _ (by omega)
    have z7 : IntKind.i64.wrap (1000 * c + x.f1 - 1) = 1000 * c + x.f1 - 1 := IntWalk.i64_in _ (by omega)
    have z8 : ¬ x.f1 = 0 := by omega
    have z9 : (x.f1 == 0) = false := beq_eq_false_iff_ne.2 z8
    have HX := Lib.hid hx
    clear hb hu h1 hm hg hbr hox hst hgx hk hx hc x0b x1b x2b
    go_enter Try.func35, Try.ntmps35
    go_wp2_with fail
    have B := Box.new (Below.refl _ w) [.int .i64 a, .int .i64 c] 32 (g := w.heap.size) rfl
    generalize (w.alloc (.cells #[.int .i64 a, .int .i64 c] 32)) = W1 at B ⊢
    have B_0 := B.cells 0 _ rfl
    have B_1 := B.cells 1 _ rfl
    have B_f0 := B.free 0 (by simp)
    have B_f1 := B.free 1 (by simp)
    have B_t := B.there
    have x0_c := ((bcell B.below).1 _ _ hbl).trans x0
    have x1_c := ((bcell B.below).1 _ _ hbl).trans x1
    go_wp2_with fail
    refine (ask_spec _ cap l k a c _ (rd_keep HR.out B.below) hn).mono ?_
    rintro e v2 ⟨rfl, hv2⟩
    clear B_0 B_1 B_f0 B_f1 B_t
    clear x0_c
    clear x1_c
    replace B := B.more hv2
    have zhv2 := hv2.size
    clear hv2
    have B_0 := B.cells 0 _ rfl
    have B_1 := B.cells 1 _ rfl
    have B_f0 := B.free 0 (by simp)
    have B_f1 := B.free 1 (by simp)
    have B_t := B.there
    have x0_c := ((bcell B.below).1 _ _ hbl).trans x0
    have x1_c := ((bcell B.below).1 _ _ hbl).trans x1
    rw [HK.out]
    go_upto_region 5 with fail
    refine wp_region_text (fun w' => Box (w.heap.size) [.int .i64 a, .int .i64 c] w w') (by kernel_rfl) (by kernel_rfl) (B.drew) ?_
    clear B_0 B_1 B_f0 B_f1 B_t
    clear x0_c
    clear x1_c
    iterate 24 (
      apply SeqH.one
      · intro uw K hS hK
        have qB := hS
        have qB_0 := qB.cells 0 _ rfl
        have qB_1 := qB.cells 1 _ rfl
        have qx0_c := ((bcell qB.below).1 _ _ hbl).trans x0
        have qx1_c := ((bcell qB.below).1 _ _ hbl).trans x1
        first
          | (go_simp; exact hK.out _ qB)
          | (go_simp; go_at_call 60; (with_reducible refine (least_any _ _ _).mono ?_); rintro e _ ⟨rfl, rfl⟩; go_wp2_with fail; exact hK.out _ qB)
          | (go_simp; go_at_call 79; (with_reducible refine (mass_spec a c a0 a1 c0 c1 _).mono ?_); rintro e uw1 ⟨rfl, hv⟩; go_wp2_with fail; exact hK.out _ (qB.more hv))
      try simp only [Act.put, List.setIfInBounds_toArray, List.set_cons_zero, List.set_cons_succ])
    refine SeqH.end' rfl ?_
    intro v3 hS
    clear B
    have B := hS; clear hS
    have B_0 := B.cells 0 _ rfl
    have B_1 := B.cells 1 _ rfl
    have B_f0 := B.free 0 (by simp)
    have B_f1 := B.free 1 (by simp)
    have B_t := B.there
    have x0_c := ((bcell B.below).1 _ _ hbl).trans x0
    have x1_c := ((bcell B.below).1 _ _ hbl).trans x1
    go_wp2
    go_ret2
    exact rpost (by rw [HV.out] <;> rfl) B.below
end Go.Proofs.Ytngominkeammiaa.LadZb
