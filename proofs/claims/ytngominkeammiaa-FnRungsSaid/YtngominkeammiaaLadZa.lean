/- Ladders: l13Asked, RoomOnRung, SunOnRung. Made by tools/mk_lady.py. -/
import Derived.Test.YtngominkeammiaaLadY
import Derived.Test.YtngominkeammiaaRegn3
import Derived.Lib.MinMax
import Derived.Deep.Cut
import Derived.Deep.CutBlock
import Derived.Deep.CutRange
import Derived.Deep.DeepCutAuto
namespace Go.Proofs.Ytngominkeammiaa.LadZa
open Go.RowKit Go.Proofs.Ytngominkeammiaa.Mem Go.Proofs.Ytngominkeammiaa.Base Go.Proofs.Ytngominkeammiaa.Within Go.Proofs.Ytngominkeammiaa.Brine Go.Proofs.Ytngominkeammiaa.Regn Go.Proofs.Ytngominkeammiaa.Boxes Go.Proofs.Ytngominkeammiaa.Keep Go.Proofs.Ytngominkeammiaa.LadP Go.Proofs.Ytngominkeammiaa.LadS Go.Proofs.Ytngominkeammiaa.LadG Go.Proofs.Ytngominkeammiaa.LadY
open Go.Proofs.Ytngominkeammiaa.SRung hiding RPost rpost
set_option linter.unusedVariables false
set_option linter.unusedSimpArgs false
set_option maxRecDepth 100000
set_option maxHeartbeats 1600000 in
theorem room_impl (P : Option Addr) (cap : Nat) (l : List R) (i a c : Int) (w : World) (hr : Rd w w.heap.size P (flat l)) (hn : l.length ≤ 1048576) :
    Calls Try.prog 32 #[.slice P l.length cap, .int .i64 i, .agg #[.int .i64 a, .int .i64 c]] w (RPost (roomV l i a c) w) := by
  have HR := Lib.hid hr; clear hr
  cases hk : asked l i a c
  · have HV := Lib.hid (room_no hk)
    have HU := Lib.hid (und_no hk)
    go_enter Try.func32, Try.ntmps32
    go_wp2_with fail
    have B := Box.new (Below.refl _ w) [.int .i64 a, .int .i64 c] 32 (g := w.heap.size) rfl
    generalize (w.alloc (.cells #[.int .i64 a, .int .i64 c] 32)) = W1 at B ⊢
    have B_0 := B.cells 0 _ rfl
    have B_1 := B.cells 1 _ rfl
    have B_f0 := B.free 0 (by simp)
    have B_f1 := B.free 1 (by simp)
    have B_t := B.there
    go_wp2_with fail
    refine (und_impl P cap l i a c _ (rd_keep HR.out B.below) hn).mono ?_
    rintro e v2 ⟨rfl, hv2⟩
    clear B_0 B_1 B_f0 B_f1 B_t
    replace B := B.more hv2
    have zhv2 := hv2.size
    clear hv2
    have B_0 := B.cells 0 _ rfl
    have B_1 := B.cells 1 _ rfl
    have B_f0 := B.free 0 (by simp)
    have B_f1 := B.free 1 (by simp)
    have B_t := B.there
    rw [HU.out]
    go_wp2
    go_ret2
    exact rpost (by rw [HV.out] <;> rfl) (al B.below)
  obtain ⟨hg, hbr, hm, k, x, hlt, rfl, hx, hox, hst, hgx⟩ := ask_parts hk
  obtain ⟨a0, a1, c0, c1⟩ := okB_true hbr
  obtain ⟨x0b, x1b, x2b⟩ := okR_true hox
  have HU := Lib.hid (und_yes hk hgx)
  rcases Int.lt_or_le 0 x.f0 with hp | hp
  · have HV := Lib.hid ((room_yes hk hgx).trans (show _ = Value.tuple #[.int .i64 (least (1000000 - a) (1000 * c / x.f0 - (a + c))), .bool true] by unfold roomI; rw [if_pos hp]))
    have y0 : IntKind.i64.wrap (1000000 - a) = 1000000 - a := IntWalk.i64_in _ (by omega)
    have y1 : IntKind.i64.wrap (1000 * c) = 1000 * c := IntWalk.i64_in _ (by omega)
    have y2 : (1000 * c).tdiv x.f0 = 1000 * c / x.f0 := Int.tdiv_eq_ediv_of_nonneg (by omega)
    have y3 : 0 ≤ 1000 * c / x.f0 := Int.ediv_nonneg (by omega) (by omega)
    have y4 : 1000 * c / x.f0 ≤ 1000 * c := Int.ediv_le_self _ (by omega)
    have y5 : IntKind.i64.wrap (1000 * c / x.f0) = 1000 * c / x.f0 := IntWalk.i64_in _ (by omega)
    have y6 : IntKind.i64.wrap (1000 * c / x.f0 - (a + c)) = 1000 * c / x.f0 - (a + c) := IntWalk.i64_in _ (by omega)
    have y7 : ¬ x.f0 = 0 := by omega
    have y8 : (x.f0 == 0) = false := beq_eq_false_iff_ne.2 y7
    have hp1 : decide (0 < x.f0) = true := decide_eq_true hp
    have HLM := Lib.hid (least_min (1000000 - a) (1000 * c / x.f0 - (a + c)))
    have HX := Lib.hid hx
    clear y3 y4 y7 hp hm hg hbr hox hst hgx hk hx x0b x1b x2b
    go_enter Try.func32, Try.ntmps32
    go_wp2_with fail
    have B := Box.new (Below.refl _ w) [.int .i64 a, .int .i64 c] 32 (g := w.heap.size) rfl
    generalize (w.alloc (.cells #[.int .i64 a, .int .i64 c] 32)) = W1 at B ⊢
    have B_0 := B.cells 0 _ rfl
    have B_1 := B.cells 1 _ rfl
    have B_f0 := B.free 0 (by simp)
    have B_f1 := B.free 1 (by simp)
    have B_t := B.there
    go_wp2_with fail
    refine (und_impl P cap l k a c _ (rd_keep HR.out B.below) hn).mono ?_
    rintro e v2 ⟨rfl, hv2⟩
    clear B_0 B_1 B_f0 B_f1 B_t
    replace B := B.more hv2
    have zhv2 := hv2.size
    clear hv2
    have B_0 := B.cells 0 _ rfl
    have B_1 := B.cells 1 _ rfl
    have B_f0 := B.free 0 (by simp)
    have B_f1 := B.free 1 (by simp)
    have B_t := B.there
    rw [HU.out]
    go_upto_region 2 with fail
    have B_t3 := B.there
    have G := Box.new B.below [.int .i64 x.f0, .int .i64 x.f1] 54 (g := v2.heap.size) rfl
    clear B_0 B_1 B_f0 B_f1 B_t
    replace B := (B).alloc (.cells #[.int .i64 x.f0, .int .i64 x.f1] 54)
    generalize (v2.alloc (.cells #[.int .i64 x.f0, .int .i64 x.f1] 54)) = W3 at G B ⊢
    have B_0 := B.cells 0 _ rfl
    have B_1 := B.cells 1 _ rfl
    have B_f0 := B.free 0 (by simp)
    have B_f1 := B.free 1 (by simp)
    have B_t := B.there
    have G_0 := G.cells 0 _ rfl
    have G_1 := G.cells 1 _ rfl
    have G_f0 := G.free 0 (by simp)
    have G_f1 := G.free 1 (by simp)
    have G_t := G.there
    go_upto_region 6 with fail
    have y7 : ¬ x.f0 = 0 := by simpa using y8
    refine wp_region_text (fun w' => Box (w.heap.size) [.int .i64 a, .int .i64 c] w w' ∧ Box (v2.heap.size) [.int .i64 x.f0, .int .i64 x.f1] w w') (by kernel_rfl) (by kernel_rfl) ⟨B.drew, G.drew⟩ ?_
    clear B_0 B_1 B_f0 B_f1 B_t
    clear G_0 G_1 G_f0 G_f1 G_t
    iterate 12 (
      apply SeqH.one
      · intro uw K hS hK
        obtain ⟨qB, qG⟩ := hS
        have qB_0 := qB.cells 0 _ rfl
        have qB_1 := qB.cells 1 _ rfl
        have qG_0 := qG.cells 0 _ rfl
        have qG_1 := qG.cells 1 _ rfl
        first
          | (go_simp; exact hK.out _ ⟨qB, qG⟩)
          | (go_simp; go_at_call 77; (with_reducible refine (IBrine.mass_impl a c a0 a1 c0 c1 _).mono ?_); rintro e uw1 ⟨rfl, hv⟩; go_wp2_with fail; exact hK.out _ ⟨qB.more hv, qG.more hv⟩)
      try simp only [Act.put, List.setIfInBounds_toArray, List.set_cons_zero, List.set_cons_succ])
    refine SeqH.end' rfl ?_
    intro v4 hS
    clear B G
    obtain ⟨B, G⟩ := hS
    have B_0 := B.cells 0 _ rfl
    have B_1 := B.cells 1 _ rfl
    have B_f0 := B.free 0 (by simp)
    have B_f1 := B.free 1 (by simp)
    have B_t := B.there
    have G_0 := G.cells 0 _ rfl
    have G_1 := G.cells 1 _ rfl
    have G_f0 := G.free 0 (by simp)
    have G_f1 := G.free 1 (by simp)
    have G_t := G.there
    go_wp2
    go_ret2
    exact rpost (by rw [HV.out, ← HLM.out] <;> rfl) B.below
  · have HV := Lib.hid ((room_yes hk hgx).trans (show _ = Value.tuple #[.int .i64 (1000000 - a), .bool true] by unfold roomI; rw [if_neg (by omega)]))
    have y0 : IntKind.i64.wrap (1000000 - a) = 1000000 - a := IntWalk.i64_in _ (by omega)
    have y1 : IntKind.i64.wrap (1000 * c) = 1000 * c := IntWalk.i64_in _ (by omega)
    have hp1 : decide (0 < x.f0) = false := decide_eq_false (by omega)
    have HX := Lib.hid hx
    clear hp hm hg hbr hox hst hgx hk hx x0b x1b x2b
    go_enter Try.func32, Try.ntmps32
    go_wp2_with fail
    have B := Box.new (Below.refl _ w) [.int .i64 a, .int .i64 c] 32 (g := w.heap.size) rfl
    generalize (w.alloc (.cells #[.int .i64 a, .int .i64 c] 32)) = W1 at B ⊢
    have B_0 := B.cells 0 _ rfl
    have B_1 := B.cells 1 _ rfl
    have B_f0 := B.free 0 (by simp)
    have B_f1 := B.free 1 (by simp)
    have B_t := B.there
    go_wp2_with fail
    refine (und_impl P cap l k a c _ (rd_keep HR.out B.below) hn).mono ?_
    rintro e v2 ⟨rfl, hv2⟩
    clear B_0 B_1 B_f0 B_f1 B_t
    replace B := B.more hv2
    have zhv2 := hv2.size
    clear hv2
    have B_0 := B.cells 0 _ rfl
    have B_1 := B.cells 1 _ rfl
    have B_f0 := B.free 0 (by simp)
    have B_f1 := B.free 1 (by simp)
    have B_t := B.there
    rw [HU.out]
    go_upto_region 2 with fail
    have B_t3 := B.there
    have G := Box.new B.below [.int .i64 x.f0, .int .i64 x.f1] 54 (g := v2.heap.size) rfl
    clear B_0 B_1 B_f0 B_f1 B_t
    replace B := (B).alloc (.cells #[.int .i64 x.f0, .int .i64 x.f1] 54)
    generalize (v2.alloc (.cells #[.int .i64 x.f0, .int .i64 x.f1] 54)) = W3 at G B ⊢
    have B_0 := B.cells 0 _ rfl
    have B_1 := B.cells 1 _ rfl
    have B_f0 := B.free 0 (by simp)
    have B_f1 := B.free 1 (by simp)
    have B_t := B.there
    have G_0 := G.cells 0 _ rfl
    have G_1 := G.cells 1 _ rfl
    have G_f0 := G.free 0 (by simp)
    have G_f1 := G.free 1 (by simp)
    have G_t := G.there
    go_wp2
    go_ret2
    exact rpost (by rw [HV.out] <;> rfl) B.below
set_option maxHeartbeats 1600000 in
theorem sun_impl (P : Option Addr) (cap : Nat) (l : List R) (i a c : Int) (w : World) (hr : Rd w w.heap.size P (flat l)) (hn : l.length ≤ 1048576) :
    Calls Try.prog 34 #[.slice P l.length cap, .int .i64 i, .agg #[.int .i64 a, .int .i64 c]] w (RPost (sunV l i a c) w) := by
  have HR := Lib.hid hr; clear hr
  cases hk : asked l i a c
  · have HV := Lib.hid (sun_no hk)
    have HU := Lib.hid (und_no hk)
    go_enter Try.func34, Try.ntmps34
    go_wp2_with fail
    have B := Box.new (Below.refl _ w) [.int .i64 a, .int .i64 c] 32 (g := w.heap.size) rfl
    generalize (w.alloc (.cells #[.int .i64 a, .int .i64 c] 32)) = W1 at B ⊢
    have B_0 := B.cells 0 _ rfl
    have B_1 := B.cells 1 _ rfl
    have B_f0 := B.free 0 (by simp)
    have B_f1 := B.free 1 (by simp)
    have B_t := B.there
    go_wp2_with fail
    refine (und_impl P cap l i a c _ (rd_keep HR.out B.below) hn).mono ?_
    rintro e v2 ⟨rfl, hv2⟩
    clear B_0 B_1 B_f0 B_f1 B_t
    replace B := B.more hv2
    have zhv2 := hv2.size
    clear hv2
    have B_0 := B.cells 0 _ rfl
    have B_1 := B.cells 1 _ rfl
    have B_f0 := B.free 0 (by simp)
    have B_f1 := B.free 1 (by simp)
    have B_t := B.there
    rw [HU.out]
    go_wp2
    go_ret2
    exact rpost (by rw [HV.out] <;> rfl) (al B.below)
  obtain ⟨hg, hbr, hm, k, x, hlt, rfl, hx, hox, hst, hgx⟩ := ask_parts hk
  obtain ⟨a0, a1, c0, c1⟩ := okB_true hbr
  obtain ⟨x0b, x1b, x2b⟩ := okR_true hox
  have HU := Lib.hid (und_yes hk hgx)
  by_cases hb : c = 0
  · have HV := Lib.hid ((sun_yes hk hgx).trans (show _ = Value.tuple #[.int .i64 a, .bool true] by unfold sunI; rw [if_pos hb]))
    have z3 : (c == 0) = true := beq_iff_eq.2 hb
    have HX := Lib.hid hx
    clear hb hm hg hbr hox hst hgx hk hx x0b x1b x2b c0 c1
    go_enter Try.func34, Try.ntmps34
    go_wp2_with fail
    have B := Box.new (Below.refl _ w) [.int .i64 a, .int .i64 c] 32 (g := w.heap.size) rfl
    generalize (w.alloc (.cells #[.int .i64 a, .int .i64 c] 32)) = W1 at B ⊢
    have B_0 := B.cells 0 _ rfl
    have B_1 := B.cells 1 _ rfl
    have B_f0 := B.free 0 (by simp)
    have B_f1 := B.free 1 (by simp)
    have B_t := B.there
    go_wp2_with fail
    refine (und_impl P cap l k a c _ (rd_keep HR.out B.below) hn).mono ?_
    rintro e v2 ⟨rfl, hv2⟩
    clear B_0 B_1 B_f0 B_f1 B_t
    replace B := B.more hv2
    have zhv2 := hv2.size
    clear hv2
    have B_0 := B.cells 0 _ rfl
    have B_1 := B.cells 1 _ rfl
    have B_f0 := B.free 0 (by simp)
    have B_f1 := B.free 1 (by simp)
    have B_t := B.there
    rw [HU.out]
    go_upto_region 2 with fail
    have B_t3 := B.there
    have G := Box.new B.below [.int .i64 x.f0, .int .i64 x.f1] 54 (g := v2.heap.size) rfl
    clear B_0 B_1 B_f0 B_f1 B_t
    replace B := (B).alloc (.cells #[.int .i64 x.f0, .int .i64 x.f1] 54)
    generalize (v2.alloc (.cells #[.int .i64 x.f0, .int .i64 x.f1] 54)) = W3 at G B ⊢
    have B_0 := B.cells 0 _ rfl
    have B_1 := B.cells 1 _ rfl
    have B_f0 := B.free 0 (by simp)
    have B_f1 := B.free 1 (by simp)
    have B_t := B.there
    have G_0 := G.cells 0 _ rfl
    have G_1 := G.cells 1 _ rfl
    have G_f0 := G.free 0 (by simp)
    have G_f1 := G.free 1 (by simp)
    have G_t := G.there
    go_wp2
    go_ret2
    exact rpost (by rw [HV.out] <;> rfl) B.below
  · have HV := Lib.hid ((sun_yes hk hgx).trans (show _ = Value.tuple #[.int .i64 (a + c - (1000 * c + x.f1 - 1) / x.f1), .bool true] by unfold sunI; rw [if_neg hb]))
    have z1 : IntKind.i64.wrap (1000 * c) = 1000 * c := IntWalk.i64_in _ (by omega)
    have h1 := high_pos hbr hst hb hox
    have hu := up_bd c0 c1 h1 x2b
    have z2 : IntKind.i64.wrap (a + c - (1000 * c + x.f1 - 1) / x.f1) = a + c - (1000 * c + x.f1 - 1) / x.f1 := IntWalk.i64_in _ (by omega)
    have z3 : (c == 0) = false := beq_eq_false_iff_ne.2 hb
    have HUP := Lib.hid (fun u => up_impl (1000 * c) x.f1 (by omega) (by omega) h1 (by omega) u)
    have HX := Lib.hid hx
    clear hb hu h1 hm hg hbr hox hst hgx hk hx x0b x1b x2b
    go_enter Try.func34, Try.ntmps34
    go_wp2_with fail
    have B := Box.new (Below.refl _ w) [.int .i64 a, .int .i64 c] 32 (g := w.heap.size) rfl
    generalize (w.alloc (.cells #[.int .i64 a, .int .i64 c] 32)) = W1 at B ⊢
    have B_0 := B.cells 0 _ rfl
    have B_1 := B.cells 1 _ rfl
    have B_f0 := B.free 0 (by simp)
    have B_f1 := B.free 1 (by simp)
    have B_t := B.there
    go_wp2_with fail
    refine (und_impl P cap l k a c _ (rd_keep HR.out B.below) hn).mono ?_
    rintro e v2 ⟨rfl, hv2⟩
    clear B_0 B_1 B_f0 B_f1 B_t
    replace B := B.more hv2
    have zhv2 := hv2.size
    clear hv2
    have B_0 := B.cells 0 _ rfl
    have B_1 := B.cells 1 _ rfl
    have B_f0 := B.free 0 (by simp)
    have B_f1 := B.free 1 (by simp)
    have B_t := B.there
    rw [HU.out]
    go_upto_region 2 with fail
    have B_t3 := B.there
    have G := Box.new B.below [.int .i64 x.f0, .int .i64 x.f1] 54 (g := v2.heap.size) rfl
    clear B_0 B_1 B_f0 B_f1 B_t
    replace B := (B).alloc (.cells #[.int .i64 x.f0, .int .i64 x.f1] 54)
    generalize (v2.alloc (.cells #[.int .i64 x.f0, .int .i64 x.f1] 54)) = W3 at G B ⊢
    have B_0 := B.cells 0 _ rfl
    have B_1 := B.cells 1 _ rfl
    have B_f0 := B.free 0 (by simp)
    have B_f1 := B.free 1 (by simp)
    have B_t := B.there
    have G_0 := G.cells 0 _ rfl
    have G_1 := G.cells 1 _ rfl
    have G_f0 := G.free 0 (by simp)
    have G_f1 := G.free 1 (by simp)
    have G_t := G.there
    go_upto_region 6 with fail
    refine wp_region_text (fun w' => Box (w.heap.size) [.int .i64 a, .int .i64 c] w w' ∧ Box (v2.heap.size) [.int .i64 x.f0, .int .i64 x.f1] w w') (by kernel_rfl) (by kernel_rfl) ⟨B.drew, G.drew⟩ ?_
    clear B_0 B_1 B_f0 B_f1 B_t
    clear G_0 G_1 G_f0 G_f1 G_t
    iterate 11 (
      apply SeqH.one
      · intro uw K hS hK
        obtain ⟨qB, qG⟩ := hS
        have qB_0 := qB.cells 0 _ rfl
        have qB_1 := qB.cells 1 _ rfl
        have qG_0 := qG.cells 0 _ rfl
        have qG_1 := qG.cells 1 _ rfl
        first
          | (go_simp; exact hK.out _ ⟨qB, qG⟩)
          | (go_simp; go_at_call 77; (with_reducible refine (IBrine.mass_impl a c a0 a1 c0 c1 _).mono ?_); rintro e uw1 ⟨rfl, hv⟩; go_wp2_with fail; exact hK.out _ ⟨qB.more hv, qG.more hv⟩)
          | (go_simp; go_at_call 80; (with_reducible refine (HUP.out _).mono ?_); rintro e _ ⟨rfl, rfl⟩; go_wp2_with fail; exact hK.out _ ⟨qB, qG⟩)
      try simp only [Act.put, List.setIfInBounds_toArray, List.set_cons_zero, List.set_cons_succ])
    refine SeqH.end' rfl ?_
    intro v4 hS
    clear B G
    obtain ⟨B, G⟩ := hS
    have B_0 := B.cells 0 _ rfl
    have B_1 := B.cells 1 _ rfl
    have B_f0 := B.free 0 (by simp)
    have B_f1 := B.free 1 (by simp)
    have B_t := B.there
    have G_0 := G.cells 0 _ rfl
    have G_1 := G.cells 1 _ rfl
    have G_f0 := G.free 0 (by simp)
    have G_f1 := G.free 1 (by simp)
    have G_t := G.there
    go_wp2
    go_ret2
    exact rpost (by rw [HV.out] <;> rfl) B.below
end Go.Proofs.Ytngominkeammiaa.LadZa
