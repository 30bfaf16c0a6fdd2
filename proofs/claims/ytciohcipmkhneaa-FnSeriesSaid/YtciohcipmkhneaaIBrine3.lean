/- The program's TakePart. -/
import Derived.Test.YtciohcipmkhneaaIBrine2
namespace Go.Proofs.Ytciohcipmkhneaa.IBrine3
open Go.RowKit Go.Proofs.Ytciohcipmkhneaa.Mem Go.Proofs.Ytciohcipmkhneaa.Base Go.Proofs.Ytciohcipmkhneaa.Brine Go.Proofs.Ytciohcipmkhneaa.Brine2 Go.Proofs.Ytciohcipmkhneaa.Regn Go.Proofs.Ytciohcipmkhneaa.Boxes Go.Proofs.Ytciohcipmkhneaa.IBrine Go.Proofs.Ytciohcipmkhneaa.Brine6
set_option linter.unusedVariables false
set_option maxRecDepth 100000
set_option maxHeartbeats 400000 in
theorem take_impl (a b n : Int) (w : World) : Calls Try.prog 134 #[.agg #[.int .i64 a, .int .i64 b], .int .i64 n] w (RPost (takeV a b n) w) := by
  go_enter Try.func134, Try.ntmps134
  go_wp2_with fail
  have B := ((Box.new (Below.refl _ w) [.int .i64 a, .int .i64 b] 26 (g := w.heap.size) rfl).alloc (.cells #[.int .i64 0, .int .i64 0] 26)).alloc (.cells #[.int .i64 0, .int .i64 0] 26)
  have C := (Box.new (al (Below.refl _ w) (o := (.cells #[.int .i64 a, .int .i64 b] 26))) [.int .i64 0, .int .i64 0] 26 (g := w.heap.size + 1) (by simp only [size_alloc'])).alloc (.cells #[.int .i64 0, .int .i64 0] 26)
  have D := Box.new (al (al (Below.refl _ w) (o := (.cells #[.int .i64 a, .int .i64 b] 26))) (o := (.cells #[.int .i64 0, .int .i64 0] 26))) [.int .i64 0, .int .i64 0] 26 (g := w.heap.size + 1 + 1) (by simp only [size_alloc'])
  generalize (((w.alloc (.cells #[.int .i64 a, .int .i64 b] 26)).alloc (.cells #[.int .i64 0, .int .i64 0] 26)).alloc (.cells #[.int .i64 0, .int .i64 0] 26)) = W1 at B C D ⊢
  have B_0 := B.cells 0 _ rfl
  have B_1 := B.cells 1 _ rfl
  have B_f0 := B.free 0 (by simp)
  have B_f1 := B.free 1 (by simp)
  have B_t := B.there
  have C_0 := C.cells 0 _ rfl
  have C_1 := C.cells 1 _ rfl
  have C_f0 := C.free 0 (by simp)
  have C_f1 := C.free 1 (by simp)
  have C_t := C.there
  have D_0 := D.cells 0 _ rfl
  have D_1 := D.cells 1 _ rfl
  have D_f0 := D.free 0 (by simp)
  have D_f1 := D.free 1 (by simp)
  have D_t := D.there
  go_wp2_with fail
  refine (brine_impl a b _).mono ?_
  rintro e v2 ⟨rfl, hv2⟩
  clear B_0 B_1 B_f0 B_f1 B_t
  clear C_0 C_1 C_f0 C_f1 C_t
  clear D_0 D_1 D_f0 D_f1 D_t
  replace B := B.more hv2
  replace C := C.more hv2
  replace D := D.more hv2
  have zhv2 := hv2.size
  clear hv2
  have B_0 := B.cells 0 _ rfl
  have B_1 := B.cells 1 _ rfl
  have B_f0 := B.free 0 (by simp)
  have B_f1 := B.free 1 (by simp)
  have B_t := B.there
  have C_0 := C.cells 0 _ rfl
  have C_1 := C.cells 1 _ rfl
  have C_f0 := C.free 0 (by simp)
  have C_f1 := C.free 1 (by simp)
  have C_t := C.there
  have D_0 := D.cells 0 _ rfl
  have D_1 := D.cells 1 _ rfl
  have D_f0 := D.free 0 (by simp)
  have D_f1 := D.free 1 (by simp)
  have D_t := D.there
  cases hok : okB a b
  · go_wp2
    clear B_0 B_1 B_f0 B_f1 B_t
    clear C_0 C_1 C_f0 C_f1 C_t
    clear D_0 D_1 D_f0 D_f1 D_t
    have B_t3 := B.there
    have C_t3 := C.there
    have D_t3 := D.there
    have B' : Box (w.heap.size) [.int .i64 a, .int .i64 b] w _ := ((((B.far C.base (by omega) 0 (.int .i64 0)).far C.base (by omega) 1 (.int .i64 0)).far D.base (by omega) 0 (.int .i64 0)).far D.base (by omega) 1 (.int .i64 0))
    have C' : Box (w.heap.size + 1) [.int .i64 0, .int .i64 0] w _ := ((((C.set 0 (.int .i64 0)).set 1 (.int .i64 0)).far D.base (by omega) 0 (.int .i64 0)).far D.base (by omega) 1 (.int .i64 0))
    have D' : Box (w.heap.size + 1 + 1) [.int .i64 0, .int .i64 0] w _ := ((((D.far C.base (by omega) 0 (.int .i64 0)).far C.base (by omega) 1 (.int .i64 0)).set 0 (.int .i64 0)).set 1 (.int .i64 0))
    clear B; have B := B'; clear B'
    clear C; have C := C'; clear C'
    clear D; have D := D'; clear D'
    have sz3 : ((((v2.setCell ⟨w.heap.size + 1, 0, none⟩ (.int .i64 0)).setCell ⟨w.heap.size + 1, 1, none⟩ (.int .i64 0)).setCell ⟨w.heap.size + 1 + 1, 0, none⟩ (.int .i64 0)).setCell ⟨w.heap.size + 1 + 1, 1, none⟩ (.int .i64 0)).heap.size = v2.heap.size := by simp only [size_set']
    generalize ((((v2.setCell ⟨w.heap.size + 1, 0, none⟩ (.int .i64 0)).setCell ⟨w.heap.size + 1, 1, none⟩ (.int .i64 0)).setCell ⟨w.heap.size + 1 + 1, 0, none⟩ (.int .i64 0)).setCell ⟨w.heap.size + 1 + 1, 1, none⟩ (.int .i64 0)) = W3 at B C D sz3 ⊢
    replace sz3 := Lib.hid sz3
    have B_0 := B.cells 0 _ rfl
    have B_1 := B.cells 1 _ rfl
    have B_f0 := B.free 0 (by simp)
    have B_f1 := B.free 1 (by simp)
    have B_t := B.there
    have C_0 := C.cells 0 _ rfl
    have C_1 := C.cells 1 _ rfl
    have C_f0 := C.free 0 (by simp)
    have C_f1 := C.free 1 (by simp)
    have C_t := C.there
    have D_0 := D.cells 0 _ rfl
    have D_1 := D.cells 1 _ rfl
    have D_f0 := D.free 0 (by simp)
    have D_f1 := D.free 1 (by simp)
    have D_t := D.there
    exact bodyPost_ret (v := .tuple #[br 0 0, br 0 0, .bool false]) (by simp [br, results, Try.results134, go_sem, C_0, C_1, D_0, D_1]) rfl (rpost (take_no (by unfold takeOk; rw [hok]; rfl)).out.symm C.below)
  obtain ⟨ha, ha1, hb, hb1⟩ := okB_true hok
  go_wp2_with fail
  refine (mass_impl a b ha ha1 hb hb1 _).mono ?_
  rintro e v4 ⟨rfl, hv4⟩
  clear B_0 B_1 B_f0 B_f1 B_t
  clear C_0 C_1 C_f0 C_f1 C_t
  clear D_0 D_1 D_f0 D_f1 D_t
  replace B := B.more hv4
  replace C := C.more hv4
  replace D := D.more hv4
  have zhv4 := hv4.size
  clear hv4
  have B_0 := B.cells 0 _ rfl
  have B_1 := B.cells 1 _ rfl
  have B_f0 := B.free 0 (by simp)
  have B_f1 := B.free 1 (by simp)
  have B_t := B.there
  have C_0 := C.cells 0 _ rfl
  have C_1 := C.cells 1 _ rfl
  have C_f0 := C.free 0 (by simp)
  have C_f1 := C.free 1 (by simp)
  have C_t := C.there
  have D_0 := D.cells 0 _ rfl
  have D_1 := D.cells 1 _ rfl
  have D_f0 := D.free 0 (by simp)
  have D_f1 := D.free 1 (by simp)
  have D_t := D.there
  go_wp2_with fail
  refine (within_any _ _ _ _).mono ?_
  rintro e _ ⟨rfl, rfl⟩
  cases hin : inB n 0 (a + b)
  · go_wp2
    clear B_0 B_1 B_f0 B_f1 B_t
    clear C_0 C_1 C_f0 C_f1 C_t
    clear D_0 D_1 D_f0 D_f1 D_t
    have B_t6 := B.there
    have C_t6 := C.there
    have D_t6 := D.there
    have B' : Box (w.heap.size) [.int .i64 a, .int .i64 b] w _ := ((((B.far C.base (by omega) 0 (.int .i64 0)).far C.base (by omega) 1 (.int .i64 0)).far D.base (by omega) 0 (.int .i64 0)).far D.base (by omega) 1 (.int .i64 0))
    have C' : Box (w.heap.size + 1) [.int .i64 0, .int .i64 0] w _ := ((((C.set 0 (.int .i64 0)).set 1 (.int .i64 0)).far D.base (by omega) 0 (.int .i64 0)).far D.base (by omega) 1 (.int .i64 0))
    have D' : Box (w.heap.size + 1 + 1) [.int .i64 0, .int .i64 0] w _ := ((((D.far C.base (by omega) 0 (.int .i64 0)).far C.base (by omega) 1 (.int .i64 0)).set 0 (.int .i64 0)).set 1 (.int .i64 0))
    clear B; have B := B'; clear B'
    clear C; have C := C'; clear C'
    clear D; have D := D'; clear D'
    have sz6 : ((((v4.setCell ⟨w.heap.size + 1, 0, none⟩ (.int .i64 0)).setCell ⟨w.heap.size + 1, 1, none⟩ (.int .i64 0)).setCell ⟨w.heap.size + 1 + 1, 0, none⟩ (.int .i64 0)).setCell ⟨w.heap.size + 1 + 1, 1, none⟩ (.int .i64 0)).heap.size = v4.heap.size := by simp only [size_set']
    generalize ((((v4.setCell ⟨w.heap.size + 1, 0, none⟩ (.int .i64 0)).setCell ⟨w.heap.size + 1, 1, none⟩ (.int .i64 0)).setCell ⟨w.heap.size + 1 + 1, 0, none⟩ (.int .i64 0)).setCell ⟨w.heap.size + 1 + 1, 1, none⟩ (.int .i64 0)) = W6 at B C D sz6 ⊢
    replace sz6 := Lib.hid sz6
    have B_0 := B.cells 0 _ rfl
    have B_1 := B.cells 1 _ rfl
    have B_f0 := B.free 0 (by simp)
    have B_f1 := B.free 1 (by simp)
    have B_t := B.there
    have C_0 := C.cells 0 _ rfl
    have C_1 := C.cells 1 _ rfl
    have C_f0 := C.free 0 (by simp)
    have C_f1 := C.free 1 (by simp)
    have C_t := C.there
    have D_0 := D.cells 0 _ rfl
    have D_1 := D.cells 1 _ rfl
    have D_f0 := D.free 0 (by simp)
    have D_f1 := D.free 1 (by simp)
    have D_t := D.there
    exact bodyPost_ret (v := .tuple #[br 0 0, br 0 0, .bool false]) (by simp [br, results, Try.results134, go_sem, C_0, C_1, D_0, D_1]) rfl (rpost (take_no (by unfold takeOk; rw [hin]; simp)).out.symm C.below)
  have hn := of_inB hin
  have hr := part_room ha hb hn.1 hn.2
  obtain ⟨hp1, hp2, hp3, hp4, hp5⟩ := part_in ha hb hn.1 hn.2
  have H := take_yes (take_ok hok hin)
  by_cases h0 : n = 0
  · subst h0
    have e0 : pw a b 0 = 0 := by unfold pw; rw [if_pos rfl]
    have e1 : ps a b 0 = 0 := by unfold ps; rw [if_pos rfl]
    rw [e0, e1] at H
    go_wp2
    have B_t7 := B.there
    have C_t7 := C.there
    have D_t7 := D.there
    have E := (Box.new B.below [.int .i64 0, .int .i64 0] 26 (g := v4.heap.size) rfl).alloc (.cells #[.int .i64 a, .int .i64 b] 26)
    have F := Box.new (al B.below (o := (.cells #[.int .i64 0, .int .i64 0] 26))) [.int .i64 a, .int .i64 b] 26 (g := v4.heap.size + 1) (by simp only [size_alloc'])
    clear B_0 B_1 B_f0 B_f1 B_t
    replace B := ((B).alloc (.cells #[.int .i64 0, .int .i64 0] 26)).alloc (.cells #[.int .i64 a, .int .i64 b] 26)
    clear C_0 C_1 C_f0 C_f1 C_t
    replace C := ((C).alloc (.cells #[.int .i64 0, .int .i64 0] 26)).alloc (.cells #[.int .i64 a, .int .i64 b] 26)
    clear D_0 D_1 D_f0 D_f1 D_t
    replace D := ((D).alloc (.cells #[.int .i64 0, .int .i64 0] 26)).alloc (.cells #[.int .i64 a, .int .i64 b] 26)
    generalize ((v4.alloc (.cells #[.int .i64 0, .int .i64 0] 26)).alloc (.cells #[.int .i64 a, .int .i64 b] 26)) = W7 at E F B C D ⊢
    have B_0 := B.cells 0 _ rfl
    have B_1 := B.cells 1 _ rfl
    have B_f0 := B.free 0 (by simp)
    have B_f1 := B.free 1 (by simp)
    have B_t := B.there
    have C_0 := C.cells 0 _ rfl
    have C_1 := C.cells 1 _ rfl
    have C_f0 := C.free 0 (by simp)
    have C_f1 := C.free 1 (by simp)
    have C_t := C.there
    have D_0 := D.cells 0 _ rfl
    have D_1 := D.cells 1 _ rfl
    have D_f0 := D.free 0 (by simp)
    have D_f1 := D.free 1 (by simp)
    have D_t := D.there
    have E_0 := E.cells 0 _ rfl
    have E_1 := E.cells 1 _ rfl
    have E_f0 := E.free 0 (by simp)
    have E_f1 := E.free 1 (by simp)
    have E_t := E.there
    have F_0 := F.cells 0 _ rfl
    have F_1 := F.cells 1 _ rfl
    have F_f0 := F.free 0 (by simp)
    have F_f1 := F.free 1 (by simp)
    have F_t := F.there
    refine wp_region_seq (fun L w' => Box (w.heap.size) [.int .i64 a, .int .i64 b] w w' ∧ BoxL (L 2) (w.heap.size + 1) [.int .i64 0, .int .i64 0] [.int .i64 0, .int .i64 0] w w' ∧ BoxL (L 3) (w.heap.size + 1 + 1) [.int .i64 0, .int .i64 0] [.int .i64 a, .int .i64 b] w w' ∧ Box (v4.heap.size) [.int .i64 0, .int .i64 0] w w' ∧ Box (v4.heap.size + 1) [.int .i64 a, .int .i64 b] w w') (by kernel_rfl) (by kernel_rfl) ⟨B.drew, BoxL.start _ C.drew, BoxL.start _ D.drew, E.drew, F.drew⟩ ?_
    clear B_0 B_1 B_f0 B_f1 B_t
    clear C_0 C_1 C_f0 C_f1 C_t
    clear D_0 D_1 D_f0 D_f1 D_t
    clear E_0 E_1 E_f0 E_f1 E_t
    clear F_0 F_1 F_f0 F_f1 F_t
    iterate 5 (
      apply SeqH.op
      · intro L uw K hN hS hK
        obtain ⟨qB, qC, qD, qE, qF⟩ := hS
        have qE_0 := qE.cells 0 _ rfl
        have qE_1 := qE.cells 1 _ rfl
        have qF_0 := qF.cells 0 _ rfl
        have qF_1 := qF.cells 1 _ rfl
        clear hN
        first
          | (go_simp; exact hK.out _ ⟨qB, (qC).skip (by decide), (qD).skip (by decide), qE, qF⟩)
          | (rcases qC.two with hh | hh <;> (have h0 := hh.cells 0 _ rfl; have k0 := hh.free 0 (by simp); have h1 := hh.cells 1 _ rfl; have k1 := hh.free 1 (by simp); go_simp; exact hK.out _ ⟨((qB.far hh.base (by omega) 0 (.int .i64 0)).far hh.base (by omega) 1 (.int .i64 0)), BoxL.put ((hh.set 0 (.int .i64 0)).set 1 (.int .i64 0)), (((qD.far hh.base (by omega) 0 (.int .i64 0)).far hh.base (by omega) 1 (.int .i64 0))).skip (by decide), ((qE.far hh.base (by omega) 0 (.int .i64 0)).far hh.base (by omega) 1 (.int .i64 0)), ((qF.far hh.base (by omega) 0 (.int .i64 0)).far hh.base (by omega) 1 (.int .i64 0))⟩))
          | (rcases qD.two with hh | hh <;> (have h0 := hh.cells 0 _ rfl; have k0 := hh.free 0 (by simp); have h1 := hh.cells 1 _ rfl; have k1 := hh.free 1 (by simp); go_simp; exact hK.out _ ⟨((qB.far hh.base (by omega) 0 (.int .i64 a)).far hh.base (by omega) 1 (.int .i64 b)), (((qC.far hh.base (by omega) 0 (.int .i64 a)).far hh.base (by omega) 1 (.int .i64 b))).skip (by decide), BoxL.put ((hh.set 0 (.int .i64 a)).set 1 (.int .i64 b)), ((qE.far hh.base (by omega) 0 (.int .i64 a)).far hh.base (by omega) 1 (.int .i64 b)), ((qF.far hh.base (by omega) 0 (.int .i64 a)).far hh.base (by omega) 1 (.int .i64 b))⟩))
      try simp only [Act.put, List.setIfInBounds_toArray, List.set_cons_zero, List.set_cons_succ])
    refine SeqH.done rfl ?_
    intro L v8 hL hS
    clear B C D E F
    obtain ⟨B, C, D, E, F⟩ := hS
    replace C := C.done (hL 2 (by decide))
    replace D := D.done (hL 3 (by decide))
    clear hL
    have B_0 := B.cells 0 _ rfl
    have B_1 := B.cells 1 _ rfl
    have B_f0 := B.free 0 (by simp)
    have B_f1 := B.free 1 (by simp)
    have B_t := B.there
    have C_0 := C.cells 0 _ rfl
    have C_1 := C.cells 1 _ rfl
    have C_f0 := C.free 0 (by simp)
    have C_f1 := C.free 1 (by simp)
    have C_t := C.there
    have D_0 := D.cells 0 _ rfl
    have D_1 := D.cells 1 _ rfl
    have D_f0 := D.free 0 (by simp)
    have D_f1 := D.free 1 (by simp)
    have D_t := D.there
    have E_0 := E.cells 0 _ rfl
    have E_1 := E.cells 1 _ rfl
    have E_f0 := E.free 0 (by simp)
    have E_f1 := E.free 1 (by simp)
    have E_t := E.there
    have F_0 := F.cells 0 _ rfl
    have F_1 := F.cells 1 _ rfl
    have F_f0 := F.free 0 (by simp)
    have F_f1 := F.free 1 (by simp)
    have F_t := F.there
    go_wp2
    exact bodyPost_ret (v := .tuple #[br 0 0, br a b, .bool true]) (by simp [br, results, Try.results134, go_sem, C_0, C_1, D_0, D_1]) rfl (rpost (by rw [H.out]; simp) C.below)
  · have e0 : pw a b n = n - partS a b n := by unfold pw; rw [if_neg h0]
    have e1 : ps a b n = partS a b n := by unfold ps; rw [if_neg h0]
    have m1 : 0 ≤ b * n := Int.mul_nonneg hb hn.1
    have m2 : b * n ≤ 1000000 * 2000000 := Int.mul_le_mul hb1 (by omega) hn.1 (by omega)
    have m3 : IntKind.i64.wrap (b * n) = b * n := IntWalk.i64_in _ (by omega)
    have m4 : (b * n).tdiv (a + b) = partS a b n := Int.tdiv_eq_ediv_of_nonneg m1
    have m8 : ¬ (a + b = 0) := by omega
    rw [e0, e1] at H
    rw [e0] at hr hp1 hp2
    rw [e1] at hp3 hp4 hp5
    have m7 : IntKind.i64.wrap (partS a b n) = partS a b n := IntWalk.i64_in _ (by omega)
    clear m1 m2 e0 e1
    generalize partS a b n = q at *
    go_wp2
    have B_t9 := B.there
    have C_t9 := C.there
    have D_t9 := D.there
    have E := Box.new B.below [.int .i64 0, .int .i64 0] 26 (g := v4.heap.size) rfl
    clear B_0 B_1 B_f0 B_f1 B_t
    replace B := (B).alloc (.cells #[.int .i64 0, .int .i64 0] 26)
    clear C_0 C_1 C_f0 C_f1 C_t
    replace C := (C).alloc (.cells #[.int .i64 0, .int .i64 0] 26)
    clear D_0 D_1 D_f0 D_f1 D_t
    replace D := (D).alloc (.cells #[.int .i64 0, .int .i64 0] 26)
    generalize (v4.alloc (.cells #[.int .i64 0, .int .i64 0] 26)) = W9 at E B C D ⊢
    have B_0 := B.cells 0 _ rfl
    have B_1 := B.cells 1 _ rfl
    have B_f0 := B.free 0 (by simp)
    have B_f1 := B.free 1 (by simp)
    have B_t := B.there
    have C_0 := C.cells 0 _ rfl
    have C_1 := C.cells 1 _ rfl
    have C_f0 := C.free 0 (by simp)
    have C_f1 := C.free 1 (by simp)
    have C_t := C.there
    have D_0 := D.cells 0 _ rfl
    have D_1 := D.cells 1 _ rfl
    have D_f0 := D.free 0 (by simp)
    have D_f1 := D.free 1 (by simp)
    have D_t := D.there
    have E_0 := E.cells 0 _ rfl
    have E_1 := E.cells 1 _ rfl
    have E_f0 := E.free 0 (by simp)
    have E_f1 := E.free 1 (by simp)
    have E_t := E.there
    refine wp_region_seq (fun L w' => Box (w.heap.size) [.int .i64 a, .int .i64 b] w w' ∧ Box (w.heap.size + 1) [.int .i64 0, .int .i64 0] w w' ∧ Box (w.heap.size + 1 + 1) [.int .i64 0, .int .i64 0] w w' ∧ BoxL (L 8) (v4.heap.size) [.int .i64 0, .int .i64 0] [.int .i64 0, .int .i64 q] w w') (by kernel_rfl) (by kernel_rfl) ⟨B.drew, C.drew, D.drew, BoxL.start _ E.drew⟩ ?_
    clear B_0 B_1 B_f0 B_f1 B_t
    clear C_0 C_1 C_f0 C_f1 C_t
    clear D_0 D_1 D_f0 D_f1 D_t
    clear E_0 E_1 E_f0 E_f1 E_t
    iterate 9 (
      apply SeqH.op
      · intro L uw K hN hS hK
        obtain ⟨qB, qC, qD, qE⟩ := hS
        have qB_0 := qB.cells 0 _ rfl
        have qB_1 := qB.cells 1 _ rfl
        try (have hh0 := qE.2 (hN.out.1 8 (by decide +kernel)); have qE_0 := hh0.cells 0 _ rfl; have qE_1 := hh0.cells 1 _ rfl; clear hh0)
        clear hN
        first
          | (go_simp; exact hK.out _ ⟨qB, qC, qD, (qE).skip (by decide)⟩)
          | (go_simp; go_at_call 98; (with_reducible refine (mass_impl a b ha ha1 hb hb1 _).mono ?_); rintro e uw1 ⟨rfl, hv⟩; go_wp2_with fail; exact hK.out _ ⟨qB.more hv, qC.more hv, qD.more hv, (qE.more hv).skip (by decide)⟩)
          | (rcases qE.two with hh | hh <;> (have h0 := hh.cells 0 _ rfl; have k0 := hh.free 0 (by simp); have h1 := hh.cells 1 _ rfl; have k1 := hh.free 1 (by simp); go_simp; exact hK.out _ ⟨(qB.far hh.base (by omega) 1 (.int .i64 q)), (qC.far hh.base (by omega) 1 (.int .i64 q)), (qD.far hh.base (by omega) 1 (.int .i64 q)), BoxL.put (hh.set 1 (.int .i64 q))⟩))
      try simp only [Act.put, List.setIfInBounds_toArray, List.set_cons_zero, List.set_cons_succ])
    refine SeqH.done rfl ?_
    intro L v10 hL hS
    clear B C D E
    obtain ⟨B, C, D, E⟩ := hS
    replace E := E.done (hL 8 (by decide))
    clear hL
    have B_0 := B.cells 0 _ rfl
    have B_1 := B.cells 1 _ rfl
    have B_f0 := B.free 0 (by simp)
    have B_f1 := B.free 1 (by simp)
    have B_t := B.there
    have C_0 := C.cells 0 _ rfl
    have C_1 := C.cells 1 _ rfl
    have C_f0 := C.free 0 (by simp)
    have C_f1 := C.free 1 (by simp)
    have C_t := C.there
    have D_0 := D.cells 0 _ rfl
    have D_1 := D.cells 1 _ rfl
    have D_f0 := D.free 0 (by simp)
    have D_f1 := D.free 1 (by simp)
    have D_t := D.there
    have E_0 := E.cells 0 _ rfl
    have E_1 := E.cells 1 _ rfl
    have E_f0 := E.free 0 (by simp)
    have E_f1 := E.free 1 (by simp)
    have E_t := E.there
    go_wp2
    clear B_0 B_1 B_f0 B_f1 B_t
    clear C_0 C_1 C_f0 C_f1 C_t
    clear D_0 D_1 D_f0 D_f1 D_t
    clear E_0 E_1 E_f0 E_f1 E_t
    have B_t11 := B.there
    have C_t11 := C.there
    have D_t11 := D.there
    have E_t11 := E.there
    have B' : Box (w.heap.size) [.int .i64 a, .int .i64 b] w _ := (B.far E.base (by omega) 0 (.int .i64 (n-q)))
    have C' : Box (w.heap.size + 1) [.int .i64 0, .int .i64 0] w _ := (C.far E.base (by omega) 0 (.int .i64 (n-q)))
    have D' : Box (w.heap.size + 1 + 1) [.int .i64 0, .int .i64 0] w _ := (D.far E.base (by omega) 0 (.int .i64 (n-q)))
    have E' : Box (v4.heap.size) [.int .i64 (n-q), .int .i64 q] w _ := (E.set 0 (.int .i64 (n-q)))
    clear B; have B := B'; clear B'
    clear C; have C := C'; clear C'
    clear D; have D := D'; clear D'
    clear E; have E := E'; clear E'
    have sz11 : (v10.setCell ⟨v4.heap.size, 0, none⟩ (.int .i64 (n-q))).heap.size = v10.heap.size := by simp only [size_set']
    generalize (v10.setCell ⟨v4.heap.size, 0, none⟩ (.int .i64 (n-q))) = W11 at B C D E sz11 ⊢
    replace sz11 := Lib.hid sz11
    have B_0 := B.cells 0 _ rfl
    have B_1 := B.cells 1 _ rfl
    have B_f0 := B.free 0 (by simp)
    have B_f1 := B.free 1 (by simp)
    have B_t := B.there
    have C_0 := C.cells 0 _ rfl
    have C_1 := C.cells 1 _ rfl
    have C_f0 := C.free 0 (by simp)
    have C_f1 := C.free 1 (by simp)
    have C_t := C.there
    have D_0 := D.cells 0 _ rfl
    have D_1 := D.cells 1 _ rfl
    have D_f0 := D.free 0 (by simp)
    have D_f1 := D.free 1 (by simp)
    have D_t := D.there
    have E_0 := E.cells 0 _ rfl
    have E_1 := E.cells 1 _ rfl
    have E_f0 := E.free 0 (by simp)
    have E_f1 := E.free 1 (by simp)
    have E_t := E.there
    have B_t12 := B.there
    have C_t12 := C.there
    have D_t12 := D.there
    have E_t12 := E.there
    have F := Box.new B.below [.int .i64 (a - (n - q)), .int .i64 (b - q)] 26 (g := v10.heap.size) sz11.out.symm
    clear B_0 B_1 B_f0 B_f1 B_t
    replace B := (B).alloc (.cells #[.int .i64 (a - (n - q)), .int .i64 (b - q)] 26)
    clear C_0 C_1 C_f0 C_f1 C_t
    replace C := (C).alloc (.cells #[.int .i64 (a - (n - q)), .int .i64 (b - q)] 26)
    clear D_0 D_1 D_f0 D_f1 D_t
    replace D := (D).alloc (.cells #[.int .i64 (a - (n - q)), .int .i64 (b - q)] 26)
    clear E_0 E_1 E_f0 E_f1 E_t
    replace E := (E).alloc (.cells #[.int .i64 (a - (n - q)), .int .i64 (b - q)] 26)
    generalize (W11.alloc (.cells #[.int .i64 (a - (n - q)), .int .i64 (b - q)] 26)) = W12 at F B C D E ⊢
    have B_0 := B.cells 0 _ rfl
    have B_1 := B.cells 1 _ rfl
    have B_f0 := B.free 0 (by simp)
    have B_f1 := B.free 1 (by simp)
    have B_t := B.there
    have C_0 := C.cells 0 _ rfl
    have C_1 := C.cells 1 _ rfl
    have C_f0 := C.free 0 (by simp)
    have C_f1 := C.free 1 (by simp)
    have C_t := C.there
    have D_0 := D.cells 0 _ rfl
    have D_1 := D.cells 1 _ rfl
    have D_f0 := D.free 0 (by simp)
    have D_f1 := D.free 1 (by simp)
    have D_t := D.there
    have E_0 := E.cells 0 _ rfl
    have E_1 := E.cells 1 _ rfl
    have E_f0 := E.free 0 (by simp)
    have E_f1 := E.free 1 (by simp)
    have E_t := E.there
    have F_0 := F.cells 0 _ rfl
    have F_1 := F.cells 1 _ rfl
    have F_f0 := F.free 0 (by simp)
    have F_f1 := F.free 1 (by simp)
    have F_t := F.there
    refine wp_region_seq (fun L w' => Box (w.heap.size) [.int .i64 a, .int .i64 b] w w' ∧ BoxL (L 2) (w.heap.size + 1) [.int .i64 0, .int .i64 0] [.int .i64 (n - q), .int .i64 q] w w' ∧ BoxL (L 3) (w.heap.size + 1 + 1) [.int .i64 0, .int .i64 0] [.int .i64 (a - (n - q)), .int .i64 (b - q)] w w' ∧ Box (v4.heap.size) [.int .i64 (n-q), .int .i64 q] w w' ∧ Box (v10.heap.size) [.int .i64 (a - (n - q)), .int .i64 (b - q)] w w') (by kernel_rfl) (by kernel_rfl) ⟨B.drew, BoxL.start _ C.drew, BoxL.start _ D.drew, E.drew, F.drew⟩ ?_
    clear B_0 B_1 B_f0 B_f1 B_t
    clear C_0 C_1 C_f0 C_f1 C_t
    clear D_0 D_1 D_f0 D_f1 D_t
    clear E_0 E_1 E_f0 E_f1 E_t
    clear F_0 F_1 F_f0 F_f1 F_t
    iterate 5 (
      apply SeqH.op
      · intro L uw K hN hS hK
        obtain ⟨qB, qC, qD, qE, qF⟩ := hS
        have qE_0 := qE.cells 0 _ rfl
        have qE_1 := qE.cells 1 _ rfl
        have qF_0 := qF.cells 0 _ rfl
        have qF_1 := qF.cells 1 _ rfl
        clear hN
        first
          | (go_simp; exact hK.out _ ⟨qB, (qC).skip (by decide), (qD).skip (by decide), qE, qF⟩)
          | (rcases qC.two with hh | hh <;> (have h0 := hh.cells 0 _ rfl; have k0 := hh.free 0 (by simp); have h1 := hh.cells 1 _ rfl; have k1 := hh.free 1 (by simp); go_simp; exact hK.out _ ⟨((qB.far hh.base (by omega) 0 (.int .i64 (n - q))).far hh.base (by omega) 1 (.int .i64 q)), BoxL.put ((hh.set 0 (.int .i64 (n - q))).set 1 (.int .i64 q)), (((qD.far hh.base (by omega) 0 (.int .i64 (n - q))).far hh.base (by omega) 1 (.int .i64 q))).skip (by decide), ((qE.far hh.base (by omega) 0 (.int .i64 (n - q))).far hh.base (by omega) 1 (.int .i64 q)), ((qF.far hh.base (by omega) 0 (.int .i64 (n - q))).far hh.base (by omega) 1 (.int .i64 q))⟩))
          | (rcases qD.two with hh | hh <;> (have h0 := hh.cells 0 _ rfl; have k0 := hh.free 0 (by simp); have h1 := hh.cells 1 _ rfl; have k1 := hh.free 1 (by simp); go_simp; exact hK.out _ ⟨((qB.far hh.base (by omega) 0 (.int .i64 (a - (n - q)))).far hh.base (by omega) 1 (.int .i64 (b - q))), (((qC.far hh.base (by omega) 0 (.int .i64 (a - (n - q)))).far hh.base (by omega) 1 (.int .i64 (b - q)))).skip (by decide), BoxL.put ((hh.set 0 (.int .i64 (a - (n - q)))).set 1 (.int .i64 (b - q))), ((qE.far hh.base (by omega) 0 (.int .i64 (a - (n - q)))).far hh.base (by omega) 1 (.int .i64 (b - q))), ((qF.far hh.base (by omega) 0 (.int .i64 (a - (n - q)))).far hh.base (by omega) 1 (.int .i64 (b - q)))⟩))
      try simp only [Act.put, List.setIfInBounds_toArray, List.set_cons_zero, List.set_cons_succ])
    refine SeqH.done rfl ?_
    intro L v13 hL hS
    clear B C D E F
    obtain ⟨B, C, D, E, F⟩ := hS
    replace C := C.done (hL 2 (by decide))
    replace D := D.done (hL 3 (by decide))
    clear hL
    have B_0 := B.cells 0 _ rfl
    have B_1 := B.cells 1 _ rfl
    have B_f0 := B.free 0 (by simp)
    have B_f1 := B.free 1 (by simp)
    have B_t := B.there
    have C_0 := C.cells 0 _ rfl
    have C_1 := C.cells 1 _ rfl
    have C_f0 := C.free 0 (by simp)
    have C_f1 := C.free 1 (by simp)
    have C_t := C.there
    have D_0 := D.cells 0 _ rfl
    have D_1 := D.cells 1 _ rfl
    have D_f0 := D.free 0 (by simp)
    have D_f1 := D.free 1 (by simp)
    have D_t := D.there
    have E_0 := E.cells 0 _ rfl
    have E_1 := E.cells 1 _ rfl
    have E_f0 := E.free 0 (by simp)
    have E_f1 := E.free 1 (by simp)
    have E_t := E.there
    have F_0 := F.cells 0 _ rfl
    have F_1 := F.cells 1 _ rfl
    have F_f0 := F.free 0 (by simp)
    have F_f1 := F.free 1 (by simp)
    have F_t := F.there
    go_wp2
    exact bodyPost_ret (v := .tuple #[br (n - q) q, br (a - (n - q)) (b - q), .bool true]) (by simp [br, results, Try.results134, go_sem, C_0, C_1, D_0, D_1]) rfl (rpost H.out.symm C.below)
end Go.Proofs.Ytciohcipmkhneaa.IBrine3
