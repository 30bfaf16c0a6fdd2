/- The model's exported functions on brines: to take a part. -/
import Derived.Test.YtpblkkfafmcnpaaDoorBrine5
import Derived.Test.YtpblkkfafmcnpaaDoorRegn
import Derived.Test.YtpblkkfafmcnpaaDoorBox
namespace Go.Proofs.YtpblkkfafmcnpaaDoor.Brine6
open Go.RowKit Go.Proofs.YtpblkkfafmcnpaaDoor.Mem Go.Proofs.YtpblkkfafmcnpaaDoor.Base Go.Proofs.YtpblkkfafmcnpaaDoor.Brine Go.Proofs.YtpblkkfafmcnpaaDoor.Brine2
set_option linter.unusedVariables false
set_option maxRecDepth 100000
/-- the part's water and salt. -/
def pw (a b n : Int) : Int := if n = 0 then 0 else n - partS a b n
def ps (a b n : Int) : Int := if n = 0 then 0 else partS a b n
theorem part_eq (a b n : Int) : (if n = 0 then br 0 0 else br (n - partS a b n) (partS a b n)) = br (pw a b n) (ps a b n) := by
  unfold pw ps; split <;> rfl
theorem part_in {a b n : Int} (ha : 0 ≤ a) (hb : 0 ≤ b) (hn : 0 ≤ n) (hn1 : n ≤ a + b) : 0 ≤ pw a b n ∧ pw a b n ≤ n ∧ 0 ≤ ps a b n ∧ ps a b n ≤ n ∧ ps a b n ≤ b := by
  unfold pw ps
  split
  · omega
  · have m1 : 0 ≤ b * n := Int.mul_nonneg hb hn
    have m5 : 0 ≤ partS a b n := Int.ediv_nonneg m1 (by omega)
    have m6 : partS a b n ≤ n := by unfold partS; exact Int.ediv_le_of_le_mul (by omega) (by rw [Int.mul_comm n]; exact Int.mul_le_mul_of_nonneg_right (by omega) hn)
    have m7 : partS a b n ≤ b := by unfold partS; exact Int.ediv_le_of_le_mul (by omega) (Int.mul_le_mul_of_nonneg_left hn1 hb)
    omega
theorem part_br (a b n : Int) (ha : 0 ≤ a) (ha1 : a ≤ 1000000) (hb : 0 ≤ b) (hb1 : b ≤ 1000000) (hn : 0 ≤ n) (hn1 : n ≤ a + b) (w : World) :
    Calls Tryd.prog 39 #[.agg #[.int .i64 a, .int .i64 b], .int .i64 n] w (RPost (br (pw a b n) (ps a b n)) w) := by
  have h := part_spec a b n ha ha1 hb hb1 hn hn1 w
  rwa [part_eq] at h
theorem left_spec (a b c d : Int) (ha : 0 ≤ a) (ha1 : a ≤ 1000000) (hb : 0 ≤ b) (hb1 : b ≤ 1000000) (hc : 0 ≤ c) (hc1 : c ≤ 2000000) (hd : 0 ≤ d) (hd1 : d ≤ 2000000) (w : World) :
    Calls Tryd.prog 40 #[.agg #[.int .i64 a, .int .i64 b], .agg #[.int .i64 c, .int .i64 d]] w (RPost (br (a - c) (b - d)) w) := by
  have m1 : IntKind.i64.wrap (a - c) = a - c := IntWalk.i64_in _ (by omega)
  have m2 : IntKind.i64.wrap (b - d) = b - d := IntWalk.i64_in _ (by omega)
  go_enter Tryd.func40, Tryd.ntmps40
  go_wp2
  exact bodyPost_ret (v := br (a - c) (b - d)) (by simp [br, results, Tryd.results40, go_sem]) rfl (rpost rfl (al (al (al (Below.refl _ _)))))
def takeOk (a b n : Int) : Bool := okB a b && (inB n 0 (a + b) && !decide (pw a b n > a))
def takeV (a b n : Int) : Value := if takeOk a b n = true then .tuple #[br (pw a b n) (ps a b n), br (a - pw a b n) (b - ps a b n), .bool true] else .tuple #[br 0 0, br 0 0, .bool false]
theorem take_no {a b n : Int} (h : takeOk a b n = false) : Hid (takeV a b n = .tuple #[br 0 0, br 0 0, .bool false]) := Lib.hid (by unfold takeV; rw [h]; rfl)
theorem take_yes {a b n : Int} (h : takeOk a b n = true) : Hid (takeV a b n = .tuple #[br (pw a b n) (ps a b n), br (a - pw a b n) (b - ps a b n), .bool true]) := Lib.hid (by unfold takeV; rw [if_pos h])
theorem part_room {a b n : Int} (ha : 0 ≤ a) (hb : 0 ≤ b) (hn : 0 ≤ n) (hn1 : n ≤ a + b) : pw a b n ≤ a := by
  unfold pw
  split
  · exact ha
  · have h0 : 0 < a + b := by omega
    have h1 : b * n < (partS a b n + 1) * (a + b) := by unfold partS; exact Int.lt_ediv_add_one_mul_self _ h0
    have h2 : (n - a) * (a + b) ≤ b * n := by
      have e1 : b * n - (n - a) * (a + b) = a * (a + b - n) := by
        rw [Int.sub_mul, Int.mul_sub, Int.mul_add, Int.mul_add, Int.mul_comm n a, Int.mul_comm n b]; omega
      have e2 : 0 ≤ a * (a + b - n) := Int.mul_nonneg ha (by omega)
      omega
    have h3 : (n - a) * (a + b) < (partS a b n + 1) * (a + b) := by omega
    have h4 := Int.lt_of_mul_lt_mul_right h3 (by omega)
    omega
theorem take_ok {a b n : Int} (h : okB a b = true) (hn : inB n 0 (a + b) = true) : takeOk a b n = true := by
  obtain ⟨ha, _, hb, _⟩ := okB_true h
  have hm := of_inB hn
  have := part_room ha hb hm.1 hm.2
  unfold takeOk; rw [h, hn]; simp; omega
open Go.Proofs.YtpblkkfafmcnpaaDoor.Regn Go.Proofs.YtpblkkfafmcnpaaDoor.Boxes in
theorem take_spec (a b n : Int) (w : World) : Calls Tryd.prog 14 #[.agg #[.int .i64 a, .int .i64 b], .int .i64 n] w (RPost (takeV a b n) w) := by
  cases hok : okB a b
  · go_enter Tryd.func14, Tryd.ntmps14
    go_wp2
    have B := ((Box.new (Below.refl _ w) [.int .i64 a, .int .i64 b] 25 (g := w.heap.size) rfl).alloc (.cells #[.int .i64 0, .int .i64 0] 25)).alloc (.cells #[.int .i64 0, .int .i64 0] 25)
    have C := (Box.new (al (Below.refl _ w) (o := (.cells #[.int .i64 a, .int .i64 b] 25))) [.int .i64 0, .int .i64 0] 25 (g := w.heap.size + 1) (by simp only [size_alloc'])).alloc (.cells #[.int .i64 0, .int .i64 0] 25)
    have D := Box.new (al (al (Below.refl _ w) (o := (.cells #[.int .i64 a, .int .i64 b] 25))) (o := (.cells #[.int .i64 0, .int .i64 0] 25))) [.int .i64 0, .int .i64 0] 25 (g := w.heap.size + 1 + 1) (by simp only [size_alloc'])
    generalize (((w.alloc (.cells #[.int .i64 a, .int .i64 b] 25)).alloc (.cells #[.int .i64 0, .int .i64 0] 25)).alloc (.cells #[.int .i64 0, .int .i64 0] 25)) = W1 at B C D ⊢
    have B_0 := B.cells 0 _ rfl
    have B_1 := B.cells 1 _ rfl
    have B_f0 := B.free 0 (by simp)
    have B_f1 := B.free 1 (by simp)
    have B_t := B.there
    have C_0 := C.cells 0 _ rfl
    have C_1 := C.cells 1 _ rfl
    have C_f0 := C.free 0 (by simp)
    have C_f1 := C.free 1 (by simp)
    have C_t := C.there
    have D_0 := D.cells 0 _ rfl
    have D_1 := D.cells 1 _ rfl
    have D_f0 := D.free 0 (by simp)
    have D_f1 := D.free 1 (by simp)
    have D_t := D.there
    refine wp_region_text (fun w' => Box (w.heap.size) [.int .i64 a, .int .i64 b] w w' ∧ Box (w.heap.size + 1) [.int .i64 0, .int .i64 0] w w' ∧ Box (w.heap.size + 1 + 1) [.int .i64 0, .int .i64 0] w w') (by kernel_rfl) (by kernel_rfl) ⟨B.drew, C.drew, D.drew⟩ ?_
    clear B_0 B_1 B_f0 B_f1 B_t
    clear C_0 C_1 C_f0 C_f1 C_t
    clear D_0 D_1 D_f0 D_f1 D_t
    iterate 19 (
      apply SeqH.one
      · intro uw K hS hK
        obtain ⟨qB, qC, qD⟩ := hS
        have qB_0 := qB.cells 0 _ rfl
        have qB_1 := qB.cells 1 _ rfl
        first
          | (go_simp; exact hK.out _ ⟨qB, qC, qD⟩)
          | (go_simp; go_at_call 27; (with_reducible refine (brine_spec a b _).mono ?_); rintro e uw1 ⟨rfl, hv⟩; rw [hok]; go_wp2_with fail; exact hK.out _ ⟨qB.more hv, qC.more hv, qD.more hv⟩)
      try simp only [Act.put, List.setIfInBounds_toArray, List.set_cons_zero, List.set_cons_succ])
    refine SeqH.end' rfl ?_
    intro v2 hS
    clear B C D
    obtain ⟨B, C, D⟩ := hS
    have B_0 := B.cells 0 _ rfl
    have B_1 := B.cells 1 _ rfl
    have B_f0 := B.free 0 (by simp)
    have B_f1 := B.free 1 (by simp)
    have B_t := B.there
    have C_0 := C.cells 0 _ rfl
    have C_1 := C.cells 1 _ rfl
    have C_f0 := C.free 0 (by simp)
    have C_f1 := C.free 1 (by simp)
    have C_t := C.there
    have D_0 := D.cells 0 _ rfl
    have D_1 := D.cells 1 _ rfl
    have D_f0 := D.free 0 (by simp)
    have D_f1 := D.free 1 (by simp)
    have D_t := D.there
    go_wp2
    clear B_0 B_1 B_f0 B_f1 B_t
    clear C_0 C_1 C_f0 C_f1 C_t
    clear D_0 D_1 D_f0 D_f1 D_t
    have B_t3 := B.there
    have C_t3 := C.there
    have D_t3 := D.there
    have B' : Box (w.heap.size) [.int .i64 a, .int .i64 b] w _ := ((((B.far C.base (by omega) 0 (.int .i64 0)).far C.base (by omega) 1 (.int .i64 0)).far D.base (by omega) 0 (.int .i64 0)).far D.base (by omega) 1 (.int .i64 0))
    have C' : Box (w.heap.size + 1) [.int .i64 0, .int .i64 0] w _ := ((((C.set 0 (.int .i64 0)).set 1 (.int .i64 0)).far D.base (by omega) 0 (.int .i64 0)).far D.base (by omega) 1 (.int .i64 0))
    have D' : Box (w.heap.size + 1 + 1) [.int .i64 0, .int .i64 0] w _ := ((((D.far C.base (by omega) 0 (.int .i64 0)).far C.base (by omega) 1 (.int .i64 0)).set 0 (.int .i64 0)).set 1 (.int .i64 0))
    clear B; have B := B'; clear B'
    clear C; have C := C'; clear C'
    clear D; have D := D'; clear D'
    have sz3 : ((((v2.setCell ⟨w.heap.size + 1, 0, none⟩ (.int .i64 0)).setCell ⟨w.heap.size + 1, 1, none⟩ (.int .i64 0)).setCell ⟨w.heap.size + 1 + 1, 0, none⟩ (.int .i64 0)).setCell ⟨w.heap.size + 1 + 1, 1, none⟩ (.int .i64 0)).heap.size = v2.heap.size := by simp only [size_set']
    generalize ((((v2.setCell ⟨w.heap.size + 1, 0, none⟩ (.int .i64 0)).setCell ⟨w.heap.size + 1, 1, none⟩ (.int .i64 0)).setCell ⟨w.heap.size + 1 + 1, 0, none⟩ (.int .i64 0)).setCell ⟨w.heap.size + 1 + 1, 1, none⟩ (.int .i64 0)) = W3 at B C D sz3 ⊢
    replace sz3 := Lib.hid sz3
    have B_0 := B.cells 0 _ rfl
    have B_1 := B.cells 1 _ rfl
    have B_f0 := B.free 0 (by simp)
    have B_f1 := B.free 1 (by simp)
    have B_t := B.there
    have C_0 := C.cells 0 _ rfl
    have C_1 := C.cells 1 _ rfl
    have C_f0 := C.free 0 (by simp)
    have C_f1 := C.free 1 (by simp)
    have C_t := C.there
    have D_0 := D.cells 0 _ rfl
    have D_1 := D.cells 1 _ rfl
    have D_f0 := D.free 0 (by simp)
    have D_f1 := D.free 1 (by simp)
    have D_t := D.there
    exact bodyPost_ret (v := .tuple #[br 0 0, br 0 0, .bool false]) (by simp [br, results, Tryd.results14, go_sem, C_0, C_1, D_0, D_1]) rfl (rpost (by simp [takeV, takeOk, hok]) C.below)
  · obtain ⟨ha, ha1, hb, hb1⟩ := okB_true hok
    cases hin : inB n 0 (a + b)
    · go_enter Tryd.func14, Tryd.ntmps14
      go_wp2
      have B := ((Box.new (Below.refl _ w) [.int .i64 a, .int .i64 b] 25 (g := w.heap.size) rfl).alloc (.cells #[.int .i64 0, .int .i64 0] 25)).alloc (.cells #[.int .i64 0, .int .i64 0] 25)
      have C := (Box.new (al (Below.refl _ w) (o := (.cells #[.int .i64 a, .int .i64 b] 25))) [.int .i64 0, .int .i64 0] 25 (g := w.heap.size + 1) (by simp only [size_alloc'])).alloc (.cells #[.int .i64 0, .int .i64 0] 25)
      have D := Box.new (al (al (Below.refl _ w) (o := (.cells #[.int .i64 a, .int .i64 b] 25))) (o := (.cells #[.int .i64 0, .int .i64 0] 25))) [.int .i64 0, .int .i64 0] 25 (g := w.heap.size + 1 + 1) (by simp only [size_alloc'])
      generalize (((w.alloc (.cells #[.int .i64 a, .int .i64 b] 25)).alloc (.cells #[.int .i64 0, .int .i64 0] 25)).alloc (.cells #[.int .i64 0, .int .i64 0] 25)) = W1 at B C D ⊢
      have B_0 := B.cells 0 _ rfl
      have B_1 := B.cells 1 _ rfl
      have B_f0 := B.free 0 (by simp)
      have B_f1 := B.free 1 (by simp)
      have B_t := B.there
      have C_0 := C.cells 0 _ rfl
      have C_1 := C.cells 1 _ rfl
      have C_f0 := C.free 0 (by simp)
      have C_f1 := C.free 1 (by simp)
      have C_t := C.there
      have D_0 := D.cells 0 _ rfl
      have D_1 := D.cells 1 _ rfl
      have D_f0 := D.free 0 (by simp)
      have D_f1 := D.free 1 (by simp)
      have D_t := D.there
      refine wp_region_text (fun w' => Box (w.heap.size) [.int .i64 a, .int .i64 b] w w' ∧ Box (w.heap.size + 1) [.int .i64 0, .int .i64 0] w w' ∧ Box (w.heap.size + 1 + 1) [.int .i64 0, .int .i64 0] w w') (by kernel_rfl) (by kernel_rfl) ⟨B.drew, C.drew, D.drew⟩ ?_
      clear B_0 B_1 B_f0 B_f1 B_t
      clear C_0 C_1 C_f0 C_f1 C_t
      clear D_0 D_1 D_f0 D_f1 D_t
      iterate 19 (
        apply SeqH.one
        · intro uw K hS hK
          obtain ⟨qB, qC, qD⟩ := hS
          have qB_0 := qB.cells 0 _ rfl
          have qB_1 := qB.cells 1 _ rfl
          first
            | (go_simp; exact hK.out _ ⟨qB, qC, qD⟩)
            | (go_simp; go_at_call 27; (with_reducible refine (brine_spec a b _).mono ?_); rintro e uw1 ⟨rfl, hv⟩; rw [hok]; go_wp2_with fail; exact hK.out _ ⟨qB.more hv, qC.more hv, qD.more hv⟩)
            | (go_simp; go_at_call 35; (with_reducible refine (mass_spec a b ha ha1 hb hb1 _).mono ?_); rintro e uw1 ⟨rfl, hv⟩; go_wp2_with fail; exact hK.out _ ⟨qB.more hv, qC.more hv, qD.more hv⟩)
            | (go_simp; go_at_call 38; (with_reducible refine (in_any _ _ _ _).mono ?_); rintro e _ ⟨rfl, rfl⟩; rw [hin]; go_wp2_with fail; exact hK.out _ ⟨qB, qC, qD⟩)
        try simp only [Act.put, List.setIfInBounds_toArray, List.set_cons_zero, List.set_cons_succ])
      refine SeqH.end' rfl ?_
      intro v2 hS
      clear B C D
      obtain ⟨B, C, D⟩ := hS
      have B_0 := B.cells 0 _ rfl
      have B_1 := B.cells 1 _ rfl
      have B_f0 := B.free 0 (by simp)
      have B_f1 := B.free 1 (by simp)
      have B_t := B.there
      have C_0 := C.cells 0 _ rfl
      have C_1 := C.cells 1 _ rfl
      have C_f0 := C.free 0 (by simp)
      have C_f1 := C.free 1 (by simp)
      have C_t := C.there
      have D_0 := D.cells 0 _ rfl
      have D_1 := D.cells 1 _ rfl
      have D_f0 := D.free 0 (by simp)
      have D_f1 := D.free 1 (by simp)
      have D_t := D.there
      go_wp2
      clear B_0 B_1 B_f0 B_f1 B_t
      clear C_0 C_1 C_f0 C_f1 C_t
      clear D_0 D_1 D_f0 D_f1 D_t
      have B_t3 := B.there
      have C_t3 := C.there
      have D_t3 := D.there
      have B' : Box (w.heap.size) [.int .i64 a, .int .i64 b] w _ := ((((B.far C.base (by omega) 0 (.int .i64 0)).far C.base (by omega) 1 (.int .i64 0)).far D.base (by omega) 0 (.int .i64 0)).far D.base (by omega) 1 (.int .i64 0))
      have C' : Box (w.heap.size + 1) [.int .i64 0, .int .i64 0] w _ := ((((C.set 0 (.int .i64 0)).set 1 (.int .i64 0)).far D.base (by omega) 0 (.int .i64 0)).far D.base (by omega) 1 (.int .i64 0))
      have D' : Box (w.heap.size + 1 + 1) [.int .i64 0, .int .i64 0] w _ := ((((D.far C.base (by omega) 0 (.int .i64 0)).far C.base (by omega) 1 (.int .i64 0)).set 0 (.int .i64 0)).set 1 (.int .i64 0))
      clear B; have B := B'; clear B'
      clear C; have C := C'; clear C'
      clear D; have D := D'; clear D'
      have sz3 : ((((v2.setCell ⟨w.heap.size + 1, 0, none⟩ (.int .i64 0)).setCell ⟨w.heap.size + 1, 1, none⟩ (.int .i64 0)).setCell ⟨w.heap.size + 1 + 1, 0, none⟩ (.int .i64 0)).setCell ⟨w.heap.size + 1 + 1, 1, none⟩ (.int .i64 0)).heap.size = v2.heap.size := by simp only [size_set']
      generalize ((((v2.setCell ⟨w.heap.size + 1, 0, none⟩ (.int .i64 0)).setCell ⟨w.heap.size + 1, 1, none⟩ (.int .i64 0)).setCell ⟨w.heap.size + 1 + 1, 0, none⟩ (.int .i64 0)).setCell ⟨w.heap.size + 1 + 1, 1, none⟩ (.int .i64 0)) = W3 at B C D sz3 ⊢
      replace sz3 := Lib.hid sz3
      have B_0 := B.cells 0 _ rfl
      have B_1 := B.cells 1 _ rfl
      have B_f0 := B.free 0 (by simp)
      have B_f1 := B.free 1 (by simp)
      have B_t := B.there
      have C_0 := C.cells 0 _ rfl
      have C_1 := C.cells 1 _ rfl
      have C_f0 := C.free 0 (by simp)
      have C_f1 := C.free 1 (by simp)
      have C_t := C.there
      have D_0 := D.cells 0 _ rfl
      have D_1 := D.cells 1 _ rfl
      have D_f0 := D.free 0 (by simp)
      have D_f1 := D.free 1 (by simp)
      have D_t := D.there
      exact bodyPost_ret (v := .tuple #[br 0 0, br 0 0, .bool false]) (by simp [br, results, Tryd.results14, go_sem, C_0, C_1, D_0, D_1]) rfl (rpost (by simp [takeV, takeOk, hin]) C.below)
    · have hn := of_inB hin
      have hr := part_room ha hb hn.1 hn.2
      obtain ⟨hp1, hp2, hp3, hp4, hp5⟩ := part_in ha hb hn.1 hn.2
      have H := take_yes (take_ok hok hin)
      go_enter Tryd.func14, Tryd.ntmps14
      go_wp2
      have B := ((Box.new (Below.refl _ w) [.int .i64 a, .int .i64 b] 25 (g := w.heap.size) rfl).alloc (.cells #[.int .i64 0, .int .i64 0] 25)).alloc (.cells #[.int .i64 0, .int .i64 0] 25)
      have C := (Box.new (al (Below.refl _ w) (o := (.cells #[.int .i64 a, .int .i64 b] 25))) [.int .i64 0, .int .i64 0] 25 (g := w.heap.size + 1) (by simp only [size_alloc'])).alloc (.cells #[.int .i64 0, .int .i64 0] 25)
      have D := Box.new (al (al (Below.refl _ w) (o := (.cells #[.int .i64 a, .int .i64 b] 25))) (o := (.cells #[.int .i64 0, .int .i64 0] 25))) [.int .i64 0, .int .i64 0] 25 (g := w.heap.size + 1 + 1) (by simp only [size_alloc'])
      generalize (((w.alloc (.cells #[.int .i64 a, .int .i64 b] 25)).alloc (.cells #[.int .i64 0, .int .i64 0] 25)).alloc (.cells #[.int .i64 0, .int .i64 0] 25)) = W1 at B C D ⊢
      have B_0 := B.cells 0 _ rfl
      have B_1 := B.cells 1 _ rfl
      have B_f0 := B.free 0 (by simp)
      have B_f1 := B.free 1 (by simp)
      have B_t := B.there
      have C_0 := C.cells 0 _ rfl
      have C_1 := C.cells 1 _ rfl
      have C_f0 := C.free 0 (by simp)
      have C_f1 := C.free 1 (by simp)
      have C_t := C.there
      have D_0 := D.cells 0 _ rfl
      have D_1 := D.cells 1 _ rfl
      have D_f0 := D.free 0 (by simp)
      have D_f1 := D.free 1 (by simp)
      have D_t := D.there
      refine wp_region_text (fun w' => Box (w.heap.size) [.int .i64 a, .int .i64 b] w w' ∧ Box (w.heap.size + 1) [.int .i64 0, .int .i64 0] w w' ∧ Box (w.heap.size + 1 + 1) [.int .i64 0, .int .i64 0] w w') (by kernel_rfl) (by kernel_rfl) ⟨B.drew, C.drew, D.drew⟩ ?_
      clear B_0 B_1 B_f0 B_f1 B_t
      clear C_0 C_1 C_f0 C_f1 C_t
      clear D_0 D_1 D_f0 D_f1 D_t
      iterate 19 (
        apply SeqH.one
        · intro uw K hS hK
          obtain ⟨qB, qC, qD⟩ := hS
          have qB_0 := qB.cells 0 _ rfl
          have qB_1 := qB.cells 1 _ rfl
          first
            | (go_simp; exact hK.out _ ⟨qB, qC, qD⟩)
            | (go_simp; go_at_call 27; (with_reducible refine (brine_spec a b _).mono ?_); rintro e uw1 ⟨rfl, hv⟩; rw [hok]; go_wp2_with fail; exact hK.out _ ⟨qB.more hv, qC.more hv, qD.more hv⟩)
            | (go_simp; go_at_call 35; (with_reducible refine (mass_spec a b ha ha1 hb hb1 _).mono ?_); rintro e uw1 ⟨rfl, hv⟩; go_wp2_with fail; exact hK.out _ ⟨qB.more hv, qC.more hv, qD.more hv⟩)
            | (go_simp; go_at_call 38; (with_reducible refine (in_any _ _ _ _).mono ?_); rintro e _ ⟨rfl, rfl⟩; rw [hin]; go_wp2_with fail; exact hK.out _ ⟨qB, qC, qD⟩)
            | (go_simp; go_at_call 39; (with_reducible refine (part_br a b n ha ha1 hb hb1 hn.1 hn.2 _).mono ?_); rintro e uw1 ⟨rfl, hv⟩; unfold br; go_wp2_with fail; exact hK.out _ ⟨qB.more hv, qC.more hv, qD.more hv⟩)
        try simp only [Act.put, List.setIfInBounds_toArray, List.set_cons_zero, List.set_cons_succ])
      refine SeqH.end' rfl ?_
      intro v2 hS
      clear B C D
      obtain ⟨B, C, D⟩ := hS
      have B_0 := B.cells 0 _ rfl
      have B_1 := B.cells 1 _ rfl
      have B_f0 := B.free 0 (by simp)
      have B_f1 := B.free 1 (by simp)
      have B_t := B.there
      have C_0 := C.cells 0 _ rfl
      have C_1 := C.cells 1 _ rfl
      have C_f0 := C.free 0 (by simp)
      have C_f1 := C.free 1 (by simp)
      have C_t := C.there
      have D_0 := D.cells 0 _ rfl
      have D_1 := D.cells 1 _ rfl
      have D_f0 := D.free 0 (by simp)
      have D_f1 := D.free 1 (by simp)
      have D_t := D.there
      go_wp2_with fail
      refine (part_br a b n ha ha1 hb hb1 hn.1 hn.2 _).mono ?_
      rintro e v3 ⟨rfl, hv3⟩
      clear B_0 B_1 B_f0 B_f1 B_t
      clear C_0 C_1 C_f0 C_f1 C_t
      clear D_0 D_1 D_f0 D_f1 D_t
      replace B := B.more hv3
      replace C := C.more hv3
      replace D := D.more hv3
      have zhv3 := hv3.size
      clear hv3
      have B_0 := B.cells 0 _ rfl
      have B_1 := B.cells 1 _ rfl
      have B_f0 := B.free 0 (by simp)
      have B_f1 := B.free 1 (by simp)
      have B_t := B.there
      have C_0 := C.cells 0 _ rfl
      have C_1 := C.cells 1 _ rfl
      have C_f0 := C.free 0 (by simp)
      have C_f1 := C.free 1 (by simp)
      have C_t := C.there
      have D_0 := D.cells 0 _ rfl
      have D_1 := D.cells 1 _ rfl
      have D_f0 := D.free 0 (by simp)
      have D_f1 := D.free 1 (by simp)
      have D_t := D.there
      unfold br
      generalize pw a b n = p at *
      generalize ps a b n = q at *
      go_wp2
      have B_t4 := B.there
      have C_t4 := C.there
      have D_t4 := D.there
      have E := Box.new B.below [.int .i64 p, .int .i64 q] 25 (g := v3.heap.size) rfl
      clear B_0 B_1 B_f0 B_f1 B_t
      replace B := (B).alloc (.cells #[.int .i64 p, .int .i64 q] 25)
      clear C_0 C_1 C_f0 C_f1 C_t
      replace C := (C).alloc (.cells #[.int .i64 p, .int .i64 q] 25)
      clear D_0 D_1 D_f0 D_f1 D_t
      replace D := (D).alloc (.cells #[.int .i64 p, .int .i64 q] 25)
      generalize (v3.alloc (.cells #[.int .i64 p, .int .i64 q] 25)) = W4 at E B C D ⊢
      have B_0 := B.cells 0 _ rfl
      have B_1 := B.cells 1 _ rfl
      have B_f0 := B.free 0 (by simp)
      have B_f1 := B.free 1 (by simp)
      have B_t := B.there
      have C_0 := C.cells 0 _ rfl
      have C_1 := C.cells 1 _ rfl
      have C_f0 := C.free 0 (by simp)
      have C_f1 := C.free 1 (by simp)
      have C_t := C.there
      have D_0 := D.cells 0 _ rfl
      have D_1 := D.cells 1 _ rfl
      have D_f0 := D.free 0 (by simp)
      have D_f1 := D.free 1 (by simp)
      have D_t := D.there
      have E_0 := E.cells 0 _ rfl
      have E_1 := E.cells 1 _ rfl
      have E_f0 := E.free 0 (by simp)
      have E_f1 := E.free 1 (by simp)
      have E_t := E.there
      refine wp_region_seq (fun L w' => Box (w.heap.size) [.int .i64 a, .int .i64 b] w w' ∧ BoxL (L 4) (w.heap.size + 1) [.int .i64 0, .int .i64 0] [.int .i64 p, .int .i64 q] w w' ∧ BoxL (L 5) (w.heap.size + 1 + 1) [.int .i64 0, .int .i64 0] [.int .i64 (a - p), .int .i64 (b - q)] w w' ∧ Box (v3.heap.size) [.int .i64 p, .int .i64 q] w w') (by kernel_rfl) (by kernel_rfl) ⟨B.drew, BoxL.start _ C.drew, BoxL.start _ D.drew, E.drew⟩ ?_
      clear B_0 B_1 B_f0 B_f1 B_t
      clear C_0 C_1 C_f0 C_f1 C_t
      clear D_0 D_1 D_f0 D_f1 D_t
      clear E_0 E_1 E_f0 E_f1 E_t
      iterate 7 (
        apply SeqH.op
        · intro L uw K hN hS hK
          obtain ⟨qB, qC, qD, qE⟩ := hS
          have qB_0 := qB.cells 0 _ rfl
          have qB_1 := qB.cells 1 _ rfl
          have qE_0 := qE.cells 0 _ rfl
          have qE_1 := qE.cells 1 _ rfl
          clear hN
          first
            | (go_simp; exact hK.out _ ⟨qB, (qC).skip (by decide), (qD).skip (by decide), qE⟩)
            | (go_simp; go_at_call 40; (with_reducible refine (left_spec a b p q ha ha1 hb hb1 hp1 (by omega) hp3 (by omega) _).mono ?_); rintro e uw1 ⟨rfl, hv⟩; unfold br; go_wp2_with fail; exact hK.out _ ⟨qB.more hv, (qC.more hv).skip (by decide), (qD.more hv).skip (by decide), qE.more hv⟩)
            | (rcases qC.two with hh | hh <;> (have h0 := hh.cells 0 _ rfl; have k0 := hh.free 0 (by simp); have h1 := hh.cells 1 _ rfl; have k1 := hh.free 1 (by simp); go_simp; exact hK.out _ ⟨((qB.far hh.base (by omega) 0 (.int .i64 p)).far hh.base (by omega) 1 (.int .i64 q)), BoxL.put ((hh.set 0 (.int .i64 p)).set 1 (.int .i64 q)), (((qD.far hh.base (by omega) 0 (.int .i64 p)).far hh.base (by omega) 1 (.int .i64 q))).skip (by decide), ((qE.far hh.base (by omega) 0 (.int .i64 p)).far hh.base (by omega) 1 (.int .i64 q))⟩))
            | (rcases qD.two with hh | hh <;> (have h0 := hh.cells 0 _ rfl; have k0 := hh.free 0 (by simp); have h1 := hh.cells 1 _ rfl; have k1 := hh.free 1 (by simp); go_simp; exact hK.out _ ⟨((qB.far hh.base (by omega) 0 (.int .i64 (a - p))).far hh.base (by omega) 1 (.int .i64 (b - q))), (((qC.far hh.base (by omega) 0 (.int .i64 (a - p))).far hh.base (by omega) 1 (.int .i64 (b - q)))).skip (by decide), BoxL.put ((hh.set 0 (.int .i64 (a - p))).set 1 (.int .i64 (b - q))), ((qE.far hh.base (by omega) 0 (.int .i64 (a - p))).far hh.base (by omega) 1 (.int .i64 (b - q)))⟩))
        try simp only [Act.put, List.setIfInBounds_toArray, List.set_cons_zero, List.set_cons_succ])
      refine SeqH.done rfl ?_
      intro L v5 hL hS
      clear B C D E
      obtain ⟨B, C, D, E⟩ := hS
      replace C := C.done (hL 4 (by decide))
      replace D := D.done (hL 5 (by decide))
      clear hL
      have B_0 := B.cells 0 _ rfl
      have B_1 := B.cells 1 _ rfl
      have B_f0 := B.free 0 (by simp)
      have B_f1 := B.free 1 (by simp)
      have B_t := B.there
      have C_0 := C.cells 0 _ rfl
      have C_1 := C.cells 1 _ rfl
      have C_f0 := C.free 0 (by simp)
      have C_f1 := C.free 1 (by simp)
      have C_t := C.there
      have D_0 := D.cells 0 _ rfl
      have D_1 := D.cells 1 _ rfl
      have D_f0 := D.free 0 (by simp)
      have D_f1 := D.free 1 (by simp)
      have D_t := D.there
      have E_0 := E.cells 0 _ rfl
      have E_1 := E.cells 1 _ rfl
      have E_f0 := E.free 0 (by simp)
      have E_f1 := E.free 1 (by simp)
      have E_t := E.there
      go_wp2
      exact bodyPost_ret (v := .tuple #[br p q, br (a - p) (b - q), .bool true]) (by simp [br, results, Tryd.results14, go_sem, C_0, C_1, D_0, D_1]) rfl (rpost H.out.symm C.below)
end Go.Proofs.YtpblkkfafmcnpaaDoor.Brine6
