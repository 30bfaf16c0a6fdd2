/- The laws on brines, walked. -/
import Derived.Test.YtojhcnnffepicaaHalve
namespace Go.Proofs.Ytojhcnnffepicaa.Laws2
open Go.RowKit Go.Proofs.Ytojhcnnffepicaa.Mem Go.Proofs.Ytojhcnnffepicaa.Base Go.Proofs.Ytojhcnnffepicaa.Brine Go.Proofs.Ytojhcnnffepicaa.Regn Go.Proofs.Ytojhcnnffepicaa.Boxes Go.Proofs.Ytojhcnnffepicaa.IBrine
set_option linter.unusedVariables false
set_option maxRecDepth 100000
/-- What each walk of a law ends in. -/
def Yes (w : World) (e : Ending) (w' : World) : Prop := e = .returned (.bool true) ∧ Below w.heap.size w w'
theorem to2 (a b : Int) (w : World) : Calls Try.prog 26 #[.agg #[.int .i64 a, .int .i64 b]] w (RPost (.agg #[.int .i64 a, .int .i64 b]) w) := SBrine.to_any ⟨a, b⟩ w
theorem isb_spec (a b : Int) (w : World) : Calls Try.prog 25 #[.agg #[.int .i64 a, .int .i64 b]] w (RPost (.bool (okB a b)) w) := by
  go_enter Try.func25, Try.ntmps25
  go_wp2_with fail
  have B := Box.new (Below.refl _ w) [.int .i64 a, .int .i64 b] 25 (g := w.heap.size) rfl
  generalize (w.alloc (.cells #[.int .i64 a, .int .i64 b] 25)) = W1 at B ⊢
  have B_0 := B.cells 0 _ rfl
  have B_1 := B.cells 1 _ rfl
  have B_f0 := B.free 0 (by simp)
  have B_f1 := B.free 1 (by simp)
  have B_t := B.there
  go_wp2_with fail
  refine (brine_spec a b _).mono ?_
  rintro e v2 ⟨rfl, hv2⟩
  clear B_0 B_1 B_f0 B_f1 B_t
  replace B := B.more hv2
  have zhv2 := hv2.size
  clear hv2
  have B_0 := B.cells 0 _ rfl
  have B_1 := B.cells 1 _ rfl
  have B_f0 := B.free 0 (by simp)
  have B_f1 := B.free 1 (by simp)
  have B_t := B.there
  go_wp2
  go_ret
  exact rpost rfl B.below
theorem isb_law (a b : Int) (w : World) : Calls Try.prog 4 #[.agg #[.int .i64 a, .int .i64 b]] w (Yes w) := by
  go_enter Try.func4, Try.ntmps4
  go_wp2_with fail
  have P := Box.new (Below.refl _ w) [.int .i64 a, .int .i64 b] 37 (g := w.heap.size) rfl
  generalize (w.alloc (.cells #[.int .i64 a, .int .i64 b] 37)) = W1 at P ⊢
  have P_0 := P.cells 0 _ rfl
  have P_1 := P.cells 1 _ rfl
  have P_f0 := P.free 0 (by simp)
  have P_f1 := P.free 1 (by simp)
  have P_t := P.there
  go_wp2_with fail
  refine (to2 a b _).mono ?_
  rintro e v2 ⟨rfl, hv2⟩
  clear P_0 P_1 P_f0 P_f1 P_t
  replace P := P.more hv2
  have zhv2 := hv2.size
  clear hv2
  have P_0 := P.cells 0 _ rfl
  have P_1 := P.cells 1 _ rfl
  have P_f0 := P.free 0 (by simp)
  have P_f1 := P.free 1 (by simp)
  have P_t := P.there
  go_wp2_with fail
  refine (isb_spec a b _).mono ?_
  rintro e v3 ⟨rfl, hv3⟩
  clear P_0 P_1 P_f0 P_f1 P_t
  replace P := P.more hv3
  have zhv3 := hv3.size
  clear hv3
  have P_0 := P.cells 0 _ rfl
  have P_1 := P.cells 1 _ rfl
  have P_f0 := P.free 0 (by simp)
  have P_f1 := P.free 1 (by simp)
  have P_t := P.there
  go_wp2_with fail
  refine (to2 a b _).mono ?_
  rintro e v4 ⟨rfl, hv4⟩
  clear P_0 P_1 P_f0 P_f1 P_t
  replace P := P.more hv4
  have zhv4 := hv4.size
  clear hv4
  have P_0 := P.cells 0 _ rfl
  have P_1 := P.cells 1 _ rfl
  have P_f0 := P.free 0 (by simp)
  have P_f1 := P.free 1 (by simp)
  have P_t := P.there
  go_wp2_with fail
  refine (brine_impl a b _).mono ?_
  rintro e v5 ⟨rfl, hv5⟩
  clear P_0 P_1 P_f0 P_f1 P_t
  replace P := P.more hv5
  have zhv5 := hv5.size
  clear hv5
  have P_0 := P.cells 0 _ rfl
  have P_1 := P.cells 1 _ rfl
  have P_f0 := P.free 0 (by simp)
  have P_f1 := P.free 1 (by simp)
  have P_t := P.there
  generalize okB a b = q
  go_wp2
  go_ret
  exact ⟨rfl, P.below⟩
theorem str_form (a b : Int) : ∃ x y q, Brine3.strV a b = .tuple #[.int .i64 x, .int .i64 y, .bool q] := by
  unfold Brine3.strV; split
  · split <;> exact ⟨_, _, _, rfl⟩
  · exact ⟨_, _, _, rfl⟩
theorem str_law (a b : Int) (w : World) : Calls Try.prog 5 #[.agg #[.int .i64 a, .int .i64 b]] w (Yes w) := by
  obtain ⟨x, y, q, hv⟩ := str_form a b
  have HV := Lib.hid hv; clear hv
  go_enter Try.func5, Try.ntmps5
  go_wp2_with fail
  have P := Box.new (Below.refl _ w) [.int .i64 a, .int .i64 b] 37 (g := w.heap.size) rfl
  generalize (w.alloc (.cells #[.int .i64 a, .int .i64 b] 37)) = W1 at P ⊢
  have P_0 := P.cells 0 _ rfl
  have P_1 := P.cells 1 _ rfl
  have P_f0 := P.free 0 (by simp)
  have P_f1 := P.free 1 (by simp)
  have P_t := P.there
  go_wp2_with fail
  refine (to2 a b _).mono ?_
  rintro e v2 ⟨rfl, hv2⟩
  clear P_0 P_1 P_f0 P_f1 P_t
  replace P := P.more hv2
  have zhv2 := hv2.size
  clear hv2
  have P_0 := P.cells 0 _ rfl
  have P_1 := P.cells 1 _ rfl
  have P_f0 := P.free 0 (by simp)
  have P_f1 := P.free 1 (by simp)
  have P_t := P.there
  go_wp2_with fail
  refine (Brine3.strength_spec a b _).mono ?_
  rintro e v3 ⟨rfl, hv3⟩
  clear P_0 P_1 P_f0 P_f1 P_t
  replace P := P.more hv3
  have zhv3 := hv3.size
  clear hv3
  have P_0 := P.cells 0 _ rfl
  have P_1 := P.cells 1 _ rfl
  have P_f0 := P.free 0 (by simp)
  have P_f1 := P.free 1 (by simp)
  have P_t := P.there
  rw [HV.out]
  go_wp2_with fail
  refine (to2 a b _).mono ?_
  rintro e v4 ⟨rfl, hv4⟩
  clear P_0 P_1 P_f0 P_f1 P_t
  replace P := P.more hv4
  have zhv4 := hv4.size
  clear hv4
  have P_0 := P.cells 0 _ rfl
  have P_1 := P.cells 1 _ rfl
  have P_f0 := P.free 0 (by simp)
  have P_f1 := P.free 1 (by simp)
  have P_t := P.there
  go_wp2_with fail
  refine (strength_impl a b _).mono ?_
  rintro e v5 ⟨rfl, hv5⟩
  clear P_0 P_1 P_f0 P_f1 P_t
  replace P := P.more hv5
  have zhv5 := hv5.size
  clear hv5
  have P_0 := P.cells 0 _ rfl
  have P_1 := P.cells 1 _ rfl
  have P_f0 := P.free 0 (by simp)
  have P_f1 := P.free 1 (by simp)
  have P_t := P.there
  rw [HV.out]
  go_wp2
  go_ret
  exact ⟨rfl, P.below⟩
theorem lose_form (a b n d : Int) : ∃ x q, Brine4.loseV a b n d = .tuple #[.int .i64 x, .bool q] := by
  unfold Brine4.loseV; split <;> exact ⟨_, _, rfl⟩
theorem lose_law (a b n d : Int) (w : World) : Calls Try.prog 8 #[.agg #[.int .i64 a, .int .i64 b], .int .i64 n, .int .i64 d] w (Yes w) := by
  obtain ⟨x, q, hv⟩ := lose_form a b n d
  have HV := Lib.hid hv; clear hv
  go_enter Try.func8, Try.ntmps8
  go_wp2_with fail
  have P := Box.new (Below.refl _ w) [.int .i64 a, .int .i64 b] 37 (g := w.heap.size) rfl
  generalize (w.alloc (.cells #[.int .i64 a, .int .i64 b] 37)) = W1 at P ⊢
  have P_0 := P.cells 0 _ rfl
  have P_1 := P.cells 1 _ rfl
  have P_f0 := P.free 0 (by simp)
  have P_f1 := P.free 1 (by simp)
  have P_t := P.there
  go_wp2_with fail
  refine (to2 a b _).mono ?_
  rintro e v2 ⟨rfl, hv2⟩
  clear P_0 P_1 P_f0 P_f1 P_t
  replace P := P.more hv2
  have zhv2 := hv2.size
  clear hv2
  have P_0 := P.cells 0 _ rfl
  have P_1 := P.cells 1 _ rfl
  have P_f0 := P.free 0 (by simp)
  have P_f1 := P.free 1 (by simp)
  have P_t := P.there
  go_wp2_with fail
  refine (Brine4.lose_spec a b n d _).mono ?_
  rintro e v3 ⟨rfl, hv3⟩
  clear P_0 P_1 P_f0 P_f1 P_t
  replace P := P.more hv3
  have zhv3 := hv3.size
  clear hv3
  have P_0 := P.cells 0 _ rfl
  have P_1 := P.cells 1 _ rfl
  have P_f0 := P.free 0 (by simp)
  have P_f1 := P.free 1 (by simp)
  have P_t := P.there
  rw [HV.out]
  go_wp2_with fail
  refine (to2 a b _).mono ?_
  rintro e v4 ⟨rfl, hv4⟩
  clear P_0 P_1 P_f0 P_f1 P_t
  replace P := P.more hv4
  have zhv4 := hv4.size
  clear hv4
  have P_0 := P.cells 0 _ rfl
  have P_1 := P.cells 1 _ rfl
  have P_f0 := P.free 0 (by simp)
  have P_f1 := P.free 1 (by simp)
  have P_t := P.there
  go_wp2_with fail
  refine (IBrine2.lose_impl a b n d _).mono ?_
  rintro e v5 ⟨rfl, hv5⟩
  clear P_0 P_1 P_f0 P_f1 P_t
  replace P := P.more hv5
  have zhv5 := hv5.size
  clear hv5
  have P_0 := P.cells 0 _ rfl
  have P_1 := P.cells 1 _ rfl
  have P_f0 := P.free 0 (by simp)
  have P_f1 := P.free 1 (by simp)
  have P_t := P.there
  rw [HV.out]
  go_wp2
  go_ret
  exact ⟨rfl, P.below⟩
theorem add_form (a b n d : Int) : ∃ x q, Brine5.addV a b n d = .tuple #[.int .i64 x, .bool q] := by
  unfold Brine5.addV; split <;> exact ⟨_, _, rfl⟩
theorem add_law (a b n d : Int) (w : World) : Calls Try.prog 9 #[.agg #[.int .i64 a, .int .i64 b], .int .i64 n, .int .i64 d] w (Yes w) := by
  obtain ⟨x, q, hv⟩ := add_form a b n d
  have HV := Lib.hid hv; clear hv
  go_enter Try.func9, Try.ntmps9
  go_wp2_with fail
  have P := Box.new (Below.refl _ w) [.int .i64 a, .int .i64 b] 37 (g := w.heap.size) rfl
  generalize (w.alloc (.cells #[.int .i64 a, .int .i64 b] 37)) = W1 at P ⊢
  have P_0 := P.cells 0 _ rfl
  have P_1 := P.cells 1 _ rfl
  have P_f0 := P.free 0 (by simp)
  have P_f1 := P.free 1 (by simp)
  have P_t := P.there
  go_wp2_with fail
  refine (to2 a b _).mono ?_
  rintro e v2 ⟨rfl, hv2⟩
  clear P_0 P_1 P_f0 P_f1 P_t
  replace P := P.more hv2
  have zhv2 := hv2.size
  clear hv2
  have P_0 := P.cells 0 _ rfl
  have P_1 := P.cells 1 _ rfl
  have P_f0 := P.free 0 (by simp)
  have P_f1 := P.free 1 (by simp)
  have P_t := P.there
  go_wp2_with fail
  refine (Brine5.add_spec a b n d _).mono ?_
  rintro e v3 ⟨rfl, hv3⟩
  clear P_0 P_1 P_f0 P_f1 P_t
  replace P := P.more hv3
  have zhv3 := hv3.size
  clear hv3
  have P_0 := P.cells 0 _ rfl
  have P_1 := P.cells 1 _ rfl
  have P_f0 := P.free 0 (by simp)
  have P_f1 := P.free 1 (by simp)
  have P_t := P.there
  rw [HV.out]
  go_wp2_with fail
  refine (to2 a b _).mono ?_
  rintro e v4 ⟨rfl, hv4⟩
  clear P_0 P_1 P_f0 P_f1 P_t
  replace P := P.more hv4
  have zhv4 := hv4.size
  clear hv4
  have P_0 := P.cells 0 _ rfl
  have P_1 := P.cells 1 _ rfl
  have P_f0 := P.free 0 (by simp)
  have P_f1 := P.free 1 (by simp)
  have P_t := P.there
  go_wp2_with fail
  refine (IBrine2.add_impl a b n d _).mono ?_
  rintro e v5 ⟨rfl, hv5⟩
  clear P_0 P_1 P_f0 P_f1 P_t
  replace P := P.more hv5
  have zhv5 := hv5.size
  clear hv5
  have P_0 := P.cells 0 _ rfl
  have P_1 := P.cells 1 _ rfl
  have P_f0 := P.free 0 (by simp)
  have P_f1 := P.free 1 (by simp)
  have P_t := P.there
  rw [HV.out]
  go_wp2
  go_ret
  exact ⟨rfl, P.below⟩
theorem strong_form (a b c d : Int) : ∃ x q, Brine5.strongV a b c d = .tuple #[.bool x, .bool q] := by
  unfold Brine5.strongV; split <;> exact ⟨_, _, rfl⟩
theorem strong_law (a b c d : Int) (w : World) : Calls Try.prog 10 #[.agg #[.int .i64 a, .int .i64 b], .agg #[.int .i64 c, .int .i64 d]] w (Yes w) := by
  obtain ⟨x, q, hv⟩ := strong_form a b c d
  have HV := Lib.hid hv; clear hv
  go_enter Try.func10, Try.ntmps10
  go_wp2_with fail
  have P := (Box.new (Below.refl _ w) [.int .i64 a, .int .i64 b] 37 (g := w.heap.size) rfl).alloc (.cells #[.int .i64 c, .int .i64 d] 37)
  have Q := Box.new (al (Below.refl _ w) (o := (.cells #[.int .i64 a, .int .i64 b] 37))) [.int .i64 c, .int .i64 d] 37 (g := w.heap.size + 1) (by simp only [size_alloc'])
  generalize ((w.alloc (.cells #[.int .i64 a, .int .i64 b] 37)).alloc (.cells #[.int .i64 c, .int .i64 d] 37)) = W1 at P Q ⊢
  have P_0 := P.cells 0 _ rfl
  have P_1 := P.cells 1 _ rfl
  have P_f0 := P.free 0 (by simp)
  have P_f1 := P.free 1 (by simp)
  have P_t := P.there
  have Q_0 := Q.cells 0 _ rfl
  have Q_1 := Q.cells 1 _ rfl
  have Q_f0 := Q.free 0 (by simp)
  have Q_f1 := Q.free 1 (by simp)
  have Q_t := Q.there
  refine wp_region_text (fun w' => Box (w.heap.size) [.int .i64 a, .int .i64 b] w w' ∧ Box (w.heap.size + 1) [.int .i64 c, .int .i64 d] w w') (by kernel_rfl) (by kernel_rfl) ⟨P.drew, Q.drew⟩ ?_
  clear P_0 P_1 P_f0 P_f1 P_t
  clear Q_0 Q_1 Q_f0 Q_f1 Q_t
  iterate 10 (
    apply SeqH.one
    · intro uw K hS hK
      obtain ⟨qP, qQ⟩ := hS
      have qP_0 := qP.cells 0 _ rfl
      have qP_1 := qP.cells 1 _ rfl
      have qQ_0 := qQ.cells 0 _ rfl
      have qQ_1 := qQ.cells 1 _ rfl
      first
        | (go_simp; exact hK.out _ ⟨qP, qQ⟩)
        | (go_simp; go_at_call 26; (with_reducible refine (to2 a b _).mono ?_); rintro e uw1 ⟨rfl, hv⟩; go_wp2_with fail; exact hK.out _ ⟨qP.more hv, qQ.more hv⟩)
        | (go_simp; go_at_call 26; (with_reducible refine (to2 c d _).mono ?_); rintro e uw1 ⟨rfl, hv⟩; go_wp2_with fail; exact hK.out _ ⟨qP.more hv, qQ.more hv⟩)
        | (go_simp; go_at_call 22; (with_reducible refine (Brine5.strong_spec a b c d _).mono ?_); rintro e uw1 ⟨rfl, hv⟩; rw [HV.out]; go_wp2_with fail; exact hK.out _ ⟨qP.more hv, qQ.more hv⟩)
    try simp only [Act.put, List.setIfInBounds_toArray, List.set_cons_zero, List.set_cons_succ])
  refine SeqH.end' rfl ?_
  intro v2 hS
  clear P Q
  obtain ⟨P, Q⟩ := hS
  have P_0 := P.cells 0 _ rfl
  have P_1 := P.cells 1 _ rfl
  have P_f0 := P.free 0 (by simp)
  have P_f1 := P.free 1 (by simp)
  have P_t := P.there
  have Q_0 := Q.cells 0 _ rfl
  have Q_1 := Q.cells 1 _ rfl
  have Q_f0 := Q.free 0 (by simp)
  have Q_f1 := Q.free 1 (by simp)
  have Q_t := Q.there
  go_wp2
  refine wp_region_text (fun w' => Box (w.heap.size) [.int .i64 a, .int .i64 b] w w' ∧ Box (w.heap.size + 1) [.int .i64 c, .int .i64 d] w w') (by kernel_rfl) (by kernel_rfl) ⟨P.drew, Q.drew⟩ ?_
  clear P_0 P_1 P_f0 P_f1 P_t
  clear Q_0 Q_1 Q_f0 Q_f1 Q_t
  iterate 10 (
    apply SeqH.one
    · intro uw K hS hK
      obtain ⟨qP, qQ⟩ := hS
      have qP_0 := qP.cells 0 _ rfl
      have qP_1 := qP.cells 1 _ rfl
      have qQ_0 := qQ.cells 0 _ rfl
      have qQ_1 := qQ.cells 1 _ rfl
      first
        | (go_simp; exact hK.out _ ⟨qP, qQ⟩)
        | (go_simp; go_at_call 26; (with_reducible refine (to2 a b _).mono ?_); rintro e uw1 ⟨rfl, hv⟩; go_wp2_with fail; exact hK.out _ ⟨qP.more hv, qQ.more hv⟩)
        | (go_simp; go_at_call 26; (with_reducible refine (to2 c d _).mono ?_); rintro e uw1 ⟨rfl, hv⟩; go_wp2_with fail; exact hK.out _ ⟨qP.more hv, qQ.more hv⟩)
        | (go_simp; go_at_call 21; (with_reducible refine (IBrine2.strong_impl a b c d _).mono ?_); rintro e uw1 ⟨rfl, hv⟩; rw [HV.out]; go_wp2_with fail; exact hK.out _ ⟨qP.more hv, qQ.more hv⟩)
    try simp only [Act.put, List.setIfInBounds_toArray, List.set_cons_zero, List.set_cons_succ])
  refine SeqH.end' rfl ?_
  intro v3 hS
  clear P Q
  obtain ⟨P, Q⟩ := hS
  have P_0 := P.cells 0 _ rfl
  have P_1 := P.cells 1 _ rfl
  have P_f0 := P.free 0 (by simp)
  have P_f1 := P.free 1 (by simp)
  have P_t := P.there
  have Q_0 := Q.cells 0 _ rfl
  have Q_1 := Q.cells 1 _ rfl
  have Q_f0 := Q.free 0 (by simp)
  have Q_f1 := Q.free 1 (by simp)
  have Q_t := Q.there
  go_wp2
  go_ret
  exact ⟨rfl, P.below⟩
theorem take_form (a b n : Int) : ∃ x y u v q, Brine6.takeV a b n = .tuple #[br x y, br u v, .bool q] := by
  unfold Brine6.takeV; split <;> exact ⟨_, _, _, _, _, rfl⟩
theorem take_law (a b n : Int) (w : World) : Calls Try.prog 7 #[.agg #[.int .i64 a, .int .i64 b], .int .i64 n] w (Yes w) := by
  obtain ⟨x, y, u, v, q, hv⟩ := take_form a b n
  have HV := Lib.hid hv; clear hv
  go_enter Try.func7, Try.ntmps7
  go_wp2_with fail
  have P := Box.new (Below.refl _ w) [.int .i64 a, .int .i64 b] 37 (g := w.heap.size) rfl
  generalize (w.alloc (.cells #[.int .i64 a, .int .i64 b] 37)) = W1 at P ⊢
  have P_0 := P.cells 0 _ rfl
  have P_1 := P.cells 1 _ rfl
  have P_f0 := P.free 0 (by simp)
  have P_f1 := P.free 1 (by simp)
  have P_t := P.there
  go_wp2_with fail
  refine (to2 a b _).mono ?_
  rintro e v2 ⟨rfl, hv2⟩
  clear P_0 P_1 P_f0 P_f1 P_t
  replace P := P.more hv2
  have zhv2 := hv2.size
  clear hv2
  have P_0 := P.cells 0 _ rfl
  have P_1 := P.cells 1 _ rfl
  have P_f0 := P.free 0 (by simp)
  have P_f1 := P.free 1 (by simp)
  have P_t := P.there
  go_wp2_with fail
  refine (Brine6.take_spec a b n _).mono ?_
  rintro e v3 ⟨rfl, hv3⟩
  clear P_0 P_1 P_f0 P_f1 P_t
  replace P := P.more hv3
  have zhv3 := hv3.size
  clear hv3
  have P_0 := P.cells 0 _ rfl
  have P_1 := P.cells 1 _ rfl
  have P_f0 := P.free 0 (by simp)
  have P_f1 := P.free 1 (by simp)
  have P_t := P.there
  rw [HV.out]
  unfold br
  go_wp2_with fail
  have P_t4 := P.there
  have E := (Box.new P.below [.int .i64 x, .int .i64 y] 25 (g := v3.heap.size) rfl).alloc (.cells #[.int .i64 u, .int .i64 v] 25)
  have F := Box.new (al P.below (o := (.cells #[.int .i64 x, .int .i64 y] 25))) [.int .i64 u, .int .i64 v] 25 (g := v3.heap.size + 1) (by simp only [size_alloc'])
  clear P_0 P_1 P_f0 P_f1 P_t
  replace P := ((P).alloc (.cells #[.int .i64 x, .int .i64 y] 25)).alloc (.cells #[.int .i64 u, .int .i64 v] 25)
  generalize ((v3.alloc (.cells #[.int .i64 x, .int .i64 y] 25)).alloc (.cells #[.int .i64 u, .int .i64 v] 25)) = W4 at E F P ⊢
  have P_0 := P.cells 0 _ rfl
  have P_1 := P.cells 1 _ rfl
  have P_f0 := P.free 0 (by simp)
  have P_f1 := P.free 1 (by simp)
  have P_t := P.there
  have E_0 := E.cells 0 _ rfl
  have E_1 := E.cells 1 _ rfl
  have E_f0 := E.free 0 (by simp)
  have E_f1 := E.free 1 (by simp)
  have E_t := E.there
  have F_0 := F.cells 0 _ rfl
  have F_1 := F.cells 1 _ rfl
  have F_f0 := F.free 0 (by simp)
  have F_f1 := F.free 1 (by simp)
  have F_t := F.there
  go_wp2_with fail
  refine (to2 a b _).mono ?_
  rintro e v5 ⟨rfl, hv5⟩
  clear P_0 P_1 P_f0 P_f1 P_t
  clear E_0 E_1 E_f0 E_f1 E_t
  clear F_0 F_1 F_f0 F_f1 F_t
  replace P := P.more hv5
  replace E := E.more hv5
  replace F := F.more hv5
  have zhv5 := hv5.size
  clear hv5
  have P_0 := P.cells 0 _ rfl
  have P_1 := P.cells 1 _ rfl
  have P_f0 := P.free 0 (by simp)
  have P_f1 := P.free 1 (by simp)
  have P_t := P.there
  have E_0 := E.cells 0 _ rfl
  have E_1 := E.cells 1 _ rfl
  have E_f0 := E.free 0 (by simp)
  have E_f1 := E.free 1 (by simp)
  have E_t := E.there
  have F_0 := F.cells 0 _ rfl
  have F_1 := F.cells 1 _ rfl
  have F_f0 := F.free 0 (by simp)
  have F_f1 := F.free 1 (by simp)
  have F_t := F.there
  go_wp2_with fail
  refine (IBrine3.take_impl a b n _).mono ?_
  rintro e v6 ⟨rfl, hv6⟩
  clear P_0 P_1 P_f0 P_f1 P_t
  clear E_0 E_1 E_f0 E_f1 E_t
  clear F_0 F_1 F_f0 F_f1 F_t
  replace P := P.more hv6
  replace E := E.more hv6
  replace F := F.more hv6
  have zhv6 := hv6.size
  clear hv6
  have P_0 := P.cells 0 _ rfl
  have P_1 := P.cells 1 _ rfl
  have P_f0 := P.free 0 (by simp)
  have P_f1 := P.free 1 (by simp)
  have P_t := P.there
  have E_0 := E.cells 0 _ rfl
  have E_1 := E.cells 1 _ rfl
  have E_f0 := E.free 0 (by simp)
  have E_f1 := E.free 1 (by simp)
  have E_t := E.there
  have F_0 := F.cells 0 _ rfl
  have F_1 := F.cells 1 _ rfl
  have F_f0 := F.free 0 (by simp)
  have F_f1 := F.free 1 (by simp)
  have F_t := F.there
  rw [HV.out]
  unfold br
  go_wp2_with fail
  have P_t7 := P.there
  have E_t7 := E.there
  have F_t7 := F.there
  have G := (Box.new P.below [.int .i64 x, .int .i64 y] 25 (g := v6.heap.size) rfl).alloc (.cells #[.int .i64 u, .int .i64 v] 25)
  have H := Box.new (al P.below (o := (.cells #[.int .i64 x, .int .i64 y] 25))) [.int .i64 u, .int .i64 v] 25 (g := v6.heap.size + 1) (by simp only [size_alloc'])
  clear P_0 P_1 P_f0 P_f1 P_t
  replace P := ((P).alloc (.cells #[.int .i64 x, .int .i64 y] 25)).alloc (.cells #[.int .i64 u, .int .i64 v] 25)
  clear E_0 E_1 E_f0 E_f1 E_t
  replace E := ((E).alloc (.cells #[.int .i64 x, .int .i64 y] 25)).alloc (.cells #[.int .i64 u, .int .i64 v] 25)
  clear F_0 F_1 F_f0 F_f1 F_t
  replace F := ((F).alloc (.cells #[.int .i64 x, .int .i64 y] 25)).alloc (.cells #[.int .i64 u, .int .i64 v] 25)
  generalize ((v6.alloc (.cells #[.int .i64 x, .int .i64 y] 25)).alloc (.cells #[.int .i64 u, .int .i64 v] 25)) = W7 at G H P E F ⊢
  have P_0 := P.cells 0 _ rfl
  have P_1 := P.cells 1 _ rfl
  have P_f0 := P.free 0 (by simp)
  have P_f1 := P.free 1 (by simp)
  have P_t := P.there
  have E_0 := E.cells 0 _ rfl
  have E_1 := E.cells 1 _ rfl
  have E_f0 := E.free 0 (by simp)
  have E_f1 := E.free 1 (by simp)
  have E_t := E.there
  have F_0 := F.cells 0 _ rfl
  have F_1 := F.cells 1 _ rfl
  have F_f0 := F.free 0 (by simp)
  have F_f1 := F.free 1 (by simp)
  have F_t := F.there
  have G_0 := G.cells 0 _ rfl
  have G_1 := G.cells 1 _ rfl
  have G_f0 := G.free 0 (by simp)
  have G_f1 := G.free 1 (by simp)
  have G_t := G.there
  have H_0 := H.cells 0 _ rfl
  have H_1 := H.cells 1 _ rfl
  have H_f0 := H.free 0 (by simp)
  have H_f1 := H.free 1 (by simp)
  have H_t := H.there
  go_wp2_with fail
  refine (SBrine.eq_any ⟨x, y⟩ ⟨x, y⟩ _).mono ?_
  rintro e v8 ⟨rfl, hv8⟩
  clear P_0 P_1 P_f0 P_f1 P_t
  clear E_0 E_1 E_f0 E_f1 E_t
  clear F_0 F_1 F_f0 F_f1 F_t
  clear G_0 G_1 G_f0 G_f1 G_t
  clear H_0 H_1 H_f0 H_f1 H_t
  replace P := P.more hv8
  replace E := E.more hv8
  replace F := F.more hv8
  replace G := G.more hv8
  replace H := H.more hv8
  have zhv8 := hv8.size
  clear hv8
  have P_0 := P.cells 0 _ rfl
  have P_1 := P.cells 1 _ rfl
  have P_f0 := P.free 0 (by simp)
  have P_f1 := P.free 1 (by simp)
  have P_t := P.there
  have E_0 := E.cells 0 _ rfl
  have E_1 := E.cells 1 _ rfl
  have E_f0 := E.free 0 (by simp)
  have E_f1 := E.free 1 (by simp)
  have E_t := E.there
  have F_0 := F.cells 0 _ rfl
  have F_1 := F.cells 1 _ rfl
  have F_f0 := F.free 0 (by simp)
  have F_f1 := F.free 1 (by simp)
  have F_t := F.there
  have G_0 := G.cells 0 _ rfl
  have G_1 := G.cells 1 _ rfl
  have G_f0 := G.free 0 (by simp)
  have G_f1 := G.free 1 (by simp)
  have G_t := G.there
  have H_0 := H.cells 0 _ rfl
  have H_1 := H.cells 1 _ rfl
  have H_f0 := H.free 0 (by simp)
  have H_f1 := H.free 1 (by simp)
  have H_t := H.there
  rw [SBrine.same_self]
  go_wp2_with fail
  refine (SBrine.eq_any ⟨u, v⟩ ⟨u, v⟩ _).mono ?_
  rintro e v9 ⟨rfl, hv9⟩
  clear P_0 P_1 P_f0 P_f1 P_t
  clear E_0 E_1 E_f0 E_f1 E_t
  clear F_0 F_1 F_f0 F_f1 F_t
  clear G_0 G_1 G_f0 G_f1 G_t
  clear H_0 H_1 H_f0 H_f1 H_t
  replace P := P.more hv9
  replace E := E.more hv9
  replace F := F.more hv9
  replace G := G.more hv9
  replace H := H.more hv9
  have zhv9 := hv9.size
  clear hv9
  have P_0 := P.cells 0 _ rfl
  have P_1 := P.cells 1 _ rfl
  have P_f0 := P.free 0 (by simp)
  have P_f1 := P.free 1 (by simp)
  have P_t := P.there
  have E_0 := E.cells 0 _ rfl
  have E_1 := E.cells 1 _ rfl
  have E_f0 := E.free 0 (by simp)
  have E_f1 := E.free 1 (by simp)
  have E_t := E.there
  have F_0 := F.cells 0 _ rfl
  have F_1 := F.cells 1 _ rfl
  have F_f0 := F.free 0 (by simp)
  have F_f1 := F.free 1 (by simp)
  have F_t := F.there
  have G_0 := G.cells 0 _ rfl
  have G_1 := G.cells 1 _ rfl
  have G_f0 := G.free 0 (by simp)
  have G_f1 := G.free 1 (by simp)
  have G_t := G.there
  have H_0 := H.cells 0 _ rfl
  have H_1 := H.cells 1 _ rfl
  have H_f0 := H.free 0 (by simp)
  have H_f1 := H.free 1 (by simp)
  have H_t := H.there
  rw [SBrine.same_self]
  go_wp2
  go_ret
  exact ⟨rfl, P.below⟩
theorem mix_form (l : List R) : ∃ x y q, Mix.mixV l = .tuple #[br x y, .bool q] := by
  unfold Mix.mixV; split <;> exact ⟨_, _, _, rfl⟩
theorem mix_law (P : Option Addr) (cap : Nat) (l : List R) (w : World) (hr : Rd w w.heap.size P (SBrine.flat l)) (hn : l.length ≤ maxLen) :
    Calls Try.prog 6 #[.slice P l.length cap] w (Yes w) := by
  have HN := Lib.hid hn
  unfold maxLen at hn
  by_cases hbig : 1048576 < l.length
  · have HS := Lib.hid (show SBrine.szV 1048576 l.length = -1 by unfold SBrine.szV; rw [if_pos (by omega)])
    go_enter Try.func6, Try.ntmps6
    go_wp2_with fail
    refine (SBrine.szS_any P cap l.length 1048576 w (by omega) (by omega) HN.out).mono ?_
    rintro e _ ⟨rfl, rfl⟩
    rw [HS.out]
    go_wp2
    go_ret
    exact ⟨rfl, Below.refl _ _⟩
  · have HS := Lib.hid (show SBrine.szV 1048576 l.length = 1048576 - l.length by unfold SBrine.szV; rw [if_neg (by omega)])
    obtain ⟨x, y, q, hv⟩ := mix_form l
    have HV := Lib.hid hv; clear hv
    go_enter Try.func6, Try.ntmps6
    go_wp2_with fail
    refine (SBrine.szS_any P cap l.length 1048576 w (by omega) (by omega) HN.out).mono ?_
    rintro e _ ⟨rfl, rfl⟩
    rw [HS.out]
    go_wp2_with fail
    refine (SBrine.toS_any P cap l w hr (by omega)).mono ?_
    rintro e v2 ⟨rfl, ho1, hb1⟩
    go_wp2_with fail
    refine (Mix.mix_spec _ _ l _ (Rd.of_own ho1) (by omega)).mono ?_
    rintro e v3 ⟨rfl, hb2⟩
    rw [HV.out]
    unfold br
    have HB0 := be hb1 hb2
    clear ho1 hb1 hb2
    go_wp2_with fail
    have E := Box.new HB0 [.int .i64 x, .int .i64 y] 25 (g := v3.heap.size) rfl
    generalize (v3.alloc (.cells #[.int .i64 x, .int .i64 y] 25)) = W4 at E ⊢
    have E_0 := E.cells 0 _ rfl
    have E_1 := E.cells 1 _ rfl
    have E_f0 := E.free 0 (by simp)
    have E_f1 := E.free 1 (by simp)
    have E_t := E.there
    go_wp2_with fail
    refine (SBrine.toS_any P cap l _ ((hr.below E.below (Nat.le_refl _)).mono E.below.size) (by omega)).mono ?_
    rintro e v5 ⟨rfl, ho, hv5⟩
    clear E_0 E_1 E_f0 E_f1 E_t
    replace E := E.more hv5
    have zhv5 := hv5.size
    clear hv5
    have E_0 := E.cells 0 _ rfl
    have E_1 := E.cells 1 _ rfl
    have E_f0 := E.free 0 (by simp)
    have E_f1 := E.free 1 (by simp)
    have E_t := E.there
    go_wp2_with fail
    refine (Mix.mix_impl _ _ l _ (Rd.of_own ho) (by omega)).mono ?_
    rintro e v6 ⟨rfl, hv6⟩
    clear E_0 E_1 E_f0 E_f1 E_t
    replace E := E.more hv6
    replace ho := own_keep ho hv6
    have zhv6 := hv6.size
    clear hv6
    have E_0 := E.cells 0 _ rfl
    have E_1 := E.cells 1 _ rfl
    have E_f0 := E.free 0 (by simp)
    have E_f1 := E.free 1 (by simp)
    have E_t := E.there
    rw [HV.out]
    unfold br
    go_wp2_with fail
    have E_t7 := E.there
    have G := Box.new E.below [.int .i64 x, .int .i64 y] 25 (g := v6.heap.size) rfl
    clear E_0 E_1 E_f0 E_f1 E_t
    replace E := (E).alloc (.cells #[.int .i64 x, .int .i64 y] 25)
    replace ho := own_keep ho (al (Below.refl _ _) (o := (.cells #[.int .i64 x, .int .i64 y] 25)))
    generalize (v6.alloc (.cells #[.int .i64 x, .int .i64 y] 25)) = W7 at G E ho ⊢
    have E_0 := E.cells 0 _ rfl
    have E_1 := E.cells 1 _ rfl
    have E_f0 := E.free 0 (by simp)
    have E_f1 := E.free 1 (by simp)
    have E_t := E.there
    have G_0 := G.cells 0 _ rfl
    have G_1 := G.cells 1 _ rfl
    have G_f0 := G.free 0 (by simp)
    have G_f1 := G.free 1 (by simp)
    have G_t := G.there
    go_wp2_with fail
    refine (SBrine.eq_any ⟨x, y⟩ ⟨x, y⟩ _).mono ?_
    rintro e v8 ⟨rfl, hv8⟩
    clear E_0 E_1 E_f0 E_f1 E_t
    clear G_0 G_1 G_f0 G_f1 G_t
    replace E := E.more hv8
    replace G := G.more hv8
    replace ho := own_keep ho hv8
    have zhv8 := hv8.size
    clear hv8
    have E_0 := E.cells 0 _ rfl
    have E_1 := E.cells 1 _ rfl
    have E_f0 := E.free 0 (by simp)
    have E_f1 := E.free 1 (by simp)
    have E_t := E.there
    have G_0 := G.cells 0 _ rfl
    have G_1 := G.cells 1 _ rfl
    have G_f0 := G.free 0 (by simp)
    have G_f1 := G.free 1 (by simp)
    have G_t := G.there
    rw [SBrine.same_self]
    go_wp2_with fail
    refine (SBrine.toS_any P cap l _ ((hr.below E.below (Nat.le_refl _)).mono E.below.size) (by omega)).mono ?_
    rintro e v9 ⟨rfl, ho2, hv9⟩
    clear E_0 E_1 E_f0 E_f1 E_t
    clear G_0 G_1 G_f0 G_f1 G_t
    replace E := E.more hv9
    replace G := G.more hv9
    replace ho := own_keep ho hv9
    have zhv9 := hv9.size
    clear hv9
    have E_0 := E.cells 0 _ rfl
    have E_1 := E.cells 1 _ rfl
    have E_f0 := E.free 0 (by simp)
    have E_f1 := E.free 1 (by simp)
    have E_t := E.there
    have G_0 := G.cells 0 _ rfl
    have G_1 := G.cells 1 _ rfl
    have G_f0 := G.free 0 (by simp)
    have G_f1 := G.free 1 (by simp)
    have G_t := G.there
    go_wp2_with fail
    refine (SBrine.eqS_any _ _ _ _ l l _ (Rd.of_own ho) (Rd.of_own ho2) HN.out HN.out).mono ?_
    rintro e v10 ⟨rfl, hv10⟩
    clear E_0 E_1 E_f0 E_f1 E_t
    clear G_0 G_1 G_f0 G_f1 G_t
    replace E := E.more hv10
    replace G := G.more hv10
    replace ho := own_keep ho hv10
    have zhv10 := hv10.size
    clear hv10
    have E_0 := E.cells 0 _ rfl
    have E_1 := E.cells 1 _ rfl
    have E_f0 := E.free 0 (by simp)
    have E_f1 := E.free 1 (by simp)
    have E_t := E.there
    have G_0 := G.cells 0 _ rfl
    have G_1 := G.cells 1 _ rfl
    have G_f0 := G.free 0 (by simp)
    have G_f1 := G.free 1 (by simp)
    have G_t := G.there
    rw [decide_eq_true rfl]
    go_wp2
    go_ret
    exact ⟨rfl, E.below⟩
theorem half_len (a b n : Int) : (Halve.halfL a b n).length ≤ 20 := by
  unfold Halve.halfL; split
  · rename_i h
    unfold Halve.halfOk at h; rw [Bool.and_eq_true] at h
    have := of_inB h.2
    rw [Halve.parts_len]; omega
  · simp
theorem half_law (a b n : Int) (w : World) : Calls Try.prog 11 #[.agg #[.int .i64 a, .int .i64 b], .int .i64 n] w (Yes w) := by
  have hs := Halve.half_spec a b n
  have hi := Halve.half_impl a b n
  have hl := half_len a b n
  unfold Halve.HalfPost at hs hi
  generalize Halve.halfL a b n = L at hs hi hl
  generalize Halve.halfOk a b n = q at hs hi
  have HS := Lib.hid hs; clear hs
  have HI := Lib.hid hi; clear hi
  have hm : L.length ≤ maxLen := by unfold maxLen; omega
  have HM := Lib.hid hm; clear hm
  go_enter Try.func11, Try.ntmps11
  go_wp2_with fail
  have P := Box.new (Below.refl _ w) [.int .i64 a, .int .i64 b] 37 (g := w.heap.size) rfl
  generalize (w.alloc (.cells #[.int .i64 a, .int .i64 b] 37)) = W1 at P ⊢
  have P_0 := P.cells 0 _ rfl
  have P_1 := P.cells 1 _ rfl
  have P_f0 := P.free 0 (by simp)
  have P_f1 := P.free 1 (by simp)
  have P_t := P.there
  go_wp2_with fail
  refine (to2 a b _).mono ?_
  rintro e v2 ⟨rfl, hv2⟩
  clear P_0 P_1 P_f0 P_f1 P_t
  replace P := P.more hv2
  have zhv2 := hv2.size
  clear hv2
  have P_0 := P.cells 0 _ rfl
  have P_1 := P.cells 1 _ rfl
  have P_f0 := P.free 0 (by simp)
  have P_f1 := P.free 1 (by simp)
  have P_t := P.there
  go_wp2_with fail
  refine (HS.out _).mono ?_
  rintro e v3 ⟨A0, c0, rfl, O0, hv3⟩
  clear P_0 P_1 P_f0 P_f1 P_t
  replace P := P.more hv3
  have zhv3 := hv3.size
  clear hv3
  have P_0 := P.cells 0 _ rfl
  have P_1 := P.cells 1 _ rfl
  have P_f0 := P.free 0 (by simp)
  have P_f1 := P.free 1 (by simp)
  have P_t := P.there
  go_wp2_with fail
  refine (to2 a b _).mono ?_
  rintro e v4 ⟨rfl, hv4⟩
  clear P_0 P_1 P_f0 P_f1 P_t
  replace P := P.more hv4
  replace O0 := own_keep O0 hv4
  have zhv4 := hv4.size
  clear hv4
  have P_0 := P.cells 0 _ rfl
  have P_1 := P.cells 1 _ rfl
  have P_f0 := P.free 0 (by simp)
  have P_f1 := P.free 1 (by simp)
  have P_t := P.there
  have p4 := P.there
  have R4 := Rd.of_own O0
  go_wp2_with fail
  refine (HI.out _).mono ?_
  rintro e v5 ⟨A1, c1, rfl, O1, hv5⟩
  clear P_0 P_1 P_f0 P_f1 P_t
  replace P := P.more hv5
  replace O0 := own_keep O0 hv5
  have zhv5 := hv5.size
  clear hv5
  have P_0 := P.cells 0 _ rfl
  have P_1 := P.cells 1 _ rfl
  have P_f0 := P.free 0 (by simp)
  have P_f1 := P.free 1 (by simp)
  have P_t := P.there
  go_wp2_with fail
  refine (SBrine.eqS_any A1 A0 c1 c0 L L _ (Rd.of_own O1) (Rd.of_own O0) HM.out HM.out).mono ?_
  rintro e v6 ⟨rfl, hv6⟩
  clear P_0 P_1 P_f0 P_f1 P_t
  replace P := P.more hv6
  replace O0 := own_keep O0 hv6
  replace O1 := own_keep O1 hv6
  have zhv6 := hv6.size
  clear hv6
  have P_0 := P.cells 0 _ rfl
  have P_1 := P.cells 1 _ rfl
  have P_f0 := P.free 0 (by simp)
  have P_f1 := P.free 1 (by simp)
  have P_t := P.there
  rw [decide_eq_true rfl]
  go_wp2_with fail
  refine (SBrine.markS_any A1 c1 v4.heap.size L 1 _ O1 (by omega) (by omega) (by omega)).mono ?_
  rintro e v7 ⟨rfl, OM, hg⟩
  have R0 := (rd_grown (rd_low R4 (Rd.of_own O0)) hg (own_ge OM) (by have := P.there; omega)).mono (B' := v7.heap.size) (by have := hg.size; have := P.there; omega)
  replace P := P.grown hg (fun k hk => by have := own_ge OM k hk; omega)
  clear P_0 P_1 P_f0 P_f1 P_t
  clear O0
  clear O1
  clear R4 hg
  have P_0 := P.cells 0 _ rfl
  have P_1 := P.cells 1 _ rfl
  have P_f0 := P.free 0 (by simp)
  have P_f1 := P.free 1 (by simp)
  have P_t := P.there
  go_wp2_with fail
  refine (SBrine.heldS_any A1 c1 _ 1 L.length _ (Rd.of_own OM) (by omega) (by omega) (by omega)).mono ?_
  rintro e v8 ⟨rfl, hd⟩
  have hd2 := hd.below v7.heap.size; clear hd
  clear P_0 P_1 P_f0 P_f1 P_t
  replace P := P.more hd2
  replace OM := own_keep OM hd2
  replace R0 := rd_keep R0 hd2
  clear hd2
  have P_0 := P.cells 0 _ rfl
  have P_1 := P.cells 1 _ rfl
  have P_f0 := P.free 0 (by simp)
  have P_f1 := P.free 1 (by simp)
  have P_t := P.there
  go_wp2_with fail
  refine (to2 a b _).mono ?_
  rintro e v9 ⟨rfl, hv9⟩
  clear P_0 P_1 P_f0 P_f1 P_t
  replace P := P.more hv9
  replace OM := own_keep OM hv9
  replace R0 := rd_keep R0 hv9
  have zhv9 := hv9.size
  clear hv9
  have P_0 := P.cells 0 _ rfl
  have P_1 := P.cells 1 _ rfl
  have P_f0 := P.free 0 (by simp)
  have P_f1 := P.free 1 (by simp)
  have P_t := P.there
  go_wp2_with fail
  refine (HI.out _).mono ?_
  rintro e v10 ⟨A2, c2, rfl, O2, hv10⟩
  clear P_0 P_1 P_f0 P_f1 P_t
  replace P := P.more hv10
  replace OM := own_keep OM hv10
  replace R0 := rd_keep R0 hv10
  have zhv10 := hv10.size
  clear hv10
  have P_0 := P.cells 0 _ rfl
  have P_1 := P.cells 1 _ rfl
  have P_f0 := P.free 0 (by simp)
  have P_f1 := P.free 1 (by simp)
  have P_t := P.there
  go_wp2_with fail
  refine (SBrine.eqS_any A2 A0 c2 c0 L L _ (Rd.of_own O2) R0 HM.out HM.out).mono ?_
  rintro e v11 ⟨rfl, hv11⟩
  clear P_0 P_1 P_f0 P_f1 P_t
  replace P := P.more hv11
  replace OM := own_keep OM hv11
  replace R0 := rd_keep R0 hv11
  have zhv11 := hv11.size
  clear hv11
  have P_0 := P.cells 0 _ rfl
  have P_1 := P.cells 1 _ rfl
  have P_f0 := P.free 0 (by simp)
  have P_f1 := P.free 1 (by simp)
  have P_t := P.there
  rw [decide_eq_true rfl]
  go_wp2_with fail
  refine (SBrine.heldS_any A1 c1 _ 1 L.length _ (Rd.of_own OM) (by omega) (by omega) (by omega)).mono ?_
  rintro e v12 ⟨rfl, hd⟩
  go_wp2
  go_ret
  exact ⟨rfl, be P.below (hd.below _)⟩
end Go.Proofs.Ytojhcnnffepicaa.Laws2
