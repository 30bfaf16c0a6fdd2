/- Batches: the small functions of the model and of the program. Made by tools/mk_bats.py. -/
import Derived.Test.YtpokgnkcnibapaaBatQ
import Derived.Test.YtpokgnkcnibapaaWithin
import Derived.Test.YtpokgnkcnibapaaRegn2
import Derived.Test.YtpokgnkcnibapaaKeep
namespace Go.Proofs.Ytpokgnkcnibapaa.BatS
open Go.RowKit Go.Proofs.Ytpokgnkcnibapaa.Mem Go.Proofs.Ytpokgnkcnibapaa.Base Go.Proofs.Ytpokgnkcnibapaa.Within Go.Proofs.Ytpokgnkcnibapaa.SBatch Go.Proofs.Ytpokgnkcnibapaa.Regn Go.Proofs.Ytpokgnkcnibapaa.Boxes Go.Proofs.Ytpokgnkcnibapaa.Keep Go.Proofs.Ytpokgnkcnibapaa.BatP Go.Proofs.Ytpokgnkcnibapaa.BatQ
set_option linter.unusedVariables false
set_option linter.unusedSimpArgs false
set_option maxRecDepth 100000
theorem cells3 {w W : World} {b o k : Nat} {l : List R} {x : R} (HB : Below w.heap.size w W) (hb : b < w.heap.size) (hc : ∀ (j : Nat) (v : Value), (flat l)[j]? = some v → w.cell? ⟨b, o + j, none⟩ = some v) (hlt : k < l.length) (hx : l[k] = x) :
    W.cell? ⟨b, o + k * 3, none⟩ = some (.int .i64 x.f0) ∧ W.cell? ⟨b, o + k * 3 + 1, none⟩ = some (.int .i64 x.f1) ∧ W.cell? ⟨b, o + k * 3 + 2, none⟩ = some (.int .i64 x.f2) := by
  subst hx
  exact ⟨((bcell HB).1 _ _ hb).trans (hc _ _ (flat_0 l k hlt)), ((bcell HB).1 _ _ hb).trans (hc _ _ (flat_1 l k hlt)), ((bcell HB).1 _ _ hb).trans (hc _ _ (flat_2 l k hlt))⟩
theorem grams_spec (x : Int) (w : World) : Calls Try.prog 68 #[.int .i64 x] w (BPost (inB x 0 100000000) w) := by
  go_enter Try.func68, Try.ntmps68
  go_wp2_with (go_at_call 59; (with_reducible refine (in_any _ _ _ _).mono ?_); rintro e' w' ⟨rfl, rfl⟩)
  go_ret
  exact bpost rfl
theorem good_spec (x : R) (w : World) : Calls Try.prog 57 #[.agg #[.int .i64 x.f0, .int .i64 x.f1, .int .i64 x.f2]] w (RPost (.bool (okT x)) w) := by
  cases h0 : inB x.f0 0 100000
  · have H := Lib.hid (show okT x = false by unfold okT; rw [h0]; rfl)
    go_enter Try.func57, Try.ntmps57
    go_wp2_with (first | (go_at_call 59; (with_reducible refine (in_any _ _ _ _).mono ?_); rintro e' w' ⟨rfl, rfl⟩) | (go_at_call 68; (with_reducible refine (grams_spec _ _).mono ?_); rintro e' w' ⟨rfl, rfl⟩))
    go_ret
    exact rpost (by rw [H.out] <;> rfl) (al (Below.refl _ _))
  · cases h1 : inB x.f1 0 100000000
    · have H := Lib.hid (show okT x = false by unfold okT; rw [h0, h1]; rfl)
      go_enter Try.func57, Try.ntmps57
      go_wp2_with (first | (go_at_call 59; (with_reducible refine (in_any _ _ _ _).mono ?_); rintro e' w' ⟨rfl, rfl⟩) | (go_at_call 68; (with_reducible refine (grams_spec _ _).mono ?_); rintro e' w' ⟨rfl, rfl⟩))
      go_ret
      exact rpost (by rw [H.out] <;> rfl) (al (Below.refl _ _))
    · have H := Lib.hid (show okT x = inB x.f2 0 100000000 by unfold okT; rw [h0, h1]; rfl)
      go_enter Try.func57, Try.ntmps57
      go_wp2_with (first | (go_at_call 59; (with_reducible refine (in_any _ _ _ _).mono ?_); rintro e' w' ⟨rfl, rfl⟩) | (go_at_call 68; (with_reducible refine (grams_spec _ _).mono ?_); rintro e' w' ⟨rfl, rfl⟩))
      go_ret
      exact rpost (by rw [H.out] <;> rfl) (al (Below.refl _ _))
theorem is_impl (x : R) (w : World) : Calls Try.prog 18 #[.agg #[.int .i64 x.f0, .int .i64 x.f1, .int .i64 x.f2]] w (RPost (.bool (okT x)) w) := by
  cases h0 : inB x.f0 0 100000
  · have H := Lib.hid (show okT x = false by unfold okT; rw [h0]; rfl)
    go_enter Try.func18, Try.ntmps18
    go_wp2_with (go_at_call 53; (with_reducible refine (within_any _ _ _ _).mono ?_); rintro e' w' ⟨rfl, rfl⟩)
    go_ret
    exact rpost (by rw [H.out] <;> rfl) (al (Below.refl _ _))
  · cases h1 : inB x.f1 0 100000000
    · have H := Lib.hid (show okT x = false by unfold okT; rw [h0, h1]; rfl)
      go_enter Try.func18, Try.ntmps18
      go_wp2_with (go_at_call 53; (with_reducible refine (within_any _ _ _ _).mono ?_); rintro e' w' ⟨rfl, rfl⟩)
      go_ret
      exact rpost (by rw [H.out] <;> rfl) (al (Below.refl _ _))
    · have H := Lib.hid (show okT x = inB x.f2 0 100000000 by unfold okT; rw [h0, h1]; rfl)
      go_enter Try.func18, Try.ntmps18
      go_wp2_with (go_at_call 53; (with_reducible refine (within_any _ _ _ _).mono ?_); rintro e' w' ⟨rfl, rfl⟩)
      go_ret
      exact rpost (by rw [H.out] <;> rfl) (al (Below.refl _ _))
theorem is_spec (x : R) (w : World) : Calls Try.prog 19 #[.agg #[.int .i64 x.f0, .int .i64 x.f1, .int .i64 x.f2]] w (RPost (.bool (okT x)) w) := by
  go_enter Try.func19, Try.ntmps19
  go_wp2_with fail
  refine (good_spec x _).mono ?_
  rintro e w1 ⟨rfl, HB⟩
  go_wp2
  go_ret
  exact rpost rfl (be (al (Below.refl _ _)) HB)
theorem water_impl (x : Int) (w : World) : Calls Try.prog 52 #[.int .i64 x] w (BPost (isW x) w) := by
  go_enter Try.func52, Try.ntmps52
  go_wp2_with (go_at_call 53; (with_reducible refine (within_any _ _ _ _).mono ?_); rintro e' w' ⟨rfl, rfl⟩)
  go_ret
  exact bpost rfl
theorem up_impl (m n : Int) (h0 : 0 ≤ m) (h1 : m ≤ 20000000000000000) (hn : 1 ≤ n) (hn1 : n ≤ 200000000) (w : World) : Calls Try.prog 58 #[.int .i64 m, .int .i64 n] w fun e w' => e = .returned (.int .i64 ((m + n - 1) / n)) ∧ w = w' := by
  have e1 : (m + n - 1).tdiv n = (m + n - 1) / n := Int.tdiv_eq_ediv_of_nonneg (by omega)
  have e2 : (n == 0) = false := by rw [beq_eq_false_iff_ne]; omega
  have e3 : 0 ≤ (m + n - 1) / n := Int.ediv_nonneg (by omega) (by omega)
  have e4 : (m + n - 1) / n ≤ m + n - 1 := Int.ediv_le_self _ (by omega)
  have e5 : IntKind.i64.wrap ((m + n - 1) / n) = (m + n - 1) / n := IntWalk.i64_in _ (by omega)
  clear e3 e4
  go_enter Try.func58, Try.ntmps58
  go_wp2
  go_ret
  exact ⟨rfl, rfl⟩
theorem wash_impl (x : R) (v d : Int) (h : okT x = true) (h0 : 1 ≤ v) (h1 : v ≤ 100000000) (h2 : 0 ≤ d) (h3 : d ≤ v) (w : World) : Calls Try.prog 54 #[.agg #[.int .i64 x.f0, .int .i64 x.f1, .int .i64 x.f2], .int .i64 v, .int .i64 d] w (RPost (.tuple #[(wash x v d).val, .int .i64 (gone x v d)]) w) := by
  obtain ⟨a0, a1, a2, a3, a4, a5⟩ := okT_true h
  obtain ⟨p0, p1⟩ := prod_bd h h2 (by omega)
  obtain ⟨s0, s1, s2⟩ := stay_bd h h0 h2 h3
  have e1 : IntKind.i64.wrap ((x.f1 + d) * x.f2) = (x.f1 + d) * x.f2 := IntWalk.i64_in _ (by omega)
  have HS := Lib.hid (stay_eq x v d)
  have HV := Lib.hid (show wash x v d = ⟨x.f0, stay x v d, x.f2⟩ from rfl)
  have HG := Lib.hid (show gone x v d = x.f1 + d - stay x v d from rfl)
  have HU := Lib.hid (fun W => up_impl ((x.f1 + d) * x.f2) (x.f2 + v) p0 p1 (by omega) (by omega) W)
  clear h p0 p1
  go_enter Try.func54, Try.ntmps54
  go_wp2_with fail
  have B := (Box.new (Below.refl _ w) [.int .i64 x.f0, .int .i64 x.f1, .int .i64 x.f2] 25 (g := w.heap.size) rfl).alloc (.cells #[.int .i64 0, .int .i64 0, .int .i64 0] 25)
  have Z := Box.new (al (Below.refl _ w) (o := (.cells #[.int .i64 x.f0, .int .i64 x.f1, .int .i64 x.f2] 25))) [.int .i64 0, .int .i64 0, .int .i64 0] 25 (g := w.heap.size + 1) (by simp only [size_alloc'])
  generalize ((w.alloc (.cells #[.int .i64 x.f0, .int .i64 x.f1, .int .i64 x.f2] 25)).alloc (.cells #[.int .i64 0, .int .i64 0, .int .i64 0] 25)) = W1 at B Z ⊢
  have B_0 := B.cells 0 _ rfl
  have B_1 := B.cells 1 _ rfl
  have B_2 := B.cells 2 _ rfl
  have B_f0 := B.free 0 (by simp)
  have B_f1 := B.free 1 (by simp)
  have B_f2 := B.free 2 (by simp)
  have B_t := B.there
  have Z_0 := Z.cells 0 _ rfl
  have Z_1 := Z.cells 1 _ rfl
  have Z_2 := Z.cells 2 _ rfl
  have Z_f0 := Z.free 0 (by simp)
  have Z_f1 := Z.free 1 (by simp)
  have Z_f2 := Z.free 2 (by simp)
  have Z_t := Z.there
  go_wp2_with fail
  refine (HU.out _).mono ?_
  rintro e _ ⟨rfl, rfl⟩
  rw [← HS.out]
  go_wp2_with fail
  obtain ⟨z, hz⟩ : ∃ z, stay x v d = z := ⟨_, rfl⟩
  rw [hz] at s0 s1 s2 ⊢
  have HZ := Lib.hid hz; clear hz
  have e9 : IntKind.i64.wrap (x.f1 + d - z) = x.f1 + d - z := IntWalk.i64_in _ (by omega)
  clear B_0 B_1 B_2 B_f0 B_f1 B_f2 B_t
  clear Z_0 Z_1 Z_2 Z_f0 Z_f1 Z_f2 Z_t
  have B_t3 := B.there
  have Z_t3 := Z.there
  have B' : Box (w.heap.size) [.int .i64 x.f0, .int .i64 z, .int .i64 x.f2] w _ := (B.set 1 (.int .i64 z))
  have Z' : Box (w.heap.size + 1) [.int .i64 0, .int .i64 0, .int .i64 0] w _ := (Z.far B.base (by omega) 1 (.int .i64 z))
  clear B; have B := B'; clear B'
  clear Z; have Z := Z'; clear Z'
  have sz3 : (W1.setCell ⟨w.heap.size, 1, none⟩ (.int .i64 z)).heap.size = W1.heap.size := by simp only [size_set']
  generalize (W1.setCell ⟨w.heap.size, 1, none⟩ (.int .i64 z)) = W3 at B Z sz3 ⊢
  replace sz3 := Lib.hid sz3
  have B_0 := B.cells 0 _ rfl
  have B_1 := B.cells 1 _ rfl
  have B_2 := B.cells 2 _ rfl
  have B_f0 := B.free 0 (by simp)
  have B_f1 := B.free 1 (by simp)
  have B_f2 := B.free 2 (by simp)
  have B_t := B.there
  have Z_0 := Z.cells 0 _ rfl
  have Z_1 := Z.cells 1 _ rfl
  have Z_2 := Z.cells 2 _ rfl
  have Z_f0 := Z.free 0 (by simp)
  have Z_f1 := Z.free 1 (by simp)
  have Z_f2 := Z.free 2 (by simp)
  have Z_t := Z.there
  refine wp_region_seq (fun L w' => Box (w.heap.size) [.int .i64 x.f0, .int .i64 z, .int .i64 x.f2] w w' ∧ BoxL (L 5) (w.heap.size + 1) [.int .i64 0, .int .i64 0, .int .i64 0] [.int .i64 x.f0, .int .i64 z, .int .i64 x.f2] w w') (by kernel_rfl) (by kernel_rfl) ⟨B.drew, BoxL.start _ Z.drew⟩ ?_
  clear B_0 B_1 B_2 B_f0 B_f1 B_f2 B_t
  clear Z_0 Z_1 Z_2 Z_f0 Z_f1 Z_f2 Z_t
  iterate 7 (
    apply SeqH.op
    · intro L uw K hN hS hK
      obtain ⟨qB, qZ⟩ := hS
      have qB_0 := qB.cells 0 _ rfl
      have qB_1 := qB.cells 1 _ rfl
      have qB_2 := qB.cells 2 _ rfl
      try (have hh0 := qZ.2 (hN.out.1 5 (by decide +kernel)); have qZ_0 := hh0.cells 0 _ rfl; have qZ_1 := hh0.cells 1 _ rfl; have qZ_2 := hh0.cells 2 _ rfl; clear hh0)
      clear hN
      first
        | (go_simp; exact hK.out _ ⟨qB, (qZ).skip (by decide)⟩)
        | (rcases qZ.two with hh | hh <;> (have h0 := hh.cells 0 _ rfl; have k0 := hh.free 0 (by simp); have h1 := hh.cells 1 _ rfl; have k1 := hh.free 1 (by simp); have h2 := hh.cells 2 _ rfl; have k2 := hh.free 2 (by simp); go_simp; exact hK.out _ ⟨(((qB.far hh.base (by omega) 0 (.int .i64 x.f0)).far hh.base (by omega) 1 (.int .i64 z)).far hh.base (by omega) 2 (.int .i64 x.f2)), BoxL.put (((hh.set 0 (.int .i64 x.f0)).set 1 (.int .i64 z)).set 2 (.int .i64 x.f2))⟩))
    try simp only [Act.put, List.setIfInBounds_toArray, List.set_cons_zero, List.set_cons_succ])
  refine SeqH.done rfl ?_
  intro L v4 hL hS
  clear B Z
  obtain ⟨B, Z⟩ := hS
  replace Z := Z.done (hL 5 (by decide))
  clear hL
  have B_0 := B.cells 0 _ rfl
  have B_1 := B.cells 1 _ rfl
  have B_2 := B.cells 2 _ rfl
  have B_f0 := B.free 0 (by simp)
  have B_f1 := B.free 1 (by simp)
  have B_f2 := B.free 2 (by simp)
  have B_t := B.there
  have Z_0 := Z.cells 0 _ rfl
  have Z_1 := Z.cells 1 _ rfl
  have Z_2 := Z.cells 2 _ rfl
  have Z_f0 := Z.free 0 (by simp)
  have Z_f1 := Z.free 1 (by simp)
  have Z_f2 := Z.free 2 (by simp)
  have Z_t := Z.there
  go_wp2
  exact bodyPost_ret (v := .tuple #[.agg #[.int .i64 x.f0, .int .i64 z, .int .i64 x.f2], .int .i64 (x.f1 + d - z)]) (by simp [results, Try.results54, go_sem, Z_0, Z_1, Z_2, e9]) rfl (rpost (by rw [HV.out, HG.out, HZ.out] <;> rfl) Z.below)
theorem wash_spec (x : R) (v d : Int) (h : okT x = true) (h0 : 1 ≤ v) (h1 : v ≤ 100000000) (h2 : 0 ≤ d) (h3 : d ≤ v) (w : World) : Calls Try.prog 56 #[.agg #[.int .i64 x.f0, .int .i64 x.f1, .int .i64 x.f2], .int .i64 v, .int .i64 d] w (RPost (.tuple #[(wash x v d).val, .int .i64 (gone x v d)]) w) := by
  obtain ⟨a0, a1, a2, a3, a4, a5⟩ := okT_true h
  obtain ⟨p0, p1⟩ := prod_bd h h2 (by omega)
  obtain ⟨s0, s1, s2⟩ := stay_bd h h0 h2 h3
  have e1 : IntKind.i64.wrap ((x.f1 + d) * x.f2) = (x.f1 + d) * x.f2 := IntWalk.i64_in _ (by omega)
  have e2 : ((x.f1 + d) * x.f2 + x.f2 + v - 1).tdiv (x.f2 + v) = stay x v d := Int.tdiv_eq_ediv_of_nonneg (by omega)
  have e3 : (x.f2 + v == 0) = false := by rw [beq_eq_false_iff_ne]; omega
  have HV := Lib.hid (show wash x v d = ⟨x.f0, stay x v d, x.f2⟩ from rfl)
  have HG := Lib.hid (show gone x v d = x.f1 + d - stay x v d from rfl)
  clear h
  have e4 : IntKind.i64.wrap (stay x v d) = stay x v d := IntWalk.i64_in _ (by omega)
  go_enter Try.func56, Try.ntmps56
  go_wp2
  exact bodyPost_ret (v := .tuple #[.agg #[.int .i64 x.f0, .int .i64 (stay x v d), .int .i64 x.f2], .int .i64 (x.f1 + d - stay x v d)]) (by simp [results, Try.results56, go_sem]) rfl (rpost (by rw [HV.out, HG.out] <;> rfl) (al (al (Below.refl _ _))))
end Go.Proofs.Ytpokgnkcnibapaa.BatS
