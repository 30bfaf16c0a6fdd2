/- Dry spans: the model's l9Spans, DrySpans, LongestDry. -/
import Derived.Test.YtpbmncecejchjaaDry
import Derived.Test.YtpbmncecejchjaaShwG
import Derived.Test.YtpbmncecejchjaaSunF
namespace Go.Proofs.Ytpbmncecejchjaa.DryS
open Go.RowKit Go.Proofs.Ytpbmncecejchjaa.Mem Go.Proofs.Ytpbmncecejchjaa.Base Go.Proofs.Ytpbmncecejchjaa.Regn Go.Proofs.Ytpbmncecejchjaa.Boxes Go.Proofs.Ytpbmncecejchjaa.Keep Go.Proofs.Ytpbmncecejchjaa.Shw Go.Proofs.Ytpbmncecejchjaa.ShwS Go.Proofs.Ytpbmncecejchjaa.ShwG Go.Proofs.Ytpbmncecejchjaa.Dry
open Go.Proofs.Ytpbmncecejchjaa.SShower (RPost rpost flat flat_n)
set_option linter.unusedVariables false
set_option maxRecDepth 100000
theorem two_cells {x y : Int} : ∀ u ∈ [Value.int .i64 x, Value.int .i64 y], u.oneCell' = true := by
  intro u hu; simp at hu; rcases hu with rfl | rfl <;> rfl
theorem two_new (w : World) (x y : Value) (T : TypeId) : ∀ (j : Nat) (u : Value), [x, y][j]? = some u → (w.alloc (.cells #[x, y] T)).cell? (Addr.add ⟨w.heap.size, 0, none⟩ j) = some u := by
  intro j u hu
  match j, hu with
  | 0, hu => simp at hu; subst hu; simp [Addr.add]
  | 1, hu => simp at hu; subst hu; simp [Addr.add]
theorem empty_own {w u : World} (hb : Below w.heap.size w u) : (u.alloc (.cells #[] 48)).ownsRow w.heap.size 48 2 (.slice (some ⟨u.heap.size, 0, none⟩) 0 0) 0 (SPair.flat []) := by
  have := World.ownsRow_lit u #[] 0 (e := 48) (size := 2) (base := w.heap.size) hb.size (by unfold maxLen; omega) rfl
  simpa [SPair.flat] using this
theorem flat_snoc (L : List Q) (q : Q) : SPair.flat (L ++ [q]) = SPair.flat L ++ [.int .i64 q.f0, .int .i64 q.f1] := by simp [SPair.flat, SPair.R.cells]
def LPost (M : List Q) (w : World) (e : Ending) (w' : World) : Prop :=
  ∃ A c, e = .returned (.slice A M.length c) ∧ w'.ownsRow w.heap.size 48 2 (.slice A M.length c) M.length (SPair.flat M) ∧ Below w.heap.size w w'
/-- between two showers. -/
structure Inv (l : List R) (f t : Int) (k : Nat) (g : Int) (L : List Q) : Prop where
  all : L ++ spans (l.drop k) g t = spans l f t
  g0 : 0 ≤ g
  g1 : g ≤ 4001
  len : L.length ≤ k
theorem Inv.start (l : List R) {f t : Int} (h0 : 0 ≤ f) (h1 : f ≤ 4001) : Inv l f t 0 f [] := ⟨by simp, h0, h1, Nat.le_refl _⟩
theorem Inv.skip {l : List R} {f t g : Int} {k : Nat} {L : List Q} {x : R} (h : Inv l f t k g L) (hk : k < l.length) (hx : l[k] = x) (hi : inB x.f0 g t = false) : Inv l f t (k + 1) g L :=
  ⟨by rw [spans_skip hk hx hi]; exact h.all, h.g0, h.g1, by have := h.len; omega⟩
theorem Inv.no {l : List R} {f t g : Int} {k : Nat} {L : List Q} {x : R} (h : Inv l f t k g L) (hk : k < l.length) (hx : l[k] = x) (hi : inB x.f0 g t = true) (hg : ¬ g < x.f0) (h0 : 0 ≤ x.f0) (h1 : x.f0 ≤ 4000) : Inv l f t (k + 1) (x.f0 + 1) L :=
  ⟨by rw [← spans_no hk hx hi hg]; exact h.all, by omega, by omega, by have := h.len; omega⟩
theorem Inv.gap {l : List R} {f t g : Int} {k : Nat} {L : List Q} {x : R} (h : Inv l f t k g L) (hk : k < l.length) (hx : l[k] = x) (hi : inB x.f0 g t = true) (hg : g < x.f0) (h0 : 0 ≤ x.f0) (h1 : x.f0 ≤ 4000) : Inv l f t (k + 1) (x.f0 + 1) (L ++ [⟨g, x.f0 - 1⟩]) :=
  ⟨by have := h.all; rw [spans_gap hk hx hi hg] at this; rw [← this]; simp, by omega, by omega, by have := h.len; simp; omega⟩
theorem Inv.done {l : List R} {f t g : Int} {k : Nat} {L : List Q} (h : Inv l f t k g L) (hk : l.length ≤ k) (hg : ¬ g ≤ t) : L = spans l f t := by
  have := h.all; rw [spans_end hk, if_neg hg] at this; simpa using this
theorem Inv.last {l : List R} {f t g : Int} {k : Nat} {L : List Q} (h : Inv l f t k g L) (hk : l.length ≤ k) (hg : g ≤ t) : L ++ [⟨g, t⟩] = spans l f t := by
  have := h.all; rw [spans_end hk, if_pos hg] at this; exact this
set_option maxHeartbeats 1600000 in
theorem spans_spec (P : Option Addr) (cap : Nat) (l : List R) (f t : Int) (hf0 : 0 ≤ f) (hf1 : f ≤ 4000) (ht1 : t ≤ 4000) (w : World) (hr : Rd w w.heap.size P (flat l)) (hs : Sane l) :
    Calls Try.prog 102 #[.slice P l.length cap, .int .i64 f, .int .i64 t] w (LPost (spans l f t) w) := by
  obtain ⟨i0, hi, hz0, hz1, hz2⟩ := info_parts SPair.info_T
  have HI := Lib.hid hz2; clear hz2
  have HI1 := Lib.hid hz1; clear hz1
  have HR := Lib.hid hr; clear hr
  have HS := Lib.hid hs
  have hn := hs.1; clear hs
  go_enter Try.func102, Try.ntmps102
  go_wp2
  go_loopw [1, 7, 8] (fun fv o i wr => ∃ (k : Nat) (g : Int) (L : List Q) (A : Option Addr) (a : Nat), k ≤ l.length ∧ i = .int .i64 k ∧ fv = .int .i64 g ∧ o = .slice A L.length a ∧ Hid (Inv l f t k g L) ∧ wr.ownsRow w.heap.size 48 2 (.slice A L.length a) L.length (SPair.flat L) ∧ Below w.heap.size w wr) (fun _ _ i _ => l.length - (intOf i).toNat)
  case atStart => exact ⟨0, f, [], _, _, Nat.zero_le _, rfl, rfl, rfl, Lib.hid (Inv.start l hf0 (by omega)), empty_own (Below.refl _ _), al (Below.refl _ _)⟩
  case round =>
    obtain ⟨k, g, L, A, a, hk, rfl, rfl, rfl, HV, O, HB⟩ := hrel
    have hg0 := HV.out.g0
    have hg1 := HV.out.g1
    have hlen := HV.out.len
    by_cases hlt : k < l.length
    · obtain ⟨b', o, rfl, hb, hc⟩ := HR.out.at (k := k * 2) (by rw [flat_n]; omega)
      obtain ⟨x, hx⟩ : ∃ x, l[k] = x := ⟨_, rfl⟩
      obtain ⟨h0, h1⟩ := cells2 HB hb hc hlt hx
      have HL := Lib.hid hlt
      obtain ⟨x0, x1, _, _⟩ := HS.out.get hlt hx
      have HW0 := Lib.hid (show w.cell? ⟨b', o + k * 2, none⟩ = some (.int .i64 x.f0) by rw [← hx]; exact hc _ _ (SShower.flat_0 l k hlt))
      have HX := Lib.hid hx; clear hx hc h1
      cases he : inB x.f0 g t
      · have HN := Lib.hid (HV.out.skip HL.out HX.out he)
        go_wp2_with (go_at_call 82; (with_reducible refine (in_any _ _ _ _).mono ?_); rintro e' w' ⟨rfl, rfl⟩)
        go_roundw
        case rel => exact ⟨k + 1, g, L, A, a, HL.out, by go_num, rfl, rfl, HN, O, HB⟩
        case measure => have := HL.out; simp [intOf]; omega
      · have y1 : IntKind.i64.wrap (x.f0 + 1) = x.f0 + 1 := IntWalk.i64_in _ (by omega)
        by_cases hgap : g < x.f0
        · have HN := Lib.hid (HV.out.gap HL.out HX.out he hgap x0 x1)
          have y2 : IntKind.i64.wrap (x.f0 - 1) = x.f0 - 1 := IntWalk.i64_in _ (by omega)
          have y3 : decide (g < x.f0) = true := decide_eq_true hgap
          have hm1 : L.length + 1 ≤ maxLen := by unfold maxLen; omega
          have hm2 : (L.length + 1) * 16 ≤ 140737488355328 := by omega
          have HO := Lib.hid O
          have hbs := HB.size
          clear hlen hgap hg0 hg1
          go_wp2_with first | (go_at_call 82; (with_reducible refine (in_any _ _ _ _).mono ?_); rintro e' w' ⟨rfl, rfl⟩) | (at_builtin; go_must (refine wpList_append_own _ rfl _ _ 41 rfl w.heap.size 48 i0 _ 2 16 Try.underlying41 hi hz0 HI1.out HI.out rfl (by decide) _ L.length _ rfl (O.alloc _) ⟨wr.heap.size, 0, none⟩ 1 1 [.int .i64 g, .int .i64 (x.f0 - 1)] rfl rfl (two_new _ _ _ _) two_cells hm1 hm2 (by rw [size_alloc']; omega) ?_; intro v' w9 hown1 hgrow _; have HB1 := below_append HB HO.out hgrow; have hx9 := ((bcell HB1).1 _ _ hb).trans HW0.out; obtain ⟨A1, c1, rfl⟩ := own_form hown1))
          go_roundw
          case rel => exact ⟨k + 1, x.f0 + 1, _, A1, c1, HL.out, by go_num, rfl, by rw [List.length_append] <;> rfl, HN, by rw [List.length_append, flat_snoc]; exact hown1, HB1⟩
          case measure => have := HL.out; simp [intOf]; omega
        · have HN := Lib.hid (HV.out.no HL.out HX.out he hgap x0 x1)
          have y3 : decide (g < x.f0) = false := decide_eq_false hgap
          clear hgap
          go_wp2_with (go_at_call 82; (with_reducible refine (in_any _ _ _ _).mono ?_); rintro e' w' ⟨rfl, rfl⟩)
          go_roundw
          case rel => exact ⟨k + 1, x.f0 + 1, L, A, a, HL.out, by go_num, rfl, rfl, HN, O, HB⟩
          case measure => have := HL.out; simp [intOf]; omega
    · by_cases hgt : g ≤ t
      · have HN := Lib.hid (HV.out.last (by omega) hgt)
        have hm1 : L.length + 1 ≤ maxLen := by unfold maxLen; omega
        have hm2 : (L.length + 1) * 16 ≤ 140737488355328 := by omega
        have hbs := HB.size
        have HO := Lib.hid O
        go_wp2_with (at_builtin; go_must (refine wpList_append_own _ rfl _ _ 41 rfl w.heap.size 48 i0 _ 2 16 Try.underlying41 hi hz0 HI1.out HI.out rfl (by decide) _ L.length _ rfl (O.alloc _) ⟨wr.heap.size, 0, none⟩ 1 1 [.int .i64 g, .int .i64 t] rfl rfl (two_new _ _ _ _) two_cells hm1 hm2 (by rw [size_alloc']; omega) ?_; intro v' w9 hown1 hgrow _))
        have HB1 := below_append HB HO.out hgrow
        obtain ⟨A1, c1, rfl⟩ := own_form hown1
        go_wp2
        go_ret
        exact ⟨A1, c1, by rw [← HN.out]; simp, by rw [← HN.out, flat_snoc]; simpa using hown1, HB1⟩
      · have HN := Lib.hid (HV.out.done (by omega) hgt)
        go_wp2
        go_ret
        exact ⟨A, a, by rw [← HN.out] <;> rfl, by rw [← HN.out]; exact O, HB⟩
def DPost (M : List Q) (q : Bool) (w : World) (e : Ending) (w' : World) : Prop :=
  ∃ A c, e = .returned (.tuple #[.slice A M.length c, .bool q]) ∧ w'.ownsRow w.heap.size 48 2 (.slice A M.length c) M.length (SPair.flat M) ∧ Below w.heap.size w w'
theorem empty_b {w u : World} (hb : Below w.heap.size w u) : Below w.heap.size w (u.alloc (.cells #[] 48)) := al hb
theorem dry_spec (P : Option Addr) (cap : Nat) (l : List R) (f t : Int) (w : World) (hr : Rd w w.heap.size P (flat l)) (hn : l.length ≤ 1048576) :
    Calls Try.prog 32 #[.slice P l.length cap, .int .i64 f, .int .i64 t] w (DPost (dryL l f t) (dryOk l f t) w) := by
  have HR := Lib.hid hr; clear hr
  go_enter Try.func32, Try.ntmps32
  go_wp2_with fail
  refine (good_spec P cap l w HR.out hn).mono ?_
  rintro e w1 ⟨rfl, HB⟩
  cases hg : good l
  · have HV := Lib.hid (dry1 (f := f) (t := t) hg)
    have HV2 := Lib.hid (dryL_no HV.out)
    go_wp2
    go_ret2
    exact ⟨_, _, by rw [HV.out, HV2.out] <;> rfl, by rw [HV2.out]; exact empty_own HB, empty_b HB⟩
  cases h1 : SunA.spanOk f t
  · have HV := Lib.hid (dry2 (l := l) h1)
    have HV2 := Lib.hid (dryL_no HV.out)
    go_wp2_with (go_at_call 101; (with_reducible refine (SunF.span_spec _ _ _).mono ?_); rintro e' w' ⟨rfl, rfl⟩)
    go_ret2
    exact ⟨_, _, by rw [HV.out, HV2.out] <;> rfl, by rw [HV2.out]; exact empty_own HB, empty_b HB⟩
  have HV := Lib.hid (dry3 hg h1)
  have HV2 := Lib.hid (dryL_yes HV.out)
  obtain ⟨f0, f1, f2⟩ := span_true h1
  have HSN := Lib.hid (good_sane hg); clear hg
  have HRW := Lib.hid ((HR.out.below HB (Nat.le_refl _)).mono HB.size)
  go_wp2_with first | (go_at_call 101; (with_reducible refine (SunF.span_spec _ _ _).mono ?_); rintro e' w' ⟨rfl, rfl⟩)
  refine (spans_spec P cap l f t f0 (by omega) f2 w1 HRW.out HSN.out).mono ?_
  rintro e w2 ⟨A, c, rfl, O, hv⟩
  have HO := Lib.hid (own_base O HB.size); clear O
  go_wp2
  go_ret2
  exact ⟨A, c, by rw [HV.out, HV2.out] <;> rfl, by rw [HV2.out]; exact HO.out, be HB hv⟩
theorem cells2q {w : World} {base g n c : Nat} {l : List Q} (O : w.ownsRow base 48 2 (.slice (some ⟨g, 0, none⟩) n c) n (SPair.flat l)) (k : Nat) (hk : k < l.length) {x : Q} (hx : l[k] = x) :
    w.cell? ⟨g, k * 2, none⟩ = some (.int .i64 x.f0) ∧ w.cell? ⟨g, k * 2 + 1, none⟩ = some (.int .i64 x.f1) := by
  subst hx
  have e : n * 2 = l.length * 2 := by have := O.1; rw [SPair.flat_n] at this; omega
  refine ⟨?_, ?_⟩
  · rw [O.cellAt _ (by omega)]; exact SPair.flat_0 l k hk
  · rw [O.cellAt _ (by omega)]; exact SPair.flat_1 l k hk
set_option maxHeartbeats 1600000 in
theorem lon_spec (P : Option Addr) (cap : Nat) (l : List R) (f t : Int) (w : World) (hr : Rd w w.heap.size P (flat l)) (hn : l.length ≤ 1048576) :
    Calls Try.prog 35 #[.slice P l.length cap, .int .i64 f, .int .i64 t] w (RPost (lonV (dryL l f t)) w) := by
  have HR := Lib.hid hr; clear hr
  go_enter Try.func35, Try.ntmps35
  go_wp2_with fail
  refine (good_spec P cap l w HR.out hn).mono ?_
  rintro e w1 ⟨rfl, HB⟩
  cases hg : good l
  · have HV := Lib.hid (dryL_no (dry1 (f := f) (t := t) hg))
    go_wp2
    go_ret3
    exact rpost (by rw [HV.out] <;> rfl) HB
  cases h1 : SunA.spanOk f t
  · have HV := Lib.hid (dryL_no (dry2 (l := l) h1))
    go_wp2_with (go_at_call 101; (with_reducible refine (SunF.span_spec _ _ _).mono ?_); rintro e' w' ⟨rfl, rfl⟩)
    go_ret3
    exact rpost (by rw [HV.out] <;> rfl) HB
  have HV2 := Lib.hid (dryL_yes (dry3 hg h1))
  obtain ⟨f0, f1, f2⟩ := span_true h1
  have HSN := Lib.hid (good_sane hg); clear hg
  have HRW := Lib.hid ((HR.out.below HB (Nat.le_refl _)).mono HB.size)
  go_wp2_with first | (go_at_call 101; (with_reducible refine (SunF.span_spec _ _ _).mono ?_); rintro e' w' ⟨rfl, rfl⟩)
  refine (spans_spec P cap l f t f0 (by omega) f2 w1 HRW.out HSN.out).mono ?_
  rintro e w2 ⟨A, c, rfl, O, hv⟩
  have HB2 := be HB hv; clear hv HB
  have hbd := spans_bd l f t
  have hlen := spans_len l f t
  have hsn := HSN.out.1
  obtain ⟨M, hM⟩ : ∃ M, spans l f t = M := ⟨_, rfl⟩
  rw [hM] at O hbd hlen ⊢
  have HM := Lib.hid (HV2.out.trans hM); clear hM HV2
  have HBD := Lib.hid (show ∀ k (h : k < M.length), 0 ≤ M[k].f0 ∧ M[k].f0 ≤ 4000 ∧ 0 ≤ M[k].f1 ∧ M[k].f1 ≤ 4000 from fun k h => by have := hbd _ (List.getElem_mem h); omega); clear hbd
  by_cases h0 : M.length = 0
  · have hz : ((M.length : Int) == 0) = true := by rw [beq_iff_eq]; omega
    have HV := Lib.hid (show M = [] from List.eq_nil_of_length_eq_zero h0)
    clear h0
    go_wp2
    go_ret3
    exact rpost (by rw [HM.out, HV.out] <;> rfl) HB2
  have hz : ((M.length : Int) == 0) = false := by rw [beq_eq_false_iff_ne]; omega
  have hpos : 0 < M.length := by omega
  obtain ⟨g, c', hA⟩ := own_some O (by omega)
  obtain ⟨rfl, rfl⟩ := hA
  obtain ⟨z, hzz⟩ : ∃ z, M[0] = z := ⟨_, rfl⟩
  have HP := Lib.hid hpos
  have HZ := Lib.hid (top_at hpos hzz)
  have HZ0 := Lib.hid (show ∃ h : 0 < M.length, M[0] = z from ⟨hpos, hzz⟩)
  clear h0 hzz
  go_wp2
  go_loopw [10, 11] (fun s i wr => ∃ (k j : Nat) (y : Q), k ≤ M.length ∧ j < k ∧ i = .int .i64 k ∧ s = .int .i64 j ∧ Hid (∃ h : j < M.length, M[j] = y) ∧ Hid (lng (M.drop k) y = top M) ∧ wr.ownsRow w1.heap.size 48 2 (.slice (some ⟨g, 0, none⟩) M.length c) M.length (SPair.flat M) ∧ Below w.heap.size w wr) (fun _ i _ => M.length - (intOf i).toNat)
  case atStart => exact ⟨1, 0, z, hpos, by omega, rfl, rfl, HZ0, HZ, O, HB2⟩
  case round =>
    clear HB2 HZ HZ0 O
    obtain ⟨k, j, y, hk, hjk, rfl, rfl, HY, HW, O, HB⟩ := hrel
    obtain ⟨hj, hy⟩ := HY.out
    obtain ⟨e0, e1⟩ := cells2q O j hj hy
    have by' := HBD.out j hj
    rw [hy] at by'
    obtain ⟨b0, b1, b2, b3⟩ := by'
    by_cases hlt : k < M.length
    · obtain ⟨x, hx⟩ : ∃ x, M[k] = x := ⟨_, rfl⟩
      obtain ⟨d0, d1⟩ := cells2q O k hlt hx
      have bx := HBD.out k hlt
      rw [hx] at bx
      obtain ⟨c0, c1, c2, c3⟩ := bx
      have HX := Lib.hid hx
      have HL := Lib.hid hlt
      have HJ := Lib.hid hjk
      have p1 : IntKind.i64.wrap (x.f1 - x.f0) = x.f1 - x.f0 := IntWalk.i64_in _ (by omega)
      have p2 : IntKind.i64.wrap (y.f1 - y.f0) = y.f1 - y.f0 := IntWalk.i64_in _ (by omega)
      clear hx hy b0 b1 b2 b3 c0 c1 c2 c3
      have HO := Lib.hid O; clear O
      by_cases hm : y.f1 - y.f0 < x.f1 - x.f0
      · have hm' : decide (y.f1 - y.f0 < x.f1 - x.f0) = true := decide_eq_true hm
        have HN := Lib.hid ((lng_new HL.out HX.out hm).trans HW.out)
        have HK := Lib.hid (show ∃ h : k < M.length, M[k] = x from ⟨HL.out, HX.out⟩)
        clear hm
        go_wp2
        go_quiet (fail)
        go_wp2
        go_roundw
        case rel => exact ⟨k + 1, k, x, HL.out, by omega, by go_num, rfl, HK, HN, own_keep HO.out ((Drawn.n _ _).below _), be HB ((Drawn.n _ _).below _)⟩
        case measure => have := HL.out; simp [intOf]; omega
      · have hm' : decide (y.f1 - y.f0 < x.f1 - x.f0) = false := decide_eq_false hm
        have HN := Lib.hid ((lng_old HL.out HX.out hm).trans HW.out)
        clear hm
        go_wp2
        go_quiet (fail)
        go_wp2
        go_roundw
        case rel => exact ⟨k + 1, j, y, HL.out, by have := HJ.out; omega, by go_num, rfl, HY, HN, own_keep HO.out ((Drawn.n _ _).below _), be HB ((Drawn.n _ _).below _)⟩
        case measure => have := HL.out; simp [intOf]; omega
    · have HV := Lib.hid (lonV_yes HP.out (HW.out.symm.trans (lng_end (by omega))))
      clear hy b0 b1 b2 b3
      go_wp2
      go_quiet (fail)
      go_wp2
      go_ret3
      exact rpost (by rw [HM.out, HV.out] <;> rfl) (be HB ((Drawn.n _ _).below _))
end Go.Proofs.Ytpbmncecejchjaa.DryS
