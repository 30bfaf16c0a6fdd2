/- Dry spans: slices.Collect over the program's iterator; DrySpans. -/
import Derived.Test.YtpbmncecejchjaaDryI
namespace Go.Proofs.Ytpbmncecejchjaa.DryJ
open Go Go.RowKit Go.Proofs.Ytpbmncecejchjaa.Mem Go.Proofs.Ytpbmncecejchjaa.Base Go.Proofs.Ytpbmncecejchjaa.Boxes Go.Proofs.Ytpbmncecejchjaa.Keep Go.Proofs.Ytpbmncecejchjaa.Shw Go.Proofs.Ytpbmncecejchjaa.Dry Go.Proofs.Ytpbmncecejchjaa.DryS Go.Proofs.Ytpbmncecejchjaa.DryI Go.Proofs.Ytpbmncecejchjaa.SeqLaw2
open Go.Proofs.Ytpbmncecejchjaa.SShower (flat flat_n flat_0)
set_option linter.unusedVariables false
attribute [local go_sem] Oper.semAt_some
theorem vals_get {L : List Q} {k : Nat} {v : Value} (h : (vals L)[k]? = some v) : ∃ hk : k < L.length, v = .agg #[.int .i64 L[k].f0, .int .i64 L[k].f1] := by
  obtain ⟨h1, h2⟩ := List.getElem?_eq_some_iff.1 h
  have hk : k < L.length := by simpa [vals] using h1
  exact ⟨hk, by rw [← h2]; simp [vals, SPair.R.val]⟩
/-- between two rounds: k spans lie in a row of the call's own, of which the box at Bx tells. -/
def Row (n₀ Bx : Nat) (w : World) (L : List Q) (k : Nat) (W : World) : Prop :=
  ∃ v, Boxed W Bx 41 v ∧ W.ownsRow n₀ 48 2 v k (SPair.flat (L.take k)) ∧ Below n₀ w W
theorem row_ne {U : World} {base : Nat} {e : TypeId} {size n : Nat} {v : Value} {xs : List Value} {row : Option Nat} (h : U.ownsRow base e size v n xs) (hr : ∀ r, row = some r → ∃ o : Obj, U.heap[r]? = some o ∧ o.isCells = false) : v.ownBlock = none ∨ v.ownBlock ≠ row := by
  rcases h.2 with ⟨rfl, _⟩ | ⟨g, cap, cur, rfl, _, hh, _⟩
  · exact .inl rfl
  · refine .inr fun e => ?_
    obtain ⟨o, h1, h2⟩ := hr g e.symm
    rw [hh] at h1; cases h1; cases h2
theorem Row.kept {n₀ Bx : Nat} {w : World} {L : List Q} {k : Nat} {U V : World} {row : Option Nat} (h : Row n₀ Bx w L k U) (hn : n₀ ≤ w.heap.size) (hg : U.grownBy V row) (hr : ∀ r, row = some r → w.heap.size ≤ r ∧ ∃ o : Obj, U.heap[r]? = some o ∧ o.isCells = false) : Row n₀ Bx w L k V := by
  obtain ⟨v, hb, ho, hB⟩ := h
  refine ⟨v, hb.kept hg (fun e => ?_), ho.kept hg (row_ne ho (fun r e => (hr r e).2)), hB.grown hg (Nat.le_trans hn hB.size) (fun r e => Nat.le_trans hn (hr r e).1)⟩
  obtain ⟨_, o, h1, h2⟩ := hr _ e.symm
  rw [show U.heap[Bx]? = _ from hb] at h1; cases h1; cases h2
/-- an append and the store behind it leave showers and receivers alone. -/
theorem kp_app {B n₀ Bx k : Nat} {W w1 : World} {sv v' : Value} {xs : List Value} {tmp : Obj} (hbx : Boxed W Bx 41 sv) (ho : W.ownsRow n₀ 48 2 sv k xs) (hg : (W.alloc tmp).grownBy w1 sv.ownBlock) (hB : B ≤ n₀) (hn : n₀ ≤ W.heap.size) (hx : n₀ ≤ Bx) :
    KpB B W (w1.setCell ⟨Bx, 0, none⟩ v') := by
  have key : ∀ j o, W.heap[j]? = some o → j ≠ Bx → some j ≠ sv.ownBlock → (w1.setCell ⟨Bx, 0, none⟩ v').heap[j]? = some o := fun j o hj h1 h2 => by
    have hlt := (Array.getElem?_eq_some_iff.1 hj).1
    exact (Below.heap_setCell _ _ _ j (by simpa using h1)).trans ((hg.block j (by rw [World.size_alloc]; omega) h2).trans ((Below.heap_alloc W tmp j hlt).trans hj))
  have hsz : W.heap.size ≤ w1.heap.size := by have := hg.size; rw [World.size_alloc] at this; omega
  refine ⟨Nat.le_trans hsz (grownBy_setCell' _ _ _).size, fun j hj => ?_, fun j c T hc hT => key j _ hc ?_ ?_⟩
  · have hlt : j < W.heap.size := by omega
    rw [Array.getElem?_eq_getElem hlt]
    refine key j _ (Array.getElem?_eq_getElem hlt) (by omega) (fun e => ?_)
    have := own_ge ho j e.symm
    omega
  · rintro rfl
    rw [show W.heap[j]? = _ from hbx] at hc
    injection hc with hc; injection hc with _ h2 _
    rw [← h2] at hT
    rcases hT with h | h <;> exact absurd h (by decide)
  · intro e
    rcases ho.2 with ⟨rfl, _⟩ | ⟨g, cap, cur, rfl, _, hh, _⟩
    · simp [Value.ownBlock] at e
    · obtain rfl : j = g := by simpa [Value.ownBlock] using e
      rw [hh] at hc
      injection hc with hc; injection hc with _ h2 _
      rw [← h2] at hT
      rcases hT with h | h <;> exact absurd h (by decide)
/-- the loop's variable, boxed. -/
def Bxd (v : Value) (W : World) (p : Nat) : Prop := ∃ x y : Int, v = .agg #[.int .i64 x, .int .i64 y] ∧ W.heap[p]? = some (.cells #[.int .i64 x, .int .i64 y] 48 (0, 0))
theorem Bxd.put {v : Value} {U : World} {p l : Nat} {o o' : Obj} (h : Bxd v U p) (hl : U.heap[l]? = some o) (ho : o.isCells = false) : Bxd v (U.putObj l o') p := by
  obtain ⟨x, y, e, hp⟩ := h
  refine ⟨x, y, e, (World.putObj_heap_other ?_).trans hp⟩
  rintro rfl
  rw [hl] at hp; cases hp; cases ho
theorem take_snoc {L : List Q} {k : Nat} (h : k < L.length) : SPair.flat (L.take (k + 1)) = SPair.flat (L.take k) ++ [.int .i64 L[k].f0, .int .i64 L[k].f1] := by
  rw [List.take_succ_eq_append_getElem h, flat_snoc]
set_option maxRecDepth 100000 in
set_option maxHeartbeats 2000000 in
theorem append_any (P : Option Addr) (cap : Nat) (l : List R) (f t : Int) (hf0 : 0 ≤ f) (hf1 : f ≤ 4000) (ht1 : t ≤ 4000) (hs : Sane l) (w : World) (hr : Rd w w.heap.size P (flat l)) :
    Calls Try.prog 138 #[.slice none 0 0, .func (.func 100) #[recv P l.length cap f t] #[]] w (LPost (spans l f t) w) := by
  obtain ⟨i0, hi, hz0, hz1, hz2⟩ := info_parts SPair.info_T
  have HI := Lib.hid hz2; clear hz2
  have HI1 := Lib.hid hz1; clear hz1
  have hlen : (spans l f t).length ≤ 21 := by have := spans_len l f t; have := hs.1; omega
  have HLN := Lib.hid hlen; clear hlen
  refine (callsIn_wide (n := 9)).1 ?_
  refine callsIn_of_wp_marks Try.func138 rfl trivial ?_ rfl
  simp only [Try.ntmps138, List.size_toArray, List.length_cons, List.length_nil, Nat.reduceAdd, Nat.reduceSub, Array.replicate_succ, Array.replicate_zero, List.push_toArray, List.append_toArray, List.nil_append, List.cons_append]
  have HH := Lib.hid (hands (9 - 1) (by omega) P cap l f t hf0 hf1 ht1 hs w.heap.size (w.alloc (.cells #[.slice none 0 0] 41)) (hr.below ((Below.refl _ w).alloc (Nat.le_refl _) _) (Nat.le_refl _)) (by rw [World.size_alloc]; omega))
  have HI0 := Lib.hid (show Row w.heap.size w.heap.size w (spans l f t) 0 (w.alloc (.cells #[.slice none 0 0] 41)) from ⟨_, Boxed.new w _ _, World.ownsRow_nil _ _ _ _, (Below.refl _ w).alloc (Nat.le_refl _) _⟩)
  have hsz := World.size_alloc (w := w) (o := .cells #[.slice none 0 0] 41)
  clear hr
  gi_wp2
  generalize w.alloc (.cells #[.slice none 0 0] 41) = W0 at *
  refine range_hands (P := Try.prog) rfl (by omega) (gf := 100) rfl trivial (enters_of Try.func100 (by kernel_rfl) rfl) HH.out
    (fun U => KpB.refl _ U) (fun h1 h2 => h1.trans h2) (fun U o hU => KpB.alloc _ U o (by omega)) (fun U l o o' hl ho hc => KpB.put _ U l o o' (by omega) ho hc) rfl
    (fun k W => Row w.heap.size w.heap.size w (spans l f t) k W ∧ w.heap.size < W.heap.size) ?keep ⟨HI0.out, by omega⟩
    (fun v b W => ∃ p, Bxd v W p ∧ b = { tmps := #[.slice none 0 0, .func (.func 100) #[recv P l.length cap f t] #[], .pointer (some ⟨w.heap.size, 0, none⟩), undef, .slice none 0 0, .pointer (some ⟨p, 0, none⟩), .func (.func 100) #[recv P l.length cap f t] #[], v, undef, undef, undef, undef, undef], defers := [] }) ?hax ?assign ?body ?done
  case keep =>
    rintro k U V row ⟨hR, hs⟩ hg hr
    exact ⟨hR.kept (Nat.le_refl _) hg (fun r e => ⟨by have := (hr r e).1; omega, (hr r e).2⟩), Nat.lt_of_lt_of_le hs hg.size⟩
  case hax =>
    rintro v b U l' o o' ⟨p, hb, rfl⟩ _ hl ho
    exact ⟨p, hb.put hl ho, rfl⟩
  case assign =>
    rintro l' k v W K hv ⟨hR, hs⟩ hK
    obtain ⟨hk, rfl⟩ := vals_get hv
    gi_wp2
    exact hK _ _ ⟨W.heap.size, ⟨_, _, rfl, World.alloc_heap_new _ _⟩, rfl⟩ (KeepsOthers.alloc _ _) (KpB.alloc _ _ _ (by omega)) ⟨hR.kept (Nat.le_refl _) (World.grownBy_alloc _ _ none) (fun r e => by cases e), by rw [World.size_alloc]; omega⟩
  case body =>
    rintro l' k v b W hv ⟨⟨sv, hbx, ho, hB⟩, hs⟩ ⟨p, hp, rfl⟩
    obtain ⟨hk, rfl⟩ := vals_get hv
    have HT := Lib.hid (take_snoc hk)
    obtain ⟨x, y, e2, hbp⟩ := hp
    have e3 : (spans l f t)[k].f0 = x ∧ (spans l f t)[k].f1 = y := by simpa using e2
    rw [e3.1, e3.2] at HT ⊢
    clear e2 e3 hv
    have b0 := box_cell hbp 0 _ rfl
    have b1 := box_cell hbp 1 _ rfl
    have hbc := hbx.cell
    have hm1 : k + 1 ≤ maxLen := by have := HLN.out; unfold maxLen; omega
    have hm2 : (k + 1) * 16 ≤ 140737488355328 := by have := HLN.out; omega
    have HO := Lib.hid ho
    have HBX := Lib.hid hbx
    have hbs := hB.size
    gi_wp2_with (gi_at_builtin; refine wpListIn_append_own _ rfl _ _ 41 rfl w.heap.size 48 i0 _ 2 16 Try.underlying41 hi hz0 HI1.out HI.out rfl (by decide) _ k _ rfl (ho.alloc _) ⟨W.heap.size, 0, none⟩ 1 1 [.int .i64 x, .int .i64 y] rfl rfl (two_new _ _ _ _) two_cells hm1 hm2 (by rw [World.size_alloc]; omega) ?_; intro v' w1 hown' hgrow _; obtain ⟨g', cap', rfl⟩ := ownsRow_succ hown'; obtain ⟨hv1, hv2, hr2, hk2, hb2⟩ := HBX.out.appended (by decide) HO.out hbs (Nat.le_refl _) hown' hgrow; have hc1 := hv1.cell; have hf1 := hv1.frozen)
    exact ⟨kp_app HBX.out HO.out hgrow (Nat.le_refl _) hbs (Nat.le_refl _), ⟨_, hv2, by rw [HT.out]; exact hr2, hB.trans hb2⟩, by have := hk2.size; simp at this; omega⟩
  case done =>
    rintro D W hD ⟨⟨sv, hbx, ho, hB⟩, hs⟩ hK
    have hc := hbx.cell
    obtain ⟨Ar, cr, rfl⟩ := own_form ho
    gi_wp2
    refine ⟨by simp, .inl ⟨_, _, rfl, run_takeDeferred hK, ?_⟩⟩
    have hg := grownBy_putObj' W D (.deferred none)
    have ho2 := ho.kept hg (row_ne ho (fun r e => by cases e; exact ⟨_, hK, rfl⟩))
    have hB2 := hB.grown hg hB.size (fun r e => by cases e; omega)
    have hvl : (vals (spans l f t)).length = (spans l f t).length := by simp [vals]
    rw [hvl, List.take_length] at ho2
    exact ⟨.slice Ar (spans l f t).length cr, by simp [results, Try.results138, go_sem, hvl], Ar, cr, rfl, ho2, hB2⟩
theorem collect_any (P : Option Addr) (cap : Nat) (l : List R) (f t : Int) (hf0 : 0 ≤ f) (hf1 : f ≤ 4000) (ht1 : t ≤ 4000) (hs : Sane l) (w : World) (hr : Rd w w.heap.size P (flat l)) :
    Calls Try.prog 99 #[.func (.func 100) #[recv P l.length cap f t] #[]] w (LPost (spans l f t) w) := by
  have HA := Lib.hid (append_any P cap l f t hf0 hf1 ht1 hs w hr); clear hr hs
  go_enter Try.func99, Try.ntmps99
  go_wp2_with fail
  refine HA.out.mono ?_
  rintro e w1 ⟨A, c, rfl, O, HB⟩
  go_wp2
  go_ret
  exact ⟨A, c, rfl, O, HB⟩
theorem dry_impl (P : Option Addr) (cap : Nat) (l : List R) (f t : Int) (w : World) (hr : Rd w w.heap.size P (flat l)) (hc : l.length ≤ cap) (hn : l.length ≤ 1048576) :
    Calls Try.prog 31 #[.slice P l.length cap, .int .i64 f, .int .i64 t] w (DPost (dryL l f t) (dryOk l f t) w) := by
  have HR := Lib.hid hr; clear hr
  go_enter Try.func31, Try.ntmps31
  go_wp2_with fail
  refine (ShwG.are_impl P cap l w HR.out hn).mono ?_
  rintro e w1 ⟨rfl, HB⟩
  cases hg : good l
  · have HV := Lib.hid (dry1 (f := f) (t := t) hg)
    have HV2 := Lib.hid (dryL_no HV.out)
    go_wp2
    go_ret2
    exact ⟨_, _, by rw [HV.out, HV2.out] <;> rfl, by rw [HV2.out]; exact empty_own HB, empty_b HB⟩
  cases h1 : SunA.spanOk f t
  · have HV := Lib.hid (dry2 (l := l) h1)
    have HV2 := Lib.hid (dryL_no HV.out)
    go_wp2_with (go_at_call 98; (with_reducible refine (SunF.span_impl _ _ _).mono ?_); rintro e' w' ⟨rfl, rfl⟩)
    go_ret2
    exact ⟨_, _, by rw [HV.out, HV2.out] <;> rfl, by rw [HV2.out]; exact empty_own HB, empty_b HB⟩
  have HV := Lib.hid (dry3 hg h1)
  have HV2 := Lib.hid (dryL_yes HV.out)
  obtain ⟨f0, f1, f2⟩ := span_true h1
  have HSN := Lib.hid (good_sane hg); clear hg
  have HRW := Lib.hid ((HR.out.below HB (Nat.le_refl _)).mono HB.size)
  have HC := Lib.hid (collect_any P cap l f t f0 (by omega) f2 HSN.out w1 HRW.out)
  unfold recv at HC
  go_wp2_with first | (go_at_call 98; (with_reducible refine (SunF.span_impl _ _ _).mono ?_); rintro e' w' ⟨rfl, rfl⟩)
  refine HC.out.mono ?_
  rintro e w2 ⟨A, c, rfl, O, hv⟩
  have HO := Lib.hid (own_base O HB.size); clear O
  go_wp2
  go_ret2
  exact ⟨A, c, by rw [HV.out, HV2.out] <;> rfl, by rw [HV2.out]; exact HO.out, be HB hv⟩
end Go.Proofs.Ytpbmncecejchjaa.DryJ
