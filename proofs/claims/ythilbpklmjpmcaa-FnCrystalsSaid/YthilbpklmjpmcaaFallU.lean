/- The model's FallOut and AfterDrying. -/
import Derived.Test.YthilbpklmjpmcaaFallT
namespace Go.Proofs.Ythilbpklmjpmcaa.FallU
open Go.RowKit Go.Proofs.Ythilbpklmjpmcaa.Mem Go.Proofs.Ythilbpklmjpmcaa.Base Go.Proofs.Ythilbpklmjpmcaa.SInt Go.Proofs.Ythilbpklmjpmcaa.Regn Go.Proofs.Ythilbpklmjpmcaa.Boxes Go.Proofs.Ythilbpklmjpmcaa.Keep Go.Proofs.Ythilbpklmjpmcaa.Within Go.Proofs.Ythilbpklmjpmcaa.Nest Go.Proofs.Ythilbpklmjpmcaa.SKind Go.Proofs.Ythilbpklmjpmcaa.KindP Go.Proofs.Ythilbpklmjpmcaa.KindG Go.Proofs.Ythilbpklmjpmcaa.LiqP Go.Proofs.Ythilbpklmjpmcaa.LiqG Go.Proofs.Ythilbpklmjpmcaa.FallP Go.Proofs.Ythilbpklmjpmcaa.FallS Go.Proofs.Ythilbpklmjpmcaa.FallT
set_option linter.unusedVariables false
set_option linter.unusedSimpArgs false
set_option maxRecDepth 100000
/-- a liquor, a list and a word. -/
def APost (wv : Int) (L1 L2 : List Int) (q : Bool) (w : World) (e : Ending) (w' : World) : Prop :=
  ∃ A1 q1 A2 q2, e = .returned (.tuple #[.agg #[.int .i64 wv, .slice A1 L1.length q1], .slice A2 L2.length q2, .bool q]) ∧ Two w' w.heap.size [] ⟨A1, q1, L1⟩ ⟨A2, q2, L2⟩ ∧ Below w.heap.size w w'
theorem two_add {w : World} {lo : Nat} {gs : List Nat} {r1 r2 : Row} (h : Two w lo gs r1 r2) {g : Nat} (hg : g < lo) : Two w lo (g :: gs) r1 r2 :=
  ⟨h.a, h.b, h.ne, fun k hk hm => by
    rcases List.mem_cons.1 hm with e | hm
    · have := (h.a.lt k hk).1; omega
    · exact h.fa k hk hm, fun k hk hm => by
    rcases List.mem_cons.1 hm with e | hm
    · have := (h.b.lt k hk).1; omega
    · exact h.fb k hk hm⟩
theorem two_none (W : World) : Two (W.alloc (.cells #[] 3)) W.heap.size [] ⟨none, 0, []⟩ ⟨some ⟨W.heap.size, 0, none⟩, 0, []⟩ :=
  ⟨RowOwn.nil _ _, row_new W (Nat.le_refl _), fun k hk => by simp [Row.blk, Row.val, Value.ownBlock] at hk, fun k hk hm => by simp at hm, fun k hk hm => by simp at hm⟩
/-- a box filled, something new behind it. -/
def fill (W : World) (g : Nat) (a b : Value) (o : Obj) : World := ((W.setCell ⟨g, 0, none⟩ a).setCell ⟨g, 1, none⟩ b).alloc o
theorem fill_box {w W : World} {g : Nat} {x y : Value} (h : Box g [x, y] w W) (a b : Value) (o : Obj) : Box g [a, b] w (fill W g a b o) := ((h.set 0 a).set 1 b).alloc o
theorem fill_cells {w W : World} {g : Nat} {x y : Value} (h : Box g [x, y] w W) (a b : Value) (o : Obj) :
    (((W.setCell ⟨g, 0, none⟩ a).setCell ⟨g, 1, none⟩ b).alloc o).cell? ⟨g, 0, none⟩ = some a ∧ (((W.setCell ⟨g, 0, none⟩ a).setCell ⟨g, 1, none⟩ b).alloc o).cell? ⟨g, 1, none⟩ = some b :=
  ⟨(fill_box h a b o).cells 0 a rfl, (fill_box h a b o).cells 1 b rfl⟩
theorem no_end {w W : World} {g : Nat} {x y : Value} (R : Box g [x, y] w W) :
    APost 0 [] [] false w (.returned (.tuple #[.agg #[.int .i64 0, .slice none 0 0], .slice (some ⟨W.heap.size, 0, none⟩) 0 0, .bool false])) (((W.setCell ⟨g, 0, none⟩ (.int .i64 0)).setCell ⟨g, 1, none⟩ (.slice none 0 0)).alloc (.cells #[] 3)) := by
  have T := two_none ((W.setCell ⟨g, 0, none⟩ (.int .i64 0)).setCell ⟨g, 1, none⟩ (.slice none 0 0))
  have e : ((W.setCell ⟨g, 0, none⟩ (.int .i64 0)).setCell ⟨g, 1, none⟩ (.slice none 0 0)).heap.size = W.heap.size := by rw [size_set', size_set']
  rw [e] at T
  exact ⟨none, 0, _, 0, rfl, T.base R.below.size, (fill_box R _ _ _).below⟩
def dryOk (l : List R) (wt : Int) (s : List Int) (t : Int) : Bool := liqB l wt s && inB t 0 wt
def aftW (l : List R) (wt : Int) (s : List Int) (t : Int) : Int := if dryOk l wt s t = true then fw l s (wt - t) l.length else 0
def aftS (l : List R) (wt : Int) (s : List Int) (t : Int) : List Int := if dryOk l wt s t = true then stayL l s (wt - t) l.length else []
def aftG (l : List R) (wt : Int) (s : List Int) (t : Int) : List Int := if dryOk l wt s t = true then goneL l s (wt - t) l.length else []
theorem dry0 {l : List R} {wt : Int} {s : List Int} : dryOk l wt s 0 = liqB l wt s := by
  unfold dryOk
  cases h : liqB l wt s
  · rfl
  · have V := vld h
    rw [inB_true ⟨Int.le_refl _, V.w0⟩]; rfl
theorem aft_no {l : List R} {wt : Int} {s : List Int} {t : Int} (h : dryOk l wt s t = false) : aftW l wt s t = 0 ∧ aftS l wt s t = [] ∧ aftG l wt s t = [] := by
  unfold aftW aftS aftG; rw [h]; exact ⟨rfl, rfl, rfl⟩
theorem aft_yes {l : List R} {wt : Int} {s : List Int} {t : Int} (h : dryOk l wt s t = true) : aftW l wt s t = fw l s (wt - t) l.length ∧ aftS l wt s t = stayL l s (wt - t) l.length ∧ aftG l wt s t = goneL l s (wt - t) l.length := by
  unfold aftW aftS aftG; rw [if_pos h, if_pos h, if_pos h]; exact ⟨rfl, rfl, rfl⟩
theorem dry_split {l : List R} {wt : Int} {s : List Int} {t : Int} (h : dryOk l wt s t = true) : Vld l wt s ∧ 0 ≤ t ∧ t ≤ wt := by
  unfold dryOk at h
  rw [Bool.and_eq_true] at h
  exact ⟨vld h.1, of_inB h.2⟩
set_option maxHeartbeats 800000 in
theorem out_spec (P : Option Addr) (cap : Nat) (l : List R) (wt : Int) (A : Option Addr) (c : Nat) (s : List Int) (w : World) (h : Ak w P l A s) :
    Calls Try.prog 17 #[.slice P l.length cap, .agg #[.int .i64 wt, .slice A s.length c]] w (APost (aftW l wt s 0) (aftS l wt s 0) (aftG l wt s 0) (dryOk l wt s 0) w) := by
  have HA := Lib.hid h
  clear h
  go_enter Try.func17, Try.ntmps17
  go_wp2_with fail
  have X := (Box.new (Below.refl _ w) [.int .i64 wt, .slice A s.length c] 27 (g := w.heap.size) rfl).alloc (.cells #[.int .i64 0, .slice none 0 0] 27)
  have R := Box.new (al (Below.refl _ w) (o := (.cells #[.int .i64 wt, .slice A s.length c] 27))) [.int .i64 0, .slice none 0 0] 27 (g := w.heap.size + 1) (by simp only [size_alloc'])
  generalize ((w.alloc (.cells #[.int .i64 wt, .slice A s.length c] 27)).alloc (.cells #[.int .i64 0, .slice none 0 0] 27)) = W1 at X R ⊢
  have X_0 := X.cells 0 _ rfl
  have X_1 := X.cells 1 _ rfl
  have X_f0 := X.free 0 (by simp)
  have X_f1 := X.free 1 (by simp)
  have X_t := X.there
  have R_0 := R.cells 0 _ rfl
  have R_1 := R.cells 1 _ rfl
  have R_f0 := R.free 0 (by simp)
  have R_f1 := R.free 1 (by simp)
  have R_t := R.there
  go_wp2_with fail
  refine (liq_spec P cap l wt A c s _ (HA.out.keep X.below)).mono ?_
  rintro e v2 ⟨rfl, hv2⟩
  clear X_0 X_1 X_f0 X_f1 X_t
  clear R_0 R_1 R_f0 R_f1 R_t
  replace X := X.more hv2
  replace R := R.more hv2
  have zhv2 := hv2.size
  clear hv2
  have X_0 := X.cells 0 _ rfl
  have X_1 := X.cells 1 _ rfl
  have X_f0 := X.free 0 (by simp)
  have X_f1 := X.free 1 (by simp)
  have X_t := X.there
  have R_0 := R.cells 0 _ rfl
  have R_1 := R.cells 1 _ rfl
  have R_f0 := R.free 0 (by simp)
  have R_f1 := R.free 1 (by simp)
  have R_t := R.there
  have X_0 := X.cells 0 _ rfl
  have X_1 := X.cells 1 _ rfl
  have X_f0 := X.free 0 (by simp)
  have X_f1 := X.free 1 (by simp)
  have X_t := X.there
  have R_0 := R.cells 0 _ rfl
  have R_1 := R.cells 1 _ rfl
  have R_f0 := R.free 0 (by simp)
  have R_f1 := R.free 1 (by simp)
  have R_t := R.there
  cases h0 : liqB l wt s
  · have HQ := Lib.hid (aft_no (dry0.trans h0))
    have HQ2 := Lib.hid (dry0.trans h0)
    clear h0
    have TC := fill_cells R (.int .i64 0) (.slice none 0 0) (.cells #[] 3)
    go_wp2
    exact bodyPost_ret (v := .tuple #[.agg #[.int .i64 0, .slice none 0 0], .slice (some ⟨v2.heap.size, 0, none⟩) 0 0, .bool false]) (by simp [results, Try.results17, go_sem, TC.1, TC.2]) rfl (by rw [HQ.out.1, HQ.out.2.1, HQ.out.2.2, HQ2.out]; exact no_end R)
  have V := vld h0
  have HQ := Lib.hid (aft_yes (dry0.trans h0))
  have HQ2 := Lib.hid (dry0.trans h0)
  clear h0
  have hXT := R.there
  go_wp2_with fail
  refine (fall_spec P cap l wt A c s _ (HA.out.keep X.below) (vlds V) V.w0 V.w1).mono ?_
  rintro e v3 ⟨A1, q1, A2, q2, rfl, T, hv3⟩
  clear X_0 X_1 X_f0 X_f1 X_t
  clear R_0 R_1 R_f0 R_f1 R_t
  replace X := X.more hv3
  replace R := R.more hv3
  have zhv3 := hv3.size
  clear hv3
  have X_0 := X.cells 0 _ rfl
  have X_1 := X.cells 1 _ rfl
  have X_f0 := X.free 0 (by simp)
  have X_f1 := X.free 1 (by simp)
  have X_t := X.there
  have R_0 := R.cells 0 _ rfl
  have R_1 := R.cells 1 _ rfl
  have R_f0 := R.free 0 (by simp)
  have R_f1 := R.free 1 (by simp)
  have R_t := R.there
  have T2 := two_add T hXT
  clear T hXT
  obtain ⟨L1, hL1⟩ : ∃ L, stayL l s wt l.length = L := ⟨_, rfl⟩
  obtain ⟨L2, hL2⟩ : ∃ L, goneL l s wt l.length = L := ⟨_, rfl⟩
  obtain ⟨wk, hwk⟩ : ∃ L, fw l s wt l.length = L := ⟨_, rfl⟩
  rw [hL1, hL2] at T2
  rw [hL1, hL2, hwk]
  have HE := Lib.hid (And.intro hL1 (And.intro hL2 hwk))
  clear hL1 hL2 hwk
  have TC := fill_cells R (.int .i64 wk) (.slice A1 L1.length q1) (.cells #[.int .i64 wk, .slice A1 L1.length q1] 27)
  have HB9 := Lib.hid (fill_box R (.int .i64 wk) (.slice A1 L1.length q1) (.cells #[.int .i64 wk, .slice A1 L1.length q1] 27)).below
  have HT9 := Lib.hid (((((T2.set (g := w.heap.size + 1) (by simp) 0 (.int .i64 wk)).set (g := w.heap.size + 1) (by simp) 1 (.slice A1 L1.length q1)).keep (al (Below.refl _ _) (o := .cells #[.int .i64 wk, .slice A1 L1.length q1] 27))).sub (gs' := []) (by simp)).base (show w.heap.size ≤ v2.heap.size by omega))
  have HZ := Lib.hid (Box.new R.below [.int .i64 wk, .slice A1 L1.length q1] 27 (g := v3.heap.size) rfl)
  have Z_0 := HZ.out.cells 0 _ rfl
  have Z_1 := HZ.out.cells 1 _ rfl
  go_wp2
  exact bodyPost_ret (v := .tuple #[.agg #[.int .i64 wk, .slice A1 L1.length q1], .slice A2 L2.length q2, .bool true]) (by simp [results, Try.results17, go_sem, TC.1, TC.2]) rfl (by rw [HQ.out.1, HQ.out.2.1, HQ.out.2.2, HQ2.out, Int.sub_zero, HE.out.1, HE.out.2.1, HE.out.2.2]; exact ⟨A1, q1, A2, q2, rfl, HT9.out, HB9.out⟩)
set_option maxHeartbeats 800000 in
theorem aft_spec (P : Option Addr) (cap : Nat) (l : List R) (wt : Int) (A : Option Addr) (c : Nat) (s : List Int) (t : Int) (w : World) (h : Ak w P l A s) :
    Calls Try.prog 27 #[.slice P l.length cap, .agg #[.int .i64 wt, .slice A s.length c], .int .i64 t] w (APost (aftW l wt s t) (aftS l wt s t) (aftG l wt s t) (dryOk l wt s t) w) := by
  have HA := Lib.hid h
  clear h
  go_enter Try.func27, Try.ntmps27
  go_wp2_with fail
  have X := (Box.new (Below.refl _ w) [.int .i64 wt, .slice A s.length c] 27 (g := w.heap.size) rfl).alloc (.cells #[.int .i64 0, .slice none 0 0] 27)
  have R := Box.new (al (Below.refl _ w) (o := (.cells #[.int .i64 wt, .slice A s.length c] 27))) [.int .i64 0, .slice none 0 0] 27 (g := w.heap.size + 1) (by simp only [size_alloc'])
  generalize ((w.alloc (.cells #[.int .i64 wt, .slice A s.length c] 27)).alloc (.cells #[.int .i64 0, .slice none 0 0] 27)) = W1 at X R ⊢
  have X_0 := X.cells 0 _ rfl
  have X_1 := X.cells 1 _ rfl
  have X_f0 := X.free 0 (by simp)
  have X_f1 := X.free 1 (by simp)
  have X_t := X.there
  have R_0 := R.cells 0 _ rfl
  have R_1 := R.cells 1 _ rfl
  have R_f0 := R.free 0 (by simp)
  have R_f1 := R.free 1 (by simp)
  have R_t := R.there
  go_wp2_with fail
  refine (liq_spec P cap l wt A c s _ (HA.out.keep X.below)).mono ?_
  rintro e v2 ⟨rfl, hv2⟩
  clear X_0 X_1 X_f0 X_f1 X_t
  clear R_0 R_1 R_f0 R_f1 R_t
  replace X := X.more hv2
  replace R := R.more hv2
  have zhv2 := hv2.size
  clear hv2
  have X_0 := X.cells 0 _ rfl
  have X_1 := X.cells 1 _ rfl
  have X_f0 := X.free 0 (by simp)
  have X_f1 := X.free 1 (by simp)
  have X_t := X.there
  have R_0 := R.cells 0 _ rfl
  have R_1 := R.cells 1 _ rfl
  have R_f0 := R.free 0 (by simp)
  have R_f1 := R.free 1 (by simp)
  have R_t := R.there
  have X_0 := X.cells 0 _ rfl
  have X_1 := X.cells 1 _ rfl
  have X_f0 := X.free 0 (by simp)
  have X_f1 := X.free 1 (by simp)
  have X_t := X.there
  have R_0 := R.cells 0 _ rfl
  have R_1 := R.cells 1 _ rfl
  have R_f0 := R.free 0 (by simp)
  have R_f1 := R.free 1 (by simp)
  have R_t := R.there
  cases h1 : liqB l wt s
  · have HQ2 := Lib.hid (show dryOk l wt s t = false by unfold dryOk; rw [h1]; rfl)
    have HQ := Lib.hid (aft_no HQ2.out)
    have TC := fill_cells R (.int .i64 0) (.slice none 0 0) (.cells #[] 3)
    go_wp2
    exact bodyPost_ret (v := .tuple #[.agg #[.int .i64 0, .slice none 0 0], .slice (some ⟨v2.heap.size, 0, none⟩) 0 0, .bool false]) (by simp [results, Try.results27, go_sem, TC.1, TC.2]) rfl (by rw [HQ.out.1, HQ.out.2.1, HQ.out.2.2, HQ2.out]; exact no_end R)
  cases h2 : inB t 0 wt
  · have HQ2 := Lib.hid (show dryOk l wt s t = false by unfold dryOk; rw [h2]; simp)
    have HQ := Lib.hid (aft_no HQ2.out)
    have TC := fill_cells R (.int .i64 0) (.slice none 0 0) (.cells #[] 3)
    go_wp2_with (go_at_call 66; (with_reducible refine (in_any _ _ _ _).mono ?_); rintro e _ ⟨rfl, rfl⟩)
    exact bodyPost_ret (v := .tuple #[.agg #[.int .i64 0, .slice none 0 0], .slice (some ⟨v2.heap.size, 0, none⟩) 0 0, .bool false]) (by simp [results, Try.results27, go_sem, TC.1, TC.2]) rfl (by rw [HQ.out.1, HQ.out.2.1, HQ.out.2.2, HQ2.out]; exact no_end R)
  have hd0 : dryOk l wt s t = true := by unfold dryOk; rw [h1, h2]; rfl
  have htb := of_inB h2
  have V := vld h1
  have HQ := Lib.hid (aft_yes hd0)
  have HQ2 := Lib.hid hd0
  have VW := Lib.hid V.w1
  have hv0 := V.w0
  have hv1 := V.w1
  have e1 : IntKind.i64.wrap (wt - t) = wt - t := IntWalk.i64_in _ (by omega)
  have hXT := R.there
  go_upto_region 3 with (go_at_call 66; (with_reducible refine (in_any _ _ _ _).mono ?_); rintro e _ ⟨rfl, rfl⟩)
  go_wp2_with fail
  refine (fall_spec P cap l (wt - t) A c s _ (HA.out.keep X.below) (vlds V) (by omega) (by omega)).mono ?_
  rintro e v3 ⟨A1, q1, A2, q2, rfl, T, hv3⟩
  clear X_0 X_1 X_f0 X_f1 X_t
  clear R_0 R_1 R_f0 R_f1 R_t
  replace X := X.more hv3
  replace R := R.more hv3
  have zhv3 := hv3.size
  clear hv3
  have X_0 := X.cells 0 _ rfl
  have X_1 := X.cells 1 _ rfl
  have X_f0 := X.free 0 (by simp)
  have X_f1 := X.free 1 (by simp)
  have X_t := X.there
  have R_0 := R.cells 0 _ rfl
  have R_1 := R.cells 1 _ rfl
  have R_f0 := R.free 0 (by simp)
  have R_f1 := R.free 1 (by simp)
  have R_t := R.there
  have T2 := two_add T hXT
  clear T hXT
  obtain ⟨L1, hL1⟩ : ∃ L, stayL l s (wt - t) l.length = L := ⟨_, rfl⟩
  obtain ⟨L2, hL2⟩ : ∃ L, goneL l s (wt - t) l.length = L := ⟨_, rfl⟩
  obtain ⟨wk, hwk⟩ : ∃ L, fw l s (wt - t) l.length = L := ⟨_, rfl⟩
  rw [hL1, hL2] at T2
  rw [hL1, hL2, hwk]
  have HE := Lib.hid (And.intro hL1 (And.intro hL2 hwk))
  clear hL1 hL2 hwk
  have TC := fill_cells R (.int .i64 wk) (.slice A1 L1.length q1) (.cells #[.int .i64 wk, .slice A1 L1.length q1] 27)
  have HB9 := Lib.hid (fill_box R (.int .i64 wk) (.slice A1 L1.length q1) (.cells #[.int .i64 wk, .slice A1 L1.length q1] 27)).below
  have HT9 := Lib.hid (((((T2.set (g := w.heap.size + 1) (by simp) 0 (.int .i64 wk)).set (g := w.heap.size + 1) (by simp) 1 (.slice A1 L1.length q1)).keep (al (Below.refl _ _) (o := .cells #[.int .i64 wk, .slice A1 L1.length q1] 27))).sub (gs' := []) (by simp)).base (show w.heap.size ≤ v2.heap.size by omega))
  have HZ := Lib.hid (Box.new R.below [.int .i64 wk, .slice A1 L1.length q1] 27 (g := v3.heap.size) rfl)
  have Z_0 := HZ.out.cells 0 _ rfl
  have Z_1 := HZ.out.cells 1 _ rfl
  go_wp2
  exact bodyPost_ret (v := .tuple #[.agg #[.int .i64 wk, .slice A1 L1.length q1], .slice A2 L2.length q2, .bool true]) (by simp [results, Try.results27, go_sem, TC.1, TC.2]) rfl (by rw [HQ.out.1, HQ.out.2.1, HQ.out.2.2, HQ2.out, HE.out.1, HE.out.2.1, HE.out.2.2]; exact ⟨A1, q1, A2, q2, rfl, HT9.out, HB9.out⟩)
end Go.Proofs.Ythilbpklmjpmcaa.FallU
