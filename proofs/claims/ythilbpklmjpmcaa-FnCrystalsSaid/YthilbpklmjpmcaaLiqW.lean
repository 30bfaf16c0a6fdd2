/- The laws' helpers over Liquor: a struct of an int and a slice of ints; toIntS, szIntS. Made by tools/mk_liqw.py. -/
import Derived.Test.YthilbpklmjpmcaaNest
import Derived.Test.YthilbpklmjpmcaaRegn2
import Derived.Deep.QuietTactic
import Derived.BigQuiet
import Derived.WalkLawsBesides
import Derived.WalkSpells
import Derived.StillTailTactics
import Derived.Laws.MakeOwn
import Derived.Deep.CutBlock
import Derived.Deep.CutRange
import Derived.Deep.DeepCutAuto
namespace Go.Proofs.Ythilbpklmjpmcaa.LiqW
open Go.RowKit Go.Proofs.Ythilbpklmjpmcaa.Mem Go.Proofs.Ythilbpklmjpmcaa.Base Go.Proofs.Ythilbpklmjpmcaa.SInt Go.Proofs.Ythilbpklmjpmcaa.Boxes Go.Proofs.Ythilbpklmjpmcaa.Keep Go.Proofs.Ythilbpklmjpmcaa.Regn Go.Proofs.Ythilbpklmjpmcaa.Nest
set_option linter.unusedVariables false
set_option maxRecDepth 100000
structure R where
  f0 : Int
  f1 : Row
theorem info_int : (Try.prog.info? 3).map (fun i => (i.zero, i.size, i.bytes)) = some (some (.int .i64 0), 1, 8) := by kernel_rfl
theorem iv_half (l : List Int) : iv (half 0 l 0) = List.replicate l.length (.int .i64 0) := by rw [half_zero]; simp [iv]
/-- a row of these numbers in memory of its own. -/
def TiPost (l : List Int) (w : World) (e : Ending) (w' : World) : Prop :=
  e = .returned (.slice (some ⟨w.heap.size, 0, none⟩) l.length l.length) ∧ RowOwn w' w.heap.size ⟨some ⟨w.heap.size, 0, none⟩, l.length, l⟩ ∧ Below w.heap.size w w'
set_option maxHeartbeats 400000 in
theorem toI_any (A : Option Addr) (cap : Nat) (l : List Int) (w : World) (hr : Rd w w.heap.size A (iv l)) (hn : l.length ≤ 1048576) :
    Calls Try.prog 80 #[.slice A l.length cap] w (TiPost l w) := by
  obtain ⟨i0, hi, hz0, hz1, hz2⟩ := info_parts info_int
  have HR := Lib.hid hr; clear hr
  have HI := Lib.hid hz2; clear hz2
  have HI1 := Lib.hid hz1; clear hz1
  have c1 : i0.bytes * l.length ≤ 281474976710656 := by rw [HI.out]; omega
  have c2 : l.length ≤ maxLen := by unfold maxLen; omega
  go_enter Try.func80, Try.ntmps80
  go_wp2_with (at_make; go_must (refine wpList_make_full _ rfl _ _ 25 rfl w.heap.size 3 i0 _ 1 Try.underlying25 hi hz0 HI1.out _ _ _ _ l.length rfl rfl rfl rfl c1 c2 (Nat.le_refl _) ?_; intro w1 hown1 hg1))
  have hB1 : Below w.heap.size w w1 := (Below.refl _ w).grown hg1 (Nat.le_refl _) (by intro k hk; cases hk)
  have hown : w1.ownsRow w.heap.size 3 1 (.slice (some ⟨w.heap.size, 0, none⟩) l.length l.length) l.length (iv (half 0 l 0)) := by
    rw [iv_half]
    have e : (madeCells #[Value.int .i64 0] (l.length * 1)).toList = List.replicate l.length (Value.int .i64 0) := by rw [Nat.mul_one]; exact toList_madeCells_one _ _
    rw [← e]; exact hown1
  clear hown1 hg1 c1 c2
  go_loopw [4] (fun i wr => ∃ k : Nat, k ≤ l.length ∧ i = .int .i64 k ∧ wr.ownsRow w.heap.size 3 1 (.slice (some ⟨w.heap.size, 0, none⟩) l.length l.length) l.length (iv (half 0 l k)) ∧ Below w.heap.size w wr) (fun i _ => l.length - (intOf i).toNat)
  case atStart => exact ⟨0, Nat.zero_le _, rfl, hown, hB1⟩
  case round =>
    clear hown hB1
    obtain ⟨k, hk, rfl, hown, hB⟩ := hrel
    have HO := Lib.hid hown; clear hown
    have HB := Lib.hid hB; clear hB
    by_cases hlt : k < l.length
    · obtain ⟨b, o, rfl, hb, hc⟩ := HR.out.at (k := k) (by rw [iv_len]; omega)
      obtain ⟨x, hx⟩ : ∃ x, l[k] = x := ⟨_, rfl⟩
      have h0 : wr.cell? ⟨b, o + k, none⟩ = some (.int .i64 x) := by rw [← hx]; exact ((bcell HB.out).1 _ _ hb).trans (hc _ _ (iv_get l k hlt))
      clear hc
      have hfl : (iv (half 0 l k)).length = l.length := by rw [iv_len, half_len 0 l k hk]
      obtain ⟨q0, m0⟩ : ∃ v, wr.cell? ⟨w.heap.size, k, none⟩ = some v := ⟨_, (HO.out.cellAt k (by omega)).trans (List.getElem?_eq_getElem (by rw [hfl]; omega))⟩
      have g0 : wr.frozen? ⟨w.heap.size, k, none⟩ = false := HO.out.frozenAt _
      have HX := Lib.hid hx; clear hx hfl
      go_wp2
      go_roundw
      case rel =>
        refine ⟨k + 1, by omega, by go_num, ?_, HB.out.setCell (Nat.le_refl _) _⟩
        have := (HO.out.stored k (.int .i64 x)).1
        have e : (iv (half 0 l k)).set k (.int .i64 x) = iv (half 0 l (k + 1)) := by unfold iv; rw [← List.map_set, ← HX.out, half_set 0 l k hlt]
        rw [e] at this
        exact this
      case measure => simp [intOf]; omega
    · have hkk : k = l.length := by omega
      go_wp2
      go_ret
      refine ⟨rfl, ?_, HB.out⟩
      have := HO.out
      rwa [hkk, half_full] at this
def szV (left : Int) (n : Nat) : Int := if left < n then -1 else left - n
theorem szI_any (A : Option Addr) (cap n : Nat) (left : Int) (w : World) (h0 : 0 ≤ left) (h1 : left ≤ 1048576) (hn : n ≤ maxLen) :
    Calls Try.prog 79 #[.slice A n cap, .int .i64 left] w fun e w' => e = .returned (.int .i64 (szV left n)) ∧ w = w' := by
  unfold maxLen at hn
  by_cases hs : left < n
  · have H := Lib.hid (show szV left n = -1 by unfold szV; rw [if_pos hs])
    go_enter Try.func79, Try.ntmps79
    go_wp2
    go_ret
    exact ⟨by rw [H.out]; simp, rfl⟩
  · have H := Lib.hid (show szV left n = left - n by unfold szV; rw [if_neg hs])
    go_enter Try.func79, Try.ntmps79
    go_wp2
    go_ret
    exact ⟨by rw [H.out]; simp, rfl⟩

def RPost (v : Value) (w : World) (e : Ending) (w' : World) : Prop := e = .returned v ∧ Below w.heap.size w w'
theorem rpost {v u : Value} {w w' : World} (h : u = v) (hw : Below w.heap.size w w') : RPost v w (.returned u) w' := ⟨by rw [h], hw⟩
theorem szV_range {left : Int} {n : Nat} (h0 : 0 ≤ left) (h1 : left ≤ 1048576) : szV left n = -1 ∧ left < n ∨ 0 ≤ szV left n ∧ szV left n ≤ 1048576 ∧ (n : Int) ≤ left := by
  unfold szV; split
  · left; omega
  · right; omega
theorem szL_any (x : R) (left : Int) (w : World) (h0 : 0 ≤ left) (h1 : left ≤ 1048576) (hn : x.f1.ls.length ≤ maxLen) :
    Calls Try.prog 45 #[.agg #[.int .i64 x.f0, .slice x.f1.A x.f1.ls.length x.f1.cap], .int .i64 left] w (RPost (.int .i64 (szV left x.f1.ls.length)) w) := by
  have HV := Lib.hid (szV_range (n := x.f1.ls.length) h0 h1)
  go_enter Try.func45, Try.ntmps45
  go_wp2_with fail
  refine (szI_any x.f1.A x.f1.cap x.f1.ls.length left _ h0 h1 hn).mono ?_
  rintro e _ ⟨rfl, rfl⟩
  obtain ⟨v, hv⟩ : ∃ v, szV left x.f1.ls.length = v := ⟨_, rfl⟩
  rw [hv] at HV ⊢
  have HE := Lib.hid hv; clear hv
  rcases HV.out with ⟨h2, _⟩ | ⟨h2, h3, _⟩
  · subst h2
    go_wp2
    go_ret
    exact rpost (by rw [HE.out]; rfl) (al (Below.refl _ _))
  · go_wp2
    go_ret
    exact rpost (by rw [HE.out]; rfl) (al (Below.refl _ _))
theorem two_set {g : Nat} {x y : Value} {w W : World} (h : Box g [x, y] w W) (a b : Value) :
    (W.setCell ⟨g, 0, none⟩ a).cell? ⟨g, 0, none⟩ = some a ∧ ((W.setCell ⟨g, 0, none⟩ a).setCell ⟨g, 1, none⟩ b).cell? ⟨g, 0, none⟩ = some a ∧ ((W.setCell ⟨g, 0, none⟩ a).setCell ⟨g, 1, none⟩ b).cell? ⟨g, 1, none⟩ = some b :=
  ⟨(h.set 0 a).cells 0 a rfl, ((h.set 0 a).set 1 b).cells 0 a rfl, ((h.set 0 a).set 1 b).cells 1 b rfl⟩
/-- the liquor anew, its salts in new memory: where it lies is told. -/
def ToAt (x : R) (w : World) (e : Ending) (w' : World) : Prop :=
  e = .returned (.agg #[.int .i64 x.f0, .slice (some ⟨w.heap.size + 3, 0, none⟩) x.f1.ls.length x.f1.ls.length]) ∧ RowOwn w' w.heap.size ⟨some ⟨w.heap.size + 3, 0, none⟩, x.f1.ls.length, x.f1.ls⟩ ∧ Below w.heap.size w w'
set_option maxHeartbeats 400000 in
theorem to_at (x : R) (w : World) (hr : Rd w w.heap.size x.f1.A (iv x.f1.ls)) (hn : x.f1.ls.length ≤ 1048576) :
    Calls Try.prog 46 #[.agg #[.int .i64 x.f0, .slice x.f1.A x.f1.ls.length x.f1.cap]] w (ToAt x w) := by
  have hsz : (((w.alloc (.cells #[.int .i64 x.f0, .slice x.f1.A x.f1.ls.length x.f1.cap] 54)).alloc (.cells #[.int .i64 0, .slice none 0 0] 27)).alloc (.cells #[.int .i64 x.f0, .slice none 0 0] 27)).heap.size = w.heap.size + 3 := by simp only [size_alloc']
  replace hsz := Lib.hid hsz
  go_enter Try.func46, Try.ntmps46
  go_wp2_with fail
  have X := ((Box.new (Below.refl _ w) [.int .i64 x.f0, .slice x.f1.A x.f1.ls.length x.f1.cap] 54 (g := w.heap.size) rfl).alloc (.cells #[.int .i64 0, .slice none 0 0] 27)).alloc (.cells #[.int .i64 x.f0, .slice none 0 0] 27)
  have Q := (Box.new (al (Below.refl _ w) (o := (.cells #[.int .i64 x.f0, .slice x.f1.A x.f1.ls.length x.f1.cap] 54))) [.int .i64 0, .slice none 0 0] 27 (g := w.heap.size + 1) (by simp only [size_alloc'])).alloc (.cells #[.int .i64 x.f0, .slice none 0 0] 27)
  have O := Box.new (al (al (Below.refl _ w) (o := (.cells #[.int .i64 x.f0, .slice x.f1.A x.f1.ls.length x.f1.cap] 54))) (o := (.cells #[.int .i64 0, .slice none 0 0] 27))) [.int .i64 x.f0, .slice none 0 0] 27 (g := w.heap.size + 1 + 1) (by simp only [size_alloc'])
  generalize (((w.alloc (.cells #[.int .i64 x.f0, .slice x.f1.A x.f1.ls.length x.f1.cap] 54)).alloc (.cells #[.int .i64 0, .slice none 0 0] 27)).alloc (.cells #[.int .i64 x.f0, .slice none 0 0] 27)) = W1 at X Q O hsz ⊢
  have X_0 := X.cells 0 _ rfl
  have X_1 := X.cells 1 _ rfl
  have X_f0 := X.free 0 (by simp)
  have X_f1 := X.free 1 (by simp)
  have X_t := X.there
  have Q_0 := Q.cells 0 _ rfl
  have Q_1 := Q.cells 1 _ rfl
  have Q_f0 := Q.free 0 (by simp)
  have Q_f1 := Q.free 1 (by simp)
  have Q_t := Q.there
  have O_0 := O.cells 0 _ rfl
  have O_1 := O.cells 1 _ rfl
  have O_f0 := O.free 0 (by simp)
  have O_f1 := O.free 1 (by simp)
  have O_t := O.there
  have X_0 := X.cells 0 _ rfl
  have X_1 := X.cells 1 _ rfl
  have X_f0 := X.free 0 (by simp)
  have X_f1 := X.free 1 (by simp)
  have X_t := X.there
  have Q_0 := Q.cells 0 _ rfl
  have Q_1 := Q.cells 1 _ rfl
  have Q_f0 := Q.free 0 (by simp)
  have Q_f1 := Q.free 1 (by simp)
  have Q_t := Q.there
  have O_0 := O.cells 0 _ rfl
  have O_1 := O.cells 1 _ rfl
  have O_f0 := O.free 0 (by simp)
  have O_f1 := O.free 1 (by simp)
  have O_t := O.there
  go_wp2_with fail
  refine (toI_any x.f1.A x.f1.cap x.f1.ls _ ((hr.below X.below (Nat.le_refl _)).mono X.below.size) hn).mono ?_
  rintro e v2 ⟨rfl, ho, hv2⟩
  clear X_0 X_1 X_f0 X_f1 X_t
  clear Q_0 Q_1 Q_f0 Q_f1 Q_t
  clear O_0 O_1 O_f0 O_f1 O_t
  replace X := X.more hv2
  replace Q := Q.more hv2
  replace O := O.more hv2
  have zhv2 := hv2.size
  clear hv2
  have X_0 := X.cells 0 _ rfl
  have X_1 := X.cells 1 _ rfl
  have X_f0 := X.free 0 (by simp)
  have X_f1 := X.free 1 (by simp)
  have X_t := X.there
  have Q_0 := Q.cells 0 _ rfl
  have Q_1 := Q.cells 1 _ rfl
  have Q_f0 := Q.free 0 (by simp)
  have Q_f1 := Q.free 1 (by simp)
  have Q_t := Q.there
  have O_0 := O.cells 0 _ rfl
  have O_1 := O.cells 1 _ rfl
  have O_f0 := O.free 0 (by simp)
  have O_f1 := O.free 1 (by simp)
  have O_t := O.there
  have HB := O.below
  have hrow : ∀ k, (⟨some ⟨W1.heap.size, 0, none⟩, x.f1.ls.length, x.f1.ls⟩ : Row).blk = some k → w.heap.size + 3 ≤ k := by
    intro k hk
    have e : W1.heap.size = k := by simpa [Row.blk, Row.val, Value.ownBlock] using hk
    omega
  have RO := ho.base (show w.heap.size ≤ W1.heap.size by omega)
  have T := two_set (Q.far O.base (by omega) 1 (.slice (some ⟨W1.heap.size, 0, none⟩) x.f1.ls.length x.f1.ls.length)) (.int .i64 x.f0) (.slice (some ⟨W1.heap.size, 0, none⟩) x.f1.ls.length x.f1.ls.length)
  go_wp2
  refine bodyPost_ret (v := .agg #[.int .i64 x.f0, .slice (some ⟨W1.heap.size, 0, none⟩) x.f1.ls.length x.f1.ls.length]) (by simp [results, Try.results46, go_sem, T.1, T.2.1, T.2.2]) rfl ⟨by rw [hsz.out], ?_, ((HB.setCell O.base _).setCell Q.base _).setCell Q.base _⟩
  rw [← hsz.out]
  exact RO.congr fun k hk => by
    have := hrow k hk
    rw [Below.heap_setCell _ ⟨_, _, none⟩ _ k (by simp; omega), Below.heap_setCell _ ⟨_, _, none⟩ _ k (by simp; omega), Below.heap_setCell _ ⟨_, _, none⟩ _ k (by simp; omega)]
def same (x y : R) : Bool := decide (x.f0 = y.f0 ∧ x.f1.ls = y.f1.ls)
theorem same_yes {x y : R} (h0 : x.f0 = y.f0) (h1 : x.f1.ls = y.f1.ls) : same x y = true := decide_eq_true ⟨h0, h1⟩
theorem same_no {x y : R} (h : ¬ (x.f0 = y.f0 ∧ x.f1.ls = y.f1.ls)) : same x y = false := decide_eq_false h
set_option maxHeartbeats 400000 in
theorem eq_any (x y : R) (w : World) (hx : Rd w w.heap.size x.f1.A (iv x.f1.ls)) (hy : Rd w w.heap.size y.f1.A (iv y.f1.ls)) (hn : x.f1.ls.length ≤ maxLen) (hm : y.f1.ls.length ≤ maxLen) :
    Calls Try.prog 47 #[.agg #[.int .i64 x.f0, .slice x.f1.A x.f1.ls.length x.f1.cap], .agg #[.int .i64 y.f0, .slice y.f1.A y.f1.ls.length y.f1.cap]] w (RPost (.bool (same x y)) w) := by
  have HX := Lib.hid hx; clear hx
  have HY := Lib.hid hy; clear hy
  cases h0 : (x.f0 != y.f0)
  · have k0 := Lib.hid (show x.f0 = y.f0 by simpa using h0)
    cases h2 : decide (x.f1.ls = y.f1.ls)
    · have HD := Lib.hid (same_no (x := x) (y := y) (fun h => of_decide_eq_false h2 h.2))
      clear k0
      go_enter Try.func47, Try.ntmps47
      go_upto_region 5 with fail
      have X := (Box.new (Below.refl _ w) [.int .i64 x.f0, .slice x.f1.A x.f1.ls.length x.f1.cap] 27 (g := w.heap.size) rfl).alloc (.cells #[.int .i64 y.f0, .slice y.f1.A y.f1.ls.length y.f1.cap] 27)
      have Y := Box.new (al (Below.refl _ w) (o := (.cells #[.int .i64 x.f0, .slice x.f1.A x.f1.ls.length x.f1.cap] 27))) [.int .i64 y.f0, .slice y.f1.A y.f1.ls.length y.f1.cap] 27 (g := w.heap.size + 1) (by simp only [size_alloc'])
      generalize ((w.alloc (.cells #[.int .i64 x.f0, .slice x.f1.A x.f1.ls.length x.f1.cap] 27)).alloc (.cells #[.int .i64 y.f0, .slice y.f1.A y.f1.ls.length y.f1.cap] 27)) = W1 at X Y ⊢
      have X_0 := X.cells 0 _ rfl
      have X_1 := X.cells 1 _ rfl
      have X_f0 := X.free 0 (by simp)
      have X_f1 := X.free 1 (by simp)
      have X_t := X.there
      have Y_0 := Y.cells 0 _ rfl
      have Y_1 := Y.cells 1 _ rfl
      have Y_f0 := Y.free 0 (by simp)
      have Y_f1 := Y.free 1 (by simp)
      have Y_t := Y.there
      have X_0 := X.cells 0 _ rfl
      have X_1 := X.cells 1 _ rfl
      have X_f0 := X.free 0 (by simp)
      have X_f1 := X.free 1 (by simp)
      have X_t := X.there
      have Y_0 := Y.cells 0 _ rfl
      have Y_1 := Y.cells 1 _ rfl
      have Y_f0 := Y.free 0 (by simp)
      have Y_f1 := Y.free 1 (by simp)
      have Y_t := Y.there
      go_wp2_with fail
      refine (eqS_any x.f1.A y.f1.A x.f1.cap y.f1.cap x.f1.ls y.f1.ls _ (rd_keep HX.out X.below) (rd_keep HY.out X.below) hn hm).mono ?_
      rintro e v2 ⟨rfl, hv2⟩
      clear X_0 X_1 X_f0 X_f1 X_t
      clear Y_0 Y_1 Y_f0 Y_f1 Y_t
      replace X := X.more hv2
      replace Y := Y.more hv2
      have zhv2 := hv2.size
      clear hv2
      have X_0 := X.cells 0 _ rfl
      have X_1 := X.cells 1 _ rfl
      have X_f0 := X.free 0 (by simp)
      have X_f1 := X.free 1 (by simp)
      have X_t := X.there
      have Y_0 := Y.cells 0 _ rfl
      have Y_1 := Y.cells 1 _ rfl
      have Y_f0 := Y.free 0 (by simp)
      have Y_f1 := Y.free 1 (by simp)
      have Y_t := Y.there
      rw [h2]
      go_wp2
      go_ret
      exact rpost (by rw [HD.out]; rfl) X.below
    · have HD := Lib.hid (same_yes (x := x) (y := y) k0.out (of_decide_eq_true h2))
      go_enter Try.func47, Try.ntmps47
      go_upto_region 5 with fail
      have X := (Box.new (Below.refl _ w) [.int .i64 x.f0, .slice x.f1.A x.f1.ls.length x.f1.cap] 27 (g := w.heap.size) rfl).alloc (.cells #[.int .i64 y.f0, .slice y.f1.A y.f1.ls.length y.f1.cap] 27)
      have Y := Box.new (al (Below.refl _ w) (o := (.cells #[.int .i64 x.f0, .slice x.f1.A x.f1.ls.length x.f1.cap] 27))) [.int .i64 y.f0, .slice y.f1.A y.f1.ls.length y.f1.cap] 27 (g := w.heap.size + 1) (by simp only [size_alloc'])
      generalize ((w.alloc (.cells #[.int .i64 x.f0, .slice x.f1.A x.f1.ls.length x.f1.cap] 27)).alloc (.cells #[.int .i64 y.f0, .slice y.f1.A y.f1.ls.length y.f1.cap] 27)) = W1 at X Y ⊢
      have X_0 := X.cells 0 _ rfl
      have X_1 := X.cells 1 _ rfl
      have X_f0 := X.free 0 (by simp)
      have X_f1 := X.free 1 (by simp)
      have X_t := X.there
      have Y_0 := Y.cells 0 _ rfl
      have Y_1 := Y.cells 1 _ rfl
      have Y_f0 := Y.free 0 (by simp)
      have Y_f1 := Y.free 1 (by simp)
      have Y_t := Y.there
      have X_0 := X.cells 0 _ rfl
      have X_1 := X.cells 1 _ rfl
      have X_f0 := X.free 0 (by simp)
      have X_f1 := X.free 1 (by simp)
      have X_t := X.there
      have Y_0 := Y.cells 0 _ rfl
      have Y_1 := Y.cells 1 _ rfl
      have Y_f0 := Y.free 0 (by simp)
      have Y_f1 := Y.free 1 (by simp)
      have Y_t := Y.there
      go_wp2_with fail
      refine (eqS_any x.f1.A y.f1.A x.f1.cap y.f1.cap x.f1.ls y.f1.ls _ (rd_keep HX.out X.below) (rd_keep HY.out X.below) hn hm).mono ?_
      rintro e v2 ⟨rfl, hv2⟩
      clear X_0 X_1 X_f0 X_f1 X_t
      clear Y_0 Y_1 Y_f0 Y_f1 Y_t
      replace X := X.more hv2
      replace Y := Y.more hv2
      have zhv2 := hv2.size
      clear hv2
      have X_0 := X.cells 0 _ rfl
      have X_1 := X.cells 1 _ rfl
      have X_f0 := X.free 0 (by simp)
      have X_f1 := X.free 1 (by simp)
      have X_t := X.there
      have Y_0 := Y.cells 0 _ rfl
      have Y_1 := Y.cells 1 _ rfl
      have Y_f0 := Y.free 0 (by simp)
      have Y_f1 := Y.free 1 (by simp)
      have Y_t := Y.there
      rw [h2]
      go_wp2
      go_ret
      exact rpost (by rw [HD.out]; rfl) X.below
  · have HD := Lib.hid (same_no (x := x) (y := y) (fun h => by simp [h.1] at h0))
    go_enter Try.func47, Try.ntmps47
    go_wp2
    go_ret
    exact rpost (by rw [HD.out]; rfl) (al (al (Below.refl _ _)))
end Go.Proofs.Ythilbpklmjpmcaa.LiqW
